/-
  OctetsTells: whether any rows are the same, turned, and any numbers' bytes.
-/
import Derived.Test.YtgmolahjmciegaaRefA
import Derived.Test.YtgmolahjmciegaaSeq
namespace Go.Proofs.Ytgmolahjmciegaa
open Go.ChangeShapes Go.WideShapes Go.ChangeAt Go.RowKit Go.Deep

theorem xor_any {A A' : Option Addr} {n c n' c' : Nat} {xs ys : List UInt8} {w : World} (h : Bs w A n c xs) (h' : Bs w A' n' c' ys) (hm : n ≤ 1000) :
    Calls Try.prog 10 #[.slice A n c, .slice A' n' c'] w (RetBsE (if n = n' then xorL xs ys else []) (if n = n' then 0 else 1) w) := by
  by_cases hn : n = n'
  · subst hn
    simp only [if_true]
    exact xor_calls h h' (by omega)
  · simp only [if_neg hn]
    exact (xor_other hn h.cap h'.cap h.le h'.le).mono fun e w' ⟨he, hw⟩ => by subst hw; exact ⟨_, _, _, he, Bs.nil _, Ext.refl _⟩

set_option maxHeartbeats 400000 in
theorem refXor_other {A A' : Option Addr} {n c n' c' : Nat} {w : World} (hn : n ≠ n') (hc : c ≤ 9223372036854775807) (hc' : c' ≤ 9223372036854775807) (h : n ≤ c) (h' : n' ≤ c') :
    Calls Try.prog 11 #[.slice A n c, .slice A' n' c'] w fun e w' => e = .returned (.tuple #[.slice none 0 0, .int .i64 1]) ∧ w' = w := by
  have hb : ((n : Int) != (n' : Int)) = true := by rw [bne_iff_ne]; omega
  go_enter Try.func11, Try.ntmps11
  go_wp2
  go_ret2
  exact ⟨rfl, rfl⟩

theorem refXor_any {A A' : Option Addr} {n c n' c' : Nat} {xs ys : List UInt8} {w : World} (h : Bs w A n c xs) (h' : Bs w A' n' c' ys) (hm : n ≤ 1000) :
    Calls Try.prog 11 #[.slice A n c, .slice A' n' c'] w (RetBsE (if n = n' then xorL xs ys else []) (if n = n' then 0 else 1) w) := by
  by_cases hn : n = n'
  · subst hn
    simp only [if_true]
    exact refXor_calls h h' (by omega)
  · simp only [if_neg hn]
    exact (refXor_other hn h.cap h'.cap h.le h'.le).mono fun e w' ⟨he, hw⟩ => by subst hw; exact ⟨_, _, _, he, Bs.nil _, Ext.refl _⟩

set_option maxHeartbeats 4000000 in
theorem tells_main {A A' : Option Addr} {n c n' c' : Nat} {xs ys : List UInt8} {z : Nat} {w : World} (h : Bs w A n c xs) (h' : Bs w A' n' c' ys) (hz : z < 18446744073709551616) (q1 : n ≤ 1000) (q2 : n' ≤ 1000) :
    Calls Try.prog 3 #[.slice A n c, .slice A' n' c', .int .u64 (z : Int)] w fun e w' => e = .returned (.bool true) ∧ Ext w w' := by
  have h1 := h.le
  have h2 := h.cap
  have h3 := h'.le
  have h4 := h'.cap
  have q1' : decide ((1000 : Int) < (n : Int)) = false := by simp; omega
  have q2' : decide ((1000 : Int) < (n' : Int)) = false := by simp; omega
  obtain ⟨zs, hzs⟩ : ∃ zs, Hid ((if n = n' then xorL xs ys else []) = zs) := ⟨_, rfl⟩
  obtain ⟨er, her⟩ : ∃ er, Hid ((if n = n' then (0 : Int) else 1) = er) := ⟨_, rfl⟩
  go_enter Try.func3, Try.ntmps3
  go_wp2_with fail
  refine (awake_calls _).mono ?_
  rintro e w1 ⟨rfl, e1⟩
  go_wp2_with fail
  have x2 := xor_any (h.ext e1) (h'.ext e1) q1
  rw [hzs.out, her.out] at x2
  refine x2.mono ?_
  rintro e w2 ⟨A2, n2, c2, rfl, b2, e2⟩
  clear x2
  go_wp2_with fail
  have x3 := refXor_any (h.ext (e1.trans e2)) (h'.ext (e1.trans e2)) q1
  rw [hzs.out, her.out] at x3
  refine x3.mono ?_
  rintro e w3 ⟨A3, n3, c3, rfl, b3, e3⟩
  clear x3
  go_wp2_with fail
  have keep : ∀ w', Ext w3 w' → Sem.run Try.prog (convert 22 9 (.slice A2 n2 c2)) w' = .ok (.string (strL zs)) w' ∧ Sem.run Try.prog (convert 22 9 (.slice A3 n3 c3)) w' = .ok (.string (strL zs)) w' :=
    fun w' hE => ⟨conv_bs (b2.ext (e3.trans hE)), conv_bs (b3.ext hE)⟩
  have hr : ∃ r, decide (xs = ys) = r := ⟨_, rfl⟩
  obtain ⟨r, hr⟩ := hr
  have HR := Lib.hid hr
  clear hr
  obtain ⟨m, hM, hm8, hmn, hmo⟩ : ∃ m : Nat, Hid ((if (8 : Int) < (n : Int) then 8 else (n : Int)) = (m : Int)) ∧ m ≤ 8 ∧ m ≤ n ∧ Hid (m = n ∨ m = 8) := by
    by_cases hq : 8 < n
    · exact ⟨8, if_pos (by omega), by omega, by omega, .inr rfl⟩
    · exact ⟨n, if_neg (by omega), by omega, by omega, .inl rfl⟩
  obtain ⟨m', hM', hm8'⟩ : ∃ m : Nat, Hid ((if (8 : Int) < (n' : Int) then 8 else (n' : Int)) = (m : Int)) ∧ m ≤ 8 := by
    by_cases hq : 8 < n'
    · exact ⟨8, if_pos (by omega), by omega⟩
    · exact ⟨n', if_neg (by omega), by omega⟩
  have H3 : Ext w w3 := (e1.trans e2).trans e3
  refine wp_region_seq [0, 1, 2, 3, 5, 6, 4, 7, 8, 9, 10, 11, 12, 13, 14, 15, 16, 17, 18, 19, 20, 21, 22, 23, 25, 24, 26, 27, 28, 29, 30, 32, 31, 33, 34, 35, 36, 37, 38, 39, 42, 43, 44, 40, 41, 45, 46, 47, 48, 49, 50, 51, 52, 55, 56, 57, 53, 54, 58, 59, 60, 61, 62] [4, 7, 24, 26, 31, 33, 40, 45, 53, 58] [(0, 35, 256), (1, 36, 34359738368), (2, 37, 68719476738), (2, 38, 68719476740), (14, 39, 481036337152), (2, 40, 68719476738), (2, 41, 68719476740), (114, 42, 3367254360064), (146, 43, 5016521801728), (258, 44, 8864812498944), (640, 45, 17592186044416), (1024, 46, 35184372089344), (3072, 47, 105553116266496), (1024, 48, 35184372090880), (9216, 49, 316659348799488), (21504, 50, 738871813865472), (33792, 51, 1161084278931456), (66560, 52, 2251799813685248), (131072, 53, 4503599627371520), (131072, 54, 4503599627374592), (917504, 55, 31525197391593472), (1179648, 56, 40532396646334464), (2228224, 57, 72057594037927936), (4194304, 58, 144115188075855874), (12582912, 59, 432345564227567616), (4194304, 60, 144115188075855874), (54525952, 61, 1297036692682702848), (88080384, 62, 3026418949592973312), (138412032, 63, 4755801206503243776), (335544320, 64, 9223372036854775808), (536870912, 65, 18446744073709551618), (1610612736, 66, 55340232221128654848), (536870912, 67, 18446744073709551618), (6979321856, 68, 166020696663385964544), (11274289152, 69, 387381625547900583936), (17716740096, 70, 608742554432415203328), (42949672960, 71, 1180591620717411303424), (68719476736, 72, 2361183241434822606856), (68719476736, 73, 2361183241434822606852), (343597383680, 74, 11805916207174113034240), (755914244096, 75, 25973015655783048675328), (1168231104512, 76, 40140115104391984316416), (68719476736, 77, 2361183241434822606856), (68719476736, 78, 2361183241434822606852), (8864812498944, 79, 304592638145092116283392), (23158463660032, 80, 757939820500578056798208), (35253091565568, 81, 1211287002856063997313024), (72636486909952, 82, 2495770686196607495438336), (140806207832064, 83, 4838064461699951521431552), (316659348799488, 84, 9671406556917033397649408), (562949953421312, 85, 19342813113834066795298824), (562949953421312, 86, 19342813113834066795298820), (2814749767106560, 87, 96714065569170333976494080), (6192449487634432, 88, 212770944252174734748286976), (9570149208162304, 89, 328827822935179135520079872), (562949953421312, 90, 19342813113834066795298824), (562949953421312, 91, 19342813113834066795298820), (72620543991349248, 92, 2495222891684594616593547264), (189714134302982144, 93, 6209043009540735441290919936), (288793326105133056, 94, 9922863127396876265988292608), (595038100766326784, 95, 20445353461322608602630848512), (1153484454560268288, 96, 39633424070246002863567273984), (4611686018427387903, 7, 79228162514264337593543950336)] (by kernel_rfl) (by kernel_rfl) (by kernel_rfl) rfl (by kernel_rfl) (by kernel_rfl) (fun _ _ d _ _ h => by cases d <;> exact h) ?_
  repeat (refine seq_read (fun _ => True) (fun _ _ => trivial) _ (v := ?_) rfl rfl (by rfl) ?_ ?_; rotate_left; (· intro w' hF; go_simp; (try with_reducible rfl)); simp only [Act.put, List.setIfInBounds_toArray, List.set_cons_zero, List.set_cons_succ])
  refine seq_do _ rfl rfl (by rfl) (fun K hK => ?_)
  go_simp
  refine (same_ext (r := r) (h.ext H3.drew) (h'.ext H3.drew) HR.out).mono ?_
  rintro e w4 ⟨rfl, e4⟩
  refine hK.out _ _ e4 ?_
  clear hK K
  try simp only [Act.put, List.setIfInBounds_toArray, List.set_cons_zero, List.set_cons_succ]
  have E4 : Ext w3 w4 := (Ext.refl _).drew.trans e4
  repeat (refine seq_read (fun _ => True) (fun _ _ => trivial) _ (v := ?_) rfl rfl (by rfl) ?_ ?_; rotate_left; (· intro w' hF; go_simp; (try with_reducible rfl)); simp only [Act.put, List.setIfInBounds_toArray, List.set_cons_zero, List.set_cons_succ])
  refine seq_do _ rfl rfl (by rfl) (fun K hK => ?_)
  go_simp
  refine (refSame_calls (h.ext (H3.trans E4)) (h'.ext (H3.trans E4))).mono ?_
  rintro e w5 ⟨rfl, rfl⟩
  refine hK.out _ _ (Ext.refl _) ?_
  clear hK K
  try simp only [Act.put, List.setIfInBounds_toArray, List.set_cons_zero, List.set_cons_succ]
  rw [HR.out]
  repeat (refine seq_read _ (fun w' e => keep w' (E4.trans e)) _ (v := ?_) rfl rfl (by rfl) ?_ ?_; rotate_left; (· intro w' hF; go_simp; (try with_reducible rfl)); simp only [Act.put, List.setIfInBounds_toArray, List.set_cons_zero, List.set_cons_succ])
  refine seq_do _ rfl rfl (by rfl) (fun K hK => ?_)
  go_simp
  refine (ofLow_calls (m := m) (h.ext (H3.trans E4)) hm8 hmn hM.out).mono ?_
  rintro e w6 ⟨rfl, rfl⟩
  refine hK.out _ _ (Ext.refl _) ?_
  clear hK K
  try simp only [Act.put, List.setIfInBounds_toArray, List.set_cons_zero, List.set_cons_succ]
  repeat (refine seq_read (fun _ => True) (fun _ _ => trivial) _ (v := ?_) rfl rfl (by rfl) ?_ ?_; rotate_left; (· intro w' hF; go_simp; (try with_reducible rfl)); simp only [Act.put, List.setIfInBounds_toArray, List.set_cons_zero, List.set_cons_succ])
  refine seq_do _ rfl rfl (by rfl) (fun K hK => ?_)
  go_simp
  refine (refOfLow_calls (m := m) (h.ext (H3.trans E4)) hm8 hmn hM.out).mono ?_
  rintro e w6 ⟨rfl, rfl⟩
  refine hK.out _ _ (Ext.refl _) ?_
  clear hK K
  try simp only [Act.put, List.setIfInBounds_toArray, List.set_cons_zero, List.set_cons_succ]
  repeat (refine seq_read (fun _ => True) (fun _ _ => trivial) _ (v := ?_) rfl rfl (by rfl) ?_ ?_; rotate_left; (· intro w' hF; go_simp; (try with_reducible rfl)); simp only [Act.put, List.setIfInBounds_toArray, List.set_cons_zero, List.set_cons_succ])
  refine seq_do _ rfl rfl (by rfl) (fun K hK => ?_)
  go_simp
  refine (ofHigh_calls (m := m) (h.ext (H3.trans E4)) hm8 hmn hM.out).mono ?_
  rintro e w7 ⟨rfl, e7⟩
  refine hK.out _ _ e7 ?_
  clear hK K
  try simp only [Act.put, List.setIfInBounds_toArray, List.set_cons_zero, List.set_cons_succ]
  repeat (refine seq_read (fun _ => True) (fun _ _ => trivial) _ (v := ?_) rfl rfl (by rfl) ?_ ?_; rotate_left; (· intro w' hF; go_simp; (try with_reducible rfl)); simp only [Act.put, List.setIfInBounds_toArray, List.set_cons_zero, List.set_cons_succ])
  refine seq_do _ rfl rfl (by rfl) (fun K hK => ?_)
  go_simp
  refine (refOfHigh_calls (m := m) (h.ext ((H3.trans E4).trans e7)) hm8 hmn hmo.out).mono ?_
  rintro e w8 ⟨rfl, rfl⟩
  refine hK.out _ _ (Ext.refl _) ?_
  clear hK K
  try simp only [Act.put, List.setIfInBounds_toArray, List.set_cons_zero, List.set_cons_succ]
  repeat (refine seq_read (fun _ => True) (fun _ _ => trivial) _ (v := ?_) rfl rfl (by rfl) ?_ ?_; rotate_left; (· intro w' hF; go_simp; (try with_reducible rfl)); simp only [Act.put, List.setIfInBounds_toArray, List.set_cons_zero, List.set_cons_succ])
  refine seq_do _ rfl rfl (by rfl) (fun K hK => ?_)
  go_simp
  refine (low_calls (m := m') hz (by omega) (by omega) hm8' hM'.out).mono ?_
  rintro e w8 ⟨A8, n8, c8, rfl, b8, e8⟩
  refine hK.out _ _ e8 ?_
  clear hK K
  try simp only [Act.put, List.setIfInBounds_toArray, List.set_cons_zero, List.set_cons_succ]
  repeat (refine seq_read _ (fun w' e => conv_bs (b8.ext e)) _ (v := ?_) rfl rfl (by rfl) ?_ ?_; rotate_left; (· intro w' hF; go_simp; (try with_reducible rfl)); simp only [Act.put, List.setIfInBounds_toArray, List.set_cons_zero, List.set_cons_succ])
  refine seq_do _ rfl rfl (by rfl) (fun K hK => ?_)
  go_simp
  refine (refLow_calls (m := m') hz (by omega) (by omega) hm8' hM'.out).mono ?_
  rintro e w9 ⟨A9, n9, c9, rfl, b9, e9⟩
  refine hK.out _ _ e9 ?_
  clear hK K
  try simp only [Act.put, List.setIfInBounds_toArray, List.set_cons_zero, List.set_cons_succ]
  repeat (refine seq_read _ (fun w' e => conv_bs (b9.ext e)) _ (v := ?_) rfl rfl (by rfl) ?_ ?_; rotate_left; (· intro w' hF; go_simp; (try with_reducible rfl)); simp only [Act.put, List.setIfInBounds_toArray, List.set_cons_zero, List.set_cons_succ])
  refine seq_do _ rfl rfl (by rfl) (fun K hK => ?_)
  go_simp
  refine (high_calls (m := m') hz (by omega) (by omega) hm8' hM'.out).mono ?_
  rintro e wa ⟨Aa, na, ca, rfl, ba, ea⟩
  refine hK.out _ _ ea ?_
  clear hK K
  try simp only [Act.put, List.setIfInBounds_toArray, List.set_cons_zero, List.set_cons_succ]
  repeat (refine seq_read _ (fun w' e => conv_bs (ba.ext e)) _ (v := ?_) rfl rfl (by rfl) ?_ ?_; rotate_left; (· intro w' hF; go_simp; (try with_reducible rfl)); simp only [Act.put, List.setIfInBounds_toArray, List.set_cons_zero, List.set_cons_succ])
  refine seq_do _ rfl rfl (by rfl) (fun K hK => ?_)
  go_simp
  refine (refHigh_calls (m := m') hz (by omega) (by omega) hm8' hM'.out).mono ?_
  rintro e wb ⟨Ab, nb, cb, rfl, bb, eb⟩
  refine hK.out _ _ eb ?_
  clear hK K
  try simp only [Act.put, List.setIfInBounds_toArray, List.set_cons_zero, List.set_cons_succ]
  repeat (refine seq_read _ (fun w' e => conv_bs (bb.ext e)) _ (v := ?_) rfl rfl (by rfl) ?_ ?_; rotate_left; (· intro w' hF; go_simp; (try with_reducible rfl)); simp only [Act.put, List.setIfInBounds_toArray, List.set_cons_zero, List.set_cons_succ])
  refine seq_done ?_
  go_wp2_with fail
  go_ret
  exact ⟨rfl, ((((((H3.trans E4).trans e7).trans e8).trans e9).trans ea).trans eb)⟩

theorem tells_calls {A A' : Option Addr} {n c n' c' : Nat} {xs ys : List UInt8} {z : Nat} {w : World} (h : Bs w A n c xs) (h' : Bs w A' n' c' ys) (hz : z < 18446744073709551616) :
    Calls Try.prog 3 #[.slice A n c, .slice A' n' c', .int .u64 (z : Int)] w fun e w' => e = .returned (.bool true) ∧ Ext w w' := by
  have h1 := h.le
  have h2 := h.cap
  have h3 := h'.le
  have h4 := h'.cap
  by_cases q1 : 1000 < n
  · go_enter Try.func3, Try.ntmps3
    go_wp2_with fail
    refine (awake_calls _).mono ?_
    rintro e w1 ⟨rfl, he1⟩
    go_wp2_with fail
    go_ret
    exact ⟨rfl, he1⟩
  by_cases q2 : 1000 < n'
  · go_enter Try.func3, Try.ntmps3
    go_wp2_with fail
    refine (awake_calls _).mono ?_
    rintro e w1 ⟨rfl, he1⟩
    go_wp2_with fail
    go_ret
    exact ⟨rfl, he1⟩
  exact tells_main h h' hz (by omega) (by omega)
end Go.Proofs.Ytgmolahjmciegaa
