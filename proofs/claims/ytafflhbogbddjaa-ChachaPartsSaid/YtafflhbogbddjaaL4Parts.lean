/-
  ChachaParts: bytes that are parted where a block ends are turned as in one; noughts become the blocks.
-/
import Derived.Test.YtafflhbogbddjaaJob
import Derived.Test.YtafflhbogbddjaaCut2
import Derived.Laws.Concat
namespace Go.Proofs.Ytafflhbogbddjaa
open Go.ChangeShapes Go.WideShapes Go.ChangeAt Go.RowKit Go.Deep

theorem keyB_shift {ks ns : List UInt8} {n k j : Nat} (hk : k % 64 = 0) : keyB ks ns ((n + k / 64) % 4294967296) j = keyB ks ns n (k + j) := by
  unfold keyB
  have h1 : (k + j) % 64 = j % 64 := by omega
  have h2 : ((n + k / 64) % 4294967296 + j / 64) % 4294967296 = (n + (k + j) / 64) % 4294967296 := by
    rw [show (k + j) / 64 = k / 64 + j / 64 by omega]; omega
  rw [h1, h2]
theorem turn_parts {ks ns bs : List UInt8} {n k : Nat} (hk : k % 64 = 0) (hl : k ≤ bs.length) : turnL ks ns n (bs.take k) ++ turnL ks ns ((n + k / 64) % 4294967296) (bs.drop k) = turnL ks ns n bs := by
  have l1 : (turnL ks ns n (bs.take k)).length = k := by rw [turnL_len]; simp; omega
  refine list_bt (by simp [turnL_len]; omega) fun j hj => ?_
  have hj' : j < bs.length := by simp [turnL_len] at hj; omega
  rw [bt_turnL hj']
  by_cases q : j < k
  · have : bt (turnL ks ns n (bs.take k) ++ turnL ks ns ((n + k / 64) % 4294967296) (bs.drop k)) j = bt (turnL ks ns n (bs.take k)) j := by
      unfold bt; simp only [List.getD]; rw [List.getElem?_append_left (by omega)]
    rw [this, bt_turnL (by simp; omega), bt_take q]
  · have : bt (turnL ks ns n (bs.take k) ++ turnL ks ns ((n + k / 64) % 4294967296) (bs.drop k)) j = bt (turnL ks ns ((n + k / 64) % 4294967296) (bs.drop k)) (j - k) := by
      unfold bt; simp only [List.getD]; rw [List.getElem?_append_right (by omega), l1]
    rw [this, bt_turnL (by simp; omega), bt_drop, keyB_shift hk, show k + (j - k) = j by omega]
theorem turn_zero {ks ns : List UInt8} {n : Nat} (hn : n < 4294967296) : turnL ks ns n (List.replicate 64 0) = blockL ks ns n := by
  refine list_bt (by rw [turnL_len, blockL_len, List.length_replicate]) fun j hj => ?_
  have hj' : j < 64 := by rw [turnL_len, List.length_replicate] at hj; exact hj
  rw [bt_turnL (by rw [List.length_replicate]; exact hj')]
  have h0 : bt (List.replicate 64 (0 : UInt8)) j = 0 := by unfold bt; rw [List.getD_eq_getElem?_getD, List.getElem?_replicate, if_pos hj']; rfl
  rw [h0, Nat.zero_xor]
  unfold keyB
  rw [show j / 64 = 0 by omega, Nat.add_zero, Nat.mod_eq_of_lt hn, Nat.mod_eq_of_lt hj']
theorem strL_append (xs ys : List UInt8) : strL xs ++ strL ys = strL (xs ++ ys) := by
  apply ByteArray.ext
  simp [strL]

theorem Bs.made0 (w : World) (n : Nat) (hn : n ≤ 1000000) : Bs (w.alloc (.cells (madeCells #[.int .u8 0] n) 5)) (some ⟨w.heap.size, 0, none⟩) n n (List.replicate n 0) := by
  refine ⟨List.length_replicate, Nat.le_refl _, by unfold maxLen; omega, fun _ => ⟨w.heap.size, 0, rfl, by rw [size_alloc]; omega, fun j hj => ?_⟩⟩
  have h := (Fill.start w n (fun _ => 0)).2.cell hj
  rw [Nat.zero_add, h, if_neg (by omega)]
  have : bt (List.replicate n (0 : UInt8)) j = 0 := by unfold bt; rw [List.getD_eq_getElem?_getD, List.getElem?_replicate, if_pos hj]; rfl
  rw [this]; rfl

theorem parts_out {A : Option Addr} {m c : Nat} {z : Int} {bs : List UInt8} {J : Array Value} {w : World} (h : Bs w A m c bs) (hz : -9223372036854775808 ≤ z ∧ z ≤ 9223372036854775807) (hq : 1000 < m ∨ z < 0) :
    Calls Try.prog 6 #[.agg J, .slice A m c, .int .i64 z] w fun e w' => e = .returned (.bool true) ∧ Ext w w' := by
  have h1 := h.le
  have h2 := h.cap
  by_cases q1 : 1000 < m
  · have q1' : decide ((1000 : Int) < (m : Int)) = true := by simp; omega
    clear hq
    go_enter Try.func6, Try.ntmps6
    go_wp2_with fail
    refine awake_calls.mono ?_
    rintro e w1 ⟨rfl, e1⟩
    go_wp2_with fail
    go_ret
    exact ⟨rfl, ((Ext.refl w).alloc _).trans e1⟩
  · have q1' : decide ((1000 : Int) < (m : Int)) = false := by simp; omega
    have q2' : decide (z < 0) = true := by simp; omega
    clear hq
    go_enter Try.func6, Try.ntmps6
    go_wp2_with fail
    refine awake_calls.mono ?_
    rintro e w1 ⟨rfl, e1⟩
    go_wp2_with fail
    go_ret
    exact ⟨rfl, ((Ext.refl w).alloc _).trans e1⟩

theorem parts_nums {n : Nat} (z m : Nat) (hq : m ≤ 1000) : ∃ k r s t : Nat, k % 64 = 0 ∧ k ≤ m ∧ (z : Int) % 20 = (r : Int) ∧ (m : Int) / 64 = (s : Int) ∧ r < 20 ∧ s * 64 ≤ m ∧
    (if (s : Int) * 64 < 64 * (r : Int) then (s : Int) * 64 else 64 * (r : Int)) = (k : Int) ∧ (if 64 * (r : Int) < (s : Int) * 64 then 64 * (r : Int) else (s : Int) * 64) = (k : Int) ∧ (k : Int) / 64 = (t : Int) ∧ t < 20 ∧ k / 64 = t := by
  by_cases h : m / 64 < z % 20
  · exact ⟨m / 64 * 64, z % 20, m / 64, m / 64, by omega, by omega, by omega, by omega, by omega, by omega, by rw [if_pos (by omega)]; omega, by rw [if_neg (by omega)]; omega, by omega, by omega, by omega⟩
  · exact ⟨64 * (z % 20), z % 20, m / 64, z % 20, by omega, by omega, by omega, by omega, by omega, by omega, by rw [if_neg (by omega)]; omega, by split <;> omega, by omega, by omega, by omega⟩

set_option maxRecDepth 100000 in
set_option maxHeartbeats 4000000 in
theorem parts_main {A : Option Addr} {m c n z : Nat} {ks ns bs : List UInt8} {w : World} (hk : ks.length = 32) (hn : ns.length = 12) (hN : n < 4294967296) (h : Bs w A m c bs) (hq : m ≤ 1000) (hz : z ≤ 9223372036854775807) :
    Calls Try.prog 6 #[.agg (jobL ks ns n).toArray, .slice A m c, .int .i64 (z : Int)] w fun e w' => e = .returned (.bool true) ∧ Ext w w' := by
  have h1 := h.le
  have h2 := h.cap
  have hl := h.len
  have q1' : decide ((1000 : Int) < (m : Int)) = false := by simp; omega
  have JB0 := Lib.hid (Jb.boxed w hk hn hN)
  have KL : (cellsOf ks).length = 32 := by rw [cellsOf_len, hk]
  have NL : (cellsOf ns).length = 12 := by rw [cellsOf_len, hn]
  have TURN : Hid (∀ (W : World) (A' : Option Addr) (L' c' x : Nat) (ys : List UInt8), x < 4294967296 → Bs W A' L' c' ys → L' ≤ 1000 → Calls Try.prog 11 #[.agg (cellsOf ks).toArray, .agg (cellsOf ns).toArray, .int .u32 (x : Int), .slice A' L' c'] W (RetBs (turnL ks ns x ys) W)) := fun W A' L' c' x ys hx b hle => turn_calls hk hn hx b (by omega)
  have BLK : Hid (∀ W : World, Calls Try.prog 9 #[.agg (cellsOf ks).toArray, .agg (cellsOf ns).toArray, .int .u32 (n : Int)] W fun e w' => e = .returned (.agg (cellsOf (blockL ks ns n)).toArray) ∧ Ext W w') := fun W => block_calls hk hn hN
  have BL := blockL_len ks ns n
  have TZ := Lib.hid (turn_zero (ks := ks) (ns := ns) hN)
  obtain ⟨k, r, s, t, k64, km, e0, e2, r20, s64, hM, hM', kd, t20, TPk⟩ := parts_nums (n := n) z m hq
  have TP := Lib.hid (turn_parts (ks := ks) (ns := ns) (n := n) (bs := bs) (k := k) k64 (by rw [hl]; exact km))
  rw [TPk] at TP
  generalize blockL ks ns n = BK at *
  have BS : (cellsOf BK).toArray.size = 64 := by simp [cellsOf_len, BL]
  have B1 := cellsOf_one BK
  have hal : ∀ w, (zeroValue 29).run Try.prog w = .ok (.agg (cellsOf (List.replicate 64 0)).toArray) w := fun _ => by kernel_rfl
  have OS : (cellsOf (List.replicate 64 (0 : UInt8))).toArray.size = 64 := by simp [cellsOf_len]
  generalize (cellsOf (List.replicate 64 (0 : UInt8))).toArray = O at *
  generalize (jobL ks ns n).toArray = J at *
  have hB := Lib.hid h
  clear h
  go_enter Try.func6, Try.ntmps6
  go_wp2_with fail
  refine awake_calls.mono ?_
  rintro e w1 ⟨rfl, x1⟩
  have E1 : Hid (Ext w w1) := ((Ext.refl w).alloc _).trans x1
  have JB1 := Lib.hid (JB0.out.ext x1)
  clear JB0 x1
  go_wp2_with fail
  obtain ⟨A5, hA5⟩ : ∃ A5, A5 = (if c = k then A else A.map (·.add k)) := ⟨_, rfl⟩
  have BT := Lib.hid (hB.out.take km)
  have BF := Lib.hid (hB.out.cut km)
  rw [← hA5] at BF
  replace hA5 := Lib.hid hA5
  clear hM hM'
  refine wp_region_seq (R := Ext) Ext.refl (fun _ _ _ => Ext.trans) [0, 1, 2, 3, 4, 5, 6, 7, 8, 9, 10] [9] [(0, 30, 16), (1, 31, 1073741824), (0, 32, 16), (4, 33, 4294967296), (0, 34, 16), (16, 35, 17179869184), (0, 36, 4), (0, 37, 512), (192, 38, 206158430208), (298, 39, 319975063552), (1023, 10, 549755813888)] (by kernel_rfl) (by kernel_rfl) (by kernel_rfl) rfl (by kernel_rfl) (by kernel_rfl) (fun _ _ d _ _ h => by cases d <;> exact h) ?_
  iterate 1 (first | (refine seq_read (fun _ => True) (fun _ _ => trivial) _ (v := ?_) rfl rfl (by rfl) ?_ ?_; rotate_left; (· intro w' hF; go_simp; (try with_reducible rfl)); simp only [Act.put, List.setIfInBounds_toArray, List.set_cons_zero, List.set_cons_succ]) | (refine seq_skip _ rfl rfl (by rfl) ?_; simp only [Act.put, List.setIfInBounds_toArray, List.set_cons_zero, List.set_cons_succ]))
  refine seq_read (fun w' => ∀ j v, (cellsOf ks)[j]? = some v → w'.cell? ⟨w.heap.size, 0 + j, none⟩ = some v) (fun w' e => (JB1.out.ext ((Ext.refl _).drew.trans e)).key) _ (v := .agg (cellsOf ks).toArray) rfl rfl (by rfl) (fun w' hF => exec_load_mid rfl rfl hF rfl rfl (by rw [KL]; rfl)) ?_
  simp only [Act.put, List.setIfInBounds_toArray, List.set_cons_zero, List.set_cons_succ]
  iterate 1 (first | (refine seq_read (fun _ => True) (fun _ _ => trivial) _ (v := ?_) rfl rfl (by rfl) ?_ ?_; rotate_left; (· intro w' hF; go_simp; (try with_reducible rfl)); simp only [Act.put, List.setIfInBounds_toArray, List.set_cons_zero, List.set_cons_succ]) | (refine seq_skip _ rfl rfl (by rfl) ?_; simp only [Act.put, List.setIfInBounds_toArray, List.set_cons_zero, List.set_cons_succ]))
  refine seq_read (fun w' => ∀ j v, (cellsOf ns)[j]? = some v → w'.cell? ⟨w.heap.size, 32 + j, none⟩ = some v) (fun w' e => (JB1.out.ext ((Ext.refl _).drew.trans e)).non) _ (v := .agg (cellsOf ns).toArray) rfl rfl (by rfl) (fun w' hF => exec_load_mid rfl rfl hF rfl rfl (by rw [NL]; rfl)) ?_
  simp only [Act.put, List.setIfInBounds_toArray, List.set_cons_zero, List.set_cons_succ]
  iterate 4 (first | (refine seq_read _ (fun w' e => (JB1.out.ext ((Ext.refl _).drew.trans e)).num) _ (v := ?_) rfl rfl (by rfl) ?_ ?_; rotate_left; (· intro w' hF; go_simp; (try with_reducible rfl)); simp only [Act.put, List.setIfInBounds_toArray, List.set_cons_zero, List.set_cons_succ]) | (refine seq_skip _ rfl rfl (by rfl) ?_; simp only [Act.put, List.setIfInBounds_toArray, List.set_cons_zero, List.set_cons_succ]))
  refine seq_read (fun _ => True) (fun _ _ => trivial) _ (v := .slice A k c) rfl rfl (by rfl) (fun w' _ => exec_to rfl rfl rfl (by omega)) ?_
  simp only [Act.put, List.setIfInBounds_toArray, List.set_cons_zero, List.set_cons_succ]
  refine seq_do _ rfl rfl (by rfl) (fun K hK => ?_)
  go_simp
  refine (TURN.out _ _ _ _ _ _ hN (BT.out.ext E1.out.drew) (by omega)).mono ?_
  rintro e w2 ⟨A2, n2, c2, rfl, b2, f2⟩
  refine hK.out _ _ f2 ?_
  clear hK K
  try simp only [Act.put, List.setIfInBounds_toArray, List.set_cons_zero, List.set_cons_succ]
  repeat (first | (refine seq_read (fun _ => True) (fun _ _ => trivial) _ (v := ?_) rfl rfl (by rfl) ?_ ?_; rotate_left; (· intro w' hF; go_simp; (try with_reducible rfl)); simp only [Act.put, List.setIfInBounds_toArray, List.set_cons_zero, List.set_cons_succ]) | (refine seq_skip _ rfl rfl (by rfl) ?_; simp only [Act.put, List.setIfInBounds_toArray, List.set_cons_zero, List.set_cons_succ]))
  refine seq_done ?_
  have F2 : Hid (Ext w1 w2) := (Ext.refl _).drew.trans f2
  have JB2 := Lib.hid (JB1.out.ext F2.out)
  have E2 : Hid (Ext w w2) := E1.out.trans F2.out
  replace b2 := Lib.hid b2
  clear f2 JB1 E1 F2
  have nt : (n + t) % 4294967296 < 4294967296 := Nat.mod_lt _ (by decide)
  have a1 : IntKind.i64.wrap (t : Int) = (t : Int) := IntWalk.i64_in _ (by omega)
  have a0 : Int.tdiv (k : Int) 64 = (t : Int) := by rw [Int.tdiv_eq_ediv_of_nonneg (by omega)]; exact kd
  have a2 : IntKind.u32.wrap (t : Int) = (t : Int) := by rw [IntKind.wrap_u32]; omega
  have a3 : IntKind.u32.wrap ((n : Int) + (t : Int)) = (((n + t) % 4294967296 : Nat) : Int) := by rw [IntKind.wrap_u32]; omega
  generalize hnt : (n + t) % 4294967296 = nt' at *
  replace hnt := Lib.hid hnt
  go_wp2_with fail
  refine wp_region_seq (R := Ext) Ext.refl (fun _ _ _ => Ext.trans) [0, 1, 2, 3, 4, 5, 6, 7, 8, 9, 10, 11, 12, 13, 14] [13] [(0, 40, 16), (1, 41, 1099511627776), (0, 42, 16), (4, 43, 4398046511104), (0, 44, 16), (16, 45, 17592186044416), (0, 46, 512), (64, 47, 70368744177664), (128, 48, 140737488355328), (288, 49, 316659348799488), (0, 50, 4), (0, 51, 512), (3072, 52, 3377699720527872), (4618, 53, 5077544697069568), (16383, 11, 9007199254740992)] (by kernel_rfl) (by kernel_rfl) (by kernel_rfl) rfl (by kernel_rfl) (by kernel_rfl) (fun _ _ d _ _ h => by cases d <;> exact h) ?_
  iterate 1 (first | (refine seq_read (fun _ => True) (fun _ _ => trivial) _ (v := ?_) rfl rfl (by rfl) ?_ ?_; rotate_left; (· intro w' hF; go_simp; (try with_reducible rfl)); simp only [Act.put, List.setIfInBounds_toArray, List.set_cons_zero, List.set_cons_succ]) | (refine seq_skip _ rfl rfl (by rfl) ?_; simp only [Act.put, List.setIfInBounds_toArray, List.set_cons_zero, List.set_cons_succ]))
  refine seq_read (fun w' => ∀ j v, (cellsOf ks)[j]? = some v → w'.cell? ⟨w.heap.size, 0 + j, none⟩ = some v) (fun w' e => (JB2.out.ext ((Ext.refl _).drew.trans e)).key) _ (v := .agg (cellsOf ks).toArray) rfl rfl (by rfl) (fun w' hF => exec_load_mid rfl rfl hF rfl rfl (by rw [KL]; rfl)) ?_
  simp only [Act.put, List.setIfInBounds_toArray, List.set_cons_zero, List.set_cons_succ]
  iterate 1 (first | (refine seq_read (fun _ => True) (fun _ _ => trivial) _ (v := ?_) rfl rfl (by rfl) ?_ ?_; rotate_left; (· intro w' hF; go_simp; (try with_reducible rfl)); simp only [Act.put, List.setIfInBounds_toArray, List.set_cons_zero, List.set_cons_succ]) | (refine seq_skip _ rfl rfl (by rfl) ?_; simp only [Act.put, List.setIfInBounds_toArray, List.set_cons_zero, List.set_cons_succ]))
  refine seq_read (fun w' => ∀ j v, (cellsOf ns)[j]? = some v → w'.cell? ⟨w.heap.size, 32 + j, none⟩ = some v) (fun w' e => (JB2.out.ext ((Ext.refl _).drew.trans e)).non) _ (v := .agg (cellsOf ns).toArray) rfl rfl (by rfl) (fun w' hF => exec_load_mid rfl rfl hF rfl rfl (by rw [NL]; rfl)) ?_
  simp only [Act.put, List.setIfInBounds_toArray, List.set_cons_zero, List.set_cons_succ]
  iterate 8 (first | (refine seq_read _ (fun w' e => (JB2.out.ext ((Ext.refl _).drew.trans e)).num) _ (v := ?_) rfl rfl (by rfl) ?_ ?_; rotate_left; (· intro w' hF; go_simp; (try with_reducible rfl)); simp only [Act.put, List.setIfInBounds_toArray, List.set_cons_zero, List.set_cons_succ]) | (refine seq_skip _ rfl rfl (by rfl) ?_; simp only [Act.put, List.setIfInBounds_toArray, List.set_cons_zero, List.set_cons_succ]))
  refine seq_read (fun _ => True) (fun _ _ => trivial) _ (v := .slice A5 (m - k) (c - k)) rfl rfl (by rfl) (fun w' _ => (by rw [hA5.out]; exact exec_from rfl rfl rfl km h1)) ?_
  simp only [Act.put, List.setIfInBounds_toArray, List.set_cons_zero, List.set_cons_succ]
  refine seq_do _ rfl rfl (by rfl) (fun K hK => ?_)
  go_simp
  refine (TURN.out _ _ _ _ _ _ nt (BF.out.ext E2.out.drew) (by omega)).mono ?_
  rintro e w3 ⟨A3, n3, c3, rfl, b3, f3⟩
  refine hK.out _ _ f3 ?_
  clear hK K
  try simp only [Act.put, List.setIfInBounds_toArray, List.set_cons_zero, List.set_cons_succ]
  repeat (first | (refine seq_read (fun _ => True) (fun _ _ => trivial) _ (v := ?_) rfl rfl (by rfl) ?_ ?_; rotate_left; (· intro w' hF; go_simp; (try with_reducible rfl)); simp only [Act.put, List.setIfInBounds_toArray, List.set_cons_zero, List.set_cons_succ]) | (refine seq_skip _ rfl rfl (by rfl) ?_; simp only [Act.put, List.setIfInBounds_toArray, List.set_cons_zero, List.set_cons_succ]))
  refine seq_done ?_
  have F3 : Hid (Ext w2 w3) := (Ext.refl _).drew.trans f3
  have JB3 := Lib.hid (JB2.out.ext F3.out)
  have E3 : Hid (Ext w w3) := E2.out.trans F3.out
  have X3 := Lib.hid (b2.out.ext F3.out)
  replace b3 := Lib.hid b3
  have jn3 := JB3.out.num
  clear f3 JB2 E2 F3 b2
  go_wp2_with (first
    | (refine wpList_exec rfl (exec_load_mid (ys := cellsOf ks) (g := w.heap.size) (off := 0) rfl rfl JB3.out.key rfl rfl (by rw [KL]; rfl)) ?_; simp only [Act.put, List.setIfInBounds_toArray, List.set_cons_zero, List.set_cons_succ])
    | (refine wpList_exec rfl (exec_load_mid (ys := cellsOf ns) (g := w.heap.size) (off := 32) rfl rfl JB3.out.non rfl rfl (by rw [NL]; rfl)) ?_; simp only [Act.put, List.setIfInBounds_toArray, List.set_cons_zero, List.set_cons_succ]))
  refine (BLK.out _).mono ?_
  rintro e w4 ⟨rfl, f4⟩
  go_upto_region 8 with (refine wpList_store_row rfl 29 _ _ rfl w4.heap.size (cellsOf BK).toArray rfl rfl 29 _ (by with_reducible exact heap_alloc_new _ _) (by rw [BS]; rfl) (by rw [BS]; exact OS) B1 ?_; simp only [Act.put, List.setIfInBounds_toArray, List.set_cons_zero, List.set_cons_succ])
  refine wp_gen (fun W => Ext w3 W ∧ W.heap[w4.heap.size]? = some (.cells (cellsOf BK).toArray 29 (0, 0))) ⟨f4.trans (below_setRow ((Ext.refl w4).alloc _) (Nat.le_refl _) _), setRow_heap _ _ _ _ _ _ (heap_alloc_new _ _)⟩ ?_
  rintro w5 ⟨f5, kb⟩
  have E5 : Hid (Ext w w5) := E3.out.trans f5
  have JB5 := Lib.hid (JB3.out.ext f5)
  have X5 := Lib.hid (X3.out.ext f5)
  have Y5 := Lib.hid (b3.out.ext f5)
  have Z5 : Hid (Bs w5 (some ⟨w4.heap.size, 0, none⟩) 64 64 BK) := by
    have h9 := Bs.part kb (o := 0) (n := 64) (c := 64) (by omega) (by omega) (by omega)
    rw [List.drop_zero, List.take_of_length_le (by omega)] at h9
    exact h9
  have hcat := strL_append (turnL ks ns n (bs.take k)) (turnL ks ns nt' (bs.drop k))
  rw [TP.out] at hcat
  have hadd : ∀ w, (Op.stringOp .add (strL (turnL ks ns n (bs.take k))) (strL (turnL ks ns nt' (bs.drop k)))).run Try.prog w = .ok (.string (strL (turnL ks ns n bs))) w := fun w => by
    rw [run_string_add_sum _ _ _ (by rw [strL_size, strL_size, turnL_len, turnL_len, List.length_take, List.length_drop]; omega), hcat]
  clear hcat
  have hmk : ∀ w : World, (Instr.makeSlice 32 (.int .i64 64) (.int .i64 64)).run Try.prog w = .ok (.slice (some ⟨w.heap.size, 0, none⟩) 64 64) (w.alloc (.cells (madeCells #[.int .u8 0] 64) 5)) := fun w => make8 64 (by omega) w
  have MZ : Hid (∀ w : World, Bs (w.alloc (.cells (madeCells #[.int .u8 0] 64) 5)) (some ⟨w.heap.size, 0, none⟩) 64 64 (List.replicate 64 0)) := fun w => Bs.made0 w 64 (by omega)
  generalize madeCells #[.int .u8 0] 64 = MC at *
  clear kb f4 f5 X3 b3 JB3 jn3 E3 a0 a1 a2 a3 kd e0 e2
  refine wp_region_seq (R := Ext) Ext.refl (fun _ _ _ => Ext.trans) [0, 1, 2, 3, 4, 5, 6, 7, 8, 11, 12, 13, 14, 15, 9, 10, 16, 17, 18, 19, 20, 21, 22, 23, 24, 28, 29, 25, 26, 27, 30, 31, 32] [9, 25, 26] [(0, 61, 256), (1, 62, 2305843009213693952), (2, 63, 4611686018427387920), (6, 64, 13835058055282163712), (2, 65, 4611686018427387920), (18, 66, 41505174165846491136), (2, 67, 4611686018427387920), (66, 68, 152185638608103800832), (2, 69, 4611686018427387908), (426, 70, 982289121925033623552), (514, 71, 1185203306735838691328), (2, 72, 4611686018427388928), (2050, 73, 4726978168888072601600), (2, 74, 4611686018427389952), (8194, 75, 18894077617497008242688), (20482, 76, 47228276514714879524864), (33794, 77, 77923658653367573413888), (65538, 78, 151120339137847074226176), (131584, 79, 302231454903657293676544), (262144, 80, 604462909807314587353104), (786432, 81, 1813388729421943762059264), (262144, 82, 604462909807314587353104), (2359296, 83, 5440166188265831286177792), (262144, 84, 604462909807314587353104), (8650752, 85, 19947276023641381382651904), (262144, 86, 604462909807314587353088), (55836672, 87, 128750599788958007106207744), (67371008, 88, 155346967820479848949743616), (262144, 89, 604462909807314587357184), (268697600, 90, 619574482552497452036915200), (671350784, 91, 1548029512016532658211258368), (1074003968, 92, 2476484541480567864385601536), (4294967295, 7, 4951760157141521099596496896)] (by kernel_rfl) (by kernel_rfl) (by kernel_rfl) rfl (by kernel_rfl) (by kernel_rfl) (fun _ _ d _ _ h => by cases d <;> exact h) ?_
  iterate 3 (first | (refine seq_read (fun _ => True) (fun _ _ => trivial) _ (v := ?_) rfl rfl (by rfl) ?_ ?_; rotate_left; (· intro w' hF; go_simp; (try with_reducible rfl)); simp only [Act.put, List.setIfInBounds_toArray, List.set_cons_zero, List.set_cons_succ]) | (refine seq_skip _ rfl rfl (by rfl) ?_; simp only [Act.put, List.setIfInBounds_toArray, List.set_cons_zero, List.set_cons_succ]))
  refine seq_read (fun w' => ∀ j v, (cellsOf ks)[j]? = some v → w'.cell? ⟨w.heap.size, 0 + j, none⟩ = some v) (fun w' e => (JB5.out.ext ((Ext.refl _).drew.trans e)).key) _ (v := .agg (cellsOf ks).toArray) rfl rfl (by rfl) (fun w' hF => exec_load_mid rfl rfl hF rfl rfl (by rw [KL]; rfl)) ?_
  simp only [Act.put, List.setIfInBounds_toArray, List.set_cons_zero, List.set_cons_succ]
  iterate 1 (first | (refine seq_read (fun _ => True) (fun _ _ => trivial) _ (v := ?_) rfl rfl (by rfl) ?_ ?_; rotate_left; (· intro w' hF; go_simp; (try with_reducible rfl)); simp only [Act.put, List.setIfInBounds_toArray, List.set_cons_zero, List.set_cons_succ]) | (refine seq_skip _ rfl rfl (by rfl) ?_; simp only [Act.put, List.setIfInBounds_toArray, List.set_cons_zero, List.set_cons_succ]))
  refine seq_read (fun w' => ∀ j v, (cellsOf ns)[j]? = some v → w'.cell? ⟨w.heap.size, 32 + j, none⟩ = some v) (fun w' e => (JB5.out.ext ((Ext.refl _).drew.trans e)).non) _ (v := .agg (cellsOf ns).toArray) rfl rfl (by rfl) (fun w' hF => exec_load_mid rfl rfl hF rfl rfl (by rw [NL]; rfl)) ?_
  simp only [Act.put, List.setIfInBounds_toArray, List.set_cons_zero, List.set_cons_succ]
  iterate 8 (first | (refine seq_read _ (fun w' e => And.intro (JB5.out.ext ((Ext.refl _).drew.trans e)).num (And.intro (conv_bs (X5.out.ext ((Ext.refl _).drew.trans e))) (conv_bs (Y5.out.ext ((Ext.refl _).drew.trans e))))) _ (v := ?_) rfl rfl (by rfl) ?_ ?_; rotate_left; (· intro w' hF; go_simp; (try with_reducible rfl)); simp only [Act.put, List.setIfInBounds_toArray, List.set_cons_zero, List.set_cons_succ]) | (refine seq_skip _ rfl rfl (by rfl) ?_; simp only [Act.put, List.setIfInBounds_toArray, List.set_cons_zero, List.set_cons_succ]))
  refine seq_do _ rfl rfl (by rfl) (fun K hK => ?_)
  go_simp
  refine (TURN.out _ _ _ _ _ _ hN (hB.out.ext E5.out.drew) (by omega)).mono ?_
  rintro e w6 ⟨A6, n6, c6, rfl, b6, f6⟩
  refine hK.out _ _ f6 ?_
  clear hK K
  try simp only [Act.put, List.setIfInBounds_toArray, List.set_cons_zero, List.set_cons_succ]
  iterate 5 (first | (refine seq_read _ (fun w' e => conv_bs (b6.ext e)) _ (v := ?_) rfl rfl (by rfl) ?_ ?_; rotate_left; (· intro w' hF; go_simp; (try with_reducible rfl)); simp only [Act.put, List.setIfInBounds_toArray, List.set_cons_zero, List.set_cons_succ]) | (refine seq_skip _ rfl rfl (by rfl) ?_; simp only [Act.put, List.setIfInBounds_toArray, List.set_cons_zero, List.set_cons_succ]))
  refine seq_read (fun w' => ∀ j v, (cellsOf ks)[j]? = some v → w'.cell? ⟨w.heap.size, 0 + j, none⟩ = some v) (fun w' e => (JB5.out.ext ((Ext.refl _).drew.trans (f6.trans e))).key) _ (v := .agg (cellsOf ks).toArray) rfl rfl (by rfl) (fun w' hF => exec_load_mid rfl rfl hF rfl rfl (by rw [KL]; rfl)) ?_
  simp only [Act.put, List.setIfInBounds_toArray, List.set_cons_zero, List.set_cons_succ]
  iterate 1 (first | (refine seq_read (fun _ => True) (fun _ _ => trivial) _ (v := ?_) rfl rfl (by rfl) ?_ ?_; rotate_left; (· intro w' hF; go_simp; (try with_reducible rfl)); simp only [Act.put, List.setIfInBounds_toArray, List.set_cons_zero, List.set_cons_succ]) | (refine seq_skip _ rfl rfl (by rfl) ?_; simp only [Act.put, List.setIfInBounds_toArray, List.set_cons_zero, List.set_cons_succ]))
  refine seq_read (fun w' => ∀ j v, (cellsOf ns)[j]? = some v → w'.cell? ⟨w.heap.size, 32 + j, none⟩ = some v) (fun w' e => (JB5.out.ext ((Ext.refl _).drew.trans (f6.trans e))).non) _ (v := .agg (cellsOf ns).toArray) rfl rfl (by rfl) (fun w' hF => exec_load_mid rfl rfl hF rfl rfl (by rw [NL]; rfl)) ?_
  simp only [Act.put, List.setIfInBounds_toArray, List.set_cons_zero, List.set_cons_succ]
  iterate 4 (first | (refine seq_read _ (fun w' e => And.intro (JB5.out.ext ((Ext.refl _).drew.trans (f6.trans e))).num (conv_bs (Z5.out.ext ((Ext.refl _).drew.trans (f6.trans e))))) _ (v := ?_) rfl rfl (by rfl) ?_ ?_; rotate_left; (· intro w' hF; go_simp; (try with_reducible rfl)); simp only [Act.put, List.setIfInBounds_toArray, List.set_cons_zero, List.set_cons_succ]) | (refine seq_skip _ rfl rfl (by rfl) ?_; simp only [Act.put, List.setIfInBounds_toArray, List.set_cons_zero, List.set_cons_succ]))
  refine seq_do _ rfl rfl (by rfl) (fun K hK => ?_)
  go_simp
  refine hK.out _ _ ((Ext.refl _).alloc _) ?_
  clear hK K
  try simp only [Act.put, List.setIfInBounds_toArray, List.set_cons_zero, List.set_cons_succ]
  refine seq_do _ rfl rfl (by rfl) (fun K hK => ?_)
  go_simp
  refine (TURN.out _ _ _ _ _ _ hN (MZ.out _) (by omega)).mono ?_
  rintro e w7 ⟨A7, n7, c7, rfl, b7, f7⟩
  rw [TZ.out] at b7
  refine hK.out _ _ f7 ?_
  clear hK K
  try simp only [Act.put, List.setIfInBounds_toArray, List.set_cons_zero, List.set_cons_succ]
  repeat (first | (refine seq_read _ (fun w' e => conv_bs (b7.ext e)) _ (v := ?_) rfl rfl (by rfl) ?_ ?_; rotate_left; (· intro w' hF; go_simp; (try with_reducible rfl)); simp only [Act.put, List.setIfInBounds_toArray, List.set_cons_zero, List.set_cons_succ]) | (refine seq_skip _ rfl rfl (by rfl) ?_; simp only [Act.put, List.setIfInBounds_toArray, List.set_cons_zero, List.set_cons_succ]))
  refine seq_done ?_
  go_wp2_with fail
  go_ret
  exact ⟨rfl, E5.out.trans ((Ext.refl _).drew.trans (f6.trans (((Ext.refl _).alloc _).trans f7)))⟩

theorem chachaParts_calls {A : Option Addr} {m c n : Nat} {z : Int} {ks ns bs : List UInt8} {w : World} (hk : ks.length = 32) (hn : ns.length = 12) (hN : n < 4294967296) (h : Bs w A m c bs) (hz : -9223372036854775808 ≤ z ∧ z ≤ 9223372036854775807) :
    Calls Try.prog 6 #[.agg (jobL ks ns n).toArray, .slice A m c, .int .i64 z] w fun e w' => e = .returned (.bool true) ∧ Ext w w' := by
  by_cases hq : 1000 < m ∨ z < 0
  · exact parts_out h hz hq
  · obtain ⟨z', rfl⟩ := Int.eq_ofNat_of_zero_le (show 0 ≤ z by omega)
    exact parts_main hk hn hN h (by omega) (by omega)
end Go.Proofs.Ytafflhbogbddjaa
