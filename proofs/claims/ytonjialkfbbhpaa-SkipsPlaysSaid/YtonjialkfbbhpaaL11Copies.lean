/-
  The law SkipsCopies.
-/
import Derived.Test.YtonjialkfbbhpaaAwake11
import Derived.Test.YtonjialkfbbhpaaO11
import Derived.Test.YtonjialkfbbhpaaSeqT
import Derived.Test.YtonjialkfbbhpaaTw
namespace Go.Proofs.Ytonjialkfbbhpaa
open Go.ChangeShapes Go.WideShapes Go.ChangeAt Go.RowKit Go.Deep Go.Maps
set_option maxRecDepth 100000

def hit (L : List O11) (j : Nat) (x : Kp) : Prop := ∃ o, L[j]? = some o ∧ o.pk = x.pk ∧ o.n = x.n
theorem putR_mem {L : List Kp} {x y : Kp} (h : y ∈ putR L x) : y ∈ L ∨ y = x := by
  unfold putR putL at h
  split at h
  · split at h
    · rcases List.mem_append.1 h with h | h
      · exact .inl h
      · exact .inr (List.mem_singleton.1 h)
    · rcases List.mem_append.1 h with h | h
      · exact .inl (List.mem_of_mem_drop h)
      · exact .inr (List.mem_singleton.1 h)
  · exact .inl h
theorem putR_len {L : List Kp} {x : Kp} (h : L.length ≤ 8) : (putR L x).length ≤ 8 := by
  unfold putR putL
  split
  · split
    · rw [List.length_append]; simp; omega
    · rw [List.length_append, List.length_drop]; simp; omega
  · exact h
theorem takeL_len {L : List Kp} {pk : List UInt8} {n : Int} : (takeL L pk n).length ≤ L.length := List.length_filter_le _ _
set_option maxHeartbeats 16000000 in
theorem copies_calls {w : World} {LO MO : List O11} {A A' : Option Addr} {len cap len' cap' : Nat} (hl : Cs w 66 A len cap (LO.map O11.C)) (hm : Cs w 66 A' len' cap' (MO.map O11.C)) (ol : ∀ o ∈ LO, o.ok) (om : ∀ o ∈ MO, o.ok) :
    Calls Try.prog 7 #[.slice A len cap, .slice A' len' cap'] w fun e w' => e = .returned (.bool true) ∧ Ext w w' := by
  have AW := Lib.hid (fun (W : World) => awake11_calls (w := W))
  have NW := Lib.hid (fun (W : World) => snew_calls (w := W))
  have OA := Lib.hid (fun i (hi : i < len) => o11_at hl ol hi)
  have OB := Lib.hid (fun i (hi : i < len') => o11_at hm om hi)
  have hal3 : ∀ w, (zeroValue 31).run Try.prog w = .ok (.agg (cellsOf (List.replicate 32 0)).toArray) w := fun w => by kernel_rfl
  obtain ⟨z, hz⟩ : ∃ z, z = List.replicate 32 (0 : UInt8) := ⟨_, rfl⟩
  rw [← hz] at hal3
  have S_z : (cellsOf z).toArray.size = 32 := by rw [hz]; rfl
  replace hz := Lib.hid hz
  have q1 := hl.2.1
  have q2 := hm.2.1
  have hLl : LO.length = len := by have := hl.1.1; rwa [List.length_map] at this
  clear hl hm ol om
  go_enter Try.func7, Try.ntmps7
  go_wp2_with fail
  refine (AW.out _).mono ?_
  rintro e w1 ⟨rfl, x1⟩
  replace x1 := Lib.hid x1
  clear AW
  go_wp2_with fail
  refine (NW.out _).mono ?_
  rintro e w5 ⟨g, mb, rfl, gg, gb0, s5, x5⟩
  have wg : w.heap.size ≤ g := Nat.le_trans x1.out.size gg
  have wb : w.heap.size ≤ mb := Nat.le_trans x1.out.size gb0
  have X5 := Lib.hid (x1.out.trans x5)
  replace s5 := Lib.hid s5
  clear NW x1 x5 gg gb0
  rcases Decidable.em (40 < len) with h40 | h40
  · have u1 : decide ((40 : Int) < (len : Int)) = true := decide_eq_true (by omega)
    go_wp2_with fail
    go_ret
    exact ⟨rfl, X5.out⟩
  have u1 : decide ((40 : Int) < (len : Int)) = false := decide_eq_false (by omega)
  rcases Decidable.em (40 < len') with m40 | m40
  · have u2 : decide ((40 : Int) < (len' : Int)) = true := decide_eq_true (by omega)
    go_wp2_with fail
    go_ret
    exact ⟨rfl, X5.out⟩
  have u2 : decide ((40 : Int) < (len' : Int)) = false := decide_eq_false (by omega)
  go_wp2_with fail
  go_loopw [7] (fun v wr => ∃ (i : Nat) (L : List Kp) (p : Int), i ≤ len ∧ v = .int .i64 (i : Int) ∧ SK wr g mb L p ∧ (L.length ≤ 8 ∧ p ≤ i ∧ ∀ x ∈ L, ∃ j, j < i ∧ hit LO j x) ∧ Ext w wr) (fun v _ => len - (intOf v).toNat)
  case atStart => exact ⟨0, [], 0, Nat.zero_le _, rfl, s5.out, ⟨Nat.zero_le _, Int.le_refl _, fun x hx => by cases hx⟩, X5.out⟩
  case round =>
    clear s5 X5
    obtain ⟨i, L, p, hi, rfl, sk, ⟨l8, pi, hL⟩, xr⟩ := hrel
    by_cases hlt : i < len
    · obtain ⟨b0, off, o, rfl, hoi, hok, oc⟩ := OA.out i hlt
      obtain ⟨od, pk, n, k⟩ := o
      obtain ⟨lpk, lk, hn⟩ := hok
      dsimp only at lpk lk hn oc
      have C_pk : (cellsOf pk).length = 32 := by rw [cellsOf_len, lpk]
      have C_k : (cellsOf k).length = 32 := by rw [cellsOf_len, lk]
      have T : Hid (∀ s, Two g mb wr.drew s → (∀ q v, (cellsOf pk)[q]? = some v → s.cell? ⟨b0, off + i * 66 + 1 + q, none⟩ = some v) ∧ s.cell? ⟨b0, off + i * 66 + 33, none⟩ = some (.int .i64 n) ∧ (∀ q v, (cellsOf k)[q]? = some v → s.cell? ⟨b0, off + i * 66 + 34 + q, none⟩ = some v)) := fun s e => (oc s (e.ext xr.drew wg wb)).2
      have PT := Lib.hid (sput_calls (sk.ext (Ext.refl wr).drew) lpk lk hn l8 (by omega))
      have HL : Hid (∀ x ∈ putR L ⟨pk, n, k, p⟩, ∃ j, j < i + 1 ∧ hit LO j x) := fun x hx => by
        rcases putR_mem hx with q | rfl
        · obtain ⟨j, h1, h2⟩ := hL x q
          exact ⟨j, by omega, h2⟩
        · exact ⟨i, by omega, _, hoi, rfl, rfl⟩
      have HP := putR_len (x := ⟨pk, n, k, p⟩) l8
      have hwi : IntKind.i64.wrap ((i : Int) + 1) = (i : Int) + 1 := IntWalk.i64_in _ (by omega)
      have xd := Lib.hid xr.drew
      clear oc sk hoi hL xr
      go_upto_region 8 with fail
      refine wp_region_seq (R := Two g mb) (Two.refl _ _) (fun _ _ _ => Two.trans) [0, 1, 2, 3, 4, 5, 6, 7, 8, 9, 10, 11, 12, 13, 14, 15, 16] [16] [(0, 43, 128), (0, 44, 2), (0, 45, 256), (6, 46, 52776558133248), (8, 47, 70368744177664), (16, 48, 140737488355328), (0, 49, 2), (0, 50, 256), (192, 51, 1688849860263936), (256, 52, 2251799813685248), (512, 53, 4503599627370496), (0, 54, 2), (0, 55, 256), (6144, 56, 54043195528445952), (8192, 57, 72057594037927936), (16384, 58, 144115188075855872), (33825, 59, 297527846476185600)] (by kernel_rfl) (by kernel_rfl) (by kernel_rfl) rfl (by kernel_rfl) (by kernel_rfl) (fun _ _ d _ _ h => by cases d <;> exact h) ?_
      generalize wr.drew = W at *
      repeat (first | (refine seq_read (fun _ => True) (fun _ _ => trivial) _ (v := ?_) rfl rfl (by rfl) ?_ ?_; rotate_left; (· intro w' hF; go_simp; (try with_reducible rfl)); simp only [Act.put, List.setIfInBounds_toArray, List.set_cons_zero, List.set_cons_succ]) | (refine seq_skip _ rfl rfl (by rfl) ?_; simp only [Act.put, List.setIfInBounds_toArray, List.set_cons_zero, List.set_cons_succ]))
      refine seq_read (fun w' => ∀ q_ v, (cellsOf pk)[q_]? = some v → w'.cell? ⟨b0, (off + i * 66 + 1) + q_, none⟩ = some v) (fun w' e => (T.out w' e).1) _ (v := .agg (cellsOf pk).toArray) rfl rfl (by rfl) (fun w' hF => exec_load_mid rfl rfl hF rfl rfl (by rw [C_pk]; rfl)) ?_
      simp only [Act.put, List.setIfInBounds_toArray, List.set_cons_zero, List.set_cons_succ]
      repeat (first | (refine seq_read _ (fun w' e => (T.out w' e).2.1) _ (v := ?_) rfl rfl (by rfl) ?_ ?_; rotate_left; (· intro w' hF; go_simp; (try with_reducible rfl)); simp only [Act.put, List.setIfInBounds_toArray, List.set_cons_zero, List.set_cons_succ]) | (refine seq_skip _ rfl rfl (by rfl) ?_; simp only [Act.put, List.setIfInBounds_toArray, List.set_cons_zero, List.set_cons_succ]))
      refine seq_read (fun w' => ∀ q_ v, (cellsOf k)[q_]? = some v → w'.cell? ⟨b0, (off + i * 66 + 34) + q_, none⟩ = some v) (fun w' e => (T.out w' e).2.2) _ (v := .agg (cellsOf k).toArray) rfl rfl (by rfl) (fun w' hF => exec_load_mid rfl rfl hF rfl rfl (by rw [C_k]; rfl)) ?_
      simp only [Act.put, List.setIfInBounds_toArray, List.set_cons_zero, List.set_cons_succ]
      refine seq_do _ rfl rfl (by rfl) (fun K hK => ?_)
      go_simp
      refine PT.out.mono ?_
      rintro e w6 ⟨rfl, ⟨p', p1, p2, _, _, s6⟩, t6⟩
      refine hK.out _ _ t6 ?_
      clear hK K
      try simp only [Act.put, List.setIfInBounds_toArray, List.set_cons_zero, List.set_cons_succ]
      repeat (first | (refine seq_read (fun _ => True) (fun _ _ => trivial) _ (v := ?_) rfl rfl (by rfl) ?_ ?_; rotate_left; (· intro w' hF; go_simp; (try with_reducible rfl)); simp only [Act.put, List.setIfInBounds_toArray, List.set_cons_zero, List.set_cons_succ]) | (refine seq_skip _ rfl rfl (by rfl) ?_; simp only [Act.put, List.setIfInBounds_toArray, List.set_cons_zero, List.set_cons_succ]))
      refine seq_done ?_
      have x6 := t6.ext xd.out wg wb
      clear T PT t6 xd
      go_wp2_with fail
      go_round
      case rel => exact ⟨i + 1, _, p', by omega, by go_num, s6, ⟨HP, by omega, HL.out⟩, x6⟩
      case measure => simp [intOf]; omega
    · obtain rfl : i = len := by omega
      clear hlt
      have LE := Lib.hid (slen_calls sk)
      have K0 : Hid (∀ s, Ext wr s → SK s g mb L p ∧ Ext w s) := fun s e => ⟨sk.ext e, xr.trans e⟩
      have gs := sk.cb.lt
      have ms := sk.mp.lt
      have p40 : p ≤ 40 := by omega
      replace hL := Lib.hid hL
      clear sk xr
      go_wp2_with fail
      refine LE.out.mono ?_
      rintro e w6 ⟨rfl, x6⟩
      obtain ⟨s6, y6⟩ := K0.out _ x6
      have gs6 := Nat.lt_of_lt_of_le gs x6.size
      have ms6 := Nat.lt_of_lt_of_le ms x6.size
      have CP := Lib.hid (scopy_calls s6 (by omega))
      replace y6 := Lib.hid y6
      clear LE K0 x6
      replace s6 := Lib.hid s6
      go_wp2_with fail
      refine CP.out.mono ?_
      rintro e w7 ⟨ga, ba, rfl, ga1, ba1, s7a, x7⟩
      have gas := s7a.cb.lt
      have bas := s7a.mp.lt
      have s7 := s6.out.ext x7
      have y7 := Lib.hid (y6.out.trans x7)
      replace s7 := Lib.hid s7
      replace s7a := Lib.hid s7a
      clear CP s6 y6 x7
      have CP := Lib.hid (scopy_calls s7.out (by omega))
      go_wp2_with fail
      refine CP.out.mono ?_
      rintro e w8 ⟨gb, bb, rfl, gb1, bb1, s8b, x8⟩
      have K8 : Hid (SK w8 ga ba L p ∧ SK w8 g mb L p ∧ SK w8 gb bb L p ∧ Ext w w8) := ⟨s7a.out.ext x8, s7.out.ext x8, s8b, y7.out.trans x8⟩
      have gsz : g < w7.heap.size := s7.out.cb.lt
      have msz : mb < w7.heap.size := s7.out.mp.lt
      have wga : w.heap.size ≤ ga := by omega
      have wba : w.heap.size ≤ ba := by omega
      have wgb : w.heap.size ≤ gb := by omega
      have wbb : w.heap.size ≤ bb := by omega
      clear CP s7 s7a y7 x8 s8b
      have n1 : g ≠ ga := by omega
      have n2 : g ≠ ba := by omega
      have n3 : mb ≠ ga := by omega
      have n4 : mb ≠ ba := by omega
      have n5 : gb ≠ ga := by omega
      have n6 : gb ≠ ba := by omega
      have n7 : bb ≠ ga := by omega
      have n8 : bb ≠ ba := by omega
      have n9 : g ≠ gb := by omega
      have nA : g ≠ bb := by omega
      have nB : mb ≠ gb := by omega
      have nC : mb ≠ bb := by omega
      clear gs ms gs6 ms6 ga1 ba1 gas bas gb1 bb1 gsz msz w6 w7
      go_wp2_with fail
      go_loopw [11] (fun v wr => ∃ (j : Nat) (L' : List Kp) (p' : Int), j ≤ len' ∧ v = .int .i64 (j : Int) ∧ SK wr ga ba L' p' ∧ (L'.length ≤ 8 ∧ p' ≤ 40 + j) ∧ SK wr g mb L p ∧ SK wr gb bb L p ∧ Ext w wr) (fun v _ => len' - (intOf v).toNat)
      case atStart => exact ⟨0, L, p, Nat.zero_le _, rfl, K8.out.1, ⟨l8, by omega⟩, K8.out.2⟩
      case round =>
        clear K8
        obtain ⟨j, L', p', hj, rfl, ska, ⟨la8, pa⟩, sk1, sk2, xr⟩ := hrel
        by_cases hlt : j < len'
        · obtain ⟨b0, off, o, rfl, _, hok, oc⟩ := OB.out j hlt
          obtain ⟨od, pk, n, k⟩ := o
          obtain ⟨lpk, lk, hn⟩ := hok
          dsimp only at lpk lk hn oc
          have C_pk : (cellsOf pk).length = 32 := by rw [cellsOf_len, lpk]
          have C_k : (cellsOf k).length = 32 := by rw [cellsOf_len, lk]
          have cd := (oc wr xr).1
          have T : Hid (∀ s, Two ga ba wr.drew s → (∀ q v, (cellsOf pk)[q]? = some v → s.cell? ⟨b0, off + j * 66 + 1 + q, none⟩ = some v) ∧ s.cell? ⟨b0, off + j * 66 + 33, none⟩ = some (.int .i64 n) ∧ (∀ q v, (cellsOf k)[q]? = some v → s.cell? ⟨b0, off + j * 66 + 34 + q, none⟩ = some v)) := fun s e => (oc s (e.ext xr.drew wga wba)).2
          have hwj : IntKind.i64.wrap ((j : Int) + 1) = (j : Int) + 1 := IntWalk.i64_in _ (by omega)
          have xd := Lib.hid xr.drew
          have AF : Hid (∀ s, Two ga ba wr.drew s → SK s g mb L p ∧ SK s gb bb L p) := fun s e => ⟨(sk1.ext (Ext.refl wr).drew).two e n1 n2 n3 n4, (sk2.ext (Ext.refl wr).drew).two e n5 n6 n7 n8⟩
          have skd := Lib.hid (ska.ext (Ext.refl wr).drew)
          clear oc ska xr sk1 sk2
          rcases Decidable.em (od = 2) with h2 | h2
          · have u3 : (od == 2) = true := by rw [h2]; rfl
            have TK := Lib.hid (stake_calls skd.out lpk hn)
            replace h2 := Lib.hid h2
            go_upto_region 18 with fail
            refine wp_region_seq (R := Two ga ba) (Two.refl _ _) (fun _ _ _ => Two.trans) [0, 1, 2, 3, 4, 5, 6, 7, 8, 9, 10, 11] [11] [(0, 84, 1024), (0, 85, 4), (0, 86, 4096), (6, 87, 116056878683004400771792896), (8, 88, 154742504910672534362390528), (16, 89, 309485009821345068724781056), (0, 90, 4), (0, 91, 4096), (192, 92, 3713820117856140824697372672), (256, 93, 4951760157141521099596496896), (512, 94, 9903520314283042199192993792), (1057, 95, 20445353461322608602630848512)] (by kernel_rfl) (by kernel_rfl) (by kernel_rfl) rfl (by kernel_rfl) (by kernel_rfl) (fun _ _ d _ _ h => by cases d <;> exact h) ?_
            generalize wr.drew = W at *
            repeat (first | (refine seq_read (fun _ => True) (fun _ _ => trivial) _ (v := ?_) rfl rfl (by rfl) ?_ ?_; rotate_left; (· intro w' hF; go_simp; (try with_reducible rfl)); simp only [Act.put, List.setIfInBounds_toArray, List.set_cons_zero, List.set_cons_succ]) | (refine seq_skip _ rfl rfl (by rfl) ?_; simp only [Act.put, List.setIfInBounds_toArray, List.set_cons_zero, List.set_cons_succ]))
            refine seq_read (fun w' => ∀ q_ v, (cellsOf pk)[q_]? = some v → w'.cell? ⟨b0, (off + j * 66 + 1) + q_, none⟩ = some v) (fun w' e => (T.out w' e).1) _ (v := .agg (cellsOf pk).toArray) rfl rfl (by rfl) (fun w' hF => exec_load_mid rfl rfl hF rfl rfl (by rw [C_pk]; rfl)) ?_
            simp only [Act.put, List.setIfInBounds_toArray, List.set_cons_zero, List.set_cons_succ]
            repeat (first | (refine seq_read _ (fun w' e => (T.out w' e).2.1) _ (v := ?_) rfl rfl (by rfl) ?_ ?_; rotate_left; (· intro w' hF; go_simp; (try with_reducible rfl)); simp only [Act.put, List.setIfInBounds_toArray, List.set_cons_zero, List.set_cons_succ]) | (refine seq_skip _ rfl rfl (by rfl) ?_; simp only [Act.put, List.setIfInBounds_toArray, List.set_cons_zero, List.set_cons_succ]))
            refine seq_do _ rfl rfl (by rfl) (fun K hK => ?_)
            go_simp
            refine TK.out.mono ?_
            rintro e w6 ⟨rfl, s6, t6⟩
            refine hK.out _ _ t6 ?_
            clear hK K
            try simp only [Act.put, List.setIfInBounds_toArray, List.set_cons_zero, List.set_cons_succ]
            repeat (first | (refine seq_read (fun _ => True) (fun _ _ => trivial) _ (v := ?_) rfl rfl (by rfl) ?_ ?_; rotate_left; (· intro w' hF; go_simp; (try with_reducible rfl)); simp only [Act.put, List.setIfInBounds_toArray, List.set_cons_zero, List.set_cons_succ]) | (refine seq_skip _ rfl rfl (by rfl) ?_; simp only [Act.put, List.setIfInBounds_toArray, List.set_cons_zero, List.set_cons_succ]))
            refine seq_done ?_
            have x6 := t6.ext xd.out wga wba
            obtain ⟨a1, a2⟩ := AF.out _ t6
            clear T TK t6 xd AF skd
            have HP := Nat.le_trans (takeL_len (L := L') (pk := pk) (n := n)) la8
            go_wp2_with fail
            go_round
            case rel => exact ⟨j + 1, _, p', by omega, by go_num, s6, ⟨HP, by omega⟩, a1, a2, x6⟩
            case measure => simp [intOf]; omega
          · have u3 : (od == 2) = false := by simpa using h2
            have PT := Lib.hid (sput_calls skd.out lpk lk hn la8 (by omega))
            replace h2 := Lib.hid h2
            go_upto_region 19 with fail
            refine wp_region_seq (R := Two ga ba) (Two.refl _ _) (fun _ _ _ => Two.trans) [0, 1, 2, 3, 4, 5, 6, 7, 8, 9, 10, 11, 12, 13, 14, 15, 16] [16] [(0, 96, 1024), (0, 97, 4), (0, 98, 4096), (6, 99, 475368975085586025561263702016), (8, 100, 633825300114114700748351602688), (16, 101, 1267650600228229401496703205376), (0, 102, 4), (0, 103, 4096), (192, 104, 15211807202738752817960438464512), (256, 105, 20282409603651670423947251286016), (512, 106, 40564819207303340847894502572032), (0, 107, 4), (0, 108, 4096), (6144, 109, 486777830487640090174734030864384), (8192, 110, 649037107316853453566312041152512), (16384, 111, 1298074214633706907132624082305024), (33825, 112, 2679892597044991219101624120115200)] (by kernel_rfl) (by kernel_rfl) (by kernel_rfl) rfl (by kernel_rfl) (by kernel_rfl) (fun _ _ d _ _ h => by cases d <;> exact h) ?_
            generalize wr.drew = W at *
            repeat (first | (refine seq_read (fun _ => True) (fun _ _ => trivial) _ (v := ?_) rfl rfl (by rfl) ?_ ?_; rotate_left; (· intro w' hF; go_simp; (try with_reducible rfl)); simp only [Act.put, List.setIfInBounds_toArray, List.set_cons_zero, List.set_cons_succ]) | (refine seq_skip _ rfl rfl (by rfl) ?_; simp only [Act.put, List.setIfInBounds_toArray, List.set_cons_zero, List.set_cons_succ]))
            refine seq_read (fun w' => ∀ q_ v, (cellsOf pk)[q_]? = some v → w'.cell? ⟨b0, (off + j * 66 + 1) + q_, none⟩ = some v) (fun w' e => (T.out w' e).1) _ (v := .agg (cellsOf pk).toArray) rfl rfl (by rfl) (fun w' hF => exec_load_mid rfl rfl hF rfl rfl (by rw [C_pk]; rfl)) ?_
            simp only [Act.put, List.setIfInBounds_toArray, List.set_cons_zero, List.set_cons_succ]
            repeat (first | (refine seq_read _ (fun w' e => (T.out w' e).2.1) _ (v := ?_) rfl rfl (by rfl) ?_ ?_; rotate_left; (· intro w' hF; go_simp; (try with_reducible rfl)); simp only [Act.put, List.setIfInBounds_toArray, List.set_cons_zero, List.set_cons_succ]) | (refine seq_skip _ rfl rfl (by rfl) ?_; simp only [Act.put, List.setIfInBounds_toArray, List.set_cons_zero, List.set_cons_succ]))
            refine seq_read (fun w' => ∀ q_ v, (cellsOf k)[q_]? = some v → w'.cell? ⟨b0, (off + j * 66 + 34) + q_, none⟩ = some v) (fun w' e => (T.out w' e).2.2) _ (v := .agg (cellsOf k).toArray) rfl rfl (by rfl) (fun w' hF => exec_load_mid rfl rfl hF rfl rfl (by rw [C_k]; rfl)) ?_
            simp only [Act.put, List.setIfInBounds_toArray, List.set_cons_zero, List.set_cons_succ]
            refine seq_do _ rfl rfl (by rfl) (fun K hK => ?_)
            go_simp
            refine PT.out.mono ?_
            rintro e w6 ⟨rfl, ⟨pz, z1, z2, _, _, s6⟩, t6⟩
            refine hK.out _ _ t6 ?_
            clear hK K
            try simp only [Act.put, List.setIfInBounds_toArray, List.set_cons_zero, List.set_cons_succ]
            repeat (first | (refine seq_read (fun _ => True) (fun _ _ => trivial) _ (v := ?_) rfl rfl (by rfl) ?_ ?_; rotate_left; (· intro w' hF; go_simp; (try with_reducible rfl)); simp only [Act.put, List.setIfInBounds_toArray, List.set_cons_zero, List.set_cons_succ]) | (refine seq_skip _ rfl rfl (by rfl) ?_; simp only [Act.put, List.setIfInBounds_toArray, List.set_cons_zero, List.set_cons_succ]))
            refine seq_done ?_
            have x6 := t6.ext xd.out wga wba
            obtain ⟨a1, a2⟩ := AF.out _ t6
            clear T PT t6 xd AF skd
            have HP := putR_len (x := ⟨pk, n, k, p'⟩) la8
            go_wp2_with fail
            go_round
            case rel => exact ⟨j + 1, _, pz, by omega, by go_num, s6, ⟨HP, by omega⟩, a1, a2, x6⟩
            case measure => simp [intOf]; omega
        · obtain rfl : j = len' := by omega
          clear hlt ska OB
          have LE := Lib.hid (slen_calls sk1)
          have K0 : Hid (∀ s, Ext wr s → SK s g mb L p ∧ SK s gb bb L p ∧ Ext w s) := fun s e => ⟨sk1.ext e, sk2.ext e, xr.trans e⟩
          clear sk1 sk2 xr
          have hnn : ((L.length : Int) != (L.length : Int)) = false := by simp
          go_wp2_with fail
          refine LE.out.mono ?_
          rintro e v1 ⟨rfl, y1⟩
          have K1 := K0.out _ y1
          have LE := Lib.hid (slen_calls K1.2.1)
          have K2 : Hid (∀ s, Ext v1 s → SK s g mb L p ∧ SK s gb bb L p ∧ Ext w s) := fun s e => ⟨K1.1.ext e, K1.2.1.ext e, K1.2.2.trans e⟩
          clear K0 K1 y1
          go_wp2_with fail
          refine LE.out.mono ?_
          rintro e v2 ⟨rfl, y2⟩
          have K3 := Lib.hid (K2.out _ y2)
          clear K2 y2 LE
          go_wp2_with fail
          go_loopw [12] (fun v wr => ∃ (t : Nat) (Li : List Kp), t ≤ i ∧ v = .int .i64 (t : Int) ∧ SK wr g mb Li p ∧ SK wr gb bb Li p ∧ (∀ x ∈ Li, ∃ j, t ≤ j ∧ j < i ∧ hit LO j x) ∧ Ext w wr) (fun v _ => i - (intOf v).toNat)
          case atStart => exact ⟨0, L, Nat.zero_le _, rfl, K3.out.1, K3.out.2.1, (fun x hx => by obtain ⟨j, h1, h2⟩ := hL.out x hx; exact ⟨j, Nat.zero_le _, h1, h2⟩), K3.out.2.2⟩
          case round =>
            clear K3 hL
            obtain ⟨t, Li, hti, rfl, sk1, sk2, hLi, xr⟩ := hrel
            by_cases hlt : t < i
            · obtain ⟨b0, off, o, rfl, hot, hok, oc⟩ := OA.out t hlt
              obtain ⟨od, pk, n, k⟩ := o
              obtain ⟨lpk, lk, hn⟩ := hok
              dsimp only at lpk lk hn oc
              have C_pk : (cellsOf pk).length = 32 := by rw [cellsOf_len, lpk]
              have OC := Lib.hid oc
              obtain ⟨is, his⟩ : ∃ q, q = hasK Li pk n := ⟨_, rfl⟩
              obtain ⟨kk, hkk⟩ : ∃ q, q = (theK Li pk n).k := ⟨_, rfl⟩
              obtain ⟨L2, hL2⟩ : ∃ q, q = takeL Li pk n := ⟨_, rfl⟩
              have lkk : kk.length = 32 := by rw [hkk]; exact theK_k sk1.ok
              have S_kk : (cellsOf kk).toArray.size = 32 := by simp [cellsOf_len, lkk]
              have O_kk := one_cells (one_mem kk)
              have HL2 : Hid (∀ x ∈ L2, ∃ j, t + 1 ≤ j ∧ j < i ∧ hit LO j x) := fun x hx => by
                rw [hL2] at hx
                obtain ⟨h1, h2⟩ := List.mem_filter.1 hx
                obtain ⟨j, j1, j2, j3⟩ := hLi x h1
                refine ⟨j, ?_, j2, j3⟩
                rcases Nat.lt_or_ge t j with q | q
                · omega
                · obtain rfl : j = t := by omega
                  obtain ⟨o', e1, e2, e3⟩ := j3
                  rw [hot] at e1
                  obtain rfl := Option.some.inj e1
                  rw [Kp.at_iff.2 ⟨e2.symm, e3.symm⟩] at h2
                  cases h2
              have gl1 := sk1.cb.lt
              have ml1 := sk1.mp.lt
              have gl2 := sk2.cb.lt
              have ml2 := sk2.mp.lt
              replace his := Lib.hid his
              replace hkk := Lib.hid hkk
              replace hL2 := Lib.hid hL2
              replace xr := Lib.hid xr
              replace sk1 := Lib.hid sk1
              replace sk2 := Lib.hid sk2
              clear oc hot hLi lk
              go_upto_region 25 with fail
              apply wp_partT (F := fun r W => Cb W r 31 (cellsOf kk) ∧ wr.heap.size ≤ r ∧ SK W g mb L2 p ∧ Tw wr.heap.size g mb wr W)
              · skip
                have T : Hid (∀ s, Tw wr.heap.size g mb wr.drew s → (∀ q v, (cellsOf pk)[q]? = some v → s.cell? ⟨b0, off + t * 66 + 1 + q, none⟩ = some v) ∧ s.cell? ⟨b0, off + t * 66 + 33, none⟩ = some (.int .i64 n)) := fun s e => by
                  have q := OC.out s (Tw.ext xr.out.drew e xr.out.size (by omega) (by omega))
                  exact ⟨q.2.1, q.2.2.1⟩
                have X : Hid (Tw wr.heap.size g mb wr wr.drew) := Tw.of_ext (Ext.refl wr).drew (Nat.le_refl _)
                have z0 : wr.heap.size ≤ wr.drew.heap.size := Nat.le_refl _
                have S1 : Hid (SK wr.drew g mb Li p) := sk1.out.ext (Ext.refl wr).drew
                refine wp_region_tree (R := Tw wr.heap.size g mb) (Tw.refl _ _ _) (fun _ _ _ => Tw.trans) (.rd 0 (.rd 1 (.rd 2 (.rd 3 (.rd 4 (.rd 5 (.rd 6 (.rd 7 (.rd 8 (.rd 9 (.rd 10 (.alt 11 (.rd 12 (.rd 13 (.rd 14 (.alt 15 (.alt 16 (.rd 17 .nil) .stop) .stop)))) (.alt 15 (.alt 11 (.rd 12 (.rd 13 (.rd 14 (.alt 16 (.rd 17 .nil) .stop)))) .stop) .stop))))))))))))) [(0, 130, 128), (0, 131, 2), (0, 132, 8192), (6, 133, 8166776806102523123120990578362437074944), (8, 134, 10889035741470030830827987437816582766592), (16, 135, 21778071482940061661655974875633165533184), (0, 136, 2), (0, 137, 8192), (192, 138, 261336857795280739939871698507597986398208), (256, 139, 348449143727040986586495598010130648530944), (512, 140, 696898287454081973172991196020261297061888), (1057, 141, 1438713847341727823523147840221515998035968), (2048, 129, 2787593149816327892691964784081045188247552), (4096, 142, 680564733841876926926749214863536422912), (4096, 143, 680564733841876926926749214863536422912), (0, 14, 0), (49151, 0, 5575186299632655785383929568162090376511488), (131071, 15, 11150372599265311570767859136324180752990208)] 18 (by kernel_rfl) (by kernel_rfl) (by kernel_rfl) rfl (by kernel_rfl) (by kernel_rfl) (fun _ _ _ _ _ h => absurd h.1 (fun q => by cases q)) ?_
                generalize wr.drew = WC at *
                repeat (first | (refine seqT_read (fun _ => True) (fun _ _ => trivial) _ (v := ?_) rfl ?_ ?_ ?_; rotate_left; (· rfl); (· intro w' hF; go_simp; (try with_reducible rfl)); simp only [Act.put, List.setIfInBounds_toArray, List.set_cons_zero, List.set_cons_succ]) | (refine seqT_skip _ rfl ?_ ?_; (· rfl); simp only [Act.put, List.setIfInBounds_toArray, List.set_cons_zero, List.set_cons_succ]))
                refine seqT_read (fun s' => ∀ q v, (cellsOf pk)[q]? = some v → s'.cell? ⟨b0, off + t * 66 + 1 + q, none⟩ = some v) (fun s' e => (T.out s' e).1) _ (v := .agg (cellsOf pk).toArray) rfl (by rfl) (fun s' hs' => exec_load_mid rfl rfl hs' rfl rfl (by rw [C_pk]; rfl)) ?_
                simp only [Act.put, List.setIfInBounds_toArray, List.set_cons_zero, List.set_cons_succ]
                repeat (first | (refine seqT_read _ (fun w' e => (T.out w' e).2) _ (v := ?_) rfl ?_ ?_ ?_; rotate_left; (· rfl); (· intro w' hF; go_simp; (try with_reducible rfl)); simp only [Act.put, List.setIfInBounds_toArray, List.set_cons_zero, List.set_cons_succ]) | (refine seqT_skip _ rfl ?_ ?_; (· rfl); simp only [Act.put, List.setIfInBounds_toArray, List.set_cons_zero, List.set_cons_succ]))
                clear T
                repeat' (first
                  | exact seqT_stop
                  | (refine seqT_do (i := 11) _ rfl ?_ ?_ (fun K1 hK1 => ?_)
                     (· rfl)
                     rotate_left
                     go_simp
                     refine (stake_calls S1.out lpk hn).mono ?_
                     rintro e0 WD ⟨rfl, s2, t2⟩
                     rw [← hkk.out, ← his.out]
                     refine hK1.out _ _ (Tw.of_two t2 z0) ?_
                     clear hK1 K1
                     (try replace hA := Lib.hid (t2.block hA.out (by omega) (by omega)))
                     replace X := Lib.hid (X.out.trans (Tw.of_two t2 z0))
                     have z1 := Nat.le_trans z0 t2.2.2.2.1
                     rw [← hL2.out] at s2
                     have S2 := Lib.hid s2
                     clear z0 s2 t2 S1
                     have z0 := z1
                     clear z1 WC
                     generalize WD = WC at *
                     (try simp only [Act.put, List.setIfInBounds_toArray, List.set_cons_zero, List.set_cons_succ])
                     repeat (first | (refine seqT_read (fun _ => True) (fun _ _ => trivial) _ (v := ?_) rfl ?_ ?_ ?_; rotate_left; (· rfl); (· intro w' hF; go_simp; (try with_reducible rfl)); simp only [Act.put, List.setIfInBounds_toArray, List.set_cons_zero, List.set_cons_succ]) | (refine seqT_skip _ rfl ?_ ?_; (· rfl); simp only [Act.put, List.setIfInBounds_toArray, List.set_cons_zero, List.set_cons_succ]))
                     skip)
                  | (refine seqT_do (i := 15) _ rfl ?_ ?_ (fun K1 hK1 => ?_)
                     (· rfl)
                     rotate_left
                     go_simp
                     have e : Ext WC (WC.alloc (Obj.cells (cellsOf z).toArray 31)) := (Ext.refl WC).alloc _
                     obtain ⟨g6, hg6⟩ : ∃ g, g = WC.heap.size := ⟨_, rfl⟩
                     have hA' := Lib.hid (heap_alloc_new WC (Obj.cells (cellsOf z).toArray 31))
                     rw [← hg6] at hA' ⊢
                     have lg6 : wr.heap.size ≤ g6 := by rw [hg6]; exact z0
                     refine hK1.out _ (WC.alloc (Obj.cells (cellsOf z).toArray 31)) (Tw.of_ext e z0) ?_
                     clear hK1 K1
                     replace X := Lib.hid (X.out.trans (Tw.of_ext e z0))
                     (try replace S1 := Lib.hid (S1.out.ext e))
                     (try replace S2 := Lib.hid (S2.out.ext e))
                     have z1 := Nat.le_trans z0 e.size
                     clear z0 e
                     have z0 := z1
                     clear z1
                     have hA := hA'
                     clear hA'
                     replace hg6 := Lib.hid hg6
                     generalize WC.alloc (Obj.cells (cellsOf z).toArray 31) = WC at *
                     (try simp only [Act.put, List.setIfInBounds_toArray, List.set_cons_zero, List.set_cons_succ])
                     repeat (first | (refine seqT_read (fun _ => True) (fun _ _ => trivial) _ (v := ?_) rfl ?_ ?_ ?_; rotate_left; (· rfl); (· intro w' hF; go_simp; (try with_reducible rfl)); simp only [Act.put, List.setIfInBounds_toArray, List.set_cons_zero, List.set_cons_succ]) | (refine seqT_skip _ rfl ?_ ?_; (· rfl); simp only [Act.put, List.setIfInBounds_toArray, List.set_cons_zero, List.set_cons_succ]))
                     skip)
                  | (refine seqT_do (i := 16) _ rfl ?_ ?_ (fun K1 hK1 => ?_)
                     (· rfl)
                     rotate_left
                     refine wp_store_row _ _ _ rfl g6 (cellsOf kk).toArray rfl rfl 31 (cellsOf z).toArray hA.out (by rw [S_kk]; rfl) (by rw [S_kk, S_z]) O_kk ?_
                     refine hK1.out _ _ (Tw.row _ _ lg6) ?_
                     clear hK1 K1
                     (try simp only [Act.put, List.setIfInBounds_toArray, List.set_cons_zero, List.set_cons_succ])
                     repeat (first | (refine seqT_read (fun _ => True) (fun _ _ => trivial) _ (v := ?_) rfl ?_ ?_ ?_; rotate_left; (· rfl); (· intro w' hF; go_simp; (try with_reducible rfl)); simp only [Act.put, List.setIfInBounds_toArray, List.set_cons_zero, List.set_cons_succ]) | (refine seqT_skip _ rfl ?_ ?_; (· rfl); simp only [Act.put, List.setIfInBounds_toArray, List.set_cons_zero, List.set_cons_succ]))
                     refine seqT_done ?_
                     exact ⟨rfl, g6, rfl, setRow_heap _ _ _ _ _ _ hA.out, lg6, S2.out.stay (setRow_other _ _ _ _ (by omega)) (setRow_other _ _ _ _ (by omega)), X.out.trans (Tw.row _ _ lg6)⟩))
              intro W6 r13 ⟨k13, lr13, s6, tw⟩
              (try dsimp only)
              have s6b : SK W6 gb bb Li p := sk2.out.stay (tw.2.2.2.2 gb gl2 (fun q => n9 q.symm) (fun q => nB q.symm)) (tw.2.2.2.2 bb ml2 (fun q => nA q.symm) (fun q => nC q.symm))
              have x6 := Lib.hid (tw.ext xr.out xr.out.size wg wb)
              have l13 := k13.lt
              have gl3 := s6b.cb.lt
              have ml3 := s6b.mp.lt
              replace s6b := Lib.hid s6b
              replace k13 := Lib.hid k13
              replace s6 := Lib.hid s6
              have gl4 : g < W6.heap.size := s6.out.cb.lt
              have ml4 : mb < W6.heap.size := s6.out.mp.lt
              clear tw sk1 sk2 xr
              go_upto_region 26 with fail
              apply wp_partT (F := fun r W => Cb W r 31 (cellsOf kk) ∧ W6.heap.size ≤ r ∧ SK W gb bb L2 p ∧ Tw W6.heap.size gb bb W6 W)
              · skip
                have T : Hid (∀ s, Tw W6.heap.size gb bb W6.drew s → (∀ q v, (cellsOf pk)[q]? = some v → s.cell? ⟨b0, off + t * 66 + 1 + q, none⟩ = some v) ∧ s.cell? ⟨b0, off + t * 66 + 33, none⟩ = some (.int .i64 n)) := fun s e => by
                  have q := OC.out s (Tw.ext x6.out.drew e x6.out.size (by omega) (by omega))
                  exact ⟨q.2.1, q.2.2.1⟩
                have X : Hid (Tw W6.heap.size gb bb W6 W6.drew) := Tw.of_ext (Ext.refl W6).drew (Nat.le_refl _)
                have z0 : W6.heap.size ≤ W6.drew.heap.size := Nat.le_refl _
                have S1 : Hid (SK W6.drew gb bb Li p) := s6b.out.ext (Ext.refl W6).drew
                refine wp_region_tree (R := Tw W6.heap.size gb bb) (Tw.refl _ _ _) (fun _ _ _ => Tw.trans) (.rd 0 (.rd 1 (.rd 2 (.rd 3 (.rd 4 (.rd 5 (.rd 6 (.rd 7 (.rd 8 (.rd 9 (.rd 10 (.alt 11 (.rd 12 (.rd 13 (.rd 14 (.alt 15 (.alt 16 (.rd 17 .nil) .stop) .stop)))) (.alt 15 (.alt 11 (.rd 12 (.rd 13 (.rd 14 (.alt 16 (.rd 17 .nil) .stop)))) .stop) .stop))))))))))))) [(0, 145, 2048), (0, 146, 2), (0, 147, 8192), (6, 148, 267608942382367477698428619271780338071764992), (8, 149, 356811923176489970264571492362373784095686656), (16, 150, 713623846352979940529142984724747568191373312), (0, 151, 2), (0, 152, 8192), (192, 153, 8563486156235759286349715816696970818296479744), (256, 154, 11417981541647679048466287755595961091061972992), (512, 155, 22835963083295358096932575511191922182123945984), (1057, 156, 47143775349693737321206508428378636223642599424), (2048, 144, 91343852333181432387730302044767688728495783936), (4096, 157, 22300745198530623141535718272648361505980416), (4096, 158, 22300745198530623141535718272648361505980416), (0, 16, 0), (49151, 0, 182687704666362864775460604089535377456991633408), (131071, 17, 365375409332725729550921208179070754913983135744)] 18 (by kernel_rfl) (by kernel_rfl) (by kernel_rfl) rfl (by kernel_rfl) (by kernel_rfl) (fun _ _ _ _ _ h => absurd h.1 (fun q => by cases q)) ?_
                generalize W6.drew = WC at *
                repeat (first | (refine seqT_read (fun _ => True) (fun _ _ => trivial) _ (v := ?_) rfl ?_ ?_ ?_; rotate_left; (· rfl); (· intro w' hF; go_simp; (try with_reducible rfl)); simp only [Act.put, List.setIfInBounds_toArray, List.set_cons_zero, List.set_cons_succ]) | (refine seqT_skip _ rfl ?_ ?_; (· rfl); simp only [Act.put, List.setIfInBounds_toArray, List.set_cons_zero, List.set_cons_succ]))
                refine seqT_read (fun s' => ∀ q v, (cellsOf pk)[q]? = some v → s'.cell? ⟨b0, off + t * 66 + 1 + q, none⟩ = some v) (fun s' e => (T.out s' e).1) _ (v := .agg (cellsOf pk).toArray) rfl (by rfl) (fun s' hs' => exec_load_mid rfl rfl hs' rfl rfl (by rw [C_pk]; rfl)) ?_
                simp only [Act.put, List.setIfInBounds_toArray, List.set_cons_zero, List.set_cons_succ]
                repeat (first | (refine seqT_read _ (fun w' e => (T.out w' e).2) _ (v := ?_) rfl ?_ ?_ ?_; rotate_left; (· rfl); (· intro w' hF; go_simp; (try with_reducible rfl)); simp only [Act.put, List.setIfInBounds_toArray, List.set_cons_zero, List.set_cons_succ]) | (refine seqT_skip _ rfl ?_ ?_; (· rfl); simp only [Act.put, List.setIfInBounds_toArray, List.set_cons_zero, List.set_cons_succ]))
                clear T
                repeat' (first
                  | exact seqT_stop
                  | (refine seqT_do (i := 11) _ rfl ?_ ?_ (fun K1 hK1 => ?_)
                     (· rfl)
                     rotate_left
                     go_simp
                     refine (stake_calls S1.out lpk hn).mono ?_
                     rintro e0 WD ⟨rfl, s2, t2⟩
                     rw [← hkk.out, ← his.out]
                     refine hK1.out _ _ (Tw.of_two t2 z0) ?_
                     clear hK1 K1
                     (try replace hA := Lib.hid (t2.block hA.out (by omega) (by omega)))
                     replace X := Lib.hid (X.out.trans (Tw.of_two t2 z0))
                     have z1 := Nat.le_trans z0 t2.2.2.2.1
                     rw [← hL2.out] at s2
                     have S2 := Lib.hid s2
                     clear z0 s2 t2 S1
                     have z0 := z1
                     clear z1 WC
                     generalize WD = WC at *
                     (try simp only [Act.put, List.setIfInBounds_toArray, List.set_cons_zero, List.set_cons_succ])
                     repeat (first | (refine seqT_read (fun _ => True) (fun _ _ => trivial) _ (v := ?_) rfl ?_ ?_ ?_; rotate_left; (· rfl); (· intro w' hF; go_simp; (try with_reducible rfl)); simp only [Act.put, List.setIfInBounds_toArray, List.set_cons_zero, List.set_cons_succ]) | (refine seqT_skip _ rfl ?_ ?_; (· rfl); simp only [Act.put, List.setIfInBounds_toArray, List.set_cons_zero, List.set_cons_succ]))
                     skip)
                  | (refine seqT_do (i := 15) _ rfl ?_ ?_ (fun K1 hK1 => ?_)
                     (· rfl)
                     rotate_left
                     go_simp
                     have e : Ext WC (WC.alloc (Obj.cells (cellsOf z).toArray 31)) := (Ext.refl WC).alloc _
                     obtain ⟨g6, hg6⟩ : ∃ g, g = WC.heap.size := ⟨_, rfl⟩
                     have hA' := Lib.hid (heap_alloc_new WC (Obj.cells (cellsOf z).toArray 31))
                     rw [← hg6] at hA' ⊢
                     have lg6 : W6.heap.size ≤ g6 := by rw [hg6]; exact z0
                     refine hK1.out _ (WC.alloc (Obj.cells (cellsOf z).toArray 31)) (Tw.of_ext e z0) ?_
                     clear hK1 K1
                     replace X := Lib.hid (X.out.trans (Tw.of_ext e z0))
                     (try replace S1 := Lib.hid (S1.out.ext e))
                     (try replace S2 := Lib.hid (S2.out.ext e))
                     have z1 := Nat.le_trans z0 e.size
                     clear z0 e
                     have z0 := z1
                     clear z1
                     have hA := hA'
                     clear hA'
                     replace hg6 := Lib.hid hg6
                     generalize WC.alloc (Obj.cells (cellsOf z).toArray 31) = WC at *
                     (try simp only [Act.put, List.setIfInBounds_toArray, List.set_cons_zero, List.set_cons_succ])
                     repeat (first | (refine seqT_read (fun _ => True) (fun _ _ => trivial) _ (v := ?_) rfl ?_ ?_ ?_; rotate_left; (· rfl); (· intro w' hF; go_simp; (try with_reducible rfl)); simp only [Act.put, List.setIfInBounds_toArray, List.set_cons_zero, List.set_cons_succ]) | (refine seqT_skip _ rfl ?_ ?_; (· rfl); simp only [Act.put, List.setIfInBounds_toArray, List.set_cons_zero, List.set_cons_succ]))
                     skip)
                  | (refine seqT_do (i := 16) _ rfl ?_ ?_ (fun K1 hK1 => ?_)
                     (· rfl)
                     rotate_left
                     refine wp_store_row _ _ _ rfl g6 (cellsOf kk).toArray rfl rfl 31 (cellsOf z).toArray hA.out (by rw [S_kk]; rfl) (by rw [S_kk, S_z]) O_kk ?_
                     refine hK1.out _ _ (Tw.row _ _ lg6) ?_
                     clear hK1 K1
                     (try simp only [Act.put, List.setIfInBounds_toArray, List.set_cons_zero, List.set_cons_succ])
                     repeat (first | (refine seqT_read (fun _ => True) (fun _ _ => trivial) _ (v := ?_) rfl ?_ ?_ ?_; rotate_left; (· rfl); (· intro w' hF; go_simp; (try with_reducible rfl)); simp only [Act.put, List.setIfInBounds_toArray, List.set_cons_zero, List.set_cons_succ]) | (refine seqT_skip _ rfl ?_ ?_; (· rfl); simp only [Act.put, List.setIfInBounds_toArray, List.set_cons_zero, List.set_cons_succ]))
                     refine seqT_done ?_
                     exact ⟨rfl, g6, rfl, setRow_heap _ _ _ _ _ _ hA.out, lg6, S2.out.stay (setRow_other _ _ _ _ (by omega)) (setRow_other _ _ _ _ (by omega)), X.out.trans (Tw.row _ _ lg6)⟩))
              intro W7 r15 ⟨k15, lr15, s7, tw⟩
              (try dsimp only)
              have s7a : SK W7 g mb L2 p := s6.out.stay (tw.2.2.2.2 g gl4 n9 nA) (tw.2.2.2.2 mb ml4 nB nC)
              have x7 := tw.ext x6.out x6.out.size wgb wbb
              have k13' : Cb W7 r13 31 (cellsOf kk) := tw.block k13.out l13 (by omega) (by omega)
              clear tw s6 s6b x6 k13
              have k13 := Lib.hid k13'
              replace k15 := Lib.hid k15
              replace s7 := Lib.hid s7
              replace s7a := Lib.hid s7a
              replace x7 := Lib.hid x7
              clear k13'
              have hbb : (is != is) = false := by cases is <;> rfl
              have hwt : IntKind.i64.wrap ((t : Int) + 1) = (t : Int) + 1 := IntWalk.i64_in _ (by omega)
              go_wp2_with (first
                | ((with_reducible refine wpList_load_rowW (o := ⟨some 158, _, _, _, _, _⟩) ?_ 31 _ rfl r13 ?_ 31 (cellsOf kk).toArray (0, 0) _ ?_ Try.underlying31 ?_ ?_ ?_); (· rfl); (· rfl); (· exact k13.out); (· rfl); (· rw [S_kk]; rfl); simp only [Act.put, List.setIfInBounds_toArray, List.set_cons_zero, List.set_cons_succ])
                | ((with_reducible refine wpList_load_rowW (o := ⟨some 159, _, _, _, _, _⟩) ?_ 31 _ rfl r15 ?_ 31 (cellsOf kk).toArray (0, 0) _ ?_ Try.underlying31 ?_ ?_ ?_); (· rfl); (· rfl); (· exact k15.out); (· rfl); (· rw [S_kk]; rfl); simp only [Act.put, List.setIfInBounds_toArray, List.set_cons_zero, List.set_cons_succ])
                | ((with_reducible refine wpList_neq_keyB (o := ⟨some 160, _, _, _, _, _⟩) ?_ _ _ _ rfl kk kk false ?_ ?_ ?_ lkk lkk ?_); (· rfl); (· exact (by rw [decide_eq_true rfl]; rfl)); (· rfl); (· rfl); simp only [Act.put, List.setIfInBounds_toArray, List.set_cons_zero, List.set_cons_succ]))
              go_round
              case rel => exact ⟨t + 1, L2, by omega, by go_num, s7a.out, s7.out, HL2.out, x7.out⟩
              case measure => simp [intOf]; omega
            · obtain rfl : t = i := by omega
              obtain rfl : Li = [] := by
                cases Li with
                | nil => rfl
                | cons x r =>
                  obtain ⟨j, j1, j2, _⟩ := hLi x (List.mem_cons_self ..)
                  omega
              have LE := Lib.hid (slen_calls sk1)
              have K0 : Hid (∀ s, Ext wr s → SK s gb bb [] p ∧ Ext w s) := fun s e => ⟨sk2.ext e, xr.trans e⟩
              clear hlt sk1 sk2 xr hLi OA
              go_wp2_with fail
              refine LE.out.mono ?_
              rintro e u1 ⟨rfl, y1⟩
              obtain ⟨s1, x1⟩ := K0.out _ y1
              have LE := Lib.hid (slen_calls s1)
              replace x1 := Lib.hid x1
              clear K0 y1 s1
              go_wp2_with fail
              refine LE.out.mono ?_
              rintro e u2 ⟨rfl, y2⟩
              replace y2 := Lib.hid y2
              clear LE
              go_wp2_with fail
              go_ret
              exact ⟨rfl, x1.out.trans y2.out⟩
end Go.Proofs.Ytonjialkfbbhpaa
