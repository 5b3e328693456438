/-
  FieldNought: with 0 and 1 all is ka it must be.
-/
import Derived.Test.YteognebhlehjlaaDoorAwake6
import Derived.Test.YteognebhlehjlaaDoorFldBack
import Derived.Test.YteognebhlehjlaaDoorSeq
import Derived.Test.YteognebhlehjlaaDoorSeqZ
namespace Go.Proofs.YteognebhlehjlaaDoor
open Go.ChangeShapes Go.WideShapes Go.ChangeAt Go.RowKit Go.Deep
set_option maxRecDepth 100000

theorem kL0 : kL 0 = List.replicate 32 0 := by decide +kernel
theorem ofV0 : ofV (List.replicate 32 0) = 0 := by decide +kernel
set_option maxHeartbeats 1000000 in
theorem sum_nil {w : World} : Calls Tryd.prog 22 #[.slice none 0 0] w fun e w' => e = .returned (eV 0) ∧ Ext w w' := by
  have h0 : lbs 8 0 = zw8 := by decide
  unfold eV
  rw [h0]
  have hal2 := elem_alloc
  have ZL : zw8.length = 8 := rfl
  generalize zw8 = zs at *
  have ZS := wcells_size ZL
  have Z1 := wcells_one zs
  have B0 : Hid (Wr ((w.alloc (Obj.cells (wcells zs).toArray 28)).alloc (Obj.cells (wcells zs).toArray 28)) w.heap.size 28 zs ∧ Wr ((w.alloc (Obj.cells (wcells zs).toArray 28)).alloc (Obj.cells (wcells zs).toArray 28)) (w.heap.size + 1) 28 zs ∧ Ext w ((w.alloc (Obj.cells (wcells zs).toArray 28)).alloc (Obj.cells (wcells zs).toArray 28))) := ⟨heap_alloc1 _ _ _, heap_alloc2 _ _ _, ((Ext.refl w).alloc _).alloc _⟩
  go_enter Tryd.func22, Tryd.ntmps22
  go_upto_region 2 with fail
  refine wp_gen (fun W => Wr W w.heap.size 28 zs ∧ Wr W (w.heap.size + 1) 28 zs ∧ Ext w W) B0.out ?_
  clear B0
  rintro w0 ⟨k0, k1, x⟩
  replace k0 := Lib.hid k0
  replace k1 := Lib.hid k1
  replace x := Lib.hid x
  go_wp2_with fail
  go_loopw [8] (fun v wr => v = .int .i64 0 ∧ wr = w0) (fun _ _ => 0)
  case atStart => exact ⟨rfl, rfl⟩
  case round =>
    obtain ⟨rfl, rfl⟩ := hrel
    go_wp2_with (first
      | (refine wpList_load_row rfl 28 _ rfl (w.heap.size + 1) rfl 28 (wcells zs).toArray (0, 0) _ k1.out rfl rfl (by rw [ZS]; rfl) ?_; simp only [Act.put, List.setIfInBounds_toArray, List.set_cons_zero, List.set_cons_succ])
      | (refine wpList_store_row rfl 28 _ _ rfl w.heap.size (wcells zs).toArray rfl rfl 28 _ k0.out (by rw [ZS]; rfl) (by rw [ZS]) Z1 ?_; simp only [Act.put, List.setIfInBounds_toArray, List.set_cons_zero, List.set_cons_succ]))
    (try simp only [Exit.inBlock, Exit.then])
    refine bodyPost_ret (results_cell_row rfl _ _ w.heap.size 28 (wcells zs).toArray (0, 0) _ rfl (setRow_heap _ _ _ _ _ _ k0.out) rfl rfl (by rw [ZS]; rfl)) rfl ?_
    exact ⟨rfl, below_setRow x.out (Nat.le_refl _) _⟩

set_option maxHeartbeats 4000000 in
theorem fieldNought_calls {ka : List UInt8} {w : World} (ha : ka.length = 32) {tg : TypeId × Nat × Nat} (hG : Gp w tg) :
    Calls Tryd.prog 8 #[.agg (cellsOf ka).toArray] w fun e w' => e = .returned (.bool true) ∧ Ext w w' := by
  have AW : Hid (∀ W, Ext w W → Calls Tryd.prog 9 #[] W fun e w' => e = .returned (.bool true) ∧ Ext W w') := fun W e => awake6_calls (hG.ext e)
  obtain ⟨x, hx⟩ : ∃ x, x = ofV ka := ⟨_, rfl⟩
  have xp : x < P25 := by rw [hx]; exact ofV_lt ka
  have p0 : 0 < P25 := P25_pos
  have p1 : 1 < P25 := by decide +kernel
  have p2 : 2 < P25 := by decide +kernel
  have OFA : Hid (∀ W, Ext w W → Calls Tryd.prog 10 #[.agg (cellsOf ka).toArray] W fun e w' => e = .returned (eV (x)) ∧ Ext W w') := fun W e => by
    rw [hx]; exact of_calls ha (hG.ext e)
  have OFZ : Hid (∀ W, Ext w W → Calls Tryd.prog 10 #[.agg (cellsOf (List.replicate 32 0)).toArray] W fun e w' => e = .returned (eV (0)) ∧ Ext W w') := fun W e => by
    have := of_calls (ks := List.replicate 32 0) (by simp) (hG.ext e)
    rwa [ofV0] at this
  have KX : Hid (∀ W, Ext w W → Calls Tryd.prog 12 #[eV (x)] W fun e w' => e = .returned (.agg (cellsOf (kL x)).toArray) ∧ Ext W w') := fun W e => by
    exact ekey_calls
  have KZ : Hid (∀ W, Ext w W → Calls Tryd.prog 12 #[eV (0)] W fun e w' => e = .returned (.agg (cellsOf (List.replicate 32 0)).toArray) ∧ Ext W w') := fun W e => by
    have := ekey_calls (x := 0) (w := W)
    rwa [kL0] at this
  have KD : Hid (∀ W, Ext w W → Calls Tryd.prog 12 #[eV ((x + x) % P25)] W fun e w' => e = .returned (.agg (cellsOf (kL ((x + x) % P25))).toArray) ∧ Ext W w') := fun W e => by
    exact ekey_calls
  have AXZ : Hid (∀ W, Ext w W → Calls Tryd.prog 14 #[eV (x), eV (0)] W fun e w' => e = .returned (eV (x)) ∧ Ext W w') := fun W e => by
    have := eadd_calls xp p0 (hG.ext e)
    rwa [Nat.add_zero, Nat.mod_eq_of_lt xp] at this
  have AZX : Hid (∀ W, Ext w W → Calls Tryd.prog 14 #[eV (0), eV (x)] W fun e w' => e = .returned (eV (x)) ∧ Ext W w') := fun W e => by
    have := eadd_calls p0 xp (hG.ext e)
    rwa [Nat.zero_add, Nat.mod_eq_of_lt xp] at this
  have S1 : Hid (∀ W, Ext w W → Calls Tryd.prog 23 #[.int .u8 1] W fun e w' => e = .returned (eV (1)) ∧ Ext W w') := fun W e => by
    exact small1_calls (hG.ext e)
  have S2 : Hid (∀ W, Ext w W → Calls Tryd.prog 23 #[.int .u8 2] W fun e w' => e = .returned (eV (2)) ∧ Ext W w') := fun W e => by
    exact small2_calls (hG.ext e)
  have MX1 : Hid (∀ W, Ext w W → Calls Tryd.prog 18 #[eV (x), eV (1)] W fun e w' => e = .returned (eV (x)) ∧ Ext W w') := fun W e => by
    have := emul_calls xp p1 (hG.ext e)
    rwa [Nat.mul_one, Nat.mod_eq_of_lt xp] at this
  have MXZ : Hid (∀ W, Ext w W → Calls Tryd.prog 18 #[eV (x), eV (0)] W fun e w' => e = .returned (eV (0)) ∧ Ext W w') := fun W e => by
    have := emul_calls xp p0 (hG.ext e)
    rwa [Nat.mul_zero, Nat.zero_mod] at this
  have SZX : Hid (∀ W, Ext w W → Calls Tryd.prog 16 #[eV (0), eV (x)] W fun e w' => e = .returned (eV ((0 + (P25 - x)) % P25)) ∧ Ext W w') := fun W e => by
    exact esub_calls p0 xp (hG.ext e)
  have ANX : Hid (∀ W, Ext w W → Calls Tryd.prog 14 #[eV ((0 + (P25 - x)) % P25), eV (x)] W fun e w' => e = .returned (eV (0)) ∧ Ext W w') := fun W e => by
    have := eadd_calls (Nat.mod_lt (0 + (P25 - x)) P25_pos) xp (hG.ext e)
    rwa [Nat.mod_add_mod, show 0 + (P25 - x) + x = P25 from by omega, Nat.mod_self] at this
  have SUM : Hid (∀ W, Ext w W → Calls Tryd.prog 22 #[.slice none 0 0] W fun e w' => e = .returned (eV (0)) ∧ Ext W w') := fun W e => by
    exact sum_nil
  have AXX : Hid (∀ W, Ext w W → Calls Tryd.prog 14 #[eV (x), eV (x)] W fun e w' => e = .returned (eV ((x + x) % P25)) ∧ Ext W w') := fun W e => by
    exact eadd_calls xp xp (hG.ext e)
  have MX2 : Hid (∀ W, Ext w W → Calls Tryd.prog 18 #[eV (x), eV (2)] W fun e w' => e = .returned (eV ((x + x) % P25)) ∧ Ext W w') := fun W e => by
    have := emul_calls xp p2 (hG.ext e)
    rwa [Nat.mul_two] at this
  clear hG hx
  unfold eV at *
  have L_vx := lbs_len 8 (x)
  have L_vz := lbs_len 8 (0)
  have L_v1 := lbs_len 8 (1)
  have L_v2 := lbs_len 8 (2)
  have L_vn := lbs_len 8 ((0 + (P25 - x)) % P25)
  have L_vd := lbs_len 8 ((x + x) % P25)
  have L_kx := kL_len x
  have L_kd := kL_len ((x + x) % P25)
  generalize lbs 8 ((x + x) % P25) = vd at *
  generalize lbs 8 ((0 + (P25 - x)) % P25) = vn at *
  generalize lbs 8 (x) = vx at *
  generalize lbs 8 (0) = vz at *
  generalize lbs 8 (1) = v1 at *
  generalize lbs 8 (2) = v2 at *
  generalize kL ((x + x) % P25) = kd at *
  generalize kL x = kx at *
  have hal2 := elem_alloc
  have L_zs : zw8.length = 8 := rfl
  generalize zw8 = zs at *
  have S_zs := wcells_size L_zs
  have hal : ∀ w, (zeroValue 23).run Tryd.prog w = .ok (.agg (cellsOf (List.replicate 32 0)).toArray) w := fun w => by rw [zeros32_cells]; exact key_alloc w
  have L_zk : (List.replicate 32 (0 : UInt8)).length = 32 := rfl
  have b_zk : Hid (Tryd.prog.built 23 [] = some (cellsOf (List.replicate 32 0)).toArray) := by unfold Hid; rw [zeros32_cells]; exact zeros32_built
  generalize List.replicate 32 (0 : UInt8) = zk at *
  have L_ka := ha
  have S_vx : (wcells vx).toArray.size = 8 := wcells_size L_vx
  have O_vx := wcells_one vx
  have S_vz : (wcells vz).toArray.size = 8 := wcells_size L_vz
  have O_vz := wcells_one vz
  have S_v1 : (wcells v1).toArray.size = 8 := wcells_size L_v1
  have O_v1 := wcells_one v1
  have S_v2 : (wcells v2).toArray.size = 8 := wcells_size L_v2
  have O_v2 := wcells_one v2
  have S_vn : (wcells vn).toArray.size = 8 := wcells_size L_vn
  have O_vn := wcells_one vn
  have S_vd : (wcells vd).toArray.size = 8 := wcells_size L_vd
  have O_vd := wcells_one vd
  have S_kx : (cellsOf kx).toArray.size = 32 := by simp [cellsOf_len, L_kx]
  have O_kx := cellsOf_one kx
  have S_kd : (cellsOf kd).toArray.size = 32 := by simp [cellsOf_len, L_kd]
  have O_kd := cellsOf_one kd
  have S_zk : (cellsOf zk).toArray.size = 32 := by simp [cellsOf_len, L_zk]
  have O_zk := cellsOf_one zk
  have S_ka : (cellsOf ka).toArray.size = 32 := by simp [cellsOf_len, L_ka]
  have O_ka := cellsOf_one ka
  have B0 : Hid (∀ s, Ext (w.alloc (Obj.cells (cellsOf ka).toArray 23)) s → Ky s w.heap.size ka ∧ Ext w s) := fun s e => ⟨(Ky.boxed w ha).ext e, ((Ext.refl w).alloc _).trans e⟩
  go_enter Tryd.func8, Tryd.ntmps8
  go_wp2_with fail
  refine (AW.out _ (B0.out _ (Ext.refl _)).2).mono ?_
  rintro e w0 ⟨rfl, e1⟩
  have P0 : Hid (∀ s, Ext w0 s → Ky s w.heap.size ka ∧ Ext w s) := fun s e => B0.out s (e1.trans e)
  clear AW B0 e1
  have q0 := Lib.hid (P0.out _ (Ext.refl _)).1
  go_wp2_with (first
    | (refine wpList_exec rfl (exec_load_row rfl rfl q0.out.1 rfl rfl (by rw [S_ka]; rfl)) ?_; simp only [Act.put, List.setIfInBounds_toArray, List.set_cons_zero, List.set_cons_succ]))
  refine (OFA.out _ (P0.out _ (Ext.refl _)).2).mono ?_
  rintro e v ⟨rfl, e1⟩
  have a1 : Hid ((v.alloc (Obj.cells (wcells zs).toArray 28)).heap[v.heap.size]? = some (.cells (wcells zs).toArray 28 (0, 0))) := heap_alloc_new _ _
  have e5 : Ext v ((v.alloc (Obj.cells (wcells zs).toArray 28)).setRow v.heap.size (wcells vx).toArray) := below_setRow ((Ext.refl v).alloc _) (Nat.le_refl _) _
  go_upto_region 3 with (refine wpList_store_row rfl 28 _ _ rfl v.heap.size (wcells vx).toArray rfl rfl 28 _ a1.out (by rw [S_vx]; rfl) (by rw [S_vx, S_zs]) O_vx ?_; simp only [Act.put, List.setIfInBounds_toArray, List.set_cons_zero, List.set_cons_succ])
  obtain ⟨g1, hg⟩ : ∃ g, g = v.heap.size := ⟨_, rfl⟩
  refine wp_gen (fun W => ∀ s, Ext W s → Ky s w.heap.size ka ∧ Wr s g1 28 vx ∧ Ext w s) (fun s e => by
    obtain ⟨p0, p1⟩ := P0.out s (e1.trans (e5.trans e))
    exact ⟨p0, (show Wr _ g1 28 vx from by rw [hg]; exact setRow_heap _ _ _ _ _ _ a1.out).kept e (Wr.lt (show Wr _ g1 28 vx from by rw [hg]; exact setRow_heap _ _ _ _ _ _ a1.out)), p1⟩) ?_
  rw [← hg]
  clear hg a1 e5 e1 P0 q0
  rintro w1 P1
  replace P1 := Lib.hid P1
  have q0 := Lib.hid (P1.out _ (Ext.refl _)).1
  have q1 := Lib.hid (P1.out _ (Ext.refl _)).2.1
  go_wp2_with (first
    | (refine wpList_exec rfl (exec_load_row rfl rfl q0.out.1 rfl rfl (by rw [S_ka]; rfl)) ?_; simp only [Act.put, List.setIfInBounds_toArray, List.set_cons_zero, List.set_cons_succ])
    | (refine wpList_exec rfl (exec_load_row rfl rfl q1.out rfl rfl (by rw [S_vx]; rfl)) ?_; simp only [Act.put, List.setIfInBounds_toArray, List.set_cons_zero, List.set_cons_succ])
    | (refine wpList_build_as rfl _ _ rfl (cellsOf zk).toArray (by simp only [List.map_toArray, List.map_nil]; exact b_zk.out) ?_; simp only [Act.put, List.setIfInBounds_toArray, List.set_cons_zero, List.set_cons_succ]))
  refine (OFZ.out _ (P1.out _ (Ext.refl _)).2.2).mono ?_
  rintro e v ⟨rfl, e1⟩
  have a1 : Hid ((v.alloc (Obj.cells (wcells zs).toArray 28)).heap[v.heap.size]? = some (.cells (wcells zs).toArray 28 (0, 0))) := heap_alloc_new _ _
  have e5 : Ext v ((v.alloc (Obj.cells (wcells zs).toArray 28)).setRow v.heap.size (wcells vz).toArray) := below_setRow ((Ext.refl v).alloc _) (Nat.le_refl _) _
  go_upto_region 4 with (refine wpList_store_row rfl 28 _ _ rfl v.heap.size (wcells vz).toArray rfl rfl 28 _ a1.out (by rw [S_vz]; rfl) (by rw [S_vz, S_zs]) O_vz ?_; simp only [Act.put, List.setIfInBounds_toArray, List.set_cons_zero, List.set_cons_succ])
  obtain ⟨g2, hg⟩ : ∃ g, g = v.heap.size := ⟨_, rfl⟩
  refine wp_gen (fun W => ∀ s, Ext W s → Ky s w.heap.size ka ∧ Wr s g1 28 vx ∧ Wr s g2 28 vz ∧ Ext w s) (fun s e => by
    obtain ⟨p0, p1, p2⟩ := P1.out s (e1.trans (e5.trans e))
    exact ⟨p0, p1, (show Wr _ g2 28 vz from by rw [hg]; exact setRow_heap _ _ _ _ _ _ a1.out).kept e (Wr.lt (show Wr _ g2 28 vz from by rw [hg]; exact setRow_heap _ _ _ _ _ _ a1.out)), p2⟩) ?_
  rw [← hg]
  clear hg a1 e5 e1 P1 q0 q1
  rintro w2 P2
  replace P2 := Lib.hid P2
  have q0 := Lib.hid (P2.out _ (Ext.refl _)).1
  have q1 := Lib.hid (P2.out _ (Ext.refl _)).2.1
  have q2 := Lib.hid (P2.out _ (Ext.refl _)).2.2.1
  go_wp2_with (first
    | (refine wpList_exec rfl (exec_load_row rfl rfl q0.out.1 rfl rfl (by rw [S_ka]; rfl)) ?_; simp only [Act.put, List.setIfInBounds_toArray, List.set_cons_zero, List.set_cons_succ])
    | (refine wpList_exec rfl (exec_load_row rfl rfl q1.out rfl rfl (by rw [S_vx]; rfl)) ?_; simp only [Act.put, List.setIfInBounds_toArray, List.set_cons_zero, List.set_cons_succ])
    | (refine wpList_exec rfl (exec_load_row rfl rfl q2.out rfl rfl (by rw [S_vz]; rfl)) ?_; simp only [Act.put, List.setIfInBounds_toArray, List.set_cons_zero, List.set_cons_succ]))
  refine (KX.out _ (P2.out _ (Ext.refl _)).2.2.2).mono ?_
  rintro e v ⟨rfl, e1⟩
  have a1 : Hid ((v.alloc (Obj.cells (cellsOf zk).toArray 23)).heap[v.heap.size]? = some (.cells (cellsOf zk).toArray 23 (0, 0))) := heap_alloc_new _ _
  have e5 : Ext v ((v.alloc (Obj.cells (cellsOf zk).toArray 23)).setRow v.heap.size (cellsOf kx).toArray) := below_setRow ((Ext.refl v).alloc _) (Nat.le_refl _) _
  go_upto_region 5 with (refine wpList_store_row rfl 23 _ _ rfl v.heap.size (cellsOf kx).toArray rfl rfl 23 _ a1.out (by rw [S_kx]; rfl) (by rw [S_kx, S_zk]) O_kx ?_; simp only [Act.put, List.setIfInBounds_toArray, List.set_cons_zero, List.set_cons_succ])
  obtain ⟨g3, hg⟩ : ∃ g, g = v.heap.size := ⟨_, rfl⟩
  refine wp_gen (fun W => ∀ s, Ext W s → Ky s w.heap.size ka ∧ Wr s g1 28 vx ∧ Wr s g2 28 vz ∧ Ky s g3 kx ∧ Ext w s) (fun s e => by
    obtain ⟨p0, p1, p2, p3⟩ := P2.out s (e1.trans (e5.trans e))
    exact ⟨p0, p1, p2, (show Ky _ g3 kx from ⟨by rw [hg]; exact setRow_heap _ _ _ _ _ _ a1.out, L_kx⟩).ext e, p3⟩) ?_
  rw [← hg]
  clear hg a1 e5 e1 P2 q0 q1 q2
  rintro w3 P3
  replace P3 := Lib.hid P3
  go_wp2_with fail
  refine wp_region_seq (R := Ext) Ext.refl (fun _ _ _ => Ext.trans) [0, 1, 2, 3, 6, 4, 5, 7, 8, 9, 10, 11, 14, 12, 13, 15, 16, 17, 18, 22, 19, 20, 21, 23, 24, 25, 26, 27, 30, 28, 29, 31, 32, 33, 34, 35, 37, 40, 36, 38, 39, 41, 42, 43, 46, 44, 45, 47, 48, 49, 50, 51, 54, 52, 53, 55, 56, 57, 58, 59, 60] [4, 5, 12, 13, 19, 20, 21, 28, 29, 36, 38, 39, 44, 45, 52, 53, 55, 56, 57] [(0, 15, 16), (1, 16, 32768), (2, 17, 65568), (2, 18, 65600), (14, 19, 458752), (18, 20, 589824), (2, 21, 65664), (98, 22, 3211264), (130, 23, 4259840), (288, 24, 8388608), (512, 25, 16777280), (512, 26, 16777248), (3584, 27, 117440512), (4608, 28, 150994944), (512, 29, 16777344), (25088, 30, 822083584), (33280, 31, 1090519040), (73728, 32, 2147483648), (131072, 33, 4294967328), (131072, 34, 4294967296), (917504, 35, 30064771072), (1179648, 36, 38654705664), (131072, 37, 4294967424), (6422528, 38, 210453397504), (8519680, 39, 279172874240), (18874368, 40, 549755813888), (33554432, 41, 1099511627808), (33554432, 42, 1099511627840), (234881024, 43, 7696581394432), (301989888, 44, 9895604649984), (33554432, 45, 1099511627776), (1644167168, 46, 53876069761024), (2181038080, 47, 71468255805440), (4831838208, 48, 140737488355328), (8589934592, 49, 281474976710720), (8589934592, 50, 281474976710688), (60129542144, 51, 1970324836974592), (8589934592, 52, 281474976710688), (214748364800, 53, 7036874417766400), (283467841536, 54, 9288674231451648), (8589934592, 55, 281474976710656), (1657857376256, 56, 54324670505156608), (2207613190144, 57, 72339069014638592), (4947802324992, 58, 144115188075855872), (8796093022208, 59, 288230376151711744), (26388279066624, 60, 864691128455135232), (8796093022208, 61, 288230376151711744), (114349209288704, 62, 3746994889972252672), (149533581377536, 63, 4899916394579099648), (316659348799488, 64, 9223372036854775808), (562949953421312, 65, 18446744073709551648), (562949953421312, 66, 18446744073709551648), (3940649673949184, 67, 129127208515966861312), (5066549580791808, 68, 166020696663385964544), (562949953421312, 69, 18446744073709551648), (9570149208162304, 70, 18446744073709551616), (54606145481867264, 71, 1789334175149826506752), (72620543991349248, 72, 2379629985508532158464), (153685337284018176, 73, 5035961132122707591168), (288793326105133056, 74, 9463179709812999979008), (1152921504606846975, 3, 18889465931478580854784)] (by kernel_rfl) (by kernel_rfl) (by kernel_rfl) rfl (by kernel_rfl) (by kernel_rfl) (fun _ _ d _ _ h => by cases d <;> exact h) ?_
  iterate 2 (first | (refine seq_read (fun _ => True) (fun _ _ => trivial) _ (v := ?_) rfl rfl (by rfl) ?_ ?_; rotate_left; (· intro w' hF; go_simp; (try with_reducible rfl)); simp only [Act.put, List.setIfInBounds_toArray, List.set_cons_zero, List.set_cons_succ]) | (refine seq_skip _ rfl rfl (by rfl) ?_; simp only [Act.put, List.setIfInBounds_toArray, List.set_cons_zero, List.set_cons_succ]))
  refine seq_read (fun w' => w'.heap[g1]? = some (.cells (wcells vx).toArray 28 (0, 0))) (fun w' e => (P3.out w' ((Ext.refl _).drew.trans e)).2.1) _ (v := .agg (wcells vx).toArray) rfl rfl (by rfl) (fun w' hF => exec_load_row rfl rfl hF rfl rfl (by rw [S_vx]; rfl)) ?_
  simp only [Act.put, List.setIfInBounds_toArray, List.set_cons_zero, List.set_cons_succ]
  refine seq_read (fun w' => w'.heap[g2]? = some (.cells (wcells vz).toArray 28 (0, 0))) (fun w' e => (P3.out w' ((Ext.refl _).drew.trans e)).2.2.1) _ (v := .agg (wcells vz).toArray) rfl rfl (by rfl) (fun w' hF => exec_load_row rfl rfl hF rfl rfl (by rw [S_vz]; rfl)) ?_
  simp only [Act.put, List.setIfInBounds_toArray, List.set_cons_zero, List.set_cons_succ]
  refine seq_read (fun w' => w'.heap[g3]? = some (.cells (cellsOf kx).toArray 23 (0, 0))) (fun w' e => (P3.out w' ((Ext.refl _).drew.trans e)).2.2.2.1.1) _ (v := .agg (cellsOf kx).toArray) rfl rfl (by rfl) (fun w' hF => exec_load_row rfl rfl hF rfl rfl (by rw [S_kx]; rfl)) ?_
  simp only [Act.put, List.setIfInBounds_toArray, List.set_cons_zero, List.set_cons_succ]
  refine seq_do _ rfl rfl (by rfl) (fun K1 hK1 => ?_)
  go_simp
  refine (AXZ.out _ (P3.out _ (Ext.refl _).drew).2.2.2.2).mono ?_
  rintro e w4 ⟨rfl, e1⟩
  refine hK1.out _ _ e1 ?_
  clear hK1 K1
  try simp only [Act.put, List.setIfInBounds_toArray, List.set_cons_zero, List.set_cons_succ]
  have P4 : Hid (∀ s, Ext w4 s → Ky s w.heap.size ka ∧ Wr s g1 28 vx ∧ Wr s g2 28 vz ∧ Ky s g3 kx ∧ Ext w s) := fun s e => P3.out s ((Ext.refl _).drew.trans (e1.trans e))
  clear P3 e1
  refine seq_do _ rfl rfl (by rfl) (fun K1 hK1 => ?_)
  go_simp
  refine (KX.out _ (P4.out _ (Ext.refl _)).2.2.2.2).mono ?_
  rintro e w5 ⟨rfl, e1⟩
  refine hK1.out _ _ e1 ?_
  clear hK1 K1
  try simp only [Act.put, List.setIfInBounds_toArray, List.set_cons_zero, List.set_cons_succ]
  have P5 : Hid (∀ s, Ext w5 s → Ky s w.heap.size ka ∧ Wr s g1 28 vx ∧ Wr s g2 28 vz ∧ Ky s g3 kx ∧ Ext w s) := fun s e => P4.out s (e1.trans e)
  clear P4 e1
  refine seq_read (fun _ => True) (fun _ _ => trivial) _ (v := .bool true) rfl rfl (by rfl) (fun w' _ => exec_eql_keyB (xs := kx) (ys := kx) (decide_eq_true rfl) L_kx L_kx rfl rfl rfl) ?_
  simp only [Act.put, List.setIfInBounds_toArray, List.set_cons_zero, List.set_cons_succ]
  iterate 2 (first | (refine seq_read (fun _ => True) (fun _ _ => trivial) _ (v := ?_) rfl rfl (by rfl) ?_ ?_; rotate_left; (· intro w' hF; go_simp; (try with_reducible rfl)); simp only [Act.put, List.setIfInBounds_toArray, List.set_cons_zero, List.set_cons_succ]) | (refine seq_skip _ rfl rfl (by rfl) ?_; simp only [Act.put, List.setIfInBounds_toArray, List.set_cons_zero, List.set_cons_succ]))
  refine seq_read (fun w' => w'.heap[g2]? = some (.cells (wcells vz).toArray 28 (0, 0))) (fun w' e => (P5.out w' e).2.2.1) _ (v := .agg (wcells vz).toArray) rfl rfl (by rfl) (fun w' hF => exec_load_row rfl rfl hF rfl rfl (by rw [S_vz]; rfl)) ?_
  simp only [Act.put, List.setIfInBounds_toArray, List.set_cons_zero, List.set_cons_succ]
  refine seq_read (fun w' => w'.heap[g1]? = some (.cells (wcells vx).toArray 28 (0, 0))) (fun w' e => (P5.out w' e).2.1) _ (v := .agg (wcells vx).toArray) rfl rfl (by rfl) (fun w' hF => exec_load_row rfl rfl hF rfl rfl (by rw [S_vx]; rfl)) ?_
  simp only [Act.put, List.setIfInBounds_toArray, List.set_cons_zero, List.set_cons_succ]
  refine seq_read (fun w' => w'.heap[g3]? = some (.cells (cellsOf kx).toArray 23 (0, 0))) (fun w' e => (P5.out w' e).2.2.2.1.1) _ (v := .agg (cellsOf kx).toArray) rfl rfl (by rfl) (fun w' hF => exec_load_row rfl rfl hF rfl rfl (by rw [S_kx]; rfl)) ?_
  simp only [Act.put, List.setIfInBounds_toArray, List.set_cons_zero, List.set_cons_succ]
  refine seq_do _ rfl rfl (by rfl) (fun K1 hK1 => ?_)
  go_simp
  refine (AZX.out _ (P5.out _ (Ext.refl _)).2.2.2.2).mono ?_
  rintro e w6 ⟨rfl, e1⟩
  refine hK1.out _ _ e1 ?_
  clear hK1 K1
  try simp only [Act.put, List.setIfInBounds_toArray, List.set_cons_zero, List.set_cons_succ]
  have P6 : Hid (∀ s, Ext w6 s → Ky s w.heap.size ka ∧ Wr s g1 28 vx ∧ Wr s g2 28 vz ∧ Ky s g3 kx ∧ Ext w s) := fun s e => P5.out s (e1.trans e)
  clear P5 e1
  refine seq_do _ rfl rfl (by rfl) (fun K1 hK1 => ?_)
  go_simp
  refine (KX.out _ (P6.out _ (Ext.refl _)).2.2.2.2).mono ?_
  rintro e w7 ⟨rfl, e1⟩
  refine hK1.out _ _ e1 ?_
  clear hK1 K1
  try simp only [Act.put, List.setIfInBounds_toArray, List.set_cons_zero, List.set_cons_succ]
  have P7 : Hid (∀ s, Ext w7 s → Ky s w.heap.size ka ∧ Wr s g1 28 vx ∧ Wr s g2 28 vz ∧ Ky s g3 kx ∧ Ext w s) := fun s e => P6.out s (e1.trans e)
  clear P6 e1
  refine seq_read (fun _ => True) (fun _ _ => trivial) _ (v := .bool true) rfl rfl (by rfl) (fun w' _ => exec_eql_keyB (xs := kx) (ys := kx) (decide_eq_true rfl) L_kx L_kx rfl rfl rfl) ?_
  simp only [Act.put, List.setIfInBounds_toArray, List.set_cons_zero, List.set_cons_succ]
  iterate 2 (first | (refine seq_read (fun _ => True) (fun _ _ => trivial) _ (v := ?_) rfl rfl (by rfl) ?_ ?_; rotate_left; (· intro w' hF; go_simp; (try with_reducible rfl)); simp only [Act.put, List.setIfInBounds_toArray, List.set_cons_zero, List.set_cons_succ]) | (refine seq_skip _ rfl rfl (by rfl) ?_; simp only [Act.put, List.setIfInBounds_toArray, List.set_cons_zero, List.set_cons_succ]))
  refine seq_read (fun w' => w'.heap[g1]? = some (.cells (wcells vx).toArray 28 (0, 0))) (fun w' e => (P7.out w' e).2.1) _ (v := .agg (wcells vx).toArray) rfl rfl (by rfl) (fun w' hF => exec_load_row rfl rfl hF rfl rfl (by rw [S_vx]; rfl)) ?_
  simp only [Act.put, List.setIfInBounds_toArray, List.set_cons_zero, List.set_cons_succ]
  refine seq_read (fun w' => w'.heap[g3]? = some (.cells (cellsOf kx).toArray 23 (0, 0))) (fun w' e => (P7.out w' e).2.2.2.1.1) _ (v := .agg (cellsOf kx).toArray) rfl rfl (by rfl) (fun w' hF => exec_load_row rfl rfl hF rfl rfl (by rw [S_kx]; rfl)) ?_
  simp only [Act.put, List.setIfInBounds_toArray, List.set_cons_zero, List.set_cons_succ]
  refine seq_do _ rfl rfl (by rfl) (fun K1 hK1 => ?_)
  go_simp
  refine (S1.out _ (P7.out _ (Ext.refl _)).2.2.2.2).mono ?_
  rintro e w8 ⟨rfl, e1⟩
  refine hK1.out _ _ e1 ?_
  clear hK1 K1
  try simp only [Act.put, List.setIfInBounds_toArray, List.set_cons_zero, List.set_cons_succ]
  have P8 : Hid (∀ s, Ext w8 s → Ky s w.heap.size ka ∧ Wr s g1 28 vx ∧ Wr s g2 28 vz ∧ Ky s g3 kx ∧ Ext w s) := fun s e => P7.out s (e1.trans e)
  clear P7 e1
  refine seq_do _ rfl rfl (by rfl) (fun K1 hK1 => ?_)
  go_simp
  refine (MX1.out _ (P8.out _ (Ext.refl _)).2.2.2.2).mono ?_
  rintro e w9 ⟨rfl, e1⟩
  refine hK1.out _ _ e1 ?_
  clear hK1 K1
  try simp only [Act.put, List.setIfInBounds_toArray, List.set_cons_zero, List.set_cons_succ]
  have P9 : Hid (∀ s, Ext w9 s → Ky s w.heap.size ka ∧ Wr s g1 28 vx ∧ Wr s g2 28 vz ∧ Ky s g3 kx ∧ Ext w s) := fun s e => P8.out s (e1.trans e)
  clear P8 e1
  refine seq_do _ rfl rfl (by rfl) (fun K1 hK1 => ?_)
  go_simp
  refine (KX.out _ (P9.out _ (Ext.refl _)).2.2.2.2).mono ?_
  rintro e w10 ⟨rfl, e1⟩
  refine hK1.out _ _ e1 ?_
  clear hK1 K1
  try simp only [Act.put, List.setIfInBounds_toArray, List.set_cons_zero, List.set_cons_succ]
  have P10 : Hid (∀ s, Ext w10 s → Ky s w.heap.size ka ∧ Wr s g1 28 vx ∧ Wr s g2 28 vz ∧ Ky s g3 kx ∧ Ext w s) := fun s e => P9.out s (e1.trans e)
  clear P9 e1
  refine seq_read (fun _ => True) (fun _ _ => trivial) _ (v := .bool true) rfl rfl (by rfl) (fun w' _ => exec_eql_keyB (xs := kx) (ys := kx) (decide_eq_true rfl) L_kx L_kx rfl rfl rfl) ?_
  simp only [Act.put, List.setIfInBounds_toArray, List.set_cons_zero, List.set_cons_succ]
  iterate 2 (first | (refine seq_read (fun _ => True) (fun _ _ => trivial) _ (v := ?_) rfl rfl (by rfl) ?_ ?_; rotate_left; (· intro w' hF; go_simp; (try with_reducible rfl)); simp only [Act.put, List.setIfInBounds_toArray, List.set_cons_zero, List.set_cons_succ]) | (refine seq_skip _ rfl rfl (by rfl) ?_; simp only [Act.put, List.setIfInBounds_toArray, List.set_cons_zero, List.set_cons_succ]))
  refine seq_read (fun w' => w'.heap[g1]? = some (.cells (wcells vx).toArray 28 (0, 0))) (fun w' e => (P10.out w' e).2.1) _ (v := .agg (wcells vx).toArray) rfl rfl (by rfl) (fun w' hF => exec_load_row rfl rfl hF rfl rfl (by rw [S_vx]; rfl)) ?_
  simp only [Act.put, List.setIfInBounds_toArray, List.set_cons_zero, List.set_cons_succ]
  refine seq_read (fun w' => w'.heap[g2]? = some (.cells (wcells vz).toArray 28 (0, 0))) (fun w' e => (P10.out w' e).2.2.1) _ (v := .agg (wcells vz).toArray) rfl rfl (by rfl) (fun w' hF => exec_load_row rfl rfl hF rfl rfl (by rw [S_vz]; rfl)) ?_
  simp only [Act.put, List.setIfInBounds_toArray, List.set_cons_zero, List.set_cons_succ]
  refine seq_read (fun _ => True) (fun _ _ => trivial) _ (v := .agg (cellsOf zk).toArray) rfl rfl (by rfl) (fun w' _ => exec_build_as rfl (by simp only [List.map_toArray, List.map_cons, List.map_nil]; exact b_zk.out)) ?_
  simp only [Act.put, List.setIfInBounds_toArray, List.set_cons_zero, List.set_cons_succ]
  refine seq_do _ rfl rfl (by rfl) (fun K1 hK1 => ?_)
  go_simp
  refine (MXZ.out _ (P10.out _ (Ext.refl _)).2.2.2.2).mono ?_
  rintro e w11 ⟨rfl, e1⟩
  refine hK1.out _ _ e1 ?_
  clear hK1 K1
  try simp only [Act.put, List.setIfInBounds_toArray, List.set_cons_zero, List.set_cons_succ]
  have P11 : Hid (∀ s, Ext w11 s → Ky s w.heap.size ka ∧ Wr s g1 28 vx ∧ Wr s g2 28 vz ∧ Ky s g3 kx ∧ Ext w s) := fun s e => P10.out s (e1.trans e)
  clear P10 e1
  refine seq_do _ rfl rfl (by rfl) (fun K1 hK1 => ?_)
  go_simp
  refine (KZ.out _ (P11.out _ (Ext.refl _)).2.2.2.2).mono ?_
  rintro e w12 ⟨rfl, e1⟩
  refine hK1.out _ _ e1 ?_
  clear hK1 K1
  try simp only [Act.put, List.setIfInBounds_toArray, List.set_cons_zero, List.set_cons_succ]
  have P12 : Hid (∀ s, Ext w12 s → Ky s w.heap.size ka ∧ Wr s g1 28 vx ∧ Wr s g2 28 vz ∧ Ky s g3 kx ∧ Ext w s) := fun s e => P11.out s (e1.trans e)
  clear P11 e1
  refine seq_read (fun _ => True) (fun _ _ => trivial) _ (v := .bool true) rfl rfl (by rfl) (fun w' _ => exec_eql_keyB (xs := zk) (ys := zk) (decide_eq_true rfl) L_zk L_zk rfl rfl rfl) ?_
  simp only [Act.put, List.setIfInBounds_toArray, List.set_cons_zero, List.set_cons_succ]
  iterate 2 (first | (refine seq_read (fun _ => True) (fun _ _ => trivial) _ (v := ?_) rfl rfl (by rfl) ?_ ?_; rotate_left; (· intro w' hF; go_simp; (try with_reducible rfl)); simp only [Act.put, List.setIfInBounds_toArray, List.set_cons_zero, List.set_cons_succ]) | (refine seq_skip _ rfl rfl (by rfl) ?_; simp only [Act.put, List.setIfInBounds_toArray, List.set_cons_zero, List.set_cons_succ]))
  refine seq_read (fun w' => w'.heap[g2]? = some (.cells (wcells vz).toArray 28 (0, 0))) (fun w' e => (P12.out w' e).2.2.1) _ (v := .agg (wcells vz).toArray) rfl rfl (by rfl) (fun w' hF => exec_load_row rfl rfl hF rfl rfl (by rw [S_vz]; rfl)) ?_
  simp only [Act.put, List.setIfInBounds_toArray, List.set_cons_zero, List.set_cons_succ]
  refine seq_read (fun w' => w'.heap[g1]? = some (.cells (wcells vx).toArray 28 (0, 0))) (fun w' e => (P12.out w' e).2.1) _ (v := .agg (wcells vx).toArray) rfl rfl (by rfl) (fun w' hF => exec_load_row rfl rfl hF rfl rfl (by rw [S_vx]; rfl)) ?_
  simp only [Act.put, List.setIfInBounds_toArray, List.set_cons_zero, List.set_cons_succ]
  refine seq_read (fun w' => w'.heap[g1]? = some (.cells (wcells vx).toArray 28 (0, 0))) (fun w' e => (P12.out w' e).2.1) _ (v := .agg (wcells vx).toArray) rfl rfl (by rfl) (fun w' hF => exec_load_row rfl rfl hF rfl rfl (by rw [S_vx]; rfl)) ?_
  simp only [Act.put, List.setIfInBounds_toArray, List.set_cons_zero, List.set_cons_succ]
  refine seq_read (fun _ => True) (fun _ _ => trivial) _ (v := .agg (cellsOf zk).toArray) rfl rfl (by rfl) (fun w' _ => exec_build_as rfl (by simp only [List.map_toArray, List.map_cons, List.map_nil]; exact b_zk.out)) ?_
  simp only [Act.put, List.setIfInBounds_toArray, List.set_cons_zero, List.set_cons_succ]
  refine seq_do _ rfl rfl (by rfl) (fun K1 hK1 => ?_)
  go_simp
  refine (SZX.out _ (P12.out _ (Ext.refl _)).2.2.2.2).mono ?_
  rintro e w13 ⟨rfl, e1⟩
  refine hK1.out _ _ e1 ?_
  clear hK1 K1
  try simp only [Act.put, List.setIfInBounds_toArray, List.set_cons_zero, List.set_cons_succ]
  have P13 : Hid (∀ s, Ext w13 s → Ky s w.heap.size ka ∧ Wr s g1 28 vx ∧ Wr s g2 28 vz ∧ Ky s g3 kx ∧ Ext w s) := fun s e => P12.out s (e1.trans e)
  clear P12 e1
  refine seq_do _ rfl rfl (by rfl) (fun K1 hK1 => ?_)
  go_simp
  refine (ANX.out _ (P13.out _ (Ext.refl _)).2.2.2.2).mono ?_
  rintro e w14 ⟨rfl, e1⟩
  refine hK1.out _ _ e1 ?_
  clear hK1 K1
  try simp only [Act.put, List.setIfInBounds_toArray, List.set_cons_zero, List.set_cons_succ]
  have P14 : Hid (∀ s, Ext w14 s → Ky s w.heap.size ka ∧ Wr s g1 28 vx ∧ Wr s g2 28 vz ∧ Ky s g3 kx ∧ Ext w s) := fun s e => P13.out s (e1.trans e)
  clear P13 e1
  refine seq_do _ rfl rfl (by rfl) (fun K1 hK1 => ?_)
  go_simp
  refine (KZ.out _ (P14.out _ (Ext.refl _)).2.2.2.2).mono ?_
  rintro e w15 ⟨rfl, e1⟩
  refine hK1.out _ _ e1 ?_
  clear hK1 K1
  try simp only [Act.put, List.setIfInBounds_toArray, List.set_cons_zero, List.set_cons_succ]
  have P15 : Hid (∀ s, Ext w15 s → Ky s w.heap.size ka ∧ Wr s g1 28 vx ∧ Wr s g2 28 vz ∧ Ky s g3 kx ∧ Ext w s) := fun s e => P14.out s (e1.trans e)
  clear P14 e1
  refine seq_read (fun _ => True) (fun _ _ => trivial) _ (v := .bool true) rfl rfl (by rfl) (fun w' _ => exec_eql_keyB (xs := zk) (ys := zk) (decide_eq_true rfl) L_zk L_zk rfl rfl rfl) ?_
  simp only [Act.put, List.setIfInBounds_toArray, List.set_cons_zero, List.set_cons_succ]
  iterate 2 (first | (refine seq_read (fun _ => True) (fun _ _ => trivial) _ (v := ?_) rfl rfl (by rfl) ?_ ?_; rotate_left; (· intro w' hF; go_simp; (try with_reducible rfl)); simp only [Act.put, List.setIfInBounds_toArray, List.set_cons_zero, List.set_cons_succ]) | (refine seq_skip _ rfl rfl (by rfl) ?_; simp only [Act.put, List.setIfInBounds_toArray, List.set_cons_zero, List.set_cons_succ]))
  refine seq_read (fun _ => True) (fun _ _ => trivial) _ (v := .agg (cellsOf zk).toArray) rfl rfl (by rfl) (fun w' _ => exec_build_as rfl (by simp only [List.map_toArray, List.map_cons, List.map_nil]; exact b_zk.out)) ?_
  simp only [Act.put, List.setIfInBounds_toArray, List.set_cons_zero, List.set_cons_succ]
  refine seq_do _ rfl rfl (by rfl) (fun K1 hK1 => ?_)
  go_simp
  refine (SUM.out _ (P15.out _ (Ext.refl _)).2.2.2.2).mono ?_
  rintro e w16 ⟨rfl, e1⟩
  refine hK1.out _ _ e1 ?_
  clear hK1 K1
  try simp only [Act.put, List.setIfInBounds_toArray, List.set_cons_zero, List.set_cons_succ]
  have P16 : Hid (∀ s, Ext w16 s → Ky s w.heap.size ka ∧ Wr s g1 28 vx ∧ Wr s g2 28 vz ∧ Ky s g3 kx ∧ Ext w s) := fun s e => P15.out s (e1.trans e)
  clear P15 e1
  refine seq_do _ rfl rfl (by rfl) (fun K1 hK1 => ?_)
  go_simp
  refine (KZ.out _ (P16.out _ (Ext.refl _)).2.2.2.2).mono ?_
  rintro e w17 ⟨rfl, e1⟩
  refine hK1.out _ _ e1 ?_
  clear hK1 K1
  try simp only [Act.put, List.setIfInBounds_toArray, List.set_cons_zero, List.set_cons_succ]
  have P17 : Hid (∀ s, Ext w17 s → Ky s w.heap.size ka ∧ Wr s g1 28 vx ∧ Wr s g2 28 vz ∧ Ky s g3 kx ∧ Ext w s) := fun s e => P16.out s (e1.trans e)
  clear P16 e1
  refine seq_read (fun _ => True) (fun _ _ => trivial) _ (v := .bool true) rfl rfl (by rfl) (fun w' _ => exec_eql_keyB (xs := zk) (ys := zk) (decide_eq_true rfl) L_zk L_zk rfl rfl rfl) ?_
  simp only [Act.put, List.setIfInBounds_toArray, List.set_cons_zero, List.set_cons_succ]
  iterate 2 (first | (refine seq_read (fun _ => True) (fun _ _ => trivial) _ (v := ?_) rfl rfl (by rfl) ?_ ?_; rotate_left; (· intro w' hF; go_simp; (try with_reducible rfl)); simp only [Act.put, List.setIfInBounds_toArray, List.set_cons_zero, List.set_cons_succ]) | (refine seq_skip _ rfl rfl (by rfl) ?_; simp only [Act.put, List.setIfInBounds_toArray, List.set_cons_zero, List.set_cons_succ]))
  refine seq_read (fun w' => w'.heap[g1]? = some (.cells (wcells vx).toArray 28 (0, 0))) (fun w' e => (P17.out w' e).2.1) _ (v := .agg (wcells vx).toArray) rfl rfl (by rfl) (fun w' hF => exec_load_row rfl rfl hF rfl rfl (by rw [S_vx]; rfl)) ?_
  simp only [Act.put, List.setIfInBounds_toArray, List.set_cons_zero, List.set_cons_succ]
  refine seq_read (fun w' => w'.heap[g1]? = some (.cells (wcells vx).toArray 28 (0, 0))) (fun w' e => (P17.out w' e).2.1) _ (v := .agg (wcells vx).toArray) rfl rfl (by rfl) (fun w' hF => exec_load_row rfl rfl hF rfl rfl (by rw [S_vx]; rfl)) ?_
  simp only [Act.put, List.setIfInBounds_toArray, List.set_cons_zero, List.set_cons_succ]
  refine seq_read (fun w' => w'.heap[g1]? = some (.cells (wcells vx).toArray 28 (0, 0))) (fun w' e => (P17.out w' e).2.1) _ (v := .agg (wcells vx).toArray) rfl rfl (by rfl) (fun w' hF => exec_load_row rfl rfl hF rfl rfl (by rw [S_vx]; rfl)) ?_
  simp only [Act.put, List.setIfInBounds_toArray, List.set_cons_zero, List.set_cons_succ]
  refine seq_do _ rfl rfl (by rfl) (fun K1 hK1 => ?_)
  go_simp
  refine (AXX.out _ (P17.out _ (Ext.refl _)).2.2.2.2).mono ?_
  rintro e w18 ⟨rfl, e1⟩
  refine hK1.out _ _ e1 ?_
  clear hK1 K1
  try simp only [Act.put, List.setIfInBounds_toArray, List.set_cons_zero, List.set_cons_succ]
  have P18 : Hid (∀ s, Ext w18 s → Ky s w.heap.size ka ∧ Wr s g1 28 vx ∧ Wr s g2 28 vz ∧ Ky s g3 kx ∧ Ext w s) := fun s e => P17.out s (e1.trans e)
  clear P17 e1
  refine seq_do _ rfl rfl (by rfl) (fun K1 hK1 => ?_)
  go_simp
  refine (KD.out _ (P18.out _ (Ext.refl _)).2.2.2.2).mono ?_
  rintro e w19 ⟨rfl, e1⟩
  refine hK1.out _ _ e1 ?_
  clear hK1 K1
  try simp only [Act.put, List.setIfInBounds_toArray, List.set_cons_zero, List.set_cons_succ]
  have P19 : Hid (∀ s, Ext w19 s → Ky s w.heap.size ka ∧ Wr s g1 28 vx ∧ Wr s g2 28 vz ∧ Ky s g3 kx ∧ Ext w s) := fun s e => P18.out s (e1.trans e)
  clear P18 e1
  refine seq_do _ rfl rfl (by rfl) (fun K1 hK1 => ?_)
  go_simp
  refine (S2.out _ (P19.out _ (Ext.refl _)).2.2.2.2).mono ?_
  rintro e w20 ⟨rfl, e1⟩
  refine hK1.out _ _ e1 ?_
  clear hK1 K1
  try simp only [Act.put, List.setIfInBounds_toArray, List.set_cons_zero, List.set_cons_succ]
  have P20 : Hid (∀ s, Ext w20 s → Ky s w.heap.size ka ∧ Wr s g1 28 vx ∧ Wr s g2 28 vz ∧ Ky s g3 kx ∧ Ext w s) := fun s e => P19.out s (e1.trans e)
  clear P19 e1
  refine seq_do _ rfl rfl (by rfl) (fun K1 hK1 => ?_)
  go_simp
  refine (MX2.out _ (P20.out _ (Ext.refl _)).2.2.2.2).mono ?_
  rintro e w21 ⟨rfl, e1⟩
  refine hK1.out _ _ e1 ?_
  clear hK1 K1
  try simp only [Act.put, List.setIfInBounds_toArray, List.set_cons_zero, List.set_cons_succ]
  have P21 : Hid (∀ s, Ext w21 s → Ky s w.heap.size ka ∧ Wr s g1 28 vx ∧ Wr s g2 28 vz ∧ Ky s g3 kx ∧ Ext w s) := fun s e => P20.out s (e1.trans e)
  clear P20 e1
  refine seq_do _ rfl rfl (by rfl) (fun K1 hK1 => ?_)
  go_simp
  refine (KD.out _ (P21.out _ (Ext.refl _)).2.2.2.2).mono ?_
  rintro e w22 ⟨rfl, e1⟩
  refine hK1.out _ _ e1 ?_
  clear hK1 K1
  try simp only [Act.put, List.setIfInBounds_toArray, List.set_cons_zero, List.set_cons_succ]
  have P22 : Hid (∀ s, Ext w22 s → Ky s w.heap.size ka ∧ Wr s g1 28 vx ∧ Wr s g2 28 vz ∧ Ky s g3 kx ∧ Ext w s) := fun s e => P21.out s (e1.trans e)
  clear P21 e1
  refine seq_read (fun _ => True) (fun _ _ => trivial) _ (v := .bool true) rfl rfl (by rfl) (fun w' _ => exec_eql_keyB (xs := kd) (ys := kd) (decide_eq_true rfl) L_kd L_kd rfl rfl rfl) ?_
  simp only [Act.put, List.setIfInBounds_toArray, List.set_cons_zero, List.set_cons_succ]
  repeat (first | (refine seq_read (fun _ => True) (fun _ _ => trivial) _ (v := ?_) rfl rfl (by rfl) ?_ ?_; rotate_left; (· intro w' hF; go_simp; (try with_reducible rfl)); simp only [Act.put, List.setIfInBounds_toArray, List.set_cons_zero, List.set_cons_succ]) | (refine seq_skip _ rfl rfl (by rfl) ?_; simp only [Act.put, List.setIfInBounds_toArray, List.set_cons_zero, List.set_cons_succ]))
  refine seq_done ?_
  have EE := Lib.hid (P22.out _ (Ext.refl _)).2.2.2.2
  clear P22
  go_wp2_with fail
  go_ret
  exact ⟨rfl, EE.out⟩
end Go.Proofs.YteognebhlehjlaaDoor
