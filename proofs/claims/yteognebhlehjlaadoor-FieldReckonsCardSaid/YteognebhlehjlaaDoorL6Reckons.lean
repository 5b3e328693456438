/-
  FieldReckons: what any two numbers come to.
-/
import Derived.Test.YteognebhlehjlaaDoorAwake6
import Derived.Test.YteognebhlehjlaaDoorFldBack
import Derived.Test.YteognebhlehjlaaDoorSeq
import Derived.Test.YteognebhlehjlaaDoorSeqZ
import Derived.Test.YteognebhlehjlaaDoorRfKey
import Derived.Test.YteognebhlehjlaaDoorRfAdd
import Derived.Test.YteognebhlehjlaaDoorRfSub
import Derived.Test.YteognebhlehjlaaDoorRfMul
import Derived.Test.YteognebhlehjlaaDoorRfOf
namespace Go.Proofs.YteognebhlehjlaaDoor
open Go.ChangeShapes Go.WideShapes Go.ChangeAt Go.RowKit Go.Deep
set_option maxRecDepth 100000

set_option maxHeartbeats 8000000 in
theorem fieldReckons_calls {ka kb : List UInt8} {w : World} (ha : ka.length = 32) (hb : kb.length = 32) {tg : TypeId × Nat × Nat} (hG : Gp w tg) :
    Calls Tryd.prog 3 #[.agg (cellsOf ka).toArray, .agg (cellsOf kb).toArray] w fun e w' => e = .returned (.bool true) ∧ Ext w w' := by
  have AW : Hid (∀ W, Ext w W → Calls Tryd.prog 9 #[] W fun e w' => e = .returned (.bool true) ∧ Ext W w') := fun W e => awake6_calls (hG.ext e)
  obtain ⟨x, hx⟩ : ∃ x, x = ofV ka := ⟨_, rfl⟩
  have xp : x < P25 := by rw [hx]; exact ofV_lt ka
  obtain ⟨m, hm⟩ : ∃ x, x = ofM ka := ⟨_, rfl⟩
  have mp : m < B16 := by rw [hm]; exact ofM_lt ka
  have mx : m % P25 = x := by rw [hm, hx]; exact (ofV_ofM ka).symm
  obtain ⟨y, hy⟩ : ∃ x, x = ofV kb := ⟨_, rfl⟩
  have yp : y < P25 := by rw [hy]; exact ofV_lt kb
  obtain ⟨n, hn⟩ : ∃ x, x = ofM kb := ⟨_, rfl⟩
  have np : n < B16 := by rw [hn]; exact ofM_lt kb
  have ny : n % P25 = y := by rw [hn, hy]; exact (ofV_ofM kb).symm
  have OFA : Hid (∀ W, Ext w W → Calls Tryd.prog 10 #[.agg (cellsOf ka).toArray] W fun e w' => e = .returned (.agg (wcells (lbs 8 (x))).toArray) ∧ Ext W w') := fun W e => by
    rw [hx]; exact of_calls ha (hG.ext e)
  have OFB : Hid (∀ W, Ext w W → Calls Tryd.prog 10 #[.agg (cellsOf kb).toArray] W fun e w' => e = .returned (.agg (wcells (lbs 8 (y))).toArray) ∧ Ext W w') := fun W e => by
    rw [hy]; exact of_calls hb (hG.ext e)
  have RFA : Hid (∀ W, Ext w W → Calls Tryd.prog 11 #[.agg (cellsOf ka).toArray] W fun e w' => e = .returned (.agg (ucells (dgs 16 (m))).toArray) ∧ Ext W w') := fun W e => by
    rw [hm]; exact rfof_calls ha
  have RFB : Hid (∀ W, Ext w W → Calls Tryd.prog 11 #[.agg (cellsOf kb).toArray] W fun e w' => e = .returned (.agg (ucells (dgs 16 (n))).toArray) ∧ Ext W w') := fun W e => by
    rw [hn]; exact rfof_calls hb
  have EA : Hid (∀ W, Ext w W → Calls Tryd.prog 14 #[.agg (wcells (lbs 8 (x))).toArray, .agg (wcells (lbs 8 (y))).toArray] W fun e w' => e = .returned (.agg (wcells (lbs 8 ((x + y) % P25))).toArray) ∧ Ext W w') := fun W e => by
    exact eadd_calls xp yp (hG.ext e)
  have ES : Hid (∀ W, Ext w W → Calls Tryd.prog 16 #[.agg (wcells (lbs 8 (x))).toArray, .agg (wcells (lbs 8 (y))).toArray] W fun e w' => e = .returned (.agg (wcells (lbs 8 ((x + (P25 - y)) % P25))).toArray) ∧ Ext W w') := fun W e => by
    exact esub_calls xp yp (hG.ext e)
  have EM : Hid (∀ W, Ext w W → Calls Tryd.prog 18 #[.agg (wcells (lbs 8 (x))).toArray, .agg (wcells (lbs 8 (y))).toArray] W fun e w' => e = .returned (.agg (wcells (lbs 8 (x * y % P25))).toArray) ∧ Ext W w') := fun W e => by
    exact emul_calls xp yp (hG.ext e)
  have KX : Hid (∀ W, Ext w W → Calls Tryd.prog 12 #[.agg (wcells (lbs 8 (x))).toArray] W fun e w' => e = .returned (.agg (cellsOf (kL (x))).toArray) ∧ Ext W w') := fun W e => by
    exact ekey_calls
  have KA : Hid (∀ W, Ext w W → Calls Tryd.prog 12 #[.agg (wcells (lbs 8 ((x + y) % P25))).toArray] W fun e w' => e = .returned (.agg (cellsOf (kL ((x + y) % P25))).toArray) ∧ Ext W w') := fun W e => by
    exact ekey_calls
  have KS : Hid (∀ W, Ext w W → Calls Tryd.prog 12 #[.agg (wcells (lbs 8 ((x + (P25 - y)) % P25))).toArray] W fun e w' => e = .returned (.agg (cellsOf (kL ((x + (P25 - y)) % P25))).toArray) ∧ Ext W w') := fun W e => by
    exact ekey_calls
  have KP : Hid (∀ W, Ext w W → Calls Tryd.prog 12 #[.agg (wcells (lbs 8 (x * y % P25))).toArray] W fun e w' => e = .returned (.agg (cellsOf (kL (x * y % P25))).toArray) ∧ Ext W w') := fun W e => by
    exact ekey_calls
  have NA : Hid (∀ W, Ext w W → Calls Tryd.prog 15 #[.agg (ucells (dgs 16 (m))).toArray, .agg (ucells (dgs 16 (n))).toArray] W fun e w' => e = .returned (.agg (ucells (dgs 16 (addN m n))).toArray) ∧ Ext W w') := fun W e => by
    exact rfadd_calls
  have NS : Hid (∀ W, Ext w W → Calls Tryd.prog 17 #[.agg (ucells (dgs 16 (m))).toArray, .agg (ucells (dgs 16 (n))).toArray] W fun e w' => e = .returned (.agg (ucells (dgs 16 (subN m n))).toArray) ∧ Ext W w') := fun W e => by
    exact rfsub_calls
  have NKX : Hid (∀ W, Ext w W → Calls Tryd.prog 13 #[.agg (ucells (dgs 16 (m))).toArray] W fun e w' => e = .returned (.agg (cellsOf (kL (x))).toArray) ∧ Ext W w') := fun W e => by
    have := rfkey_calls (w := W) mp
    rw [mx] at this
    exact this
  have NKA : Hid (∀ W, Ext w W → Calls Tryd.prog 13 #[.agg (ucells (dgs 16 (addN m n))).toArray] W fun e w' => e = .returned (.agg (cellsOf (kL ((x + y) % P25))).toArray) ∧ Ext W w') := fun W e => by
    have := rfkey_calls (w := W) (addN_lt m n)
    rw [addN_mod mp np, Nat.add_mod, mx, ny] at this
    exact this
  have NKS : Hid (∀ W, Ext w W → Calls Tryd.prog 13 #[.agg (ucells (dgs 16 (subN m n))).toArray] W fun e w' => e = .returned (.agg (cellsOf (kL ((x + (P25 - y)) % P25))).toArray) ∧ Ext W w') := fun W e => by
    have := rfkey_calls (w := W) (subN_lt m n)
    rw [subN_mod mp np, mx, ny] at this
    exact this
  have NM : Hid (∀ W, Ext w W → Calls Tryd.prog 19 #[.agg (ucells (dgs 16 (m))).toArray, .agg (ucells (dgs 16 (n))).toArray] W fun e w' => ∃ nz : List Nat, (∀ W, Ext w W → Calls Tryd.prog 13 #[.agg (ucells nz).toArray] W fun e w' => e = .returned (.agg (cellsOf (kL (x * y % P25))).toArray) ∧ Ext W w') ∧ e = .returned (.agg (ucells nz).toArray) ∧ Ext W w') := fun W e => by
    refine (rfmul_calls mp np).mono ?_
    rintro e w' ⟨z, hz, hzm, rfl, e1⟩
    refine ⟨dgs 16 z, fun W _ => ?_, rfl, e1⟩
    have := rfkey_calls (w := W) hz
    rw [hzm, Nat.mul_mod, mx, ny] at this
    exact this
  clear hG hx hy hm hn xp yp mp np mx ny
  have L_va := lbs_len 8 ((x + y) % P25)
  have L_vs := lbs_len 8 ((x + (P25 - y)) % P25)
  have L_vp := lbs_len 8 (x * y % P25)
  have L_vx := lbs_len 8 (x)
  have L_vy := lbs_len 8 (y)
  have L_ga := kL_len ((x + y) % P25)
  have L_gs := kL_len ((x + (P25 - y)) % P25)
  have L_gp := kL_len (x * y % P25)
  have L_gx := kL_len (x)
  have L_da := dgs_len 16 (addN m n)
  have L_ds := dgs_len 16 (subN m n)
  have L_dm := dgs_len 16 (m)
  have L_dn := dgs_len 16 (n)
  generalize lbs 8 ((x + y) % P25) = va at *
  generalize lbs 8 ((x + (P25 - y)) % P25) = vs at *
  generalize lbs 8 (x * y % P25) = vp at *
  generalize lbs 8 (x) = vx at *
  generalize lbs 8 (y) = vy at *
  generalize kL ((x + y) % P25) = ga at *
  generalize kL ((x + (P25 - y)) % P25) = gs at *
  generalize kL (x * y % P25) = gp at *
  generalize kL (x) = gx at *
  generalize dgs 16 (addN m n) = da at *
  generalize dgs 16 (subN m n) = ds at *
  generalize dgs 16 (m) = dm at *
  generalize dgs 16 (n) = dn at *
  have hal2 := elem_alloc
  have L_zs : zw8.length = 8 := rfl
  generalize zw8 = zs at *
  have S_zs := wcells_size L_zs
  have hal : ∀ w, (zeroValue 23).run Tryd.prog w = .ok (.agg (cellsOf (List.replicate 32 0)).toArray) w := fun w => by rw [zeros32_cells]; exact key_alloc w
  have hal3 := num_alloc
  have L_zn : zd16.length = 16 := rfl
  generalize zd16 = zn at *
  have S_zn := ucells_size L_zn
  have L_ka := ha
  have L_kb := hb
  have S_va : (wcells va).toArray.size = 8 := wcells_size L_va
  have O_va := wcells_one va
  have S_vs : (wcells vs).toArray.size = 8 := wcells_size L_vs
  have O_vs := wcells_one vs
  have S_vp : (wcells vp).toArray.size = 8 := wcells_size L_vp
  have O_vp := wcells_one vp
  have S_vx : (wcells vx).toArray.size = 8 := wcells_size L_vx
  have O_vx := wcells_one vx
  have S_vy : (wcells vy).toArray.size = 8 := wcells_size L_vy
  have O_vy := wcells_one vy
  have S_ga : (cellsOf ga).toArray.size = 32 := by simp [cellsOf_len, L_ga]
  have O_ga := cellsOf_one ga
  have S_gs : (cellsOf gs).toArray.size = 32 := by simp [cellsOf_len, L_gs]
  have O_gs := cellsOf_one gs
  have S_gp : (cellsOf gp).toArray.size = 32 := by simp [cellsOf_len, L_gp]
  have O_gp := cellsOf_one gp
  have S_gx : (cellsOf gx).toArray.size = 32 := by simp [cellsOf_len, L_gx]
  have O_gx := cellsOf_one gx
  have S_ka : (cellsOf ka).toArray.size = 32 := by simp [cellsOf_len, L_ka]
  have O_ka := cellsOf_one ka
  have S_kb : (cellsOf kb).toArray.size = 32 := by simp [cellsOf_len, L_kb]
  have O_kb := cellsOf_one kb
  have S_da := ucells_size L_da
  have O_da := ucells_one da
  have S_ds := ucells_size L_ds
  have O_ds := ucells_one ds
  have S_dm := ucells_size L_dm
  have O_dm := ucells_one dm
  have S_dn := ucells_size L_dn
  have O_dn := ucells_one dn
  have B0 : Hid (∀ s, Ext ((w.alloc (Obj.cells (cellsOf ka).toArray 23)).alloc (Obj.cells (cellsOf kb).toArray 23)) s → Ky s w.heap.size ka ∧ Ky s (w.heap.size + 1) kb ∧ Ext w s) := fun s e => ⟨Ky.ext ⟨heap_alloc1 _ _ _, ha⟩ e, Ky.ext ⟨heap_alloc2 _ _ _, hb⟩ e, (((Ext.refl w).alloc _).alloc _).trans e⟩
  go_enter Tryd.func3, Tryd.ntmps3
  go_wp2_with fail
  refine (AW.out _ (B0.out _ (Ext.refl _)).2.2).mono ?_
  rintro e w0 ⟨rfl, e1⟩
  have P0 : Hid (∀ s, Ext w0 s → Ky s w.heap.size ka ∧ Ky s (w.heap.size + 1) kb ∧ Ext w s) := fun s e => B0.out s (e1.trans e)
  clear AW B0 e1
  have q0 := Lib.hid (P0.out _ (Ext.refl _)).1
  have q1 := Lib.hid (P0.out _ (Ext.refl _)).2.1
  go_wp2_with (first
    | (refine wpList_exec rfl (exec_load_row rfl rfl q0.out.1 rfl rfl (by rw [S_ka]; rfl)) ?_; simp only [Act.put, List.setIfInBounds_toArray, List.set_cons_zero, List.set_cons_succ])
    | (refine wpList_exec rfl (exec_load_row rfl rfl q1.out.1 rfl rfl (by rw [S_kb]; rfl)) ?_; simp only [Act.put, List.setIfInBounds_toArray, List.set_cons_zero, List.set_cons_succ]))
  refine (OFA.out _ (P0.out _ (Ext.refl _)).2.2).mono ?_
  rintro e v ⟨rfl, e1⟩
  have a1 : Hid ((v.alloc (Obj.cells (wcells zs).toArray 28)).heap[v.heap.size]? = some (.cells (wcells zs).toArray 28 (0, 0))) := heap_alloc_new _ _
  have e5 : Ext v ((v.alloc (Obj.cells (wcells zs).toArray 28)).setRow v.heap.size (wcells vx).toArray) := below_setRow ((Ext.refl v).alloc _) (Nat.le_refl _) _
  go_upto_region 3 with (refine wpList_store_row rfl 28 _ _ rfl v.heap.size (wcells vx).toArray rfl rfl 28 _ a1.out (by rw [S_vx]; rfl) (by rw [S_vx, S_zs]) O_vx ?_; simp only [Act.put, List.setIfInBounds_toArray, List.set_cons_zero, List.set_cons_succ])
  obtain ⟨g1, hg⟩ : ∃ g, g = v.heap.size := ⟨_, rfl⟩
  refine wp_gen (fun W => ∀ s, Ext W s → Ky s w.heap.size ka ∧ Ky s (w.heap.size + 1) kb ∧ Wr s g1 28 vx ∧ Ext w s) (fun s e => by
    obtain ⟨p0, p1, p2⟩ := P0.out s (e1.trans (e5.trans e))
    exact ⟨p0, p1, (show Wr _ g1 28 vx from by rw [hg]; exact setRow_heap _ _ _ _ _ _ a1.out).kept e (Wr.lt (show Wr _ g1 28 vx from by rw [hg]; exact setRow_heap _ _ _ _ _ _ a1.out)), p2⟩) ?_
  rw [← hg]
  clear hg a1 e5 e1 P0 q0 q1
  rintro w1 P1
  replace P1 := Lib.hid P1
  have q0 := Lib.hid (P1.out _ (Ext.refl _)).1
  have q1 := Lib.hid (P1.out _ (Ext.refl _)).2.1
  have q2 := Lib.hid (P1.out _ (Ext.refl _)).2.2.1
  go_wp2_with (first
    | (refine wpList_exec rfl (exec_load_row rfl rfl q0.out.1 rfl rfl (by rw [S_ka]; rfl)) ?_; simp only [Act.put, List.setIfInBounds_toArray, List.set_cons_zero, List.set_cons_succ])
    | (refine wpList_exec rfl (exec_load_row rfl rfl q1.out.1 rfl rfl (by rw [S_kb]; rfl)) ?_; simp only [Act.put, List.setIfInBounds_toArray, List.set_cons_zero, List.set_cons_succ])
    | (refine wpList_exec rfl (exec_load_row rfl rfl q2.out rfl rfl (by rw [S_vx]; rfl)) ?_; simp only [Act.put, List.setIfInBounds_toArray, List.set_cons_zero, List.set_cons_succ]))
  refine (OFB.out _ (P1.out _ (Ext.refl _)).2.2.2).mono ?_
  rintro e v ⟨rfl, e1⟩
  have a1 : Hid ((v.alloc (Obj.cells (wcells zs).toArray 28)).heap[v.heap.size]? = some (.cells (wcells zs).toArray 28 (0, 0))) := heap_alloc_new _ _
  have e5 : Ext v ((v.alloc (Obj.cells (wcells zs).toArray 28)).setRow v.heap.size (wcells vy).toArray) := below_setRow ((Ext.refl v).alloc _) (Nat.le_refl _) _
  go_upto_region 4 with (refine wpList_store_row rfl 28 _ _ rfl v.heap.size (wcells vy).toArray rfl rfl 28 _ a1.out (by rw [S_vy]; rfl) (by rw [S_vy, S_zs]) O_vy ?_; simp only [Act.put, List.setIfInBounds_toArray, List.set_cons_zero, List.set_cons_succ])
  obtain ⟨g2, hg⟩ : ∃ g, g = v.heap.size := ⟨_, rfl⟩
  refine wp_gen (fun W => ∀ s, Ext W s → Ky s w.heap.size ka ∧ Ky s (w.heap.size + 1) kb ∧ Wr s g1 28 vx ∧ Wr s g2 28 vy ∧ Ext w s) (fun s e => by
    obtain ⟨p0, p1, p2, p3⟩ := P1.out s (e1.trans (e5.trans e))
    exact ⟨p0, p1, p2, (show Wr _ g2 28 vy from by rw [hg]; exact setRow_heap _ _ _ _ _ _ a1.out).kept e (Wr.lt (show Wr _ g2 28 vy from by rw [hg]; exact setRow_heap _ _ _ _ _ _ a1.out)), p3⟩) ?_
  rw [← hg]
  clear hg a1 e5 e1 P1 q0 q1 q2
  rintro w2 P2
  replace P2 := Lib.hid P2
  have q0 := Lib.hid (P2.out _ (Ext.refl _)).1
  have q1 := Lib.hid (P2.out _ (Ext.refl _)).2.1
  have q2 := Lib.hid (P2.out _ (Ext.refl _)).2.2.1
  have q3 := Lib.hid (P2.out _ (Ext.refl _)).2.2.2.1
  go_wp2_with (first
    | (refine wpList_exec rfl (exec_load_row rfl rfl q0.out.1 rfl rfl (by rw [S_ka]; rfl)) ?_; simp only [Act.put, List.setIfInBounds_toArray, List.set_cons_zero, List.set_cons_succ])
    | (refine wpList_exec rfl (exec_load_row rfl rfl q1.out.1 rfl rfl (by rw [S_kb]; rfl)) ?_; simp only [Act.put, List.setIfInBounds_toArray, List.set_cons_zero, List.set_cons_succ])
    | (refine wpList_exec rfl (exec_load_row rfl rfl q2.out rfl rfl (by rw [S_vx]; rfl)) ?_; simp only [Act.put, List.setIfInBounds_toArray, List.set_cons_zero, List.set_cons_succ])
    | (refine wpList_exec rfl (exec_load_row rfl rfl q3.out rfl rfl (by rw [S_vy]; rfl)) ?_; simp only [Act.put, List.setIfInBounds_toArray, List.set_cons_zero, List.set_cons_succ]))
  refine (RFA.out _ (P2.out _ (Ext.refl _)).2.2.2.2).mono ?_
  rintro e v ⟨rfl, e1⟩
  have a1 : Hid ((v.alloc (Obj.cells (ucells zn).toArray 32)).heap[v.heap.size]? = some (.cells (ucells zn).toArray 32 (0, 0))) := heap_alloc_new _ _
  have e5 : Ext v ((v.alloc (Obj.cells (ucells zn).toArray 32)).setRow v.heap.size (ucells dm).toArray) := below_setRow ((Ext.refl v).alloc _) (Nat.le_refl _) _
  go_upto_region 5 with (refine wpList_store_row rfl 32 _ _ rfl v.heap.size (ucells dm).toArray rfl rfl 32 _ a1.out (by rw [S_dm]; rfl) (by rw [S_dm, S_zn]) O_dm ?_; simp only [Act.put, List.setIfInBounds_toArray, List.set_cons_zero, List.set_cons_succ])
  obtain ⟨g3, hg⟩ : ∃ g, g = v.heap.size := ⟨_, rfl⟩
  refine wp_gen (fun W => ∀ s, Ext W s → Ky s w.heap.size ka ∧ Ky s (w.heap.size + 1) kb ∧ Wr s g1 28 vx ∧ Wr s g2 28 vy ∧ Ur s g3 32 dm ∧ Ext w s) (fun s e => by
    obtain ⟨p0, p1, p2, p3, p4⟩ := P2.out s (e1.trans (e5.trans e))
    exact ⟨p0, p1, p2, p3, (show Ur _ g3 32 dm from by rw [hg]; exact setRow_heap _ _ _ _ _ _ a1.out).kept e (Ur.lt (show Ur _ g3 32 dm from by rw [hg]; exact setRow_heap _ _ _ _ _ _ a1.out)), p4⟩) ?_
  rw [← hg]
  clear hg a1 e5 e1 P2 q0 q1 q2 q3
  rintro w3 P3
  replace P3 := Lib.hid P3
  have q0 := Lib.hid (P3.out _ (Ext.refl _)).1
  have q1 := Lib.hid (P3.out _ (Ext.refl _)).2.1
  have q2 := Lib.hid (P3.out _ (Ext.refl _)).2.2.1
  have q3 := Lib.hid (P3.out _ (Ext.refl _)).2.2.2.1
  have q4 := Lib.hid (P3.out _ (Ext.refl _)).2.2.2.2.1
  go_wp2_with (first
    | (refine wpList_exec rfl (exec_load_row rfl rfl q0.out.1 rfl rfl (by rw [S_ka]; rfl)) ?_; simp only [Act.put, List.setIfInBounds_toArray, List.set_cons_zero, List.set_cons_succ])
    | (refine wpList_exec rfl (exec_load_row rfl rfl q1.out.1 rfl rfl (by rw [S_kb]; rfl)) ?_; simp only [Act.put, List.setIfInBounds_toArray, List.set_cons_zero, List.set_cons_succ])
    | (refine wpList_exec rfl (exec_load_row rfl rfl q2.out rfl rfl (by rw [S_vx]; rfl)) ?_; simp only [Act.put, List.setIfInBounds_toArray, List.set_cons_zero, List.set_cons_succ])
    | (refine wpList_exec rfl (exec_load_row rfl rfl q3.out rfl rfl (by rw [S_vy]; rfl)) ?_; simp only [Act.put, List.setIfInBounds_toArray, List.set_cons_zero, List.set_cons_succ])
    | (refine wpList_exec rfl (exec_load_row rfl rfl q4.out rfl rfl (by rw [S_dm]; rfl)) ?_; simp only [Act.put, List.setIfInBounds_toArray, List.set_cons_zero, List.set_cons_succ]))
  refine (RFB.out _ (P3.out _ (Ext.refl _)).2.2.2.2.2).mono ?_
  rintro e v ⟨rfl, e1⟩
  have a1 : Hid ((v.alloc (Obj.cells (ucells zn).toArray 32)).heap[v.heap.size]? = some (.cells (ucells zn).toArray 32 (0, 0))) := heap_alloc_new _ _
  have e5 : Ext v ((v.alloc (Obj.cells (ucells zn).toArray 32)).setRow v.heap.size (ucells dn).toArray) := below_setRow ((Ext.refl v).alloc _) (Nat.le_refl _) _
  go_upto_region 6 with (refine wpList_store_row rfl 32 _ _ rfl v.heap.size (ucells dn).toArray rfl rfl 32 _ a1.out (by rw [S_dn]; rfl) (by rw [S_dn, S_zn]) O_dn ?_; simp only [Act.put, List.setIfInBounds_toArray, List.set_cons_zero, List.set_cons_succ])
  obtain ⟨g4, hg⟩ : ∃ g, g = v.heap.size := ⟨_, rfl⟩
  refine wp_gen (fun W => ∀ s, Ext W s → Ky s w.heap.size ka ∧ Ky s (w.heap.size + 1) kb ∧ Wr s g1 28 vx ∧ Wr s g2 28 vy ∧ Ur s g3 32 dm ∧ Ur s g4 32 dn ∧ Ext w s) (fun s e => by
    obtain ⟨p0, p1, p2, p3, p4, p5⟩ := P3.out s (e1.trans (e5.trans e))
    exact ⟨p0, p1, p2, p3, p4, (show Ur _ g4 32 dn from by rw [hg]; exact setRow_heap _ _ _ _ _ _ a1.out).kept e (Ur.lt (show Ur _ g4 32 dn from by rw [hg]; exact setRow_heap _ _ _ _ _ _ a1.out)), p5⟩) ?_
  rw [← hg]
  clear hg a1 e5 e1 P3 q0 q1 q2 q3 q4
  rintro w4 P4
  replace P4 := Lib.hid P4
  go_wp2_with fail
  refine wp_region_seq (R := Ext) Ext.refl (fun _ _ _ => Ext.trans) [0, 1, 2, 4, 3, 5, 6, 7, 8, 9, 10, 13, 14, 11, 12, 15, 16, 17, 18, 19, 20, 21, 24, 25, 22, 23, 26, 27, 28, 29, 30, 31, 32, 35, 36, 33, 34, 37, 38, 39, 40, 41] [3, 5, 11, 12, 15, 16, 22, 23, 26, 27, 33, 34, 37, 38] [(0, 20, 64), (1, 21, 1048576), (2, 22, 2097280), (6, 23, 6291456), (2, 24, 2097664), (26, 25, 18874368), (42, 26, 44040192), (66, 27, 69206016), (160, 28, 134217728), (256, 29, 268435584), (256, 30, 268435712), (1792, 31, 1879048192), (2304, 32, 2415919104), (256, 33, 268435968), (256, 34, 268436480), (28928, 35, 26038239232), (33024, 36, 34628173824), (69888, 37, 73282879488), (131328, 38, 137707388928), (327680, 39, 274877906944), (524288, 40, 549755814016), (524288, 41, 549755814144), (3670016, 42, 3848290697216), (4718592, 43, 4947802324992), (524288, 44, 549755814400), (524288, 45, 549755814912), (59244544, 46, 53326313947136), (67633152, 47, 70918499991552), (143130624, 48, 150083337191424), (268959744, 49, 282024732524544), (671088640, 50, 562949953421312), (1073741824, 51, 1125899906842752), (1073741824, 52, 1125899906842880), (7516192768, 53, 7881299347898368), (9663676416, 54, 10133099161583616), (1073741824, 55, 1125899906843136), (1073741824, 56, 1125899906843648), (121332826112, 57, 109212290963734528), (138512695296, 58, 145241087982698496), (293131517952, 59, 307370674568036352), (550829555712, 60, 577586652210266112), (2199023255551, 5, 1152921504606846976)] (by kernel_rfl) (by kernel_rfl) (by kernel_rfl) rfl (by kernel_rfl) (by kernel_rfl) (fun _ _ d _ _ h => by cases d <;> exact h) ?_
  iterate 2 (first | (refine seq_read (fun _ => True) (fun _ _ => trivial) _ (v := ?_) rfl rfl (by rfl) ?_ ?_; rotate_left; (· intro w' hF; go_simp; (try with_reducible rfl)); simp only [Act.put, List.setIfInBounds_toArray, List.set_cons_zero, List.set_cons_succ]) | (refine seq_skip _ rfl rfl (by rfl) ?_; simp only [Act.put, List.setIfInBounds_toArray, List.set_cons_zero, List.set_cons_succ]))
  refine seq_read (fun w' => w'.heap[g1]? = some (.cells (wcells vx).toArray 28 (0, 0))) (fun w' e => (P4.out w' ((Ext.refl _).drew.trans e)).2.2.1) _ (v := .agg (wcells vx).toArray) rfl rfl (by rfl) (fun w' hF => exec_load_row rfl rfl hF rfl rfl (by rw [S_vx]; rfl)) ?_
  simp only [Act.put, List.setIfInBounds_toArray, List.set_cons_zero, List.set_cons_succ]
  refine seq_read (fun w' => w'.heap[g3]? = some (.cells (ucells dm).toArray 32 (0, 0))) (fun w' e => (P4.out w' ((Ext.refl _).drew.trans e)).2.2.2.2.1) _ (v := .agg (ucells dm).toArray) rfl rfl (by rfl) (fun w' hF => exec_load_row rfl rfl hF rfl rfl (by rw [S_dm]; rfl)) ?_
  simp only [Act.put, List.setIfInBounds_toArray, List.set_cons_zero, List.set_cons_succ]
  refine seq_do _ rfl rfl (by rfl) (fun K1 hK1 => ?_)
  go_simp
  refine (KX.out _ (P4.out _ (Ext.refl _).drew).2.2.2.2.2.2).mono ?_
  rintro e w5 ⟨rfl, e1⟩
  refine hK1.out _ _ e1 ?_
  clear hK1 K1
  try simp only [Act.put, List.setIfInBounds_toArray, List.set_cons_zero, List.set_cons_succ]
  have P5 : Hid (∀ s, Ext w5 s → Ky s w.heap.size ka ∧ Ky s (w.heap.size + 1) kb ∧ Wr s g1 28 vx ∧ Wr s g2 28 vy ∧ Ur s g3 32 dm ∧ Ur s g4 32 dn ∧ Ext w s) := fun s e => P4.out s ((Ext.refl _).drew.trans (e1.trans e))
  clear P4 e1
  refine seq_do _ rfl rfl (by rfl) (fun K1 hK1 => ?_)
  go_simp
  refine (NKX.out _ (P5.out _ (Ext.refl _)).2.2.2.2.2.2).mono ?_
  rintro e w6 ⟨rfl, e1⟩
  refine hK1.out _ _ e1 ?_
  clear hK1 K1
  try simp only [Act.put, List.setIfInBounds_toArray, List.set_cons_zero, List.set_cons_succ]
  have P6 : Hid (∀ s, Ext w6 s → Ky s w.heap.size ka ∧ Ky s (w.heap.size + 1) kb ∧ Wr s g1 28 vx ∧ Wr s g2 28 vy ∧ Ur s g3 32 dm ∧ Ur s g4 32 dn ∧ Ext w s) := fun s e => P5.out s (e1.trans e)
  clear P5 e1
  refine seq_read (fun _ => True) (fun _ _ => trivial) _ (v := .bool true) rfl rfl (by rfl) (fun w' _ => exec_eql_keyB (xs := gx) (ys := gx) (decide_eq_true rfl) L_gx L_gx rfl rfl rfl) ?_
  simp only [Act.put, List.setIfInBounds_toArray, List.set_cons_zero, List.set_cons_succ]
  iterate 2 (first | (refine seq_read (fun _ => True) (fun _ _ => trivial) _ (v := ?_) rfl rfl (by rfl) ?_ ?_; rotate_left; (· intro w' hF; go_simp; (try with_reducible rfl)); simp only [Act.put, List.setIfInBounds_toArray, List.set_cons_zero, List.set_cons_succ]) | (refine seq_skip _ rfl rfl (by rfl) ?_; simp only [Act.put, List.setIfInBounds_toArray, List.set_cons_zero, List.set_cons_succ]))
  refine seq_read (fun w' => w'.heap[g1]? = some (.cells (wcells vx).toArray 28 (0, 0))) (fun w' e => (P6.out w' e).2.2.1) _ (v := .agg (wcells vx).toArray) rfl rfl (by rfl) (fun w' hF => exec_load_row rfl rfl hF rfl rfl (by rw [S_vx]; rfl)) ?_
  simp only [Act.put, List.setIfInBounds_toArray, List.set_cons_zero, List.set_cons_succ]
  refine seq_read (fun w' => w'.heap[g2]? = some (.cells (wcells vy).toArray 28 (0, 0))) (fun w' e => (P6.out w' e).2.2.2.1) _ (v := .agg (wcells vy).toArray) rfl rfl (by rfl) (fun w' hF => exec_load_row rfl rfl hF rfl rfl (by rw [S_vy]; rfl)) ?_
  simp only [Act.put, List.setIfInBounds_toArray, List.set_cons_zero, List.set_cons_succ]
  refine seq_read (fun w' => w'.heap[g3]? = some (.cells (ucells dm).toArray 32 (0, 0))) (fun w' e => (P6.out w' e).2.2.2.2.1) _ (v := .agg (ucells dm).toArray) rfl rfl (by rfl) (fun w' hF => exec_load_row rfl rfl hF rfl rfl (by rw [S_dm]; rfl)) ?_
  simp only [Act.put, List.setIfInBounds_toArray, List.set_cons_zero, List.set_cons_succ]
  refine seq_read (fun w' => w'.heap[g4]? = some (.cells (ucells dn).toArray 32 (0, 0))) (fun w' e => (P6.out w' e).2.2.2.2.2.1) _ (v := .agg (ucells dn).toArray) rfl rfl (by rfl) (fun w' hF => exec_load_row rfl rfl hF rfl rfl (by rw [S_dn]; rfl)) ?_
  simp only [Act.put, List.setIfInBounds_toArray, List.set_cons_zero, List.set_cons_succ]
  refine seq_do _ rfl rfl (by rfl) (fun K1 hK1 => ?_)
  go_simp
  refine (EA.out _ (P6.out _ (Ext.refl _)).2.2.2.2.2.2).mono ?_
  rintro e w7 ⟨rfl, e1⟩
  refine hK1.out _ _ e1 ?_
  clear hK1 K1
  try simp only [Act.put, List.setIfInBounds_toArray, List.set_cons_zero, List.set_cons_succ]
  have P7 : Hid (∀ s, Ext w7 s → Ky s w.heap.size ka ∧ Ky s (w.heap.size + 1) kb ∧ Wr s g1 28 vx ∧ Wr s g2 28 vy ∧ Ur s g3 32 dm ∧ Ur s g4 32 dn ∧ Ext w s) := fun s e => P6.out s (e1.trans e)
  clear P6 e1
  refine seq_do _ rfl rfl (by rfl) (fun K1 hK1 => ?_)
  go_simp
  refine (KA.out _ (P7.out _ (Ext.refl _)).2.2.2.2.2.2).mono ?_
  rintro e w8 ⟨rfl, e1⟩
  refine hK1.out _ _ e1 ?_
  clear hK1 K1
  try simp only [Act.put, List.setIfInBounds_toArray, List.set_cons_zero, List.set_cons_succ]
  have P8 : Hid (∀ s, Ext w8 s → Ky s w.heap.size ka ∧ Ky s (w.heap.size + 1) kb ∧ Wr s g1 28 vx ∧ Wr s g2 28 vy ∧ Ur s g3 32 dm ∧ Ur s g4 32 dn ∧ Ext w s) := fun s e => P7.out s (e1.trans e)
  clear P7 e1
  refine seq_do _ rfl rfl (by rfl) (fun K1 hK1 => ?_)
  go_simp
  refine (NA.out _ (P8.out _ (Ext.refl _)).2.2.2.2.2.2).mono ?_
  rintro e w9 ⟨rfl, e1⟩
  refine hK1.out _ _ e1 ?_
  clear hK1 K1
  try simp only [Act.put, List.setIfInBounds_toArray, List.set_cons_zero, List.set_cons_succ]
  have P9 : Hid (∀ s, Ext w9 s → Ky s w.heap.size ka ∧ Ky s (w.heap.size + 1) kb ∧ Wr s g1 28 vx ∧ Wr s g2 28 vy ∧ Ur s g3 32 dm ∧ Ur s g4 32 dn ∧ Ext w s) := fun s e => P8.out s (e1.trans e)
  clear P8 e1
  refine seq_do _ rfl rfl (by rfl) (fun K1 hK1 => ?_)
  go_simp
  refine (NKA.out _ (P9.out _ (Ext.refl _)).2.2.2.2.2.2).mono ?_
  rintro e w10 ⟨rfl, e1⟩
  refine hK1.out _ _ e1 ?_
  clear hK1 K1
  try simp only [Act.put, List.setIfInBounds_toArray, List.set_cons_zero, List.set_cons_succ]
  have P10 : Hid (∀ s, Ext w10 s → Ky s w.heap.size ka ∧ Ky s (w.heap.size + 1) kb ∧ Wr s g1 28 vx ∧ Wr s g2 28 vy ∧ Ur s g3 32 dm ∧ Ur s g4 32 dn ∧ Ext w s) := fun s e => P9.out s (e1.trans e)
  clear P9 e1
  refine seq_read (fun _ => True) (fun _ _ => trivial) _ (v := .bool true) rfl rfl (by rfl) (fun w' _ => exec_eql_keyB (xs := ga) (ys := ga) (decide_eq_true rfl) L_ga L_ga rfl rfl rfl) ?_
  simp only [Act.put, List.setIfInBounds_toArray, List.set_cons_zero, List.set_cons_succ]
  iterate 2 (first | (refine seq_read (fun _ => True) (fun _ _ => trivial) _ (v := ?_) rfl rfl (by rfl) ?_ ?_; rotate_left; (· intro w' hF; go_simp; (try with_reducible rfl)); simp only [Act.put, List.setIfInBounds_toArray, List.set_cons_zero, List.set_cons_succ]) | (refine seq_skip _ rfl rfl (by rfl) ?_; simp only [Act.put, List.setIfInBounds_toArray, List.set_cons_zero, List.set_cons_succ]))
  refine seq_read (fun w' => w'.heap[g1]? = some (.cells (wcells vx).toArray 28 (0, 0))) (fun w' e => (P10.out w' e).2.2.1) _ (v := .agg (wcells vx).toArray) rfl rfl (by rfl) (fun w' hF => exec_load_row rfl rfl hF rfl rfl (by rw [S_vx]; rfl)) ?_
  simp only [Act.put, List.setIfInBounds_toArray, List.set_cons_zero, List.set_cons_succ]
  refine seq_read (fun w' => w'.heap[g2]? = some (.cells (wcells vy).toArray 28 (0, 0))) (fun w' e => (P10.out w' e).2.2.2.1) _ (v := .agg (wcells vy).toArray) rfl rfl (by rfl) (fun w' hF => exec_load_row rfl rfl hF rfl rfl (by rw [S_vy]; rfl)) ?_
  simp only [Act.put, List.setIfInBounds_toArray, List.set_cons_zero, List.set_cons_succ]
  refine seq_read (fun w' => w'.heap[g3]? = some (.cells (ucells dm).toArray 32 (0, 0))) (fun w' e => (P10.out w' e).2.2.2.2.1) _ (v := .agg (ucells dm).toArray) rfl rfl (by rfl) (fun w' hF => exec_load_row rfl rfl hF rfl rfl (by rw [S_dm]; rfl)) ?_
  simp only [Act.put, List.setIfInBounds_toArray, List.set_cons_zero, List.set_cons_succ]
  refine seq_read (fun w' => w'.heap[g4]? = some (.cells (ucells dn).toArray 32 (0, 0))) (fun w' e => (P10.out w' e).2.2.2.2.2.1) _ (v := .agg (ucells dn).toArray) rfl rfl (by rfl) (fun w' hF => exec_load_row rfl rfl hF rfl rfl (by rw [S_dn]; rfl)) ?_
  simp only [Act.put, List.setIfInBounds_toArray, List.set_cons_zero, List.set_cons_succ]
  refine seq_do _ rfl rfl (by rfl) (fun K1 hK1 => ?_)
  go_simp
  refine (ES.out _ (P10.out _ (Ext.refl _)).2.2.2.2.2.2).mono ?_
  rintro e w11 ⟨rfl, e1⟩
  refine hK1.out _ _ e1 ?_
  clear hK1 K1
  try simp only [Act.put, List.setIfInBounds_toArray, List.set_cons_zero, List.set_cons_succ]
  have P11 : Hid (∀ s, Ext w11 s → Ky s w.heap.size ka ∧ Ky s (w.heap.size + 1) kb ∧ Wr s g1 28 vx ∧ Wr s g2 28 vy ∧ Ur s g3 32 dm ∧ Ur s g4 32 dn ∧ Ext w s) := fun s e => P10.out s (e1.trans e)
  clear P10 e1
  refine seq_do _ rfl rfl (by rfl) (fun K1 hK1 => ?_)
  go_simp
  refine (KS.out _ (P11.out _ (Ext.refl _)).2.2.2.2.2.2).mono ?_
  rintro e w12 ⟨rfl, e1⟩
  refine hK1.out _ _ e1 ?_
  clear hK1 K1
  try simp only [Act.put, List.setIfInBounds_toArray, List.set_cons_zero, List.set_cons_succ]
  have P12 : Hid (∀ s, Ext w12 s → Ky s w.heap.size ka ∧ Ky s (w.heap.size + 1) kb ∧ Wr s g1 28 vx ∧ Wr s g2 28 vy ∧ Ur s g3 32 dm ∧ Ur s g4 32 dn ∧ Ext w s) := fun s e => P11.out s (e1.trans e)
  clear P11 e1
  refine seq_do _ rfl rfl (by rfl) (fun K1 hK1 => ?_)
  go_simp
  refine (NS.out _ (P12.out _ (Ext.refl _)).2.2.2.2.2.2).mono ?_
  rintro e w13 ⟨rfl, e1⟩
  refine hK1.out _ _ e1 ?_
  clear hK1 K1
  try simp only [Act.put, List.setIfInBounds_toArray, List.set_cons_zero, List.set_cons_succ]
  have P13 : Hid (∀ s, Ext w13 s → Ky s w.heap.size ka ∧ Ky s (w.heap.size + 1) kb ∧ Wr s g1 28 vx ∧ Wr s g2 28 vy ∧ Ur s g3 32 dm ∧ Ur s g4 32 dn ∧ Ext w s) := fun s e => P12.out s (e1.trans e)
  clear P12 e1
  refine seq_do _ rfl rfl (by rfl) (fun K1 hK1 => ?_)
  go_simp
  refine (NKS.out _ (P13.out _ (Ext.refl _)).2.2.2.2.2.2).mono ?_
  rintro e w14 ⟨rfl, e1⟩
  refine hK1.out _ _ e1 ?_
  clear hK1 K1
  try simp only [Act.put, List.setIfInBounds_toArray, List.set_cons_zero, List.set_cons_succ]
  have P14 : Hid (∀ s, Ext w14 s → Ky s w.heap.size ka ∧ Ky s (w.heap.size + 1) kb ∧ Wr s g1 28 vx ∧ Wr s g2 28 vy ∧ Ur s g3 32 dm ∧ Ur s g4 32 dn ∧ Ext w s) := fun s e => P13.out s (e1.trans e)
  clear P13 e1
  refine seq_read (fun _ => True) (fun _ _ => trivial) _ (v := .bool true) rfl rfl (by rfl) (fun w' _ => exec_eql_keyB (xs := gs) (ys := gs) (decide_eq_true rfl) L_gs L_gs rfl rfl rfl) ?_
  simp only [Act.put, List.setIfInBounds_toArray, List.set_cons_zero, List.set_cons_succ]
  iterate 2 (first | (refine seq_read (fun _ => True) (fun _ _ => trivial) _ (v := ?_) rfl rfl (by rfl) ?_ ?_; rotate_left; (· intro w' hF; go_simp; (try with_reducible rfl)); simp only [Act.put, List.setIfInBounds_toArray, List.set_cons_zero, List.set_cons_succ]) | (refine seq_skip _ rfl rfl (by rfl) ?_; simp only [Act.put, List.setIfInBounds_toArray, List.set_cons_zero, List.set_cons_succ]))
  refine seq_read (fun w' => w'.heap[g1]? = some (.cells (wcells vx).toArray 28 (0, 0))) (fun w' e => (P14.out w' e).2.2.1) _ (v := .agg (wcells vx).toArray) rfl rfl (by rfl) (fun w' hF => exec_load_row rfl rfl hF rfl rfl (by rw [S_vx]; rfl)) ?_
  simp only [Act.put, List.setIfInBounds_toArray, List.set_cons_zero, List.set_cons_succ]
  refine seq_read (fun w' => w'.heap[g2]? = some (.cells (wcells vy).toArray 28 (0, 0))) (fun w' e => (P14.out w' e).2.2.2.1) _ (v := .agg (wcells vy).toArray) rfl rfl (by rfl) (fun w' hF => exec_load_row rfl rfl hF rfl rfl (by rw [S_vy]; rfl)) ?_
  simp only [Act.put, List.setIfInBounds_toArray, List.set_cons_zero, List.set_cons_succ]
  refine seq_read (fun w' => w'.heap[g3]? = some (.cells (ucells dm).toArray 32 (0, 0))) (fun w' e => (P14.out w' e).2.2.2.2.1) _ (v := .agg (ucells dm).toArray) rfl rfl (by rfl) (fun w' hF => exec_load_row rfl rfl hF rfl rfl (by rw [S_dm]; rfl)) ?_
  simp only [Act.put, List.setIfInBounds_toArray, List.set_cons_zero, List.set_cons_succ]
  refine seq_read (fun w' => w'.heap[g4]? = some (.cells (ucells dn).toArray 32 (0, 0))) (fun w' e => (P14.out w' e).2.2.2.2.2.1) _ (v := .agg (ucells dn).toArray) rfl rfl (by rfl) (fun w' hF => exec_load_row rfl rfl hF rfl rfl (by rw [S_dn]; rfl)) ?_
  simp only [Act.put, List.setIfInBounds_toArray, List.set_cons_zero, List.set_cons_succ]
  refine seq_do _ rfl rfl (by rfl) (fun K1 hK1 => ?_)
  go_simp
  refine (EM.out _ (P14.out _ (Ext.refl _)).2.2.2.2.2.2).mono ?_
  rintro e w15 ⟨rfl, e1⟩
  refine hK1.out _ _ e1 ?_
  clear hK1 K1
  try simp only [Act.put, List.setIfInBounds_toArray, List.set_cons_zero, List.set_cons_succ]
  have P15 : Hid (∀ s, Ext w15 s → Ky s w.heap.size ka ∧ Ky s (w.heap.size + 1) kb ∧ Wr s g1 28 vx ∧ Wr s g2 28 vy ∧ Ur s g3 32 dm ∧ Ur s g4 32 dn ∧ Ext w s) := fun s e => P14.out s (e1.trans e)
  clear P14 e1
  refine seq_do _ rfl rfl (by rfl) (fun K1 hK1 => ?_)
  go_simp
  refine (KP.out _ (P15.out _ (Ext.refl _)).2.2.2.2.2.2).mono ?_
  rintro e w16 ⟨rfl, e1⟩
  refine hK1.out _ _ e1 ?_
  clear hK1 K1
  try simp only [Act.put, List.setIfInBounds_toArray, List.set_cons_zero, List.set_cons_succ]
  have P16 : Hid (∀ s, Ext w16 s → Ky s w.heap.size ka ∧ Ky s (w.heap.size + 1) kb ∧ Wr s g1 28 vx ∧ Wr s g2 28 vy ∧ Ur s g3 32 dm ∧ Ur s g4 32 dn ∧ Ext w s) := fun s e => P15.out s (e1.trans e)
  clear P15 e1
  refine seq_do _ rfl rfl (by rfl) (fun K1 hK1 => ?_)
  go_simp
  refine (NM.out _ (P16.out _ (Ext.refl _)).2.2.2.2.2.2).mono ?_
  rintro e w17 ⟨nz, KNZ, rfl, e1⟩
  replace KNZ := Lib.hid KNZ
  refine hK1.out _ _ e1 ?_
  clear hK1 K1
  try simp only [Act.put, List.setIfInBounds_toArray, List.set_cons_zero, List.set_cons_succ]
  have P17 : Hid (∀ s, Ext w17 s → Ky s w.heap.size ka ∧ Ky s (w.heap.size + 1) kb ∧ Wr s g1 28 vx ∧ Wr s g2 28 vy ∧ Ur s g3 32 dm ∧ Ur s g4 32 dn ∧ Ext w s) := fun s e => P16.out s (e1.trans e)
  clear P16 e1
  refine seq_do _ rfl rfl (by rfl) (fun K1 hK1 => ?_)
  go_simp
  refine (KNZ.out _ (P17.out _ (Ext.refl _)).2.2.2.2.2.2).mono ?_
  rintro e w18 ⟨rfl, e1⟩
  refine hK1.out _ _ e1 ?_
  clear hK1 K1
  try simp only [Act.put, List.setIfInBounds_toArray, List.set_cons_zero, List.set_cons_succ]
  have P18 : Hid (∀ s, Ext w18 s → Ky s w.heap.size ka ∧ Ky s (w.heap.size + 1) kb ∧ Wr s g1 28 vx ∧ Wr s g2 28 vy ∧ Ur s g3 32 dm ∧ Ur s g4 32 dn ∧ Ext w s) := fun s e => P17.out s (e1.trans e)
  clear P17 e1
  refine seq_read (fun _ => True) (fun _ _ => trivial) _ (v := .bool true) rfl rfl (by rfl) (fun w' _ => exec_eql_keyB (xs := gp) (ys := gp) (decide_eq_true rfl) L_gp L_gp rfl rfl rfl) ?_
  simp only [Act.put, List.setIfInBounds_toArray, List.set_cons_zero, List.set_cons_succ]
  repeat (first | (refine seq_read (fun _ => True) (fun _ _ => trivial) _ (v := ?_) rfl rfl (by rfl) ?_ ?_; rotate_left; (· intro w' hF; go_simp; (try with_reducible rfl)); simp only [Act.put, List.setIfInBounds_toArray, List.set_cons_zero, List.set_cons_succ]) | (refine seq_skip _ rfl rfl (by rfl) ?_; simp only [Act.put, List.setIfInBounds_toArray, List.set_cons_zero, List.set_cons_succ]))
  refine seq_done ?_
  have EE := Lib.hid (P18.out _ (Ext.refl _)).2.2.2.2.2.2
  clear P18
  go_wp2_with fail
  go_ret
  exact ⟨rfl, EE.out⟩
end Go.Proofs.YteognebhlehjlaaDoor
