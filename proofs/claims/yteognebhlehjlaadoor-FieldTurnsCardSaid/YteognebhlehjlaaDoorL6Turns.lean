/-
  FieldTurns: sums and products can be turned about, and parted.
-/
import Derived.Test.YteognebhlehjlaaDoorAwake6
import Derived.Test.YteognebhlehjlaaDoorFldBack
import Derived.Test.YteognebhlehjlaaDoorSeq
import Derived.Test.YteognebhlehjlaaDoorSeqZ
import Derived.Test.YteognebhlehjlaaDoorSeqT
import Derived.Test.YteognebhlehjlaaDoorFldSl
namespace Go.Proofs.YteognebhlehjlaaDoor
open Go.ChangeShapes Go.WideShapes Go.ChangeAt Go.RowKit Go.Deep
set_option maxRecDepth 100000

set_option maxHeartbeats 8000000 in
theorem fieldTurns_calls {ka kb kc : List UInt8} {w : World} (ha : ka.length = 32) (hb : kb.length = 32) (hc : kc.length = 32) {tg : TypeId × Nat × Nat} (hG : Gp w tg) :
    Calls Tryd.prog 5 #[.agg (cellsOf ka).toArray, .agg (cellsOf kb).toArray, .agg (cellsOf kc).toArray] w fun e w' => e = .returned (.bool true) ∧ Ext w w' := by
  have AW : Hid (∀ W, Ext w W → Calls Tryd.prog 9 #[] W fun e w' => e = .returned (.bool true) ∧ Ext W w') := fun W e => awake6_calls (hG.ext e)
  obtain ⟨x, hx⟩ : ∃ x, x = ofV ka := ⟨_, rfl⟩
  have xp : x < P25 := by rw [hx]; exact ofV_lt ka
  obtain ⟨y, hy⟩ : ∃ x, x = ofV kb := ⟨_, rfl⟩
  have yp : y < P25 := by rw [hy]; exact ofV_lt kb
  obtain ⟨z, hz⟩ : ∃ x, x = ofV kc := ⟨_, rfl⟩
  have zp : z < P25 := by rw [hz]; exact ofV_lt kc
  have OFA : Hid (∀ W, Ext w W → Calls Tryd.prog 10 #[.agg (cellsOf ka).toArray] W fun e w' => e = .returned (.agg (wcells (lbs 8 (x))).toArray) ∧ Ext W w') := fun W e => by
    rw [hx]; exact of_calls ha (hG.ext e)
  have OFB : Hid (∀ W, Ext w W → Calls Tryd.prog 10 #[.agg (cellsOf kb).toArray] W fun e w' => e = .returned (.agg (wcells (lbs 8 (y))).toArray) ∧ Ext W w') := fun W e => by
    rw [hy]; exact of_calls hb (hG.ext e)
  have OFC : Hid (∀ W, Ext w W → Calls Tryd.prog 10 #[.agg (cellsOf kc).toArray] W fun e w' => e = .returned (.agg (wcells (lbs 8 (z))).toArray) ∧ Ext W w') := fun W e => by
    rw [hz]; exact of_calls hc (hG.ext e)
  have AXY : Hid (∀ W, Ext w W → Calls Tryd.prog 14 #[.agg (wcells (lbs 8 (x))).toArray, .agg (wcells (lbs 8 (y))).toArray] W fun e w' => e = .returned (.agg (wcells (lbs 8 ((x + y) % P25))).toArray) ∧ Ext W w') := fun W e => by
    exact eadd_calls xp yp (hG.ext e)
  have AYX : Hid (∀ W, Ext w W → Calls Tryd.prog 14 #[.agg (wcells (lbs 8 (y))).toArray, .agg (wcells (lbs 8 (x))).toArray] W fun e w' => e = .returned (.agg (wcells (lbs 8 ((x + y) % P25))).toArray) ∧ Ext W w') := fun W e => by
    have := eadd_calls yp xp (hG.ext e)
    rw [Nat.add_comm y x] at this
    exact this
  have MXY : Hid (∀ W, Ext w W → Calls Tryd.prog 18 #[.agg (wcells (lbs 8 (x))).toArray, .agg (wcells (lbs 8 (y))).toArray] W fun e w' => e = .returned (.agg (wcells (lbs 8 (x * y % P25))).toArray) ∧ Ext W w') := fun W e => by
    exact emul_calls xp yp (hG.ext e)
  have MYX : Hid (∀ W, Ext w W → Calls Tryd.prog 18 #[.agg (wcells (lbs 8 (y))).toArray, .agg (wcells (lbs 8 (x))).toArray] W fun e w' => e = .returned (.agg (wcells (lbs 8 (x * y % P25))).toArray) ∧ Ext W w') := fun W e => by
    have := emul_calls yp xp (hG.ext e)
    rw [Nat.mul_comm y x] at this
    exact this
  have AYZ : Hid (∀ W, Ext w W → Calls Tryd.prog 14 #[.agg (wcells (lbs 8 (y))).toArray, .agg (wcells (lbs 8 (z))).toArray] W fun e w' => e = .returned (.agg (wcells (lbs 8 ((y + z) % P25))).toArray) ∧ Ext W w') := fun W e => by
    exact eadd_calls yp zp (hG.ext e)
  have MXS : Hid (∀ W, Ext w W → Calls Tryd.prog 18 #[.agg (wcells (lbs 8 (x))).toArray, .agg (wcells (lbs 8 ((y + z) % P25))).toArray] W fun e w' => e = .returned (.agg (wcells (lbs 8 (x * ((y + z) % P25) % P25))).toArray) ∧ Ext W w') := fun W e => by
    exact emul_calls xp (Nat.mod_lt _ P25_pos) (hG.ext e)
  have MXZ : Hid (∀ W, Ext w W → Calls Tryd.prog 18 #[.agg (wcells (lbs 8 (x))).toArray, .agg (wcells (lbs 8 (z))).toArray] W fun e w' => e = .returned (.agg (wcells (lbs 8 (x * z % P25))).toArray) ∧ Ext W w') := fun W e => by
    exact emul_calls xp zp (hG.ext e)
  have AMM : Hid (∀ W, Ext w W → Calls Tryd.prog 14 #[.agg (wcells (lbs 8 (x * y % P25))).toArray, .agg (wcells (lbs 8 (x * z % P25))).toArray] W fun e w' => e = .returned (.agg (wcells (lbs 8 (x * ((y + z) % P25) % P25))).toArray) ∧ Ext W w') := fun W e => by
    have := eadd_calls (x := x * y % P25) (y := x * z % P25) (Nat.mod_lt _ P25_pos) (Nat.mod_lt _ P25_pos) (hG.ext e)
    rw [← Nat.add_mod, ← Nat.mul_add, ← Nat.mul_mod_mod x (y + z)] at this
    exact this
  have MMZ : Hid (∀ W, Ext w W → Calls Tryd.prog 18 #[.agg (wcells (lbs 8 (x * y % P25))).toArray, .agg (wcells (lbs 8 (z))).toArray] W fun e w' => e = .returned (.agg (wcells (lbs 8 (x * (y * z % P25) % P25))).toArray) ∧ Ext W w') := fun W e => by
    have := emul_calls (x := x * y % P25) (y := z) (Nat.mod_lt _ P25_pos) zp (hG.ext e)
    rw [Nat.mod_mul_mod, Nat.mul_assoc, ← Nat.mul_mod_mod x (y * z)] at this
    exact this
  have MYZ : Hid (∀ W, Ext w W → Calls Tryd.prog 18 #[.agg (wcells (lbs 8 (y))).toArray, .agg (wcells (lbs 8 (z))).toArray] W fun e w' => e = .returned (.agg (wcells (lbs 8 (y * z % P25))).toArray) ∧ Ext W w') := fun W e => by
    exact emul_calls yp zp (hG.ext e)
  have MXM : Hid (∀ W, Ext w W → Calls Tryd.prog 18 #[.agg (wcells (lbs 8 (x))).toArray, .agg (wcells (lbs 8 (y * z % P25))).toArray] W fun e w' => e = .returned (.agg (wcells (lbs 8 (x * (y * z % P25) % P25))).toArray) ∧ Ext W w') := fun W e => by
    exact emul_calls xp (Nat.mod_lt _ P25_pos) (hG.ext e)
  have AAZ : Hid (∀ W, Ext w W → Calls Tryd.prog 14 #[.agg (wcells (lbs 8 ((x + y) % P25))).toArray, .agg (wcells (lbs 8 (z))).toArray] W fun e w' => e = .returned (.agg (wcells (lbs 8 (((x + y) % P25 + z) % P25))).toArray) ∧ Ext W w') := fun W e => by
    exact eadd_calls (Nat.mod_lt _ P25_pos) zp (hG.ext e)
  have KA1 : Hid (∀ W, Ext w W → Calls Tryd.prog 12 #[.agg (wcells (lbs 8 ((x + y) % P25))).toArray] W fun e w' => e = .returned (.agg (cellsOf (kL ((x + y) % P25))).toArray) ∧ Ext W w') := fun W e => by
    exact ekey_calls
  have KM1 : Hid (∀ W, Ext w W → Calls Tryd.prog 12 #[.agg (wcells (lbs 8 (x * y % P25))).toArray] W fun e w' => e = .returned (.agg (cellsOf (kL (x * y % P25))).toArray) ∧ Ext W w') := fun W e => by
    exact ekey_calls
  have KDD : Hid (∀ W, Ext w W → Calls Tryd.prog 12 #[.agg (wcells (lbs 8 (x * ((y + z) % P25) % P25))).toArray] W fun e w' => e = .returned (.agg (cellsOf (kL (x * ((y + z) % P25) % P25))).toArray) ∧ Ext W w') := fun W e => by
    exact ekey_calls
  have KTT : Hid (∀ W, Ext w W → Calls Tryd.prog 12 #[.agg (wcells (lbs 8 (x * (y * z % P25) % P25))).toArray] W fun e w' => e = .returned (.agg (cellsOf (kL (x * (y * z % P25) % P25))).toArray) ∧ Ext W w') := fun W e => by
    exact ekey_calls
  have KQQ : Hid (∀ W, Ext w W → Calls Tryd.prog 12 #[.agg (wcells (lbs 8 (((x + y) % P25 + z) % P25))).toArray] W fun e w' => e = .returned (.agg (cellsOf (kL (((x + y) % P25 + z) % P25))).toArray) ∧ Ext W w') := fun W e => by
    exact ekey_calls
  have SUM : Hid (∀ W gS, Ext w W → W.heap[gS]? = some (.cells (wcells (lbs 8 z) ++ wcells (lbs 8 y) ++ wcells (lbs 8 x)).toArray 28 (0, 0)) → Calls Tryd.prog 22 #[.slice (some ⟨gS, 0, none⟩) 3 3] W fun e w' => e = .returned (.agg (wcells (lbs 8 (((x + y) % P25 + z) % P25))).toArray) ∧ Ext W w') := fun W gS e h => sum3_calls xp yp zp h (hG.ext e)
  clear hG hx hy hz xp yp zp
  have L_vd := lbs_len 8 (x * ((y + z) % P25) % P25)
  have L_vt := lbs_len 8 (x * (y * z % P25) % P25)
  have L_vq := lbs_len 8 (((x + y) % P25 + z) % P25)
  have L_v1 := lbs_len 8 ((x + y) % P25)
  have L_v3 := lbs_len 8 (x * y % P25)
  have L_v4 := lbs_len 8 (x * z % P25)
  have L_v5 := lbs_len 8 (y * z % P25)
  have L_v6 := lbs_len 8 ((y + z) % P25)
  have L_vx := lbs_len 8 (x)
  have L_vy := lbs_len 8 (y)
  have L_vz := lbs_len 8 (z)
  have L_k1 := kL_len ((x + y) % P25)
  have L_k2 := kL_len (x * y % P25)
  have L_kd := kL_len (x * ((y + z) % P25) % P25)
  have L_kt := kL_len (x * (y * z % P25) % P25)
  have L_kq := kL_len (((x + y) % P25 + z) % P25)
  generalize lbs 8 (x * ((y + z) % P25) % P25) = vd at *
  generalize lbs 8 (x * (y * z % P25) % P25) = vt at *
  generalize lbs 8 (((x + y) % P25 + z) % P25) = vq at *
  generalize lbs 8 ((x + y) % P25) = v1 at *
  generalize lbs 8 (x * y % P25) = v3 at *
  generalize lbs 8 (x * z % P25) = v4 at *
  generalize lbs 8 (y * z % P25) = v5 at *
  generalize lbs 8 ((y + z) % P25) = v6 at *
  generalize lbs 8 (x) = vx at *
  generalize lbs 8 (y) = vy at *
  generalize lbs 8 (z) = vz at *
  generalize kL ((x + y) % P25) = k1 at *
  generalize kL (x * y % P25) = k2 at *
  generalize kL (x * ((y + z) % P25) % P25) = kd at *
  generalize kL (x * (y * z % P25) % P25) = kt at *
  generalize kL (((x + y) % P25 + z) % P25) = kq at *
  have hal2 := elem_alloc
  have L_zs : zw8.length = 8 := rfl
  generalize zw8 = zs at *
  have S_zs := wcells_size L_zs
  have hal : ∀ w, (zeroValue 23).run Tryd.prog w = .ok (.agg (cellsOf (List.replicate 32 0)).toArray) w := fun w => by rw [zeros32_cells]; exact key_alloc w
  have L_ka := ha
  have L_kb := hb
  have L_kc := hc
  have S_vd : (wcells vd).toArray.size = 8 := wcells_size L_vd
  have O_vd := wcells_one vd
  have S_vt : (wcells vt).toArray.size = 8 := wcells_size L_vt
  have O_vt := wcells_one vt
  have S_vq : (wcells vq).toArray.size = 8 := wcells_size L_vq
  have O_vq := wcells_one vq
  have S_v1 : (wcells v1).toArray.size = 8 := wcells_size L_v1
  have O_v1 := wcells_one v1
  have S_v3 : (wcells v3).toArray.size = 8 := wcells_size L_v3
  have O_v3 := wcells_one v3
  have S_v4 : (wcells v4).toArray.size = 8 := wcells_size L_v4
  have O_v4 := wcells_one v4
  have S_v5 : (wcells v5).toArray.size = 8 := wcells_size L_v5
  have O_v5 := wcells_one v5
  have S_v6 : (wcells v6).toArray.size = 8 := wcells_size L_v6
  have O_v6 := wcells_one v6
  have S_vx : (wcells vx).toArray.size = 8 := wcells_size L_vx
  have O_vx := wcells_one vx
  have S_vy : (wcells vy).toArray.size = 8 := wcells_size L_vy
  have O_vy := wcells_one vy
  have S_vz : (wcells vz).toArray.size = 8 := wcells_size L_vz
  have O_vz := wcells_one vz
  have S_k1 : (cellsOf k1).toArray.size = 32 := by simp [cellsOf_len, L_k1]
  have O_k1 := cellsOf_one k1
  have S_k2 : (cellsOf k2).toArray.size = 32 := by simp [cellsOf_len, L_k2]
  have O_k2 := cellsOf_one k2
  have S_kd : (cellsOf kd).toArray.size = 32 := by simp [cellsOf_len, L_kd]
  have O_kd := cellsOf_one kd
  have S_kt : (cellsOf kt).toArray.size = 32 := by simp [cellsOf_len, L_kt]
  have O_kt := cellsOf_one kt
  have S_kq : (cellsOf kq).toArray.size = 32 := by simp [cellsOf_len, L_kq]
  have O_kq := cellsOf_one kq
  have S_ka : (cellsOf ka).toArray.size = 32 := by simp [cellsOf_len, L_ka]
  have O_ka := cellsOf_one ka
  have S_kb : (cellsOf kb).toArray.size = 32 := by simp [cellsOf_len, L_kb]
  have O_kb := cellsOf_one kb
  have S_kc : (cellsOf kc).toArray.size = 32 := by simp [cellsOf_len, L_kc]
  have O_kc := cellsOf_one kc
  have B0 : Hid (∀ s, Ext (((w.alloc (Obj.cells (cellsOf ka).toArray 23)).alloc (Obj.cells (cellsOf kb).toArray 23)).alloc (Obj.cells (cellsOf kc).toArray 23)) s → Ky s w.heap.size ka ∧ Ky s (w.heap.size + 1) kb ∧ Ky s (w.heap.size + 1 + 1) kc ∧ Ext w s) := fun s e => ⟨Ky.ext ⟨heap_alloc30 _ _ _ _, ha⟩ e, Ky.ext ⟨heap_alloc31 _ _ _ _, hb⟩ e, Ky.ext ⟨heap_alloc32 _ _ _ _, hc⟩ e, ((((Ext.refl w).alloc _).alloc _).alloc _).trans e⟩
  go_enter Tryd.func5, Tryd.ntmps5
  go_wp2_with fail
  refine (AW.out _ (B0.out _ (Ext.refl _)).2.2.2).mono ?_
  rintro e w0 ⟨rfl, e1⟩
  have P0 : Hid (∀ s, Ext w0 s → Ky s w.heap.size ka ∧ Ky s (w.heap.size + 1) kb ∧ Ky s (w.heap.size + 1 + 1) kc ∧ Ext w s) := fun s e => B0.out s (e1.trans e)
  clear AW B0 e1
  have q0 := Lib.hid (P0.out _ (Ext.refl _)).1
  have q1 := Lib.hid (P0.out _ (Ext.refl _)).2.1
  have q2 := Lib.hid (P0.out _ (Ext.refl _)).2.2.1
  go_wp2_with (first
    | (refine wpList_exec rfl (exec_load_row rfl rfl q0.out.1 rfl rfl (by rw [S_ka]; rfl)) ?_; simp only [Act.put, List.setIfInBounds_toArray, List.set_cons_zero, List.set_cons_succ])
    | (refine wpList_exec rfl (exec_load_row rfl rfl q1.out.1 rfl rfl (by rw [S_kb]; rfl)) ?_; simp only [Act.put, List.setIfInBounds_toArray, List.set_cons_zero, List.set_cons_succ])
    | (refine wpList_exec rfl (exec_load_row rfl rfl q2.out.1 rfl rfl (by rw [S_kc]; rfl)) ?_; simp only [Act.put, List.setIfInBounds_toArray, List.set_cons_zero, List.set_cons_succ]))
  refine (OFA.out _ (P0.out _ (Ext.refl _)).2.2.2).mono ?_
  rintro e v ⟨rfl, e1⟩
  have a1 : Hid ((v.alloc (Obj.cells (wcells zs).toArray 28)).heap[v.heap.size]? = some (.cells (wcells zs).toArray 28 (0, 0))) := heap_alloc_new _ _
  have e5 : Ext v ((v.alloc (Obj.cells (wcells zs).toArray 28)).setRow v.heap.size (wcells vx).toArray) := below_setRow ((Ext.refl v).alloc _) (Nat.le_refl _) _
  go_upto_region 3 with (refine wpList_store_row rfl 28 _ _ rfl v.heap.size (wcells vx).toArray rfl rfl 28 _ a1.out (by rw [S_vx]; rfl) (by rw [S_vx, S_zs]) O_vx ?_; simp only [Act.put, List.setIfInBounds_toArray, List.set_cons_zero, List.set_cons_succ])
  obtain ⟨g1, hg⟩ : ∃ g, g = v.heap.size := ⟨_, rfl⟩
  refine wp_gen (fun W => ∀ s, Ext W s → Ky s w.heap.size ka ∧ Ky s (w.heap.size + 1) kb ∧ Ky s (w.heap.size + 1 + 1) kc ∧ Wr s g1 28 vx ∧ Ext w s) (fun s e => by
    obtain ⟨p0, p1, p2, p3⟩ := P0.out s (e1.trans (e5.trans e))
    exact ⟨p0, p1, p2, (show Wr _ g1 28 vx from by rw [hg]; exact setRow_heap _ _ _ _ _ _ a1.out).kept e (Wr.lt (show Wr _ g1 28 vx from by rw [hg]; exact setRow_heap _ _ _ _ _ _ a1.out)), p3⟩) ?_
  rw [← hg]
  clear hg a1 e5 e1 P0 q0 q1 q2
  rintro w1 P1
  replace P1 := Lib.hid P1
  have q0 := Lib.hid (P1.out _ (Ext.refl _)).1
  have q1 := Lib.hid (P1.out _ (Ext.refl _)).2.1
  have q2 := Lib.hid (P1.out _ (Ext.refl _)).2.2.1
  have q3 := Lib.hid (P1.out _ (Ext.refl _)).2.2.2.1
  go_wp2_with (first
    | (refine wpList_exec rfl (exec_load_row rfl rfl q0.out.1 rfl rfl (by rw [S_ka]; rfl)) ?_; simp only [Act.put, List.setIfInBounds_toArray, List.set_cons_zero, List.set_cons_succ])
    | (refine wpList_exec rfl (exec_load_row rfl rfl q1.out.1 rfl rfl (by rw [S_kb]; rfl)) ?_; simp only [Act.put, List.setIfInBounds_toArray, List.set_cons_zero, List.set_cons_succ])
    | (refine wpList_exec rfl (exec_load_row rfl rfl q2.out.1 rfl rfl (by rw [S_kc]; rfl)) ?_; simp only [Act.put, List.setIfInBounds_toArray, List.set_cons_zero, List.set_cons_succ])
    | (refine wpList_exec rfl (exec_load_row rfl rfl q3.out rfl rfl (by rw [S_vx]; rfl)) ?_; simp only [Act.put, List.setIfInBounds_toArray, List.set_cons_zero, List.set_cons_succ]))
  refine (OFB.out _ (P1.out _ (Ext.refl _)).2.2.2.2).mono ?_
  rintro e v ⟨rfl, e1⟩
  have a1 : Hid ((v.alloc (Obj.cells (wcells zs).toArray 28)).heap[v.heap.size]? = some (.cells (wcells zs).toArray 28 (0, 0))) := heap_alloc_new _ _
  have e5 : Ext v ((v.alloc (Obj.cells (wcells zs).toArray 28)).setRow v.heap.size (wcells vy).toArray) := below_setRow ((Ext.refl v).alloc _) (Nat.le_refl _) _
  go_upto_region 4 with (refine wpList_store_row rfl 28 _ _ rfl v.heap.size (wcells vy).toArray rfl rfl 28 _ a1.out (by rw [S_vy]; rfl) (by rw [S_vy, S_zs]) O_vy ?_; simp only [Act.put, List.setIfInBounds_toArray, List.set_cons_zero, List.set_cons_succ])
  obtain ⟨g2, hg⟩ : ∃ g, g = v.heap.size := ⟨_, rfl⟩
  refine wp_gen (fun W => ∀ s, Ext W s → Ky s w.heap.size ka ∧ Ky s (w.heap.size + 1) kb ∧ Ky s (w.heap.size + 1 + 1) kc ∧ Wr s g1 28 vx ∧ Wr s g2 28 vy ∧ Ext w s) (fun s e => by
    obtain ⟨p0, p1, p2, p3, p4⟩ := P1.out s (e1.trans (e5.trans e))
    exact ⟨p0, p1, p2, p3, (show Wr _ g2 28 vy from by rw [hg]; exact setRow_heap _ _ _ _ _ _ a1.out).kept e (Wr.lt (show Wr _ g2 28 vy from by rw [hg]; exact setRow_heap _ _ _ _ _ _ a1.out)), p4⟩) ?_
  rw [← hg]
  clear hg a1 e5 e1 P1 q0 q1 q2 q3
  rintro w2 P2
  replace P2 := Lib.hid P2
  have q0 := Lib.hid (P2.out _ (Ext.refl _)).1
  have q1 := Lib.hid (P2.out _ (Ext.refl _)).2.1
  have q2 := Lib.hid (P2.out _ (Ext.refl _)).2.2.1
  have q3 := Lib.hid (P2.out _ (Ext.refl _)).2.2.2.1
  have q4 := Lib.hid (P2.out _ (Ext.refl _)).2.2.2.2.1
  go_wp2_with (first
    | (refine wpList_exec rfl (exec_load_row rfl rfl q0.out.1 rfl rfl (by rw [S_ka]; rfl)) ?_; simp only [Act.put, List.setIfInBounds_toArray, List.set_cons_zero, List.set_cons_succ])
    | (refine wpList_exec rfl (exec_load_row rfl rfl q1.out.1 rfl rfl (by rw [S_kb]; rfl)) ?_; simp only [Act.put, List.setIfInBounds_toArray, List.set_cons_zero, List.set_cons_succ])
    | (refine wpList_exec rfl (exec_load_row rfl rfl q2.out.1 rfl rfl (by rw [S_kc]; rfl)) ?_; simp only [Act.put, List.setIfInBounds_toArray, List.set_cons_zero, List.set_cons_succ])
    | (refine wpList_exec rfl (exec_load_row rfl rfl q3.out rfl rfl (by rw [S_vx]; rfl)) ?_; simp only [Act.put, List.setIfInBounds_toArray, List.set_cons_zero, List.set_cons_succ])
    | (refine wpList_exec rfl (exec_load_row rfl rfl q4.out rfl rfl (by rw [S_vy]; rfl)) ?_; simp only [Act.put, List.setIfInBounds_toArray, List.set_cons_zero, List.set_cons_succ]))
  refine (OFC.out _ (P2.out _ (Ext.refl _)).2.2.2.2.2).mono ?_
  rintro e v ⟨rfl, e1⟩
  have a1 : Hid ((v.alloc (Obj.cells (wcells zs).toArray 28)).heap[v.heap.size]? = some (.cells (wcells zs).toArray 28 (0, 0))) := heap_alloc_new _ _
  have e5 : Ext v ((v.alloc (Obj.cells (wcells zs).toArray 28)).setRow v.heap.size (wcells vz).toArray) := below_setRow ((Ext.refl v).alloc _) (Nat.le_refl _) _
  go_upto_region 5 with (refine wpList_store_row rfl 28 _ _ rfl v.heap.size (wcells vz).toArray rfl rfl 28 _ a1.out (by rw [S_vz]; rfl) (by rw [S_vz, S_zs]) O_vz ?_; simp only [Act.put, List.setIfInBounds_toArray, List.set_cons_zero, List.set_cons_succ])
  obtain ⟨g3, hg⟩ : ∃ g, g = v.heap.size := ⟨_, rfl⟩
  refine wp_gen (fun W => ∀ s, Ext W s → Ky s w.heap.size ka ∧ Ky s (w.heap.size + 1) kb ∧ Ky s (w.heap.size + 1 + 1) kc ∧ Wr s g1 28 vx ∧ Wr s g2 28 vy ∧ Wr s g3 28 vz ∧ Ext w s) (fun s e => by
    obtain ⟨p0, p1, p2, p3, p4, p5⟩ := P2.out s (e1.trans (e5.trans e))
    exact ⟨p0, p1, p2, p3, p4, (show Wr _ g3 28 vz from by rw [hg]; exact setRow_heap _ _ _ _ _ _ a1.out).kept e (Wr.lt (show Wr _ g3 28 vz from by rw [hg]; exact setRow_heap _ _ _ _ _ _ a1.out)), p5⟩) ?_
  rw [← hg]
  clear hg a1 e5 e1 P2 q0 q1 q2 q3 q4
  rintro w3 P3
  replace P3 := Lib.hid P3
  have KP : Hid (∀ s, Ext w3.drew s → Wr s g1 28 vx ∧ Wr s g2 28 vy ∧ Wr s g3 28 vz ∧ Ext w s) := fun s e => (P3.out s ((Ext.refl _).drew.trans e)).2.2.2
  clear P3
  go_wp2_with fail
  refine wp_region_tree (R := Ext) Ext.refl (fun _ _ _ => Ext.trans) (.rd 0 (.rd 1 (.rd 2 (.rd 3 (.rd 6 (.rd 7 (.alt 4 (.alt 5 (.alt 8 (.alt 9 (.rd 10 (.rd 11 (.rd 12 (.rd 13 (.rd 14 (.rd 17 (.rd 18 (.alt 15 (.alt 16 (.alt 19 (.alt 20 (.rd 21 (.rd 22 (.rd 23 (.rd 24 (.rd 25 (.rd 26 (.rd 30 (.rd 31 (.rd 33 (.rd 34 (.alt 27 (.alt 28 (.alt 29 (.alt 32 (.alt 35 (.alt 36 (.alt 37 (.rd 38 (.rd 39 (.rd 40 (.rd 41 (.rd 42 (.rd 44 (.rd 47 (.rd 48 (.rd 49 (.alt 43 (.alt 45 (.alt 46 (.alt 50 (.alt 51 (.alt 52 (.rd 53 (.rd 54 (.rd 55 (.rd 56 (.rd 57 (.rd 59 (.rd 62 (.rd 63 (.rd 64 (.alt 58 (.alt 60 (.alt 61 (.alt 65 (.alt 66 (.alt 67 (.rd 68 (.rd 69 (.rd 70 .nil))) .stop) .stop) .stop) (.alt 65 (.alt 61 (.alt 66 (.alt 67 (.rd 68 (.rd 69 (.rd 70 .nil))) .stop) .stop) .stop) .stop)) (.alt 65 (.alt 60 (.alt 61 (.alt 66 (.alt 67 (.rd 68 (.rd 69 (.rd 70 .nil))) .stop) .stop) .stop) .stop) .stop)) (.alt 65 (.alt 58 (.alt 60 (.alt 61 (.alt 66 (.alt 67 (.rd 68 (.rd 69 (.rd 70 .nil))) .stop) .stop) .stop) .stop) .stop) .stop))))))))))) .stop) .stop) .stop) .stop) .stop) .stop)))))))))) .stop) .stop) .stop) .stop) .stop) .stop) .stop))))))))))) .stop) .stop) .stop) .stop)))))))) .stop) .stop) .stop) .stop))))))) [(0, 19, 256), (1, 20, 524288), (2, 21, 1049088), (2, 22, 1049600), (14, 23, 7340032), (18, 24, 9437184), (2, 25, 1049600), (2, 26, 1049088), (226, 27, 101711872), (258, 28, 135266304), (546, 29, 286261248), (1026, 30, 537919488), (2560, 31, 1073741824), (4096, 32, 2147484160), (4096, 33, 2147484672), (28672, 34, 15032385536), (36864, 35, 19327352832), (4096, 36, 2147484672), (4096, 37, 2147484160), (462848, 38, 208305913856), (528384, 39, 277025390592), (1118208, 40, 586263035904), (2101248, 41, 1101659111424), (5242880, 42, 2199023255552), (8388608, 43, 4398046511616), (8388608, 44, 4398046512128), (8388608, 45, 4398046513152), (109051904, 46, 57174604644352), (159383552, 47, 83562883710976), (276824064, 48, 145135534866432), (8388608, 49, 4398046511616), (8388608, 50, 4398046512128), (3766484992, 51, 1693247906775040), (8388608, 52, 4398046511616), (8388608, 53, 4398046513152), (30073159680, 54, 13515196928622592), (38663094272, 55, 20270596369678336), (68727865344, 56, 36033195065475072), (137984212992, 57, 72343467061149696), (274886295552, 58, 144119586122366976), (687194767360, 59, 288230376151711744), (1099511627776, 60, 576460752303424000), (1099511627776, 61, 576460752303424512), (7696581394432, 62, 4035225266123964416), (1099511627776, 63, 576460752303425536), (27487790694400, 64, 14411518807585587200), (36283883716608, 65, 19023204826012975104), (1099511627776, 66, 576460752303424000), (1099511627776, 67, 576460752303424512), (1099511627776, 68, 576460752303425536), (915893185937408, 69, 443298318521332662272), (1267736906825728, 70, 664659247405847281664), (2252899325313024, 71, 1181168081469714726912), (4575067883175936, 72, 2398653190334545133568), (9008298766368768, 73, 4722942943621948637184), (22517998136852480, 74, 9444732965739290427392), (36028797018963968, 75, 18889465931478580855296), (36028797018963968, 76, 18889465931478580855808), (252201579132747776, 77, 132226261520350065983488), (36028797018963968, 78, 18889465931478580856832), (900719925474099200, 79, 472236648286964521369600), (1188950301625810944, 80, 623352375738793168207872), (36028797018963968, 81, 18889465931478580856832), (36028797018963968, 82, 18889465931478580855808), (36028797018963968, 83, 18889465931478580855296), (32317830926010679296, 84, 16943850940536287026741248), (39235359953651761152, 85, 19361702579765545376153600), (73823005091857170432, 86, 38704515693599612171452416), (149915824395909070848, 87, 78599067740882374936756224), (295183933976371789824, 88, 154761394376604012943245312), (1180591620717411303423, 7, 309485009821345068724781056)] 71 (by kernel_rfl) (by kernel_rfl) (by kernel_rfl) rfl (by kernel_rfl) (by kernel_rfl) (fun _ _ d _ _ h => by cases d <;> exact h) ?_
  repeat (first
    | (refine seqT_read (fun w' => w'.heap[g1]? = some (.cells (wcells vx).toArray 28 (0, 0))) (fun w' e => (KP.out w' e).1) _ (v := .agg (wcells vx).toArray) rfl (by rfl) (fun w' hF => exec_load_row rfl rfl hF rfl rfl (by rw [S_vx]; rfl)) ?_; simp only [Act.put, List.setIfInBounds_toArray, List.set_cons_zero, List.set_cons_succ])
    | (refine seqT_read (fun w' => w'.heap[g2]? = some (.cells (wcells vy).toArray 28 (0, 0))) (fun w' e => (KP.out w' e).2.1) _ (v := .agg (wcells vy).toArray) rfl (by rfl) (fun w' hF => exec_load_row rfl rfl hF rfl rfl (by rw [S_vy]; rfl)) ?_; simp only [Act.put, List.setIfInBounds_toArray, List.set_cons_zero, List.set_cons_succ])
    | (refine seqT_read (fun w' => w'.heap[g3]? = some (.cells (wcells vz).toArray 28 (0, 0))) (fun w' e => (KP.out w' e).2.2.1) _ (v := .agg (wcells vz).toArray) rfl (by rfl) (fun w' hF => exec_load_row rfl rfl hF rfl rfl (by rw [S_vz]; rfl)) ?_; simp only [Act.put, List.setIfInBounds_toArray, List.set_cons_zero, List.set_cons_succ])
    | (refine seqT_read (fun _ => True) (fun _ _ => trivial) _ (v := .bool true) rfl (by rfl) (fun w' _ => exec_eql_keyB (xs := k1) (ys := k1) (decide_eq_true rfl) L_k1 L_k1 rfl rfl rfl) ?_; simp only [Act.put, List.setIfInBounds_toArray, List.set_cons_zero, List.set_cons_succ])
    | (refine seqT_read (fun _ => True) (fun _ _ => trivial) _ (v := .bool true) rfl (by rfl) (fun w' _ => exec_eql_keyB (xs := k2) (ys := k2) (decide_eq_true rfl) L_k2 L_k2 rfl rfl rfl) ?_; simp only [Act.put, List.setIfInBounds_toArray, List.set_cons_zero, List.set_cons_succ])
    | (refine seqT_read (fun _ => True) (fun _ _ => trivial) _ (v := .bool true) rfl (by rfl) (fun w' _ => exec_eql_keyB (xs := kd) (ys := kd) (decide_eq_true rfl) L_kd L_kd rfl rfl rfl) ?_; simp only [Act.put, List.setIfInBounds_toArray, List.set_cons_zero, List.set_cons_succ])
    | (refine seqT_read (fun _ => True) (fun _ _ => trivial) _ (v := .bool true) rfl (by rfl) (fun w' _ => exec_eql_keyB (xs := kt) (ys := kt) (decide_eq_true rfl) L_kt L_kt rfl rfl rfl) ?_; simp only [Act.put, List.setIfInBounds_toArray, List.set_cons_zero, List.set_cons_succ])
    | (refine seqT_read (fun _ => True) (fun _ _ => trivial) _ (v := .bool true) rfl (by rfl) (fun w' _ => exec_eql_keyB (xs := kq) (ys := kq) (decide_eq_true rfl) L_kq L_kq rfl rfl rfl) ?_; simp only [Act.put, List.setIfInBounds_toArray, List.set_cons_zero, List.set_cons_succ])
    | (refine seqT_read (fun _ => True) (fun _ _ => trivial) _ (v := ?_) rfl ?_ ?_ ?_; rotate_left; (· rfl); (· intro w' hF; go_simp; (try with_reducible rfl)); simp only [Act.put, List.setIfInBounds_toArray, List.set_cons_zero, List.set_cons_succ]))
  repeat' (first
    | exact seqT_stop
    | (refine seqT_do (i := 4) _ rfl ?_ ?_ (fun K1 hK1 => ?_)
       (· rfl)
       rotate_left
       go_simp
       refine (AXY.out _ (KP.out _ (Ext.refl _)).2.2.2).mono ?_
       rintro e WC ⟨rfl, e1⟩
       refine hK1.out _ _ e1 ?_
       clear hK1 K1
       replace KP : Hid (∀ s, Ext WC s → Wr s g1 28 vx ∧ Wr s g2 28 vy ∧ Wr s g3 28 vz ∧ Ext w s) := fun s e => KP.out s (e1.trans e)
       (try replace ES : Hid (∀ s, Ext WC s → s.heap[gS]? = some (.cells (wcells vz ++ wcells vy ++ wcells vx).toArray 28 (0, 0))) := fun s e => ES.out s (e1.trans e))
       clear e1
       (try simp only [Act.put, List.setIfInBounds_toArray, List.set_cons_zero, List.set_cons_succ])
       repeat (first
         | (refine seqT_read (fun w' => w'.heap[g1]? = some (.cells (wcells vx).toArray 28 (0, 0))) (fun w' e => (KP.out w' e).1) _ (v := .agg (wcells vx).toArray) rfl (by rfl) (fun w' hF => exec_load_row rfl rfl hF rfl rfl (by rw [S_vx]; rfl)) ?_; simp only [Act.put, List.setIfInBounds_toArray, List.set_cons_zero, List.set_cons_succ])
         | (refine seqT_read (fun w' => w'.heap[g2]? = some (.cells (wcells vy).toArray 28 (0, 0))) (fun w' e => (KP.out w' e).2.1) _ (v := .agg (wcells vy).toArray) rfl (by rfl) (fun w' hF => exec_load_row rfl rfl hF rfl rfl (by rw [S_vy]; rfl)) ?_; simp only [Act.put, List.setIfInBounds_toArray, List.set_cons_zero, List.set_cons_succ])
         | (refine seqT_read (fun w' => w'.heap[g3]? = some (.cells (wcells vz).toArray 28 (0, 0))) (fun w' e => (KP.out w' e).2.2.1) _ (v := .agg (wcells vz).toArray) rfl (by rfl) (fun w' hF => exec_load_row rfl rfl hF rfl rfl (by rw [S_vz]; rfl)) ?_; simp only [Act.put, List.setIfInBounds_toArray, List.set_cons_zero, List.set_cons_succ])
         | (refine seqT_read (fun _ => True) (fun _ _ => trivial) _ (v := .bool true) rfl (by rfl) (fun w' _ => exec_eql_keyB (xs := k1) (ys := k1) (decide_eq_true rfl) L_k1 L_k1 rfl rfl rfl) ?_; simp only [Act.put, List.setIfInBounds_toArray, List.set_cons_zero, List.set_cons_succ])
         | (refine seqT_read (fun _ => True) (fun _ _ => trivial) _ (v := .bool true) rfl (by rfl) (fun w' _ => exec_eql_keyB (xs := k2) (ys := k2) (decide_eq_true rfl) L_k2 L_k2 rfl rfl rfl) ?_; simp only [Act.put, List.setIfInBounds_toArray, List.set_cons_zero, List.set_cons_succ])
         | (refine seqT_read (fun _ => True) (fun _ _ => trivial) _ (v := .bool true) rfl (by rfl) (fun w' _ => exec_eql_keyB (xs := kd) (ys := kd) (decide_eq_true rfl) L_kd L_kd rfl rfl rfl) ?_; simp only [Act.put, List.setIfInBounds_toArray, List.set_cons_zero, List.set_cons_succ])
         | (refine seqT_read (fun _ => True) (fun _ _ => trivial) _ (v := .bool true) rfl (by rfl) (fun w' _ => exec_eql_keyB (xs := kt) (ys := kt) (decide_eq_true rfl) L_kt L_kt rfl rfl rfl) ?_; simp only [Act.put, List.setIfInBounds_toArray, List.set_cons_zero, List.set_cons_succ])
         | (refine seqT_read (fun _ => True) (fun _ _ => trivial) _ (v := .bool true) rfl (by rfl) (fun w' _ => exec_eql_keyB (xs := kq) (ys := kq) (decide_eq_true rfl) L_kq L_kq rfl rfl rfl) ?_; simp only [Act.put, List.setIfInBounds_toArray, List.set_cons_zero, List.set_cons_succ])
         | (refine seqT_read (fun _ => True) (fun _ _ => trivial) _ (v := ?_) rfl ?_ ?_ ?_; rotate_left; (· rfl); (· intro w' hF; go_simp; (try with_reducible rfl)); simp only [Act.put, List.setIfInBounds_toArray, List.set_cons_zero, List.set_cons_succ]))
       skip)
    | (refine seqT_do (i := 5) _ rfl ?_ ?_ (fun K1 hK1 => ?_)
       (· rfl)
       rotate_left
       go_simp
       refine (KA1.out _ (KP.out _ (Ext.refl _)).2.2.2).mono ?_
       rintro e WC ⟨rfl, e1⟩
       refine hK1.out _ _ e1 ?_
       clear hK1 K1
       replace KP : Hid (∀ s, Ext WC s → Wr s g1 28 vx ∧ Wr s g2 28 vy ∧ Wr s g3 28 vz ∧ Ext w s) := fun s e => KP.out s (e1.trans e)
       (try replace ES : Hid (∀ s, Ext WC s → s.heap[gS]? = some (.cells (wcells vz ++ wcells vy ++ wcells vx).toArray 28 (0, 0))) := fun s e => ES.out s (e1.trans e))
       clear e1
       (try simp only [Act.put, List.setIfInBounds_toArray, List.set_cons_zero, List.set_cons_succ])
       repeat (first
         | (refine seqT_read (fun w' => w'.heap[g1]? = some (.cells (wcells vx).toArray 28 (0, 0))) (fun w' e => (KP.out w' e).1) _ (v := .agg (wcells vx).toArray) rfl (by rfl) (fun w' hF => exec_load_row rfl rfl hF rfl rfl (by rw [S_vx]; rfl)) ?_; simp only [Act.put, List.setIfInBounds_toArray, List.set_cons_zero, List.set_cons_succ])
         | (refine seqT_read (fun w' => w'.heap[g2]? = some (.cells (wcells vy).toArray 28 (0, 0))) (fun w' e => (KP.out w' e).2.1) _ (v := .agg (wcells vy).toArray) rfl (by rfl) (fun w' hF => exec_load_row rfl rfl hF rfl rfl (by rw [S_vy]; rfl)) ?_; simp only [Act.put, List.setIfInBounds_toArray, List.set_cons_zero, List.set_cons_succ])
         | (refine seqT_read (fun w' => w'.heap[g3]? = some (.cells (wcells vz).toArray 28 (0, 0))) (fun w' e => (KP.out w' e).2.2.1) _ (v := .agg (wcells vz).toArray) rfl (by rfl) (fun w' hF => exec_load_row rfl rfl hF rfl rfl (by rw [S_vz]; rfl)) ?_; simp only [Act.put, List.setIfInBounds_toArray, List.set_cons_zero, List.set_cons_succ])
         | (refine seqT_read (fun _ => True) (fun _ _ => trivial) _ (v := .bool true) rfl (by rfl) (fun w' _ => exec_eql_keyB (xs := k1) (ys := k1) (decide_eq_true rfl) L_k1 L_k1 rfl rfl rfl) ?_; simp only [Act.put, List.setIfInBounds_toArray, List.set_cons_zero, List.set_cons_succ])
         | (refine seqT_read (fun _ => True) (fun _ _ => trivial) _ (v := .bool true) rfl (by rfl) (fun w' _ => exec_eql_keyB (xs := k2) (ys := k2) (decide_eq_true rfl) L_k2 L_k2 rfl rfl rfl) ?_; simp only [Act.put, List.setIfInBounds_toArray, List.set_cons_zero, List.set_cons_succ])
         | (refine seqT_read (fun _ => True) (fun _ _ => trivial) _ (v := .bool true) rfl (by rfl) (fun w' _ => exec_eql_keyB (xs := kd) (ys := kd) (decide_eq_true rfl) L_kd L_kd rfl rfl rfl) ?_; simp only [Act.put, List.setIfInBounds_toArray, List.set_cons_zero, List.set_cons_succ])
         | (refine seqT_read (fun _ => True) (fun _ _ => trivial) _ (v := .bool true) rfl (by rfl) (fun w' _ => exec_eql_keyB (xs := kt) (ys := kt) (decide_eq_true rfl) L_kt L_kt rfl rfl rfl) ?_; simp only [Act.put, List.setIfInBounds_toArray, List.set_cons_zero, List.set_cons_succ])
         | (refine seqT_read (fun _ => True) (fun _ _ => trivial) _ (v := .bool true) rfl (by rfl) (fun w' _ => exec_eql_keyB (xs := kq) (ys := kq) (decide_eq_true rfl) L_kq L_kq rfl rfl rfl) ?_; simp only [Act.put, List.setIfInBounds_toArray, List.set_cons_zero, List.set_cons_succ])
         | (refine seqT_read (fun _ => True) (fun _ _ => trivial) _ (v := ?_) rfl ?_ ?_ ?_; rotate_left; (· rfl); (· intro w' hF; go_simp; (try with_reducible rfl)); simp only [Act.put, List.setIfInBounds_toArray, List.set_cons_zero, List.set_cons_succ]))
       skip)
    | (refine seqT_do (i := 8) _ rfl ?_ ?_ (fun K1 hK1 => ?_)
       (· rfl)
       rotate_left
       go_simp
       refine (AYX.out _ (KP.out _ (Ext.refl _)).2.2.2).mono ?_
       rintro e WC ⟨rfl, e1⟩
       refine hK1.out _ _ e1 ?_
       clear hK1 K1
       replace KP : Hid (∀ s, Ext WC s → Wr s g1 28 vx ∧ Wr s g2 28 vy ∧ Wr s g3 28 vz ∧ Ext w s) := fun s e => KP.out s (e1.trans e)
       (try replace ES : Hid (∀ s, Ext WC s → s.heap[gS]? = some (.cells (wcells vz ++ wcells vy ++ wcells vx).toArray 28 (0, 0))) := fun s e => ES.out s (e1.trans e))
       clear e1
       (try simp only [Act.put, List.setIfInBounds_toArray, List.set_cons_zero, List.set_cons_succ])
       repeat (first
         | (refine seqT_read (fun w' => w'.heap[g1]? = some (.cells (wcells vx).toArray 28 (0, 0))) (fun w' e => (KP.out w' e).1) _ (v := .agg (wcells vx).toArray) rfl (by rfl) (fun w' hF => exec_load_row rfl rfl hF rfl rfl (by rw [S_vx]; rfl)) ?_; simp only [Act.put, List.setIfInBounds_toArray, List.set_cons_zero, List.set_cons_succ])
         | (refine seqT_read (fun w' => w'.heap[g2]? = some (.cells (wcells vy).toArray 28 (0, 0))) (fun w' e => (KP.out w' e).2.1) _ (v := .agg (wcells vy).toArray) rfl (by rfl) (fun w' hF => exec_load_row rfl rfl hF rfl rfl (by rw [S_vy]; rfl)) ?_; simp only [Act.put, List.setIfInBounds_toArray, List.set_cons_zero, List.set_cons_succ])
         | (refine seqT_read (fun w' => w'.heap[g3]? = some (.cells (wcells vz).toArray 28 (0, 0))) (fun w' e => (KP.out w' e).2.2.1) _ (v := .agg (wcells vz).toArray) rfl (by rfl) (fun w' hF => exec_load_row rfl rfl hF rfl rfl (by rw [S_vz]; rfl)) ?_; simp only [Act.put, List.setIfInBounds_toArray, List.set_cons_zero, List.set_cons_succ])
         | (refine seqT_read (fun _ => True) (fun _ _ => trivial) _ (v := .bool true) rfl (by rfl) (fun w' _ => exec_eql_keyB (xs := k1) (ys := k1) (decide_eq_true rfl) L_k1 L_k1 rfl rfl rfl) ?_; simp only [Act.put, List.setIfInBounds_toArray, List.set_cons_zero, List.set_cons_succ])
         | (refine seqT_read (fun _ => True) (fun _ _ => trivial) _ (v := .bool true) rfl (by rfl) (fun w' _ => exec_eql_keyB (xs := k2) (ys := k2) (decide_eq_true rfl) L_k2 L_k2 rfl rfl rfl) ?_; simp only [Act.put, List.setIfInBounds_toArray, List.set_cons_zero, List.set_cons_succ])
         | (refine seqT_read (fun _ => True) (fun _ _ => trivial) _ (v := .bool true) rfl (by rfl) (fun w' _ => exec_eql_keyB (xs := kd) (ys := kd) (decide_eq_true rfl) L_kd L_kd rfl rfl rfl) ?_; simp only [Act.put, List.setIfInBounds_toArray, List.set_cons_zero, List.set_cons_succ])
         | (refine seqT_read (fun _ => True) (fun _ _ => trivial) _ (v := .bool true) rfl (by rfl) (fun w' _ => exec_eql_keyB (xs := kt) (ys := kt) (decide_eq_true rfl) L_kt L_kt rfl rfl rfl) ?_; simp only [Act.put, List.setIfInBounds_toArray, List.set_cons_zero, List.set_cons_succ])
         | (refine seqT_read (fun _ => True) (fun _ _ => trivial) _ (v := .bool true) rfl (by rfl) (fun w' _ => exec_eql_keyB (xs := kq) (ys := kq) (decide_eq_true rfl) L_kq L_kq rfl rfl rfl) ?_; simp only [Act.put, List.setIfInBounds_toArray, List.set_cons_zero, List.set_cons_succ])
         | (refine seqT_read (fun _ => True) (fun _ _ => trivial) _ (v := ?_) rfl ?_ ?_ ?_; rotate_left; (· rfl); (· intro w' hF; go_simp; (try with_reducible rfl)); simp only [Act.put, List.setIfInBounds_toArray, List.set_cons_zero, List.set_cons_succ]))
       skip)
    | (refine seqT_do (i := 9) _ rfl ?_ ?_ (fun K1 hK1 => ?_)
       (· rfl)
       rotate_left
       go_simp
       refine (KA1.out _ (KP.out _ (Ext.refl _)).2.2.2).mono ?_
       rintro e WC ⟨rfl, e1⟩
       refine hK1.out _ _ e1 ?_
       clear hK1 K1
       replace KP : Hid (∀ s, Ext WC s → Wr s g1 28 vx ∧ Wr s g2 28 vy ∧ Wr s g3 28 vz ∧ Ext w s) := fun s e => KP.out s (e1.trans e)
       (try replace ES : Hid (∀ s, Ext WC s → s.heap[gS]? = some (.cells (wcells vz ++ wcells vy ++ wcells vx).toArray 28 (0, 0))) := fun s e => ES.out s (e1.trans e))
       clear e1
       (try simp only [Act.put, List.setIfInBounds_toArray, List.set_cons_zero, List.set_cons_succ])
       repeat (first
         | (refine seqT_read (fun w' => w'.heap[g1]? = some (.cells (wcells vx).toArray 28 (0, 0))) (fun w' e => (KP.out w' e).1) _ (v := .agg (wcells vx).toArray) rfl (by rfl) (fun w' hF => exec_load_row rfl rfl hF rfl rfl (by rw [S_vx]; rfl)) ?_; simp only [Act.put, List.setIfInBounds_toArray, List.set_cons_zero, List.set_cons_succ])
         | (refine seqT_read (fun w' => w'.heap[g2]? = some (.cells (wcells vy).toArray 28 (0, 0))) (fun w' e => (KP.out w' e).2.1) _ (v := .agg (wcells vy).toArray) rfl (by rfl) (fun w' hF => exec_load_row rfl rfl hF rfl rfl (by rw [S_vy]; rfl)) ?_; simp only [Act.put, List.setIfInBounds_toArray, List.set_cons_zero, List.set_cons_succ])
         | (refine seqT_read (fun w' => w'.heap[g3]? = some (.cells (wcells vz).toArray 28 (0, 0))) (fun w' e => (KP.out w' e).2.2.1) _ (v := .agg (wcells vz).toArray) rfl (by rfl) (fun w' hF => exec_load_row rfl rfl hF rfl rfl (by rw [S_vz]; rfl)) ?_; simp only [Act.put, List.setIfInBounds_toArray, List.set_cons_zero, List.set_cons_succ])
         | (refine seqT_read (fun _ => True) (fun _ _ => trivial) _ (v := .bool true) rfl (by rfl) (fun w' _ => exec_eql_keyB (xs := k1) (ys := k1) (decide_eq_true rfl) L_k1 L_k1 rfl rfl rfl) ?_; simp only [Act.put, List.setIfInBounds_toArray, List.set_cons_zero, List.set_cons_succ])
         | (refine seqT_read (fun _ => True) (fun _ _ => trivial) _ (v := .bool true) rfl (by rfl) (fun w' _ => exec_eql_keyB (xs := k2) (ys := k2) (decide_eq_true rfl) L_k2 L_k2 rfl rfl rfl) ?_; simp only [Act.put, List.setIfInBounds_toArray, List.set_cons_zero, List.set_cons_succ])
         | (refine seqT_read (fun _ => True) (fun _ _ => trivial) _ (v := .bool true) rfl (by rfl) (fun w' _ => exec_eql_keyB (xs := kd) (ys := kd) (decide_eq_true rfl) L_kd L_kd rfl rfl rfl) ?_; simp only [Act.put, List.setIfInBounds_toArray, List.set_cons_zero, List.set_cons_succ])
         | (refine seqT_read (fun _ => True) (fun _ _ => trivial) _ (v := .bool true) rfl (by rfl) (fun w' _ => exec_eql_keyB (xs := kt) (ys := kt) (decide_eq_true rfl) L_kt L_kt rfl rfl rfl) ?_; simp only [Act.put, List.setIfInBounds_toArray, List.set_cons_zero, List.set_cons_succ])
         | (refine seqT_read (fun _ => True) (fun _ _ => trivial) _ (v := .bool true) rfl (by rfl) (fun w' _ => exec_eql_keyB (xs := kq) (ys := kq) (decide_eq_true rfl) L_kq L_kq rfl rfl rfl) ?_; simp only [Act.put, List.setIfInBounds_toArray, List.set_cons_zero, List.set_cons_succ])
         | (refine seqT_read (fun _ => True) (fun _ _ => trivial) _ (v := ?_) rfl ?_ ?_ ?_; rotate_left; (· rfl); (· intro w' hF; go_simp; (try with_reducible rfl)); simp only [Act.put, List.setIfInBounds_toArray, List.set_cons_zero, List.set_cons_succ]))
       skip)
    | (refine seqT_do (i := 15) _ rfl ?_ ?_ (fun K1 hK1 => ?_)
       (· rfl)
       rotate_left
       go_simp
       refine (MXY.out _ (KP.out _ (Ext.refl _)).2.2.2).mono ?_
       rintro e WC ⟨rfl, e1⟩
       refine hK1.out _ _ e1 ?_
       clear hK1 K1
       replace KP : Hid (∀ s, Ext WC s → Wr s g1 28 vx ∧ Wr s g2 28 vy ∧ Wr s g3 28 vz ∧ Ext w s) := fun s e => KP.out s (e1.trans e)
       (try replace ES : Hid (∀ s, Ext WC s → s.heap[gS]? = some (.cells (wcells vz ++ wcells vy ++ wcells vx).toArray 28 (0, 0))) := fun s e => ES.out s (e1.trans e))
       clear e1
       (try simp only [Act.put, List.setIfInBounds_toArray, List.set_cons_zero, List.set_cons_succ])
       repeat (first
         | (refine seqT_read (fun w' => w'.heap[g1]? = some (.cells (wcells vx).toArray 28 (0, 0))) (fun w' e => (KP.out w' e).1) _ (v := .agg (wcells vx).toArray) rfl (by rfl) (fun w' hF => exec_load_row rfl rfl hF rfl rfl (by rw [S_vx]; rfl)) ?_; simp only [Act.put, List.setIfInBounds_toArray, List.set_cons_zero, List.set_cons_succ])
         | (refine seqT_read (fun w' => w'.heap[g2]? = some (.cells (wcells vy).toArray 28 (0, 0))) (fun w' e => (KP.out w' e).2.1) _ (v := .agg (wcells vy).toArray) rfl (by rfl) (fun w' hF => exec_load_row rfl rfl hF rfl rfl (by rw [S_vy]; rfl)) ?_; simp only [Act.put, List.setIfInBounds_toArray, List.set_cons_zero, List.set_cons_succ])
         | (refine seqT_read (fun w' => w'.heap[g3]? = some (.cells (wcells vz).toArray 28 (0, 0))) (fun w' e => (KP.out w' e).2.2.1) _ (v := .agg (wcells vz).toArray) rfl (by rfl) (fun w' hF => exec_load_row rfl rfl hF rfl rfl (by rw [S_vz]; rfl)) ?_; simp only [Act.put, List.setIfInBounds_toArray, List.set_cons_zero, List.set_cons_succ])
         | (refine seqT_read (fun _ => True) (fun _ _ => trivial) _ (v := .bool true) rfl (by rfl) (fun w' _ => exec_eql_keyB (xs := k1) (ys := k1) (decide_eq_true rfl) L_k1 L_k1 rfl rfl rfl) ?_; simp only [Act.put, List.setIfInBounds_toArray, List.set_cons_zero, List.set_cons_succ])
         | (refine seqT_read (fun _ => True) (fun _ _ => trivial) _ (v := .bool true) rfl (by rfl) (fun w' _ => exec_eql_keyB (xs := k2) (ys := k2) (decide_eq_true rfl) L_k2 L_k2 rfl rfl rfl) ?_; simp only [Act.put, List.setIfInBounds_toArray, List.set_cons_zero, List.set_cons_succ])
         | (refine seqT_read (fun _ => True) (fun _ _ => trivial) _ (v := .bool true) rfl (by rfl) (fun w' _ => exec_eql_keyB (xs := kd) (ys := kd) (decide_eq_true rfl) L_kd L_kd rfl rfl rfl) ?_; simp only [Act.put, List.setIfInBounds_toArray, List.set_cons_zero, List.set_cons_succ])
         | (refine seqT_read (fun _ => True) (fun _ _ => trivial) _ (v := .bool true) rfl (by rfl) (fun w' _ => exec_eql_keyB (xs := kt) (ys := kt) (decide_eq_true rfl) L_kt L_kt rfl rfl rfl) ?_; simp only [Act.put, List.setIfInBounds_toArray, List.set_cons_zero, List.set_cons_succ])
         | (refine seqT_read (fun _ => True) (fun _ _ => trivial) _ (v := .bool true) rfl (by rfl) (fun w' _ => exec_eql_keyB (xs := kq) (ys := kq) (decide_eq_true rfl) L_kq L_kq rfl rfl rfl) ?_; simp only [Act.put, List.setIfInBounds_toArray, List.set_cons_zero, List.set_cons_succ])
         | (refine seqT_read (fun _ => True) (fun _ _ => trivial) _ (v := ?_) rfl ?_ ?_ ?_; rotate_left; (· rfl); (· intro w' hF; go_simp; (try with_reducible rfl)); simp only [Act.put, List.setIfInBounds_toArray, List.set_cons_zero, List.set_cons_succ]))
       skip)
    | (refine seqT_do (i := 16) _ rfl ?_ ?_ (fun K1 hK1 => ?_)
       (· rfl)
       rotate_left
       go_simp
       refine (KM1.out _ (KP.out _ (Ext.refl _)).2.2.2).mono ?_
       rintro e WC ⟨rfl, e1⟩
       refine hK1.out _ _ e1 ?_
       clear hK1 K1
       replace KP : Hid (∀ s, Ext WC s → Wr s g1 28 vx ∧ Wr s g2 28 vy ∧ Wr s g3 28 vz ∧ Ext w s) := fun s e => KP.out s (e1.trans e)
       (try replace ES : Hid (∀ s, Ext WC s → s.heap[gS]? = some (.cells (wcells vz ++ wcells vy ++ wcells vx).toArray 28 (0, 0))) := fun s e => ES.out s (e1.trans e))
       clear e1
       (try simp only [Act.put, List.setIfInBounds_toArray, List.set_cons_zero, List.set_cons_succ])
       repeat (first
         | (refine seqT_read (fun w' => w'.heap[g1]? = some (.cells (wcells vx).toArray 28 (0, 0))) (fun w' e => (KP.out w' e).1) _ (v := .agg (wcells vx).toArray) rfl (by rfl) (fun w' hF => exec_load_row rfl rfl hF rfl rfl (by rw [S_vx]; rfl)) ?_; simp only [Act.put, List.setIfInBounds_toArray, List.set_cons_zero, List.set_cons_succ])
         | (refine seqT_read (fun w' => w'.heap[g2]? = some (.cells (wcells vy).toArray 28 (0, 0))) (fun w' e => (KP.out w' e).2.1) _ (v := .agg (wcells vy).toArray) rfl (by rfl) (fun w' hF => exec_load_row rfl rfl hF rfl rfl (by rw [S_vy]; rfl)) ?_; simp only [Act.put, List.setIfInBounds_toArray, List.set_cons_zero, List.set_cons_succ])
         | (refine seqT_read (fun w' => w'.heap[g3]? = some (.cells (wcells vz).toArray 28 (0, 0))) (fun w' e => (KP.out w' e).2.2.1) _ (v := .agg (wcells vz).toArray) rfl (by rfl) (fun w' hF => exec_load_row rfl rfl hF rfl rfl (by rw [S_vz]; rfl)) ?_; simp only [Act.put, List.setIfInBounds_toArray, List.set_cons_zero, List.set_cons_succ])
         | (refine seqT_read (fun _ => True) (fun _ _ => trivial) _ (v := .bool true) rfl (by rfl) (fun w' _ => exec_eql_keyB (xs := k1) (ys := k1) (decide_eq_true rfl) L_k1 L_k1 rfl rfl rfl) ?_; simp only [Act.put, List.setIfInBounds_toArray, List.set_cons_zero, List.set_cons_succ])
         | (refine seqT_read (fun _ => True) (fun _ _ => trivial) _ (v := .bool true) rfl (by rfl) (fun w' _ => exec_eql_keyB (xs := k2) (ys := k2) (decide_eq_true rfl) L_k2 L_k2 rfl rfl rfl) ?_; simp only [Act.put, List.setIfInBounds_toArray, List.set_cons_zero, List.set_cons_succ])
         | (refine seqT_read (fun _ => True) (fun _ _ => trivial) _ (v := .bool true) rfl (by rfl) (fun w' _ => exec_eql_keyB (xs := kd) (ys := kd) (decide_eq_true rfl) L_kd L_kd rfl rfl rfl) ?_; simp only [Act.put, List.setIfInBounds_toArray, List.set_cons_zero, List.set_cons_succ])
         | (refine seqT_read (fun _ => True) (fun _ _ => trivial) _ (v := .bool true) rfl (by rfl) (fun w' _ => exec_eql_keyB (xs := kt) (ys := kt) (decide_eq_true rfl) L_kt L_kt rfl rfl rfl) ?_; simp only [Act.put, List.setIfInBounds_toArray, List.set_cons_zero, List.set_cons_succ])
         | (refine seqT_read (fun _ => True) (fun _ _ => trivial) _ (v := .bool true) rfl (by rfl) (fun w' _ => exec_eql_keyB (xs := kq) (ys := kq) (decide_eq_true rfl) L_kq L_kq rfl rfl rfl) ?_; simp only [Act.put, List.setIfInBounds_toArray, List.set_cons_zero, List.set_cons_succ])
         | (refine seqT_read (fun _ => True) (fun _ _ => trivial) _ (v := ?_) rfl ?_ ?_ ?_; rotate_left; (· rfl); (· intro w' hF; go_simp; (try with_reducible rfl)); simp only [Act.put, List.setIfInBounds_toArray, List.set_cons_zero, List.set_cons_succ]))
       skip)
    | (refine seqT_do (i := 19) _ rfl ?_ ?_ (fun K1 hK1 => ?_)
       (· rfl)
       rotate_left
       go_simp
       refine (MYX.out _ (KP.out _ (Ext.refl _)).2.2.2).mono ?_
       rintro e WC ⟨rfl, e1⟩
       refine hK1.out _ _ e1 ?_
       clear hK1 K1
       replace KP : Hid (∀ s, Ext WC s → Wr s g1 28 vx ∧ Wr s g2 28 vy ∧ Wr s g3 28 vz ∧ Ext w s) := fun s e => KP.out s (e1.trans e)
       (try replace ES : Hid (∀ s, Ext WC s → s.heap[gS]? = some (.cells (wcells vz ++ wcells vy ++ wcells vx).toArray 28 (0, 0))) := fun s e => ES.out s (e1.trans e))
       clear e1
       (try simp only [Act.put, List.setIfInBounds_toArray, List.set_cons_zero, List.set_cons_succ])
       repeat (first
         | (refine seqT_read (fun w' => w'.heap[g1]? = some (.cells (wcells vx).toArray 28 (0, 0))) (fun w' e => (KP.out w' e).1) _ (v := .agg (wcells vx).toArray) rfl (by rfl) (fun w' hF => exec_load_row rfl rfl hF rfl rfl (by rw [S_vx]; rfl)) ?_; simp only [Act.put, List.setIfInBounds_toArray, List.set_cons_zero, List.set_cons_succ])
         | (refine seqT_read (fun w' => w'.heap[g2]? = some (.cells (wcells vy).toArray 28 (0, 0))) (fun w' e => (KP.out w' e).2.1) _ (v := .agg (wcells vy).toArray) rfl (by rfl) (fun w' hF => exec_load_row rfl rfl hF rfl rfl (by rw [S_vy]; rfl)) ?_; simp only [Act.put, List.setIfInBounds_toArray, List.set_cons_zero, List.set_cons_succ])
         | (refine seqT_read (fun w' => w'.heap[g3]? = some (.cells (wcells vz).toArray 28 (0, 0))) (fun w' e => (KP.out w' e).2.2.1) _ (v := .agg (wcells vz).toArray) rfl (by rfl) (fun w' hF => exec_load_row rfl rfl hF rfl rfl (by rw [S_vz]; rfl)) ?_; simp only [Act.put, List.setIfInBounds_toArray, List.set_cons_zero, List.set_cons_succ])
         | (refine seqT_read (fun _ => True) (fun _ _ => trivial) _ (v := .bool true) rfl (by rfl) (fun w' _ => exec_eql_keyB (xs := k1) (ys := k1) (decide_eq_true rfl) L_k1 L_k1 rfl rfl rfl) ?_; simp only [Act.put, List.setIfInBounds_toArray, List.set_cons_zero, List.set_cons_succ])
         | (refine seqT_read (fun _ => True) (fun _ _ => trivial) _ (v := .bool true) rfl (by rfl) (fun w' _ => exec_eql_keyB (xs := k2) (ys := k2) (decide_eq_true rfl) L_k2 L_k2 rfl rfl rfl) ?_; simp only [Act.put, List.setIfInBounds_toArray, List.set_cons_zero, List.set_cons_succ])
         | (refine seqT_read (fun _ => True) (fun _ _ => trivial) _ (v := .bool true) rfl (by rfl) (fun w' _ => exec_eql_keyB (xs := kd) (ys := kd) (decide_eq_true rfl) L_kd L_kd rfl rfl rfl) ?_; simp only [Act.put, List.setIfInBounds_toArray, List.set_cons_zero, List.set_cons_succ])
         | (refine seqT_read (fun _ => True) (fun _ _ => trivial) _ (v := .bool true) rfl (by rfl) (fun w' _ => exec_eql_keyB (xs := kt) (ys := kt) (decide_eq_true rfl) L_kt L_kt rfl rfl rfl) ?_; simp only [Act.put, List.setIfInBounds_toArray, List.set_cons_zero, List.set_cons_succ])
         | (refine seqT_read (fun _ => True) (fun _ _ => trivial) _ (v := .bool true) rfl (by rfl) (fun w' _ => exec_eql_keyB (xs := kq) (ys := kq) (decide_eq_true rfl) L_kq L_kq rfl rfl rfl) ?_; simp only [Act.put, List.setIfInBounds_toArray, List.set_cons_zero, List.set_cons_succ])
         | (refine seqT_read (fun _ => True) (fun _ _ => trivial) _ (v := ?_) rfl ?_ ?_ ?_; rotate_left; (· rfl); (· intro w' hF; go_simp; (try with_reducible rfl)); simp only [Act.put, List.setIfInBounds_toArray, List.set_cons_zero, List.set_cons_succ]))
       skip)
    | (refine seqT_do (i := 20) _ rfl ?_ ?_ (fun K1 hK1 => ?_)
       (· rfl)
       rotate_left
       go_simp
       refine (KM1.out _ (KP.out _ (Ext.refl _)).2.2.2).mono ?_
       rintro e WC ⟨rfl, e1⟩
       refine hK1.out _ _ e1 ?_
       clear hK1 K1
       replace KP : Hid (∀ s, Ext WC s → Wr s g1 28 vx ∧ Wr s g2 28 vy ∧ Wr s g3 28 vz ∧ Ext w s) := fun s e => KP.out s (e1.trans e)
       (try replace ES : Hid (∀ s, Ext WC s → s.heap[gS]? = some (.cells (wcells vz ++ wcells vy ++ wcells vx).toArray 28 (0, 0))) := fun s e => ES.out s (e1.trans e))
       clear e1
       (try simp only [Act.put, List.setIfInBounds_toArray, List.set_cons_zero, List.set_cons_succ])
       repeat (first
         | (refine seqT_read (fun w' => w'.heap[g1]? = some (.cells (wcells vx).toArray 28 (0, 0))) (fun w' e => (KP.out w' e).1) _ (v := .agg (wcells vx).toArray) rfl (by rfl) (fun w' hF => exec_load_row rfl rfl hF rfl rfl (by rw [S_vx]; rfl)) ?_; simp only [Act.put, List.setIfInBounds_toArray, List.set_cons_zero, List.set_cons_succ])
         | (refine seqT_read (fun w' => w'.heap[g2]? = some (.cells (wcells vy).toArray 28 (0, 0))) (fun w' e => (KP.out w' e).2.1) _ (v := .agg (wcells vy).toArray) rfl (by rfl) (fun w' hF => exec_load_row rfl rfl hF rfl rfl (by rw [S_vy]; rfl)) ?_; simp only [Act.put, List.setIfInBounds_toArray, List.set_cons_zero, List.set_cons_succ])
         | (refine seqT_read (fun w' => w'.heap[g3]? = some (.cells (wcells vz).toArray 28 (0, 0))) (fun w' e => (KP.out w' e).2.2.1) _ (v := .agg (wcells vz).toArray) rfl (by rfl) (fun w' hF => exec_load_row rfl rfl hF rfl rfl (by rw [S_vz]; rfl)) ?_; simp only [Act.put, List.setIfInBounds_toArray, List.set_cons_zero, List.set_cons_succ])
         | (refine seqT_read (fun _ => True) (fun _ _ => trivial) _ (v := .bool true) rfl (by rfl) (fun w' _ => exec_eql_keyB (xs := k1) (ys := k1) (decide_eq_true rfl) L_k1 L_k1 rfl rfl rfl) ?_; simp only [Act.put, List.setIfInBounds_toArray, List.set_cons_zero, List.set_cons_succ])
         | (refine seqT_read (fun _ => True) (fun _ _ => trivial) _ (v := .bool true) rfl (by rfl) (fun w' _ => exec_eql_keyB (xs := k2) (ys := k2) (decide_eq_true rfl) L_k2 L_k2 rfl rfl rfl) ?_; simp only [Act.put, List.setIfInBounds_toArray, List.set_cons_zero, List.set_cons_succ])
         | (refine seqT_read (fun _ => True) (fun _ _ => trivial) _ (v := .bool true) rfl (by rfl) (fun w' _ => exec_eql_keyB (xs := kd) (ys := kd) (decide_eq_true rfl) L_kd L_kd rfl rfl rfl) ?_; simp only [Act.put, List.setIfInBounds_toArray, List.set_cons_zero, List.set_cons_succ])
         | (refine seqT_read (fun _ => True) (fun _ _ => trivial) _ (v := .bool true) rfl (by rfl) (fun w' _ => exec_eql_keyB (xs := kt) (ys := kt) (decide_eq_true rfl) L_kt L_kt rfl rfl rfl) ?_; simp only [Act.put, List.setIfInBounds_toArray, List.set_cons_zero, List.set_cons_succ])
         | (refine seqT_read (fun _ => True) (fun _ _ => trivial) _ (v := .bool true) rfl (by rfl) (fun w' _ => exec_eql_keyB (xs := kq) (ys := kq) (decide_eq_true rfl) L_kq L_kq rfl rfl rfl) ?_; simp only [Act.put, List.setIfInBounds_toArray, List.set_cons_zero, List.set_cons_succ])
         | (refine seqT_read (fun _ => True) (fun _ _ => trivial) _ (v := ?_) rfl ?_ ?_ ?_; rotate_left; (· rfl); (· intro w' hF; go_simp; (try with_reducible rfl)); simp only [Act.put, List.setIfInBounds_toArray, List.set_cons_zero, List.set_cons_succ]))
       skip)
    | (refine seqT_do (i := 27) _ rfl ?_ ?_ (fun K1 hK1 => ?_)
       (· rfl)
       rotate_left
       go_simp
       refine (AYZ.out _ (KP.out _ (Ext.refl _)).2.2.2).mono ?_
       rintro e WC ⟨rfl, e1⟩
       refine hK1.out _ _ e1 ?_
       clear hK1 K1
       replace KP : Hid (∀ s, Ext WC s → Wr s g1 28 vx ∧ Wr s g2 28 vy ∧ Wr s g3 28 vz ∧ Ext w s) := fun s e => KP.out s (e1.trans e)
       (try replace ES : Hid (∀ s, Ext WC s → s.heap[gS]? = some (.cells (wcells vz ++ wcells vy ++ wcells vx).toArray 28 (0, 0))) := fun s e => ES.out s (e1.trans e))
       clear e1
       (try simp only [Act.put, List.setIfInBounds_toArray, List.set_cons_zero, List.set_cons_succ])
       repeat (first
         | (refine seqT_read (fun w' => w'.heap[g1]? = some (.cells (wcells vx).toArray 28 (0, 0))) (fun w' e => (KP.out w' e).1) _ (v := .agg (wcells vx).toArray) rfl (by rfl) (fun w' hF => exec_load_row rfl rfl hF rfl rfl (by rw [S_vx]; rfl)) ?_; simp only [Act.put, List.setIfInBounds_toArray, List.set_cons_zero, List.set_cons_succ])
         | (refine seqT_read (fun w' => w'.heap[g2]? = some (.cells (wcells vy).toArray 28 (0, 0))) (fun w' e => (KP.out w' e).2.1) _ (v := .agg (wcells vy).toArray) rfl (by rfl) (fun w' hF => exec_load_row rfl rfl hF rfl rfl (by rw [S_vy]; rfl)) ?_; simp only [Act.put, List.setIfInBounds_toArray, List.set_cons_zero, List.set_cons_succ])
         | (refine seqT_read (fun w' => w'.heap[g3]? = some (.cells (wcells vz).toArray 28 (0, 0))) (fun w' e => (KP.out w' e).2.2.1) _ (v := .agg (wcells vz).toArray) rfl (by rfl) (fun w' hF => exec_load_row rfl rfl hF rfl rfl (by rw [S_vz]; rfl)) ?_; simp only [Act.put, List.setIfInBounds_toArray, List.set_cons_zero, List.set_cons_succ])
         | (refine seqT_read (fun _ => True) (fun _ _ => trivial) _ (v := .bool true) rfl (by rfl) (fun w' _ => exec_eql_keyB (xs := k1) (ys := k1) (decide_eq_true rfl) L_k1 L_k1 rfl rfl rfl) ?_; simp only [Act.put, List.setIfInBounds_toArray, List.set_cons_zero, List.set_cons_succ])
         | (refine seqT_read (fun _ => True) (fun _ _ => trivial) _ (v := .bool true) rfl (by rfl) (fun w' _ => exec_eql_keyB (xs := k2) (ys := k2) (decide_eq_true rfl) L_k2 L_k2 rfl rfl rfl) ?_; simp only [Act.put, List.setIfInBounds_toArray, List.set_cons_zero, List.set_cons_succ])
         | (refine seqT_read (fun _ => True) (fun _ _ => trivial) _ (v := .bool true) rfl (by rfl) (fun w' _ => exec_eql_keyB (xs := kd) (ys := kd) (decide_eq_true rfl) L_kd L_kd rfl rfl rfl) ?_; simp only [Act.put, List.setIfInBounds_toArray, List.set_cons_zero, List.set_cons_succ])
         | (refine seqT_read (fun _ => True) (fun _ _ => trivial) _ (v := .bool true) rfl (by rfl) (fun w' _ => exec_eql_keyB (xs := kt) (ys := kt) (decide_eq_true rfl) L_kt L_kt rfl rfl rfl) ?_; simp only [Act.put, List.setIfInBounds_toArray, List.set_cons_zero, List.set_cons_succ])
         | (refine seqT_read (fun _ => True) (fun _ _ => trivial) _ (v := .bool true) rfl (by rfl) (fun w' _ => exec_eql_keyB (xs := kq) (ys := kq) (decide_eq_true rfl) L_kq L_kq rfl rfl rfl) ?_; simp only [Act.put, List.setIfInBounds_toArray, List.set_cons_zero, List.set_cons_succ])
         | (refine seqT_read (fun _ => True) (fun _ _ => trivial) _ (v := ?_) rfl ?_ ?_ ?_; rotate_left; (· rfl); (· intro w' hF; go_simp; (try with_reducible rfl)); simp only [Act.put, List.setIfInBounds_toArray, List.set_cons_zero, List.set_cons_succ]))
       skip)
    | (refine seqT_do (i := 28) _ rfl ?_ ?_ (fun K1 hK1 => ?_)
       (· rfl)
       rotate_left
       go_simp
       refine (MXS.out _ (KP.out _ (Ext.refl _)).2.2.2).mono ?_
       rintro e WC ⟨rfl, e1⟩
       refine hK1.out _ _ e1 ?_
       clear hK1 K1
       replace KP : Hid (∀ s, Ext WC s → Wr s g1 28 vx ∧ Wr s g2 28 vy ∧ Wr s g3 28 vz ∧ Ext w s) := fun s e => KP.out s (e1.trans e)
       (try replace ES : Hid (∀ s, Ext WC s → s.heap[gS]? = some (.cells (wcells vz ++ wcells vy ++ wcells vx).toArray 28 (0, 0))) := fun s e => ES.out s (e1.trans e))
       clear e1
       (try simp only [Act.put, List.setIfInBounds_toArray, List.set_cons_zero, List.set_cons_succ])
       repeat (first
         | (refine seqT_read (fun w' => w'.heap[g1]? = some (.cells (wcells vx).toArray 28 (0, 0))) (fun w' e => (KP.out w' e).1) _ (v := .agg (wcells vx).toArray) rfl (by rfl) (fun w' hF => exec_load_row rfl rfl hF rfl rfl (by rw [S_vx]; rfl)) ?_; simp only [Act.put, List.setIfInBounds_toArray, List.set_cons_zero, List.set_cons_succ])
         | (refine seqT_read (fun w' => w'.heap[g2]? = some (.cells (wcells vy).toArray 28 (0, 0))) (fun w' e => (KP.out w' e).2.1) _ (v := .agg (wcells vy).toArray) rfl (by rfl) (fun w' hF => exec_load_row rfl rfl hF rfl rfl (by rw [S_vy]; rfl)) ?_; simp only [Act.put, List.setIfInBounds_toArray, List.set_cons_zero, List.set_cons_succ])
         | (refine seqT_read (fun w' => w'.heap[g3]? = some (.cells (wcells vz).toArray 28 (0, 0))) (fun w' e => (KP.out w' e).2.2.1) _ (v := .agg (wcells vz).toArray) rfl (by rfl) (fun w' hF => exec_load_row rfl rfl hF rfl rfl (by rw [S_vz]; rfl)) ?_; simp only [Act.put, List.setIfInBounds_toArray, List.set_cons_zero, List.set_cons_succ])
         | (refine seqT_read (fun _ => True) (fun _ _ => trivial) _ (v := .bool true) rfl (by rfl) (fun w' _ => exec_eql_keyB (xs := k1) (ys := k1) (decide_eq_true rfl) L_k1 L_k1 rfl rfl rfl) ?_; simp only [Act.put, List.setIfInBounds_toArray, List.set_cons_zero, List.set_cons_succ])
         | (refine seqT_read (fun _ => True) (fun _ _ => trivial) _ (v := .bool true) rfl (by rfl) (fun w' _ => exec_eql_keyB (xs := k2) (ys := k2) (decide_eq_true rfl) L_k2 L_k2 rfl rfl rfl) ?_; simp only [Act.put, List.setIfInBounds_toArray, List.set_cons_zero, List.set_cons_succ])
         | (refine seqT_read (fun _ => True) (fun _ _ => trivial) _ (v := .bool true) rfl (by rfl) (fun w' _ => exec_eql_keyB (xs := kd) (ys := kd) (decide_eq_true rfl) L_kd L_kd rfl rfl rfl) ?_; simp only [Act.put, List.setIfInBounds_toArray, List.set_cons_zero, List.set_cons_succ])
         | (refine seqT_read (fun _ => True) (fun _ _ => trivial) _ (v := .bool true) rfl (by rfl) (fun w' _ => exec_eql_keyB (xs := kt) (ys := kt) (decide_eq_true rfl) L_kt L_kt rfl rfl rfl) ?_; simp only [Act.put, List.setIfInBounds_toArray, List.set_cons_zero, List.set_cons_succ])
         | (refine seqT_read (fun _ => True) (fun _ _ => trivial) _ (v := .bool true) rfl (by rfl) (fun w' _ => exec_eql_keyB (xs := kq) (ys := kq) (decide_eq_true rfl) L_kq L_kq rfl rfl rfl) ?_; simp only [Act.put, List.setIfInBounds_toArray, List.set_cons_zero, List.set_cons_succ])
         | (refine seqT_read (fun _ => True) (fun _ _ => trivial) _ (v := ?_) rfl ?_ ?_ ?_; rotate_left; (· rfl); (· intro w' hF; go_simp; (try with_reducible rfl)); simp only [Act.put, List.setIfInBounds_toArray, List.set_cons_zero, List.set_cons_succ]))
       skip)
    | (refine seqT_do (i := 29) _ rfl ?_ ?_ (fun K1 hK1 => ?_)
       (· rfl)
       rotate_left
       go_simp
       refine (KDD.out _ (KP.out _ (Ext.refl _)).2.2.2).mono ?_
       rintro e WC ⟨rfl, e1⟩
       refine hK1.out _ _ e1 ?_
       clear hK1 K1
       replace KP : Hid (∀ s, Ext WC s → Wr s g1 28 vx ∧ Wr s g2 28 vy ∧ Wr s g3 28 vz ∧ Ext w s) := fun s e => KP.out s (e1.trans e)
       (try replace ES : Hid (∀ s, Ext WC s → s.heap[gS]? = some (.cells (wcells vz ++ wcells vy ++ wcells vx).toArray 28 (0, 0))) := fun s e => ES.out s (e1.trans e))
       clear e1
       (try simp only [Act.put, List.setIfInBounds_toArray, List.set_cons_zero, List.set_cons_succ])
       repeat (first
         | (refine seqT_read (fun w' => w'.heap[g1]? = some (.cells (wcells vx).toArray 28 (0, 0))) (fun w' e => (KP.out w' e).1) _ (v := .agg (wcells vx).toArray) rfl (by rfl) (fun w' hF => exec_load_row rfl rfl hF rfl rfl (by rw [S_vx]; rfl)) ?_; simp only [Act.put, List.setIfInBounds_toArray, List.set_cons_zero, List.set_cons_succ])
         | (refine seqT_read (fun w' => w'.heap[g2]? = some (.cells (wcells vy).toArray 28 (0, 0))) (fun w' e => (KP.out w' e).2.1) _ (v := .agg (wcells vy).toArray) rfl (by rfl) (fun w' hF => exec_load_row rfl rfl hF rfl rfl (by rw [S_vy]; rfl)) ?_; simp only [Act.put, List.setIfInBounds_toArray, List.set_cons_zero, List.set_cons_succ])
         | (refine seqT_read (fun w' => w'.heap[g3]? = some (.cells (wcells vz).toArray 28 (0, 0))) (fun w' e => (KP.out w' e).2.2.1) _ (v := .agg (wcells vz).toArray) rfl (by rfl) (fun w' hF => exec_load_row rfl rfl hF rfl rfl (by rw [S_vz]; rfl)) ?_; simp only [Act.put, List.setIfInBounds_toArray, List.set_cons_zero, List.set_cons_succ])
         | (refine seqT_read (fun _ => True) (fun _ _ => trivial) _ (v := .bool true) rfl (by rfl) (fun w' _ => exec_eql_keyB (xs := k1) (ys := k1) (decide_eq_true rfl) L_k1 L_k1 rfl rfl rfl) ?_; simp only [Act.put, List.setIfInBounds_toArray, List.set_cons_zero, List.set_cons_succ])
         | (refine seqT_read (fun _ => True) (fun _ _ => trivial) _ (v := .bool true) rfl (by rfl) (fun w' _ => exec_eql_keyB (xs := k2) (ys := k2) (decide_eq_true rfl) L_k2 L_k2 rfl rfl rfl) ?_; simp only [Act.put, List.setIfInBounds_toArray, List.set_cons_zero, List.set_cons_succ])
         | (refine seqT_read (fun _ => True) (fun _ _ => trivial) _ (v := .bool true) rfl (by rfl) (fun w' _ => exec_eql_keyB (xs := kd) (ys := kd) (decide_eq_true rfl) L_kd L_kd rfl rfl rfl) ?_; simp only [Act.put, List.setIfInBounds_toArray, List.set_cons_zero, List.set_cons_succ])
         | (refine seqT_read (fun _ => True) (fun _ _ => trivial) _ (v := .bool true) rfl (by rfl) (fun w' _ => exec_eql_keyB (xs := kt) (ys := kt) (decide_eq_true rfl) L_kt L_kt rfl rfl rfl) ?_; simp only [Act.put, List.setIfInBounds_toArray, List.set_cons_zero, List.set_cons_succ])
         | (refine seqT_read (fun _ => True) (fun _ _ => trivial) _ (v := .bool true) rfl (by rfl) (fun w' _ => exec_eql_keyB (xs := kq) (ys := kq) (decide_eq_true rfl) L_kq L_kq rfl rfl rfl) ?_; simp only [Act.put, List.setIfInBounds_toArray, List.set_cons_zero, List.set_cons_succ])
         | (refine seqT_read (fun _ => True) (fun _ _ => trivial) _ (v := ?_) rfl ?_ ?_ ?_; rotate_left; (· rfl); (· intro w' hF; go_simp; (try with_reducible rfl)); simp only [Act.put, List.setIfInBounds_toArray, List.set_cons_zero, List.set_cons_succ]))
       skip)
    | (refine seqT_do (i := 32) _ rfl ?_ ?_ (fun K1 hK1 => ?_)
       (· rfl)
       rotate_left
       go_simp
       refine (MXY.out _ (KP.out _ (Ext.refl _)).2.2.2).mono ?_
       rintro e WC ⟨rfl, e1⟩
       refine hK1.out _ _ e1 ?_
       clear hK1 K1
       replace KP : Hid (∀ s, Ext WC s → Wr s g1 28 vx ∧ Wr s g2 28 vy ∧ Wr s g3 28 vz ∧ Ext w s) := fun s e => KP.out s (e1.trans e)
       (try replace ES : Hid (∀ s, Ext WC s → s.heap[gS]? = some (.cells (wcells vz ++ wcells vy ++ wcells vx).toArray 28 (0, 0))) := fun s e => ES.out s (e1.trans e))
       clear e1
       (try simp only [Act.put, List.setIfInBounds_toArray, List.set_cons_zero, List.set_cons_succ])
       repeat (first
         | (refine seqT_read (fun w' => w'.heap[g1]? = some (.cells (wcells vx).toArray 28 (0, 0))) (fun w' e => (KP.out w' e).1) _ (v := .agg (wcells vx).toArray) rfl (by rfl) (fun w' hF => exec_load_row rfl rfl hF rfl rfl (by rw [S_vx]; rfl)) ?_; simp only [Act.put, List.setIfInBounds_toArray, List.set_cons_zero, List.set_cons_succ])
         | (refine seqT_read (fun w' => w'.heap[g2]? = some (.cells (wcells vy).toArray 28 (0, 0))) (fun w' e => (KP.out w' e).2.1) _ (v := .agg (wcells vy).toArray) rfl (by rfl) (fun w' hF => exec_load_row rfl rfl hF rfl rfl (by rw [S_vy]; rfl)) ?_; simp only [Act.put, List.setIfInBounds_toArray, List.set_cons_zero, List.set_cons_succ])
         | (refine seqT_read (fun w' => w'.heap[g3]? = some (.cells (wcells vz).toArray 28 (0, 0))) (fun w' e => (KP.out w' e).2.2.1) _ (v := .agg (wcells vz).toArray) rfl (by rfl) (fun w' hF => exec_load_row rfl rfl hF rfl rfl (by rw [S_vz]; rfl)) ?_; simp only [Act.put, List.setIfInBounds_toArray, List.set_cons_zero, List.set_cons_succ])
         | (refine seqT_read (fun _ => True) (fun _ _ => trivial) _ (v := .bool true) rfl (by rfl) (fun w' _ => exec_eql_keyB (xs := k1) (ys := k1) (decide_eq_true rfl) L_k1 L_k1 rfl rfl rfl) ?_; simp only [Act.put, List.setIfInBounds_toArray, List.set_cons_zero, List.set_cons_succ])
         | (refine seqT_read (fun _ => True) (fun _ _ => trivial) _ (v := .bool true) rfl (by rfl) (fun w' _ => exec_eql_keyB (xs := k2) (ys := k2) (decide_eq_true rfl) L_k2 L_k2 rfl rfl rfl) ?_; simp only [Act.put, List.setIfInBounds_toArray, List.set_cons_zero, List.set_cons_succ])
         | (refine seqT_read (fun _ => True) (fun _ _ => trivial) _ (v := .bool true) rfl (by rfl) (fun w' _ => exec_eql_keyB (xs := kd) (ys := kd) (decide_eq_true rfl) L_kd L_kd rfl rfl rfl) ?_; simp only [Act.put, List.setIfInBounds_toArray, List.set_cons_zero, List.set_cons_succ])
         | (refine seqT_read (fun _ => True) (fun _ _ => trivial) _ (v := .bool true) rfl (by rfl) (fun w' _ => exec_eql_keyB (xs := kt) (ys := kt) (decide_eq_true rfl) L_kt L_kt rfl rfl rfl) ?_; simp only [Act.put, List.setIfInBounds_toArray, List.set_cons_zero, List.set_cons_succ])
         | (refine seqT_read (fun _ => True) (fun _ _ => trivial) _ (v := .bool true) rfl (by rfl) (fun w' _ => exec_eql_keyB (xs := kq) (ys := kq) (decide_eq_true rfl) L_kq L_kq rfl rfl rfl) ?_; simp only [Act.put, List.setIfInBounds_toArray, List.set_cons_zero, List.set_cons_succ])
         | (refine seqT_read (fun _ => True) (fun _ _ => trivial) _ (v := ?_) rfl ?_ ?_ ?_; rotate_left; (· rfl); (· intro w' hF; go_simp; (try with_reducible rfl)); simp only [Act.put, List.setIfInBounds_toArray, List.set_cons_zero, List.set_cons_succ]))
       skip)
    | (refine seqT_do (i := 35) _ rfl ?_ ?_ (fun K1 hK1 => ?_)
       (· rfl)
       rotate_left
       go_simp
       refine (MXZ.out _ (KP.out _ (Ext.refl _)).2.2.2).mono ?_
       rintro e WC ⟨rfl, e1⟩
       refine hK1.out _ _ e1 ?_
       clear hK1 K1
       replace KP : Hid (∀ s, Ext WC s → Wr s g1 28 vx ∧ Wr s g2 28 vy ∧ Wr s g3 28 vz ∧ Ext w s) := fun s e => KP.out s (e1.trans e)
       (try replace ES : Hid (∀ s, Ext WC s → s.heap[gS]? = some (.cells (wcells vz ++ wcells vy ++ wcells vx).toArray 28 (0, 0))) := fun s e => ES.out s (e1.trans e))
       clear e1
       (try simp only [Act.put, List.setIfInBounds_toArray, List.set_cons_zero, List.set_cons_succ])
       repeat (first
         | (refine seqT_read (fun w' => w'.heap[g1]? = some (.cells (wcells vx).toArray 28 (0, 0))) (fun w' e => (KP.out w' e).1) _ (v := .agg (wcells vx).toArray) rfl (by rfl) (fun w' hF => exec_load_row rfl rfl hF rfl rfl (by rw [S_vx]; rfl)) ?_; simp only [Act.put, List.setIfInBounds_toArray, List.set_cons_zero, List.set_cons_succ])
         | (refine seqT_read (fun w' => w'.heap[g2]? = some (.cells (wcells vy).toArray 28 (0, 0))) (fun w' e => (KP.out w' e).2.1) _ (v := .agg (wcells vy).toArray) rfl (by rfl) (fun w' hF => exec_load_row rfl rfl hF rfl rfl (by rw [S_vy]; rfl)) ?_; simp only [Act.put, List.setIfInBounds_toArray, List.set_cons_zero, List.set_cons_succ])
         | (refine seqT_read (fun w' => w'.heap[g3]? = some (.cells (wcells vz).toArray 28 (0, 0))) (fun w' e => (KP.out w' e).2.2.1) _ (v := .agg (wcells vz).toArray) rfl (by rfl) (fun w' hF => exec_load_row rfl rfl hF rfl rfl (by rw [S_vz]; rfl)) ?_; simp only [Act.put, List.setIfInBounds_toArray, List.set_cons_zero, List.set_cons_succ])
         | (refine seqT_read (fun _ => True) (fun _ _ => trivial) _ (v := .bool true) rfl (by rfl) (fun w' _ => exec_eql_keyB (xs := k1) (ys := k1) (decide_eq_true rfl) L_k1 L_k1 rfl rfl rfl) ?_; simp only [Act.put, List.setIfInBounds_toArray, List.set_cons_zero, List.set_cons_succ])
         | (refine seqT_read (fun _ => True) (fun _ _ => trivial) _ (v := .bool true) rfl (by rfl) (fun w' _ => exec_eql_keyB (xs := k2) (ys := k2) (decide_eq_true rfl) L_k2 L_k2 rfl rfl rfl) ?_; simp only [Act.put, List.setIfInBounds_toArray, List.set_cons_zero, List.set_cons_succ])
         | (refine seqT_read (fun _ => True) (fun _ _ => trivial) _ (v := .bool true) rfl (by rfl) (fun w' _ => exec_eql_keyB (xs := kd) (ys := kd) (decide_eq_true rfl) L_kd L_kd rfl rfl rfl) ?_; simp only [Act.put, List.setIfInBounds_toArray, List.set_cons_zero, List.set_cons_succ])
         | (refine seqT_read (fun _ => True) (fun _ _ => trivial) _ (v := .bool true) rfl (by rfl) (fun w' _ => exec_eql_keyB (xs := kt) (ys := kt) (decide_eq_true rfl) L_kt L_kt rfl rfl rfl) ?_; simp only [Act.put, List.setIfInBounds_toArray, List.set_cons_zero, List.set_cons_succ])
         | (refine seqT_read (fun _ => True) (fun _ _ => trivial) _ (v := .bool true) rfl (by rfl) (fun w' _ => exec_eql_keyB (xs := kq) (ys := kq) (decide_eq_true rfl) L_kq L_kq rfl rfl rfl) ?_; simp only [Act.put, List.setIfInBounds_toArray, List.set_cons_zero, List.set_cons_succ])
         | (refine seqT_read (fun _ => True) (fun _ _ => trivial) _ (v := ?_) rfl ?_ ?_ ?_; rotate_left; (· rfl); (· intro w' hF; go_simp; (try with_reducible rfl)); simp only [Act.put, List.setIfInBounds_toArray, List.set_cons_zero, List.set_cons_succ]))
       skip)
    | (refine seqT_do (i := 36) _ rfl ?_ ?_ (fun K1 hK1 => ?_)
       (· rfl)
       rotate_left
       go_simp
       refine (AMM.out _ (KP.out _ (Ext.refl _)).2.2.2).mono ?_
       rintro e WC ⟨rfl, e1⟩
       refine hK1.out _ _ e1 ?_
       clear hK1 K1
       replace KP : Hid (∀ s, Ext WC s → Wr s g1 28 vx ∧ Wr s g2 28 vy ∧ Wr s g3 28 vz ∧ Ext w s) := fun s e => KP.out s (e1.trans e)
       (try replace ES : Hid (∀ s, Ext WC s → s.heap[gS]? = some (.cells (wcells vz ++ wcells vy ++ wcells vx).toArray 28 (0, 0))) := fun s e => ES.out s (e1.trans e))
       clear e1
       (try simp only [Act.put, List.setIfInBounds_toArray, List.set_cons_zero, List.set_cons_succ])
       repeat (first
         | (refine seqT_read (fun w' => w'.heap[g1]? = some (.cells (wcells vx).toArray 28 (0, 0))) (fun w' e => (KP.out w' e).1) _ (v := .agg (wcells vx).toArray) rfl (by rfl) (fun w' hF => exec_load_row rfl rfl hF rfl rfl (by rw [S_vx]; rfl)) ?_; simp only [Act.put, List.setIfInBounds_toArray, List.set_cons_zero, List.set_cons_succ])
         | (refine seqT_read (fun w' => w'.heap[g2]? = some (.cells (wcells vy).toArray 28 (0, 0))) (fun w' e => (KP.out w' e).2.1) _ (v := .agg (wcells vy).toArray) rfl (by rfl) (fun w' hF => exec_load_row rfl rfl hF rfl rfl (by rw [S_vy]; rfl)) ?_; simp only [Act.put, List.setIfInBounds_toArray, List.set_cons_zero, List.set_cons_succ])
         | (refine seqT_read (fun w' => w'.heap[g3]? = some (.cells (wcells vz).toArray 28 (0, 0))) (fun w' e => (KP.out w' e).2.2.1) _ (v := .agg (wcells vz).toArray) rfl (by rfl) (fun w' hF => exec_load_row rfl rfl hF rfl rfl (by rw [S_vz]; rfl)) ?_; simp only [Act.put, List.setIfInBounds_toArray, List.set_cons_zero, List.set_cons_succ])
         | (refine seqT_read (fun _ => True) (fun _ _ => trivial) _ (v := .bool true) rfl (by rfl) (fun w' _ => exec_eql_keyB (xs := k1) (ys := k1) (decide_eq_true rfl) L_k1 L_k1 rfl rfl rfl) ?_; simp only [Act.put, List.setIfInBounds_toArray, List.set_cons_zero, List.set_cons_succ])
         | (refine seqT_read (fun _ => True) (fun _ _ => trivial) _ (v := .bool true) rfl (by rfl) (fun w' _ => exec_eql_keyB (xs := k2) (ys := k2) (decide_eq_true rfl) L_k2 L_k2 rfl rfl rfl) ?_; simp only [Act.put, List.setIfInBounds_toArray, List.set_cons_zero, List.set_cons_succ])
         | (refine seqT_read (fun _ => True) (fun _ _ => trivial) _ (v := .bool true) rfl (by rfl) (fun w' _ => exec_eql_keyB (xs := kd) (ys := kd) (decide_eq_true rfl) L_kd L_kd rfl rfl rfl) ?_; simp only [Act.put, List.setIfInBounds_toArray, List.set_cons_zero, List.set_cons_succ])
         | (refine seqT_read (fun _ => True) (fun _ _ => trivial) _ (v := .bool true) rfl (by rfl) (fun w' _ => exec_eql_keyB (xs := kt) (ys := kt) (decide_eq_true rfl) L_kt L_kt rfl rfl rfl) ?_; simp only [Act.put, List.setIfInBounds_toArray, List.set_cons_zero, List.set_cons_succ])
         | (refine seqT_read (fun _ => True) (fun _ _ => trivial) _ (v := .bool true) rfl (by rfl) (fun w' _ => exec_eql_keyB (xs := kq) (ys := kq) (decide_eq_true rfl) L_kq L_kq rfl rfl rfl) ?_; simp only [Act.put, List.setIfInBounds_toArray, List.set_cons_zero, List.set_cons_succ])
         | (refine seqT_read (fun _ => True) (fun _ _ => trivial) _ (v := ?_) rfl ?_ ?_ ?_; rotate_left; (· rfl); (· intro w' hF; go_simp; (try with_reducible rfl)); simp only [Act.put, List.setIfInBounds_toArray, List.set_cons_zero, List.set_cons_succ]))
       skip)
    | (refine seqT_do (i := 37) _ rfl ?_ ?_ (fun K1 hK1 => ?_)
       (· rfl)
       rotate_left
       go_simp
       refine (KDD.out _ (KP.out _ (Ext.refl _)).2.2.2).mono ?_
       rintro e WC ⟨rfl, e1⟩
       refine hK1.out _ _ e1 ?_
       clear hK1 K1
       replace KP : Hid (∀ s, Ext WC s → Wr s g1 28 vx ∧ Wr s g2 28 vy ∧ Wr s g3 28 vz ∧ Ext w s) := fun s e => KP.out s (e1.trans e)
       (try replace ES : Hid (∀ s, Ext WC s → s.heap[gS]? = some (.cells (wcells vz ++ wcells vy ++ wcells vx).toArray 28 (0, 0))) := fun s e => ES.out s (e1.trans e))
       clear e1
       (try simp only [Act.put, List.setIfInBounds_toArray, List.set_cons_zero, List.set_cons_succ])
       repeat (first
         | (refine seqT_read (fun w' => w'.heap[g1]? = some (.cells (wcells vx).toArray 28 (0, 0))) (fun w' e => (KP.out w' e).1) _ (v := .agg (wcells vx).toArray) rfl (by rfl) (fun w' hF => exec_load_row rfl rfl hF rfl rfl (by rw [S_vx]; rfl)) ?_; simp only [Act.put, List.setIfInBounds_toArray, List.set_cons_zero, List.set_cons_succ])
         | (refine seqT_read (fun w' => w'.heap[g2]? = some (.cells (wcells vy).toArray 28 (0, 0))) (fun w' e => (KP.out w' e).2.1) _ (v := .agg (wcells vy).toArray) rfl (by rfl) (fun w' hF => exec_load_row rfl rfl hF rfl rfl (by rw [S_vy]; rfl)) ?_; simp only [Act.put, List.setIfInBounds_toArray, List.set_cons_zero, List.set_cons_succ])
         | (refine seqT_read (fun w' => w'.heap[g3]? = some (.cells (wcells vz).toArray 28 (0, 0))) (fun w' e => (KP.out w' e).2.2.1) _ (v := .agg (wcells vz).toArray) rfl (by rfl) (fun w' hF => exec_load_row rfl rfl hF rfl rfl (by rw [S_vz]; rfl)) ?_; simp only [Act.put, List.setIfInBounds_toArray, List.set_cons_zero, List.set_cons_succ])
         | (refine seqT_read (fun _ => True) (fun _ _ => trivial) _ (v := .bool true) rfl (by rfl) (fun w' _ => exec_eql_keyB (xs := k1) (ys := k1) (decide_eq_true rfl) L_k1 L_k1 rfl rfl rfl) ?_; simp only [Act.put, List.setIfInBounds_toArray, List.set_cons_zero, List.set_cons_succ])
         | (refine seqT_read (fun _ => True) (fun _ _ => trivial) _ (v := .bool true) rfl (by rfl) (fun w' _ => exec_eql_keyB (xs := k2) (ys := k2) (decide_eq_true rfl) L_k2 L_k2 rfl rfl rfl) ?_; simp only [Act.put, List.setIfInBounds_toArray, List.set_cons_zero, List.set_cons_succ])
         | (refine seqT_read (fun _ => True) (fun _ _ => trivial) _ (v := .bool true) rfl (by rfl) (fun w' _ => exec_eql_keyB (xs := kd) (ys := kd) (decide_eq_true rfl) L_kd L_kd rfl rfl rfl) ?_; simp only [Act.put, List.setIfInBounds_toArray, List.set_cons_zero, List.set_cons_succ])
         | (refine seqT_read (fun _ => True) (fun _ _ => trivial) _ (v := .bool true) rfl (by rfl) (fun w' _ => exec_eql_keyB (xs := kt) (ys := kt) (decide_eq_true rfl) L_kt L_kt rfl rfl rfl) ?_; simp only [Act.put, List.setIfInBounds_toArray, List.set_cons_zero, List.set_cons_succ])
         | (refine seqT_read (fun _ => True) (fun _ _ => trivial) _ (v := .bool true) rfl (by rfl) (fun w' _ => exec_eql_keyB (xs := kq) (ys := kq) (decide_eq_true rfl) L_kq L_kq rfl rfl rfl) ?_; simp only [Act.put, List.setIfInBounds_toArray, List.set_cons_zero, List.set_cons_succ])
         | (refine seqT_read (fun _ => True) (fun _ _ => trivial) _ (v := ?_) rfl ?_ ?_ ?_; rotate_left; (· rfl); (· intro w' hF; go_simp; (try with_reducible rfl)); simp only [Act.put, List.setIfInBounds_toArray, List.set_cons_zero, List.set_cons_succ]))
       skip)
    | (refine seqT_do (i := 43) _ rfl ?_ ?_ (fun K1 hK1 => ?_)
       (· rfl)
       rotate_left
       go_simp
       refine (MXY.out _ (KP.out _ (Ext.refl _)).2.2.2).mono ?_
       rintro e WC ⟨rfl, e1⟩
       refine hK1.out _ _ e1 ?_
       clear hK1 K1
       replace KP : Hid (∀ s, Ext WC s → Wr s g1 28 vx ∧ Wr s g2 28 vy ∧ Wr s g3 28 vz ∧ Ext w s) := fun s e => KP.out s (e1.trans e)
       (try replace ES : Hid (∀ s, Ext WC s → s.heap[gS]? = some (.cells (wcells vz ++ wcells vy ++ wcells vx).toArray 28 (0, 0))) := fun s e => ES.out s (e1.trans e))
       clear e1
       (try simp only [Act.put, List.setIfInBounds_toArray, List.set_cons_zero, List.set_cons_succ])
       repeat (first
         | (refine seqT_read (fun w' => w'.heap[g1]? = some (.cells (wcells vx).toArray 28 (0, 0))) (fun w' e => (KP.out w' e).1) _ (v := .agg (wcells vx).toArray) rfl (by rfl) (fun w' hF => exec_load_row rfl rfl hF rfl rfl (by rw [S_vx]; rfl)) ?_; simp only [Act.put, List.setIfInBounds_toArray, List.set_cons_zero, List.set_cons_succ])
         | (refine seqT_read (fun w' => w'.heap[g2]? = some (.cells (wcells vy).toArray 28 (0, 0))) (fun w' e => (KP.out w' e).2.1) _ (v := .agg (wcells vy).toArray) rfl (by rfl) (fun w' hF => exec_load_row rfl rfl hF rfl rfl (by rw [S_vy]; rfl)) ?_; simp only [Act.put, List.setIfInBounds_toArray, List.set_cons_zero, List.set_cons_succ])
         | (refine seqT_read (fun w' => w'.heap[g3]? = some (.cells (wcells vz).toArray 28 (0, 0))) (fun w' e => (KP.out w' e).2.2.1) _ (v := .agg (wcells vz).toArray) rfl (by rfl) (fun w' hF => exec_load_row rfl rfl hF rfl rfl (by rw [S_vz]; rfl)) ?_; simp only [Act.put, List.setIfInBounds_toArray, List.set_cons_zero, List.set_cons_succ])
         | (refine seqT_read (fun _ => True) (fun _ _ => trivial) _ (v := .bool true) rfl (by rfl) (fun w' _ => exec_eql_keyB (xs := k1) (ys := k1) (decide_eq_true rfl) L_k1 L_k1 rfl rfl rfl) ?_; simp only [Act.put, List.setIfInBounds_toArray, List.set_cons_zero, List.set_cons_succ])
         | (refine seqT_read (fun _ => True) (fun _ _ => trivial) _ (v := .bool true) rfl (by rfl) (fun w' _ => exec_eql_keyB (xs := k2) (ys := k2) (decide_eq_true rfl) L_k2 L_k2 rfl rfl rfl) ?_; simp only [Act.put, List.setIfInBounds_toArray, List.set_cons_zero, List.set_cons_succ])
         | (refine seqT_read (fun _ => True) (fun _ _ => trivial) _ (v := .bool true) rfl (by rfl) (fun w' _ => exec_eql_keyB (xs := kd) (ys := kd) (decide_eq_true rfl) L_kd L_kd rfl rfl rfl) ?_; simp only [Act.put, List.setIfInBounds_toArray, List.set_cons_zero, List.set_cons_succ])
         | (refine seqT_read (fun _ => True) (fun _ _ => trivial) _ (v := .bool true) rfl (by rfl) (fun w' _ => exec_eql_keyB (xs := kt) (ys := kt) (decide_eq_true rfl) L_kt L_kt rfl rfl rfl) ?_; simp only [Act.put, List.setIfInBounds_toArray, List.set_cons_zero, List.set_cons_succ])
         | (refine seqT_read (fun _ => True) (fun _ _ => trivial) _ (v := .bool true) rfl (by rfl) (fun w' _ => exec_eql_keyB (xs := kq) (ys := kq) (decide_eq_true rfl) L_kq L_kq rfl rfl rfl) ?_; simp only [Act.put, List.setIfInBounds_toArray, List.set_cons_zero, List.set_cons_succ])
         | (refine seqT_read (fun _ => True) (fun _ _ => trivial) _ (v := ?_) rfl ?_ ?_ ?_; rotate_left; (· rfl); (· intro w' hF; go_simp; (try with_reducible rfl)); simp only [Act.put, List.setIfInBounds_toArray, List.set_cons_zero, List.set_cons_succ]))
       skip)
    | (refine seqT_do (i := 45) _ rfl ?_ ?_ (fun K1 hK1 => ?_)
       (· rfl)
       rotate_left
       go_simp
       refine (MMZ.out _ (KP.out _ (Ext.refl _)).2.2.2).mono ?_
       rintro e WC ⟨rfl, e1⟩
       refine hK1.out _ _ e1 ?_
       clear hK1 K1
       replace KP : Hid (∀ s, Ext WC s → Wr s g1 28 vx ∧ Wr s g2 28 vy ∧ Wr s g3 28 vz ∧ Ext w s) := fun s e => KP.out s (e1.trans e)
       (try replace ES : Hid (∀ s, Ext WC s → s.heap[gS]? = some (.cells (wcells vz ++ wcells vy ++ wcells vx).toArray 28 (0, 0))) := fun s e => ES.out s (e1.trans e))
       clear e1
       (try simp only [Act.put, List.setIfInBounds_toArray, List.set_cons_zero, List.set_cons_succ])
       repeat (first
         | (refine seqT_read (fun w' => w'.heap[g1]? = some (.cells (wcells vx).toArray 28 (0, 0))) (fun w' e => (KP.out w' e).1) _ (v := .agg (wcells vx).toArray) rfl (by rfl) (fun w' hF => exec_load_row rfl rfl hF rfl rfl (by rw [S_vx]; rfl)) ?_; simp only [Act.put, List.setIfInBounds_toArray, List.set_cons_zero, List.set_cons_succ])
         | (refine seqT_read (fun w' => w'.heap[g2]? = some (.cells (wcells vy).toArray 28 (0, 0))) (fun w' e => (KP.out w' e).2.1) _ (v := .agg (wcells vy).toArray) rfl (by rfl) (fun w' hF => exec_load_row rfl rfl hF rfl rfl (by rw [S_vy]; rfl)) ?_; simp only [Act.put, List.setIfInBounds_toArray, List.set_cons_zero, List.set_cons_succ])
         | (refine seqT_read (fun w' => w'.heap[g3]? = some (.cells (wcells vz).toArray 28 (0, 0))) (fun w' e => (KP.out w' e).2.2.1) _ (v := .agg (wcells vz).toArray) rfl (by rfl) (fun w' hF => exec_load_row rfl rfl hF rfl rfl (by rw [S_vz]; rfl)) ?_; simp only [Act.put, List.setIfInBounds_toArray, List.set_cons_zero, List.set_cons_succ])
         | (refine seqT_read (fun _ => True) (fun _ _ => trivial) _ (v := .bool true) rfl (by rfl) (fun w' _ => exec_eql_keyB (xs := k1) (ys := k1) (decide_eq_true rfl) L_k1 L_k1 rfl rfl rfl) ?_; simp only [Act.put, List.setIfInBounds_toArray, List.set_cons_zero, List.set_cons_succ])
         | (refine seqT_read (fun _ => True) (fun _ _ => trivial) _ (v := .bool true) rfl (by rfl) (fun w' _ => exec_eql_keyB (xs := k2) (ys := k2) (decide_eq_true rfl) L_k2 L_k2 rfl rfl rfl) ?_; simp only [Act.put, List.setIfInBounds_toArray, List.set_cons_zero, List.set_cons_succ])
         | (refine seqT_read (fun _ => True) (fun _ _ => trivial) _ (v := .bool true) rfl (by rfl) (fun w' _ => exec_eql_keyB (xs := kd) (ys := kd) (decide_eq_true rfl) L_kd L_kd rfl rfl rfl) ?_; simp only [Act.put, List.setIfInBounds_toArray, List.set_cons_zero, List.set_cons_succ])
         | (refine seqT_read (fun _ => True) (fun _ _ => trivial) _ (v := .bool true) rfl (by rfl) (fun w' _ => exec_eql_keyB (xs := kt) (ys := kt) (decide_eq_true rfl) L_kt L_kt rfl rfl rfl) ?_; simp only [Act.put, List.setIfInBounds_toArray, List.set_cons_zero, List.set_cons_succ])
         | (refine seqT_read (fun _ => True) (fun _ _ => trivial) _ (v := .bool true) rfl (by rfl) (fun w' _ => exec_eql_keyB (xs := kq) (ys := kq) (decide_eq_true rfl) L_kq L_kq rfl rfl rfl) ?_; simp only [Act.put, List.setIfInBounds_toArray, List.set_cons_zero, List.set_cons_succ])
         | (refine seqT_read (fun _ => True) (fun _ _ => trivial) _ (v := ?_) rfl ?_ ?_ ?_; rotate_left; (· rfl); (· intro w' hF; go_simp; (try with_reducible rfl)); simp only [Act.put, List.setIfInBounds_toArray, List.set_cons_zero, List.set_cons_succ]))
       skip)
    | (refine seqT_do (i := 46) _ rfl ?_ ?_ (fun K1 hK1 => ?_)
       (· rfl)
       rotate_left
       go_simp
       refine (KTT.out _ (KP.out _ (Ext.refl _)).2.2.2).mono ?_
       rintro e WC ⟨rfl, e1⟩
       refine hK1.out _ _ e1 ?_
       clear hK1 K1
       replace KP : Hid (∀ s, Ext WC s → Wr s g1 28 vx ∧ Wr s g2 28 vy ∧ Wr s g3 28 vz ∧ Ext w s) := fun s e => KP.out s (e1.trans e)
       (try replace ES : Hid (∀ s, Ext WC s → s.heap[gS]? = some (.cells (wcells vz ++ wcells vy ++ wcells vx).toArray 28 (0, 0))) := fun s e => ES.out s (e1.trans e))
       clear e1
       (try simp only [Act.put, List.setIfInBounds_toArray, List.set_cons_zero, List.set_cons_succ])
       repeat (first
         | (refine seqT_read (fun w' => w'.heap[g1]? = some (.cells (wcells vx).toArray 28 (0, 0))) (fun w' e => (KP.out w' e).1) _ (v := .agg (wcells vx).toArray) rfl (by rfl) (fun w' hF => exec_load_row rfl rfl hF rfl rfl (by rw [S_vx]; rfl)) ?_; simp only [Act.put, List.setIfInBounds_toArray, List.set_cons_zero, List.set_cons_succ])
         | (refine seqT_read (fun w' => w'.heap[g2]? = some (.cells (wcells vy).toArray 28 (0, 0))) (fun w' e => (KP.out w' e).2.1) _ (v := .agg (wcells vy).toArray) rfl (by rfl) (fun w' hF => exec_load_row rfl rfl hF rfl rfl (by rw [S_vy]; rfl)) ?_; simp only [Act.put, List.setIfInBounds_toArray, List.set_cons_zero, List.set_cons_succ])
         | (refine seqT_read (fun w' => w'.heap[g3]? = some (.cells (wcells vz).toArray 28 (0, 0))) (fun w' e => (KP.out w' e).2.2.1) _ (v := .agg (wcells vz).toArray) rfl (by rfl) (fun w' hF => exec_load_row rfl rfl hF rfl rfl (by rw [S_vz]; rfl)) ?_; simp only [Act.put, List.setIfInBounds_toArray, List.set_cons_zero, List.set_cons_succ])
         | (refine seqT_read (fun _ => True) (fun _ _ => trivial) _ (v := .bool true) rfl (by rfl) (fun w' _ => exec_eql_keyB (xs := k1) (ys := k1) (decide_eq_true rfl) L_k1 L_k1 rfl rfl rfl) ?_; simp only [Act.put, List.setIfInBounds_toArray, List.set_cons_zero, List.set_cons_succ])
         | (refine seqT_read (fun _ => True) (fun _ _ => trivial) _ (v := .bool true) rfl (by rfl) (fun w' _ => exec_eql_keyB (xs := k2) (ys := k2) (decide_eq_true rfl) L_k2 L_k2 rfl rfl rfl) ?_; simp only [Act.put, List.setIfInBounds_toArray, List.set_cons_zero, List.set_cons_succ])
         | (refine seqT_read (fun _ => True) (fun _ _ => trivial) _ (v := .bool true) rfl (by rfl) (fun w' _ => exec_eql_keyB (xs := kd) (ys := kd) (decide_eq_true rfl) L_kd L_kd rfl rfl rfl) ?_; simp only [Act.put, List.setIfInBounds_toArray, List.set_cons_zero, List.set_cons_succ])
         | (refine seqT_read (fun _ => True) (fun _ _ => trivial) _ (v := .bool true) rfl (by rfl) (fun w' _ => exec_eql_keyB (xs := kt) (ys := kt) (decide_eq_true rfl) L_kt L_kt rfl rfl rfl) ?_; simp only [Act.put, List.setIfInBounds_toArray, List.set_cons_zero, List.set_cons_succ])
         | (refine seqT_read (fun _ => True) (fun _ _ => trivial) _ (v := .bool true) rfl (by rfl) (fun w' _ => exec_eql_keyB (xs := kq) (ys := kq) (decide_eq_true rfl) L_kq L_kq rfl rfl rfl) ?_; simp only [Act.put, List.setIfInBounds_toArray, List.set_cons_zero, List.set_cons_succ])
         | (refine seqT_read (fun _ => True) (fun _ _ => trivial) _ (v := ?_) rfl ?_ ?_ ?_; rotate_left; (· rfl); (· intro w' hF; go_simp; (try with_reducible rfl)); simp only [Act.put, List.setIfInBounds_toArray, List.set_cons_zero, List.set_cons_succ]))
       skip)
    | (refine seqT_do (i := 50) _ rfl ?_ ?_ (fun K1 hK1 => ?_)
       (· rfl)
       rotate_left
       go_simp
       refine (MYZ.out _ (KP.out _ (Ext.refl _)).2.2.2).mono ?_
       rintro e WC ⟨rfl, e1⟩
       refine hK1.out _ _ e1 ?_
       clear hK1 K1
       replace KP : Hid (∀ s, Ext WC s → Wr s g1 28 vx ∧ Wr s g2 28 vy ∧ Wr s g3 28 vz ∧ Ext w s) := fun s e => KP.out s (e1.trans e)
       (try replace ES : Hid (∀ s, Ext WC s → s.heap[gS]? = some (.cells (wcells vz ++ wcells vy ++ wcells vx).toArray 28 (0, 0))) := fun s e => ES.out s (e1.trans e))
       clear e1
       (try simp only [Act.put, List.setIfInBounds_toArray, List.set_cons_zero, List.set_cons_succ])
       repeat (first
         | (refine seqT_read (fun w' => w'.heap[g1]? = some (.cells (wcells vx).toArray 28 (0, 0))) (fun w' e => (KP.out w' e).1) _ (v := .agg (wcells vx).toArray) rfl (by rfl) (fun w' hF => exec_load_row rfl rfl hF rfl rfl (by rw [S_vx]; rfl)) ?_; simp only [Act.put, List.setIfInBounds_toArray, List.set_cons_zero, List.set_cons_succ])
         | (refine seqT_read (fun w' => w'.heap[g2]? = some (.cells (wcells vy).toArray 28 (0, 0))) (fun w' e => (KP.out w' e).2.1) _ (v := .agg (wcells vy).toArray) rfl (by rfl) (fun w' hF => exec_load_row rfl rfl hF rfl rfl (by rw [S_vy]; rfl)) ?_; simp only [Act.put, List.setIfInBounds_toArray, List.set_cons_zero, List.set_cons_succ])
         | (refine seqT_read (fun w' => w'.heap[g3]? = some (.cells (wcells vz).toArray 28 (0, 0))) (fun w' e => (KP.out w' e).2.2.1) _ (v := .agg (wcells vz).toArray) rfl (by rfl) (fun w' hF => exec_load_row rfl rfl hF rfl rfl (by rw [S_vz]; rfl)) ?_; simp only [Act.put, List.setIfInBounds_toArray, List.set_cons_zero, List.set_cons_succ])
         | (refine seqT_read (fun _ => True) (fun _ _ => trivial) _ (v := .bool true) rfl (by rfl) (fun w' _ => exec_eql_keyB (xs := k1) (ys := k1) (decide_eq_true rfl) L_k1 L_k1 rfl rfl rfl) ?_; simp only [Act.put, List.setIfInBounds_toArray, List.set_cons_zero, List.set_cons_succ])
         | (refine seqT_read (fun _ => True) (fun _ _ => trivial) _ (v := .bool true) rfl (by rfl) (fun w' _ => exec_eql_keyB (xs := k2) (ys := k2) (decide_eq_true rfl) L_k2 L_k2 rfl rfl rfl) ?_; simp only [Act.put, List.setIfInBounds_toArray, List.set_cons_zero, List.set_cons_succ])
         | (refine seqT_read (fun _ => True) (fun _ _ => trivial) _ (v := .bool true) rfl (by rfl) (fun w' _ => exec_eql_keyB (xs := kd) (ys := kd) (decide_eq_true rfl) L_kd L_kd rfl rfl rfl) ?_; simp only [Act.put, List.setIfInBounds_toArray, List.set_cons_zero, List.set_cons_succ])
         | (refine seqT_read (fun _ => True) (fun _ _ => trivial) _ (v := .bool true) rfl (by rfl) (fun w' _ => exec_eql_keyB (xs := kt) (ys := kt) (decide_eq_true rfl) L_kt L_kt rfl rfl rfl) ?_; simp only [Act.put, List.setIfInBounds_toArray, List.set_cons_zero, List.set_cons_succ])
         | (refine seqT_read (fun _ => True) (fun _ _ => trivial) _ (v := .bool true) rfl (by rfl) (fun w' _ => exec_eql_keyB (xs := kq) (ys := kq) (decide_eq_true rfl) L_kq L_kq rfl rfl rfl) ?_; simp only [Act.put, List.setIfInBounds_toArray, List.set_cons_zero, List.set_cons_succ])
         | (refine seqT_read (fun _ => True) (fun _ _ => trivial) _ (v := ?_) rfl ?_ ?_ ?_; rotate_left; (· rfl); (· intro w' hF; go_simp; (try with_reducible rfl)); simp only [Act.put, List.setIfInBounds_toArray, List.set_cons_zero, List.set_cons_succ]))
       skip)
    | (refine seqT_do (i := 51) _ rfl ?_ ?_ (fun K1 hK1 => ?_)
       (· rfl)
       rotate_left
       go_simp
       refine (MXM.out _ (KP.out _ (Ext.refl _)).2.2.2).mono ?_
       rintro e WC ⟨rfl, e1⟩
       refine hK1.out _ _ e1 ?_
       clear hK1 K1
       replace KP : Hid (∀ s, Ext WC s → Wr s g1 28 vx ∧ Wr s g2 28 vy ∧ Wr s g3 28 vz ∧ Ext w s) := fun s e => KP.out s (e1.trans e)
       (try replace ES : Hid (∀ s, Ext WC s → s.heap[gS]? = some (.cells (wcells vz ++ wcells vy ++ wcells vx).toArray 28 (0, 0))) := fun s e => ES.out s (e1.trans e))
       clear e1
       (try simp only [Act.put, List.setIfInBounds_toArray, List.set_cons_zero, List.set_cons_succ])
       repeat (first
         | (refine seqT_read (fun w' => w'.heap[g1]? = some (.cells (wcells vx).toArray 28 (0, 0))) (fun w' e => (KP.out w' e).1) _ (v := .agg (wcells vx).toArray) rfl (by rfl) (fun w' hF => exec_load_row rfl rfl hF rfl rfl (by rw [S_vx]; rfl)) ?_; simp only [Act.put, List.setIfInBounds_toArray, List.set_cons_zero, List.set_cons_succ])
         | (refine seqT_read (fun w' => w'.heap[g2]? = some (.cells (wcells vy).toArray 28 (0, 0))) (fun w' e => (KP.out w' e).2.1) _ (v := .agg (wcells vy).toArray) rfl (by rfl) (fun w' hF => exec_load_row rfl rfl hF rfl rfl (by rw [S_vy]; rfl)) ?_; simp only [Act.put, List.setIfInBounds_toArray, List.set_cons_zero, List.set_cons_succ])
         | (refine seqT_read (fun w' => w'.heap[g3]? = some (.cells (wcells vz).toArray 28 (0, 0))) (fun w' e => (KP.out w' e).2.2.1) _ (v := .agg (wcells vz).toArray) rfl (by rfl) (fun w' hF => exec_load_row rfl rfl hF rfl rfl (by rw [S_vz]; rfl)) ?_; simp only [Act.put, List.setIfInBounds_toArray, List.set_cons_zero, List.set_cons_succ])
         | (refine seqT_read (fun _ => True) (fun _ _ => trivial) _ (v := .bool true) rfl (by rfl) (fun w' _ => exec_eql_keyB (xs := k1) (ys := k1) (decide_eq_true rfl) L_k1 L_k1 rfl rfl rfl) ?_; simp only [Act.put, List.setIfInBounds_toArray, List.set_cons_zero, List.set_cons_succ])
         | (refine seqT_read (fun _ => True) (fun _ _ => trivial) _ (v := .bool true) rfl (by rfl) (fun w' _ => exec_eql_keyB (xs := k2) (ys := k2) (decide_eq_true rfl) L_k2 L_k2 rfl rfl rfl) ?_; simp only [Act.put, List.setIfInBounds_toArray, List.set_cons_zero, List.set_cons_succ])
         | (refine seqT_read (fun _ => True) (fun _ _ => trivial) _ (v := .bool true) rfl (by rfl) (fun w' _ => exec_eql_keyB (xs := kd) (ys := kd) (decide_eq_true rfl) L_kd L_kd rfl rfl rfl) ?_; simp only [Act.put, List.setIfInBounds_toArray, List.set_cons_zero, List.set_cons_succ])
         | (refine seqT_read (fun _ => True) (fun _ _ => trivial) _ (v := .bool true) rfl (by rfl) (fun w' _ => exec_eql_keyB (xs := kt) (ys := kt) (decide_eq_true rfl) L_kt L_kt rfl rfl rfl) ?_; simp only [Act.put, List.setIfInBounds_toArray, List.set_cons_zero, List.set_cons_succ])
         | (refine seqT_read (fun _ => True) (fun _ _ => trivial) _ (v := .bool true) rfl (by rfl) (fun w' _ => exec_eql_keyB (xs := kq) (ys := kq) (decide_eq_true rfl) L_kq L_kq rfl rfl rfl) ?_; simp only [Act.put, List.setIfInBounds_toArray, List.set_cons_zero, List.set_cons_succ])
         | (refine seqT_read (fun _ => True) (fun _ _ => trivial) _ (v := ?_) rfl ?_ ?_ ?_; rotate_left; (· rfl); (· intro w' hF; go_simp; (try with_reducible rfl)); simp only [Act.put, List.setIfInBounds_toArray, List.set_cons_zero, List.set_cons_succ]))
       skip)
    | (refine seqT_do (i := 52) _ rfl ?_ ?_ (fun K1 hK1 => ?_)
       (· rfl)
       rotate_left
       go_simp
       refine (KTT.out _ (KP.out _ (Ext.refl _)).2.2.2).mono ?_
       rintro e WC ⟨rfl, e1⟩
       refine hK1.out _ _ e1 ?_
       clear hK1 K1
       replace KP : Hid (∀ s, Ext WC s → Wr s g1 28 vx ∧ Wr s g2 28 vy ∧ Wr s g3 28 vz ∧ Ext w s) := fun s e => KP.out s (e1.trans e)
       (try replace ES : Hid (∀ s, Ext WC s → s.heap[gS]? = some (.cells (wcells vz ++ wcells vy ++ wcells vx).toArray 28 (0, 0))) := fun s e => ES.out s (e1.trans e))
       clear e1
       (try simp only [Act.put, List.setIfInBounds_toArray, List.set_cons_zero, List.set_cons_succ])
       repeat (first
         | (refine seqT_read (fun w' => w'.heap[g1]? = some (.cells (wcells vx).toArray 28 (0, 0))) (fun w' e => (KP.out w' e).1) _ (v := .agg (wcells vx).toArray) rfl (by rfl) (fun w' hF => exec_load_row rfl rfl hF rfl rfl (by rw [S_vx]; rfl)) ?_; simp only [Act.put, List.setIfInBounds_toArray, List.set_cons_zero, List.set_cons_succ])
         | (refine seqT_read (fun w' => w'.heap[g2]? = some (.cells (wcells vy).toArray 28 (0, 0))) (fun w' e => (KP.out w' e).2.1) _ (v := .agg (wcells vy).toArray) rfl (by rfl) (fun w' hF => exec_load_row rfl rfl hF rfl rfl (by rw [S_vy]; rfl)) ?_; simp only [Act.put, List.setIfInBounds_toArray, List.set_cons_zero, List.set_cons_succ])
         | (refine seqT_read (fun w' => w'.heap[g3]? = some (.cells (wcells vz).toArray 28 (0, 0))) (fun w' e => (KP.out w' e).2.2.1) _ (v := .agg (wcells vz).toArray) rfl (by rfl) (fun w' hF => exec_load_row rfl rfl hF rfl rfl (by rw [S_vz]; rfl)) ?_; simp only [Act.put, List.setIfInBounds_toArray, List.set_cons_zero, List.set_cons_succ])
         | (refine seqT_read (fun _ => True) (fun _ _ => trivial) _ (v := .bool true) rfl (by rfl) (fun w' _ => exec_eql_keyB (xs := k1) (ys := k1) (decide_eq_true rfl) L_k1 L_k1 rfl rfl rfl) ?_; simp only [Act.put, List.setIfInBounds_toArray, List.set_cons_zero, List.set_cons_succ])
         | (refine seqT_read (fun _ => True) (fun _ _ => trivial) _ (v := .bool true) rfl (by rfl) (fun w' _ => exec_eql_keyB (xs := k2) (ys := k2) (decide_eq_true rfl) L_k2 L_k2 rfl rfl rfl) ?_; simp only [Act.put, List.setIfInBounds_toArray, List.set_cons_zero, List.set_cons_succ])
         | (refine seqT_read (fun _ => True) (fun _ _ => trivial) _ (v := .bool true) rfl (by rfl) (fun w' _ => exec_eql_keyB (xs := kd) (ys := kd) (decide_eq_true rfl) L_kd L_kd rfl rfl rfl) ?_; simp only [Act.put, List.setIfInBounds_toArray, List.set_cons_zero, List.set_cons_succ])
         | (refine seqT_read (fun _ => True) (fun _ _ => trivial) _ (v := .bool true) rfl (by rfl) (fun w' _ => exec_eql_keyB (xs := kt) (ys := kt) (decide_eq_true rfl) L_kt L_kt rfl rfl rfl) ?_; simp only [Act.put, List.setIfInBounds_toArray, List.set_cons_zero, List.set_cons_succ])
         | (refine seqT_read (fun _ => True) (fun _ _ => trivial) _ (v := .bool true) rfl (by rfl) (fun w' _ => exec_eql_keyB (xs := kq) (ys := kq) (decide_eq_true rfl) L_kq L_kq rfl rfl rfl) ?_; simp only [Act.put, List.setIfInBounds_toArray, List.set_cons_zero, List.set_cons_succ])
         | (refine seqT_read (fun _ => True) (fun _ _ => trivial) _ (v := ?_) rfl ?_ ?_ ?_; rotate_left; (· rfl); (· intro w' hF; go_simp; (try with_reducible rfl)); simp only [Act.put, List.setIfInBounds_toArray, List.set_cons_zero, List.set_cons_succ]))
       skip)
    | (refine seqT_do (i := 58) _ rfl ?_ ?_ (fun K1 hK1 => ?_)
       (· rfl)
       rotate_left
       go_simp
       refine (AXY.out _ (KP.out _ (Ext.refl _)).2.2.2).mono ?_
       rintro e WC ⟨rfl, e1⟩
       refine hK1.out _ _ e1 ?_
       clear hK1 K1
       replace KP : Hid (∀ s, Ext WC s → Wr s g1 28 vx ∧ Wr s g2 28 vy ∧ Wr s g3 28 vz ∧ Ext w s) := fun s e => KP.out s (e1.trans e)
       (try replace ES : Hid (∀ s, Ext WC s → s.heap[gS]? = some (.cells (wcells vz ++ wcells vy ++ wcells vx).toArray 28 (0, 0))) := fun s e => ES.out s (e1.trans e))
       clear e1
       (try simp only [Act.put, List.setIfInBounds_toArray, List.set_cons_zero, List.set_cons_succ])
       repeat (first
         | (refine seqT_read (fun w' => w'.heap[g1]? = some (.cells (wcells vx).toArray 28 (0, 0))) (fun w' e => (KP.out w' e).1) _ (v := .agg (wcells vx).toArray) rfl (by rfl) (fun w' hF => exec_load_row rfl rfl hF rfl rfl (by rw [S_vx]; rfl)) ?_; simp only [Act.put, List.setIfInBounds_toArray, List.set_cons_zero, List.set_cons_succ])
         | (refine seqT_read (fun w' => w'.heap[g2]? = some (.cells (wcells vy).toArray 28 (0, 0))) (fun w' e => (KP.out w' e).2.1) _ (v := .agg (wcells vy).toArray) rfl (by rfl) (fun w' hF => exec_load_row rfl rfl hF rfl rfl (by rw [S_vy]; rfl)) ?_; simp only [Act.put, List.setIfInBounds_toArray, List.set_cons_zero, List.set_cons_succ])
         | (refine seqT_read (fun w' => w'.heap[g3]? = some (.cells (wcells vz).toArray 28 (0, 0))) (fun w' e => (KP.out w' e).2.2.1) _ (v := .agg (wcells vz).toArray) rfl (by rfl) (fun w' hF => exec_load_row rfl rfl hF rfl rfl (by rw [S_vz]; rfl)) ?_; simp only [Act.put, List.setIfInBounds_toArray, List.set_cons_zero, List.set_cons_succ])
         | (refine seqT_read (fun _ => True) (fun _ _ => trivial) _ (v := .bool true) rfl (by rfl) (fun w' _ => exec_eql_keyB (xs := k1) (ys := k1) (decide_eq_true rfl) L_k1 L_k1 rfl rfl rfl) ?_; simp only [Act.put, List.setIfInBounds_toArray, List.set_cons_zero, List.set_cons_succ])
         | (refine seqT_read (fun _ => True) (fun _ _ => trivial) _ (v := .bool true) rfl (by rfl) (fun w' _ => exec_eql_keyB (xs := k2) (ys := k2) (decide_eq_true rfl) L_k2 L_k2 rfl rfl rfl) ?_; simp only [Act.put, List.setIfInBounds_toArray, List.set_cons_zero, List.set_cons_succ])
         | (refine seqT_read (fun _ => True) (fun _ _ => trivial) _ (v := .bool true) rfl (by rfl) (fun w' _ => exec_eql_keyB (xs := kd) (ys := kd) (decide_eq_true rfl) L_kd L_kd rfl rfl rfl) ?_; simp only [Act.put, List.setIfInBounds_toArray, List.set_cons_zero, List.set_cons_succ])
         | (refine seqT_read (fun _ => True) (fun _ _ => trivial) _ (v := .bool true) rfl (by rfl) (fun w' _ => exec_eql_keyB (xs := kt) (ys := kt) (decide_eq_true rfl) L_kt L_kt rfl rfl rfl) ?_; simp only [Act.put, List.setIfInBounds_toArray, List.set_cons_zero, List.set_cons_succ])
         | (refine seqT_read (fun _ => True) (fun _ _ => trivial) _ (v := .bool true) rfl (by rfl) (fun w' _ => exec_eql_keyB (xs := kq) (ys := kq) (decide_eq_true rfl) L_kq L_kq rfl rfl rfl) ?_; simp only [Act.put, List.setIfInBounds_toArray, List.set_cons_zero, List.set_cons_succ])
         | (refine seqT_read (fun _ => True) (fun _ _ => trivial) _ (v := ?_) rfl ?_ ?_ ?_; rotate_left; (· rfl); (· intro w' hF; go_simp; (try with_reducible rfl)); simp only [Act.put, List.setIfInBounds_toArray, List.set_cons_zero, List.set_cons_succ]))
       skip)
    | (refine seqT_do (i := 60) _ rfl ?_ ?_ (fun K1 hK1 => ?_)
       (· rfl)
       rotate_left
       go_simp
       refine (AAZ.out _ (KP.out _ (Ext.refl _)).2.2.2).mono ?_
       rintro e WC ⟨rfl, e1⟩
       refine hK1.out _ _ e1 ?_
       clear hK1 K1
       replace KP : Hid (∀ s, Ext WC s → Wr s g1 28 vx ∧ Wr s g2 28 vy ∧ Wr s g3 28 vz ∧ Ext w s) := fun s e => KP.out s (e1.trans e)
       (try replace ES : Hid (∀ s, Ext WC s → s.heap[gS]? = some (.cells (wcells vz ++ wcells vy ++ wcells vx).toArray 28 (0, 0))) := fun s e => ES.out s (e1.trans e))
       clear e1
       (try simp only [Act.put, List.setIfInBounds_toArray, List.set_cons_zero, List.set_cons_succ])
       repeat (first
         | (refine seqT_read (fun w' => w'.heap[g1]? = some (.cells (wcells vx).toArray 28 (0, 0))) (fun w' e => (KP.out w' e).1) _ (v := .agg (wcells vx).toArray) rfl (by rfl) (fun w' hF => exec_load_row rfl rfl hF rfl rfl (by rw [S_vx]; rfl)) ?_; simp only [Act.put, List.setIfInBounds_toArray, List.set_cons_zero, List.set_cons_succ])
         | (refine seqT_read (fun w' => w'.heap[g2]? = some (.cells (wcells vy).toArray 28 (0, 0))) (fun w' e => (KP.out w' e).2.1) _ (v := .agg (wcells vy).toArray) rfl (by rfl) (fun w' hF => exec_load_row rfl rfl hF rfl rfl (by rw [S_vy]; rfl)) ?_; simp only [Act.put, List.setIfInBounds_toArray, List.set_cons_zero, List.set_cons_succ])
         | (refine seqT_read (fun w' => w'.heap[g3]? = some (.cells (wcells vz).toArray 28 (0, 0))) (fun w' e => (KP.out w' e).2.2.1) _ (v := .agg (wcells vz).toArray) rfl (by rfl) (fun w' hF => exec_load_row rfl rfl hF rfl rfl (by rw [S_vz]; rfl)) ?_; simp only [Act.put, List.setIfInBounds_toArray, List.set_cons_zero, List.set_cons_succ])
         | (refine seqT_read (fun _ => True) (fun _ _ => trivial) _ (v := .bool true) rfl (by rfl) (fun w' _ => exec_eql_keyB (xs := k1) (ys := k1) (decide_eq_true rfl) L_k1 L_k1 rfl rfl rfl) ?_; simp only [Act.put, List.setIfInBounds_toArray, List.set_cons_zero, List.set_cons_succ])
         | (refine seqT_read (fun _ => True) (fun _ _ => trivial) _ (v := .bool true) rfl (by rfl) (fun w' _ => exec_eql_keyB (xs := k2) (ys := k2) (decide_eq_true rfl) L_k2 L_k2 rfl rfl rfl) ?_; simp only [Act.put, List.setIfInBounds_toArray, List.set_cons_zero, List.set_cons_succ])
         | (refine seqT_read (fun _ => True) (fun _ _ => trivial) _ (v := .bool true) rfl (by rfl) (fun w' _ => exec_eql_keyB (xs := kd) (ys := kd) (decide_eq_true rfl) L_kd L_kd rfl rfl rfl) ?_; simp only [Act.put, List.setIfInBounds_toArray, List.set_cons_zero, List.set_cons_succ])
         | (refine seqT_read (fun _ => True) (fun _ _ => trivial) _ (v := .bool true) rfl (by rfl) (fun w' _ => exec_eql_keyB (xs := kt) (ys := kt) (decide_eq_true rfl) L_kt L_kt rfl rfl rfl) ?_; simp only [Act.put, List.setIfInBounds_toArray, List.set_cons_zero, List.set_cons_succ])
         | (refine seqT_read (fun _ => True) (fun _ _ => trivial) _ (v := .bool true) rfl (by rfl) (fun w' _ => exec_eql_keyB (xs := kq) (ys := kq) (decide_eq_true rfl) L_kq L_kq rfl rfl rfl) ?_; simp only [Act.put, List.setIfInBounds_toArray, List.set_cons_zero, List.set_cons_succ])
         | (refine seqT_read (fun _ => True) (fun _ _ => trivial) _ (v := ?_) rfl ?_ ?_ ?_; rotate_left; (· rfl); (· intro w' hF; go_simp; (try with_reducible rfl)); simp only [Act.put, List.setIfInBounds_toArray, List.set_cons_zero, List.set_cons_succ]))
       skip)
    | (refine seqT_do (i := 61) _ rfl ?_ ?_ (fun K1 hK1 => ?_)
       (· rfl)
       rotate_left
       go_simp
       refine (KQQ.out _ (KP.out _ (Ext.refl _)).2.2.2).mono ?_
       rintro e WC ⟨rfl, e1⟩
       refine hK1.out _ _ e1 ?_
       clear hK1 K1
       replace KP : Hid (∀ s, Ext WC s → Wr s g1 28 vx ∧ Wr s g2 28 vy ∧ Wr s g3 28 vz ∧ Ext w s) := fun s e => KP.out s (e1.trans e)
       (try replace ES : Hid (∀ s, Ext WC s → s.heap[gS]? = some (.cells (wcells vz ++ wcells vy ++ wcells vx).toArray 28 (0, 0))) := fun s e => ES.out s (e1.trans e))
       clear e1
       (try simp only [Act.put, List.setIfInBounds_toArray, List.set_cons_zero, List.set_cons_succ])
       repeat (first
         | (refine seqT_read (fun w' => w'.heap[g1]? = some (.cells (wcells vx).toArray 28 (0, 0))) (fun w' e => (KP.out w' e).1) _ (v := .agg (wcells vx).toArray) rfl (by rfl) (fun w' hF => exec_load_row rfl rfl hF rfl rfl (by rw [S_vx]; rfl)) ?_; simp only [Act.put, List.setIfInBounds_toArray, List.set_cons_zero, List.set_cons_succ])
         | (refine seqT_read (fun w' => w'.heap[g2]? = some (.cells (wcells vy).toArray 28 (0, 0))) (fun w' e => (KP.out w' e).2.1) _ (v := .agg (wcells vy).toArray) rfl (by rfl) (fun w' hF => exec_load_row rfl rfl hF rfl rfl (by rw [S_vy]; rfl)) ?_; simp only [Act.put, List.setIfInBounds_toArray, List.set_cons_zero, List.set_cons_succ])
         | (refine seqT_read (fun w' => w'.heap[g3]? = some (.cells (wcells vz).toArray 28 (0, 0))) (fun w' e => (KP.out w' e).2.2.1) _ (v := .agg (wcells vz).toArray) rfl (by rfl) (fun w' hF => exec_load_row rfl rfl hF rfl rfl (by rw [S_vz]; rfl)) ?_; simp only [Act.put, List.setIfInBounds_toArray, List.set_cons_zero, List.set_cons_succ])
         | (refine seqT_read (fun _ => True) (fun _ _ => trivial) _ (v := .bool true) rfl (by rfl) (fun w' _ => exec_eql_keyB (xs := k1) (ys := k1) (decide_eq_true rfl) L_k1 L_k1 rfl rfl rfl) ?_; simp only [Act.put, List.setIfInBounds_toArray, List.set_cons_zero, List.set_cons_succ])
         | (refine seqT_read (fun _ => True) (fun _ _ => trivial) _ (v := .bool true) rfl (by rfl) (fun w' _ => exec_eql_keyB (xs := k2) (ys := k2) (decide_eq_true rfl) L_k2 L_k2 rfl rfl rfl) ?_; simp only [Act.put, List.setIfInBounds_toArray, List.set_cons_zero, List.set_cons_succ])
         | (refine seqT_read (fun _ => True) (fun _ _ => trivial) _ (v := .bool true) rfl (by rfl) (fun w' _ => exec_eql_keyB (xs := kd) (ys := kd) (decide_eq_true rfl) L_kd L_kd rfl rfl rfl) ?_; simp only [Act.put, List.setIfInBounds_toArray, List.set_cons_zero, List.set_cons_succ])
         | (refine seqT_read (fun _ => True) (fun _ _ => trivial) _ (v := .bool true) rfl (by rfl) (fun w' _ => exec_eql_keyB (xs := kt) (ys := kt) (decide_eq_true rfl) L_kt L_kt rfl rfl rfl) ?_; simp only [Act.put, List.setIfInBounds_toArray, List.set_cons_zero, List.set_cons_succ])
         | (refine seqT_read (fun _ => True) (fun _ _ => trivial) _ (v := .bool true) rfl (by rfl) (fun w' _ => exec_eql_keyB (xs := kq) (ys := kq) (decide_eq_true rfl) L_kq L_kq rfl rfl rfl) ?_; simp only [Act.put, List.setIfInBounds_toArray, List.set_cons_zero, List.set_cons_succ])
         | (refine seqT_read (fun _ => True) (fun _ _ => trivial) _ (v := ?_) rfl ?_ ?_ ?_; rotate_left; (· rfl); (· intro w' hF; go_simp; (try with_reducible rfl)); simp only [Act.put, List.setIfInBounds_toArray, List.set_cons_zero, List.set_cons_succ]))
       skip)
    | (refine seqT_do (i := 65) _ rfl ?_ ?_ (fun K1 hK1 => ?_)
       (· rfl)
       rotate_left
       refine wp_slice3 L_vz L_vy L_vx rfl rfl rfl rfl ?_
       have e1 : Ext WC (WC.alloc (Obj.cells (wcells vz ++ wcells vy ++ wcells vx).toArray 28)) := (Ext.refl _).alloc _
       have h1 := Lib.hid (heap_alloc_new WC (Obj.cells (wcells vz ++ wcells vy ++ wcells vx).toArray 28))
       obtain ⟨gS, hgS⟩ : ∃ g, g = WC.heap.size := ⟨_, rfl⟩
       rw [← hgS] at h1 ⊢
       refine hK1.out _ (WC.alloc (Obj.cells (wcells vz ++ wcells vy ++ wcells vx).toArray 28)) e1 ?_
       clear hK1 K1
       have ES : Hid (∀ s, Ext (WC.alloc (Obj.cells (wcells vz ++ wcells vy ++ wcells vx).toArray 28)) s → s.heap[gS]? = some (.cells (wcells vz ++ wcells vy ++ wcells vx).toArray 28 (0, 0))) := fun s e => (e.block _ (heap_lt h1.out)).trans h1.out
       replace KP : Hid (∀ s, Ext (WC.alloc (Obj.cells (wcells vz ++ wcells vy ++ wcells vx).toArray 28)) s → Wr s g1 28 vx ∧ Wr s g2 28 vy ∧ Wr s g3 28 vz ∧ Ext w s) := fun s e => KP.out s (e1.trans e)
       clear hgS h1 e1
       generalize WC.alloc (Obj.cells (wcells vz ++ wcells vy ++ wcells vx).toArray 28) = WC at *
       (try simp only [Act.put, List.setIfInBounds_toArray, List.set_cons_zero, List.set_cons_succ])
       repeat (first
         | (refine seqT_read (fun w' => w'.heap[g1]? = some (.cells (wcells vx).toArray 28 (0, 0))) (fun w' e => (KP.out w' e).1) _ (v := .agg (wcells vx).toArray) rfl (by rfl) (fun w' hF => exec_load_row rfl rfl hF rfl rfl (by rw [S_vx]; rfl)) ?_; simp only [Act.put, List.setIfInBounds_toArray, List.set_cons_zero, List.set_cons_succ])
         | (refine seqT_read (fun w' => w'.heap[g2]? = some (.cells (wcells vy).toArray 28 (0, 0))) (fun w' e => (KP.out w' e).2.1) _ (v := .agg (wcells vy).toArray) rfl (by rfl) (fun w' hF => exec_load_row rfl rfl hF rfl rfl (by rw [S_vy]; rfl)) ?_; simp only [Act.put, List.setIfInBounds_toArray, List.set_cons_zero, List.set_cons_succ])
         | (refine seqT_read (fun w' => w'.heap[g3]? = some (.cells (wcells vz).toArray 28 (0, 0))) (fun w' e => (KP.out w' e).2.2.1) _ (v := .agg (wcells vz).toArray) rfl (by rfl) (fun w' hF => exec_load_row rfl rfl hF rfl rfl (by rw [S_vz]; rfl)) ?_; simp only [Act.put, List.setIfInBounds_toArray, List.set_cons_zero, List.set_cons_succ])
         | (refine seqT_read (fun _ => True) (fun _ _ => trivial) _ (v := .bool true) rfl (by rfl) (fun w' _ => exec_eql_keyB (xs := k1) (ys := k1) (decide_eq_true rfl) L_k1 L_k1 rfl rfl rfl) ?_; simp only [Act.put, List.setIfInBounds_toArray, List.set_cons_zero, List.set_cons_succ])
         | (refine seqT_read (fun _ => True) (fun _ _ => trivial) _ (v := .bool true) rfl (by rfl) (fun w' _ => exec_eql_keyB (xs := k2) (ys := k2) (decide_eq_true rfl) L_k2 L_k2 rfl rfl rfl) ?_; simp only [Act.put, List.setIfInBounds_toArray, List.set_cons_zero, List.set_cons_succ])
         | (refine seqT_read (fun _ => True) (fun _ _ => trivial) _ (v := .bool true) rfl (by rfl) (fun w' _ => exec_eql_keyB (xs := kd) (ys := kd) (decide_eq_true rfl) L_kd L_kd rfl rfl rfl) ?_; simp only [Act.put, List.setIfInBounds_toArray, List.set_cons_zero, List.set_cons_succ])
         | (refine seqT_read (fun _ => True) (fun _ _ => trivial) _ (v := .bool true) rfl (by rfl) (fun w' _ => exec_eql_keyB (xs := kt) (ys := kt) (decide_eq_true rfl) L_kt L_kt rfl rfl rfl) ?_; simp only [Act.put, List.setIfInBounds_toArray, List.set_cons_zero, List.set_cons_succ])
         | (refine seqT_read (fun _ => True) (fun _ _ => trivial) _ (v := .bool true) rfl (by rfl) (fun w' _ => exec_eql_keyB (xs := kq) (ys := kq) (decide_eq_true rfl) L_kq L_kq rfl rfl rfl) ?_; simp only [Act.put, List.setIfInBounds_toArray, List.set_cons_zero, List.set_cons_succ])
         | (refine seqT_read (fun _ => True) (fun _ _ => trivial) _ (v := ?_) rfl ?_ ?_ ?_; rotate_left; (· rfl); (· intro w' hF; go_simp; (try with_reducible rfl)); simp only [Act.put, List.setIfInBounds_toArray, List.set_cons_zero, List.set_cons_succ]))
       skip)
    | (refine seqT_do (i := 66) _ rfl ?_ ?_ (fun K1 hK1 => ?_)
       (· rfl)
       rotate_left
       go_simp
       refine (SUM.out _ gS (KP.out _ (Ext.refl _)).2.2.2 (ES.out _ (Ext.refl _))).mono ?_
       rintro e WC ⟨rfl, e1⟩
       refine hK1.out _ _ e1 ?_
       clear hK1 K1
       replace KP : Hid (∀ s, Ext WC s → Wr s g1 28 vx ∧ Wr s g2 28 vy ∧ Wr s g3 28 vz ∧ Ext w s) := fun s e => KP.out s (e1.trans e)
       (try replace ES : Hid (∀ s, Ext WC s → s.heap[gS]? = some (.cells (wcells vz ++ wcells vy ++ wcells vx).toArray 28 (0, 0))) := fun s e => ES.out s (e1.trans e))
       clear e1
       (try simp only [Act.put, List.setIfInBounds_toArray, List.set_cons_zero, List.set_cons_succ])
       repeat (first
         | (refine seqT_read (fun w' => w'.heap[g1]? = some (.cells (wcells vx).toArray 28 (0, 0))) (fun w' e => (KP.out w' e).1) _ (v := .agg (wcells vx).toArray) rfl (by rfl) (fun w' hF => exec_load_row rfl rfl hF rfl rfl (by rw [S_vx]; rfl)) ?_; simp only [Act.put, List.setIfInBounds_toArray, List.set_cons_zero, List.set_cons_succ])
         | (refine seqT_read (fun w' => w'.heap[g2]? = some (.cells (wcells vy).toArray 28 (0, 0))) (fun w' e => (KP.out w' e).2.1) _ (v := .agg (wcells vy).toArray) rfl (by rfl) (fun w' hF => exec_load_row rfl rfl hF rfl rfl (by rw [S_vy]; rfl)) ?_; simp only [Act.put, List.setIfInBounds_toArray, List.set_cons_zero, List.set_cons_succ])
         | (refine seqT_read (fun w' => w'.heap[g3]? = some (.cells (wcells vz).toArray 28 (0, 0))) (fun w' e => (KP.out w' e).2.2.1) _ (v := .agg (wcells vz).toArray) rfl (by rfl) (fun w' hF => exec_load_row rfl rfl hF rfl rfl (by rw [S_vz]; rfl)) ?_; simp only [Act.put, List.setIfInBounds_toArray, List.set_cons_zero, List.set_cons_succ])
         | (refine seqT_read (fun _ => True) (fun _ _ => trivial) _ (v := .bool true) rfl (by rfl) (fun w' _ => exec_eql_keyB (xs := k1) (ys := k1) (decide_eq_true rfl) L_k1 L_k1 rfl rfl rfl) ?_; simp only [Act.put, List.setIfInBounds_toArray, List.set_cons_zero, List.set_cons_succ])
         | (refine seqT_read (fun _ => True) (fun _ _ => trivial) _ (v := .bool true) rfl (by rfl) (fun w' _ => exec_eql_keyB (xs := k2) (ys := k2) (decide_eq_true rfl) L_k2 L_k2 rfl rfl rfl) ?_; simp only [Act.put, List.setIfInBounds_toArray, List.set_cons_zero, List.set_cons_succ])
         | (refine seqT_read (fun _ => True) (fun _ _ => trivial) _ (v := .bool true) rfl (by rfl) (fun w' _ => exec_eql_keyB (xs := kd) (ys := kd) (decide_eq_true rfl) L_kd L_kd rfl rfl rfl) ?_; simp only [Act.put, List.setIfInBounds_toArray, List.set_cons_zero, List.set_cons_succ])
         | (refine seqT_read (fun _ => True) (fun _ _ => trivial) _ (v := .bool true) rfl (by rfl) (fun w' _ => exec_eql_keyB (xs := kt) (ys := kt) (decide_eq_true rfl) L_kt L_kt rfl rfl rfl) ?_; simp only [Act.put, List.setIfInBounds_toArray, List.set_cons_zero, List.set_cons_succ])
         | (refine seqT_read (fun _ => True) (fun _ _ => trivial) _ (v := .bool true) rfl (by rfl) (fun w' _ => exec_eql_keyB (xs := kq) (ys := kq) (decide_eq_true rfl) L_kq L_kq rfl rfl rfl) ?_; simp only [Act.put, List.setIfInBounds_toArray, List.set_cons_zero, List.set_cons_succ])
         | (refine seqT_read (fun _ => True) (fun _ _ => trivial) _ (v := ?_) rfl ?_ ?_ ?_; rotate_left; (· rfl); (· intro w' hF; go_simp; (try with_reducible rfl)); simp only [Act.put, List.setIfInBounds_toArray, List.set_cons_zero, List.set_cons_succ]))
       skip)
    | (refine seqT_do (i := 67) _ rfl ?_ ?_ (fun K1 hK1 => ?_)
       (· rfl)
       rotate_left
       go_simp
       refine (KQQ.out _ (KP.out _ (Ext.refl _)).2.2.2).mono ?_
       rintro e WC ⟨rfl, e1⟩
       refine hK1.out _ _ e1 ?_
       clear hK1 K1
       replace KP : Hid (∀ s, Ext WC s → Wr s g1 28 vx ∧ Wr s g2 28 vy ∧ Wr s g3 28 vz ∧ Ext w s) := fun s e => KP.out s (e1.trans e)
       (try replace ES : Hid (∀ s, Ext WC s → s.heap[gS]? = some (.cells (wcells vz ++ wcells vy ++ wcells vx).toArray 28 (0, 0))) := fun s e => ES.out s (e1.trans e))
       clear e1
       (try simp only [Act.put, List.setIfInBounds_toArray, List.set_cons_zero, List.set_cons_succ])
       repeat (first
         | (refine seqT_read (fun w' => w'.heap[g1]? = some (.cells (wcells vx).toArray 28 (0, 0))) (fun w' e => (KP.out w' e).1) _ (v := .agg (wcells vx).toArray) rfl (by rfl) (fun w' hF => exec_load_row rfl rfl hF rfl rfl (by rw [S_vx]; rfl)) ?_; simp only [Act.put, List.setIfInBounds_toArray, List.set_cons_zero, List.set_cons_succ])
         | (refine seqT_read (fun w' => w'.heap[g2]? = some (.cells (wcells vy).toArray 28 (0, 0))) (fun w' e => (KP.out w' e).2.1) _ (v := .agg (wcells vy).toArray) rfl (by rfl) (fun w' hF => exec_load_row rfl rfl hF rfl rfl (by rw [S_vy]; rfl)) ?_; simp only [Act.put, List.setIfInBounds_toArray, List.set_cons_zero, List.set_cons_succ])
         | (refine seqT_read (fun w' => w'.heap[g3]? = some (.cells (wcells vz).toArray 28 (0, 0))) (fun w' e => (KP.out w' e).2.2.1) _ (v := .agg (wcells vz).toArray) rfl (by rfl) (fun w' hF => exec_load_row rfl rfl hF rfl rfl (by rw [S_vz]; rfl)) ?_; simp only [Act.put, List.setIfInBounds_toArray, List.set_cons_zero, List.set_cons_succ])
         | (refine seqT_read (fun _ => True) (fun _ _ => trivial) _ (v := .bool true) rfl (by rfl) (fun w' _ => exec_eql_keyB (xs := k1) (ys := k1) (decide_eq_true rfl) L_k1 L_k1 rfl rfl rfl) ?_; simp only [Act.put, List.setIfInBounds_toArray, List.set_cons_zero, List.set_cons_succ])
         | (refine seqT_read (fun _ => True) (fun _ _ => trivial) _ (v := .bool true) rfl (by rfl) (fun w' _ => exec_eql_keyB (xs := k2) (ys := k2) (decide_eq_true rfl) L_k2 L_k2 rfl rfl rfl) ?_; simp only [Act.put, List.setIfInBounds_toArray, List.set_cons_zero, List.set_cons_succ])
         | (refine seqT_read (fun _ => True) (fun _ _ => trivial) _ (v := .bool true) rfl (by rfl) (fun w' _ => exec_eql_keyB (xs := kd) (ys := kd) (decide_eq_true rfl) L_kd L_kd rfl rfl rfl) ?_; simp only [Act.put, List.setIfInBounds_toArray, List.set_cons_zero, List.set_cons_succ])
         | (refine seqT_read (fun _ => True) (fun _ _ => trivial) _ (v := .bool true) rfl (by rfl) (fun w' _ => exec_eql_keyB (xs := kt) (ys := kt) (decide_eq_true rfl) L_kt L_kt rfl rfl rfl) ?_; simp only [Act.put, List.setIfInBounds_toArray, List.set_cons_zero, List.set_cons_succ])
         | (refine seqT_read (fun _ => True) (fun _ _ => trivial) _ (v := .bool true) rfl (by rfl) (fun w' _ => exec_eql_keyB (xs := kq) (ys := kq) (decide_eq_true rfl) L_kq L_kq rfl rfl rfl) ?_; simp only [Act.put, List.setIfInBounds_toArray, List.set_cons_zero, List.set_cons_succ])
         | (refine seqT_read (fun _ => True) (fun _ _ => trivial) _ (v := ?_) rfl ?_ ?_ ?_; rotate_left; (· rfl); (· intro w' hF; go_simp; (try with_reducible rfl)); simp only [Act.put, List.setIfInBounds_toArray, List.set_cons_zero, List.set_cons_succ]))
       refine seqT_done ?_
       have EE := Lib.hid (KP.out _ (Ext.refl _)).2.2.2
       clear KP ES
       go_wp2_with fail
       go_ret
       exact ⟨rfl, EE.out⟩)
    )
end Go.Proofs.YteognebhlehjlaaDoor
