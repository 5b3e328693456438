/-
  FieldMany: numbers that are reckoned with again and again, told between or not.
-/
import Derived.Test.YteognebhlehjlaaDoorAwake6
import Derived.Test.YteognebhlehjlaaDoorFldBack
import Derived.Test.YteognebhlehjlaaDoorSeq
import Derived.Test.YteognebhlehjlaaDoorSeqZ
namespace Go.Proofs.YteognebhlehjlaaDoor
open Go.ChangeShapes Go.WideShapes Go.ChangeAt Go.RowKit Go.Deep
set_option maxRecDepth 100000

/-- What n steps make of x. -/
def pM (x y : Nat) : Nat → Nat
  | 0 => x
  | k + 1 => ((pM x y k * y % P25 + x) % P25 + (P25 - y)) % P25
theorem pM_lt {x y : Nat} (hx : x < P25) : ∀ k, pM x y k < P25
  | 0 => hx
  | _ + 1 => Nat.mod_lt _ P25_pos

set_option maxHeartbeats 1000000 in
theorem fieldMany_out {ka kb : List UInt8} {z : Int} {w : World} (hz : z < 0 ∨ 60 < z) {tg : TypeId × Nat × Nat} (hG : Gp w tg) :
    Calls Tryd.prog 7 #[.agg (cellsOf ka).toArray, .agg (cellsOf kb).toArray, .int .i64 z] w fun e w' => e = .returned (.bool true) ∧ Ext w w' := by
  have AW : Hid (∀ W, Ext w W → Calls Tryd.prog 9 #[] W fun e w' => e = .returned (.bool true) ∧ Ext W w') := fun W e => awake6_calls (hG.ext e)
  clear hG
  generalize (cellsOf ka).toArray = KA at *
  generalize (cellsOf kb).toArray = KB at *
  by_cases h0 : z < 0
  · have t1 : decide (z < 0) = true := decide_eq_true h0
    clear hz
    go_enter Tryd.func7, Tryd.ntmps7
    go_wp2_with fail
    refine (AW.out _ (((Ext.refl w).alloc _).alloc _)).mono ?_
    rintro e w1 ⟨rfl, e1⟩
    go_wp2_with fail
    go_ret
    exact ⟨rfl, (((Ext.refl w).alloc _).alloc _).trans e1⟩
  · have t1 : decide (z < 0) = false := decide_eq_false h0
    have t2 : decide (60 < z) = true := decide_eq_true (by omega)
    clear hz
    go_enter Tryd.func7, Tryd.ntmps7
    go_wp2_with fail
    refine (AW.out _ (((Ext.refl w).alloc _).alloc _)).mono ?_
    rintro e w1 ⟨rfl, e1⟩
    go_wp2_with fail
    go_ret
    exact ⟨rfl, (((Ext.refl w).alloc _).alloc _).trans e1⟩

set_option maxHeartbeats 4000000 in
theorem fieldMany_in {ka kb : List UInt8} {n : Nat} {w : World} (ha : ka.length = 32) (hb : kb.length = 32) (hn : n ≤ 60) {tg : TypeId × Nat × Nat} (hG : Gp w tg) :
    Calls Tryd.prog 7 #[.agg (cellsOf ka).toArray, .agg (cellsOf kb).toArray, .int .i64 (n : Int)] w fun e w' => e = .returned (.bool true) ∧ Ext w w' := by
  have AW : Hid (∀ W, Ext w W → Calls Tryd.prog 9 #[] W fun e w' => e = .returned (.bool true) ∧ Ext W w') := fun W e => awake6_calls (hG.ext e)
  obtain ⟨x, hx⟩ : ∃ x, x = ofV ka := ⟨_, rfl⟩
  have xp : x < P25 := by rw [hx]; exact ofV_lt ka
  obtain ⟨y, hy⟩ : ∃ y, y = ofV kb := ⟨_, rfl⟩
  have yp : y < P25 := by rw [hy]; exact ofV_lt kb
  have OFA : Hid (∀ W, Ext w W → Calls Tryd.prog 10 #[.agg (cellsOf ka).toArray] W fun e w' => e = .returned (.agg (wcells (lbs 8 (x))).toArray) ∧ Ext W w') := fun W e => by
    rw [hx]; exact of_calls ha (hG.ext e)
  have OFB : Hid (∀ W, Ext w W → Calls Tryd.prog 10 #[.agg (cellsOf kb).toArray] W fun e w' => e = .returned (.agg (wcells (lbs 8 (y))).toArray) ∧ Ext W w') := fun W e => by
    rw [hy]; exact of_calls hb (hG.ext e)
  have MU : Hid (∀ (m : Nat) (W : World), Ext w W → Calls Tryd.prog 18 #[.agg (wcells (lbs 8 (pM x y m))).toArray, .agg (wcells (lbs 8 (y))).toArray] W fun e w' => e = .returned (.agg (wcells (lbs 8 (pM x y m * y % P25))).toArray) ∧ Ext W w') := fun m W e => by
    exact emul_calls (pM_lt xp m) yp (hG.ext e)
  have AD : Hid (∀ (m : Nat) (W : World), Ext w W → Calls Tryd.prog 14 #[.agg (wcells (lbs 8 (pM x y m * y % P25))).toArray, .agg (wcells (lbs 8 (x))).toArray] W fun e w' => e = .returned (.agg (wcells (lbs 8 ((pM x y m * y % P25 + x) % P25))).toArray) ∧ Ext W w') := fun m W e => by
    exact eadd_calls (Nat.mod_lt _ P25_pos) xp (hG.ext e)
  have SU : Hid (∀ (m : Nat) (W : World), Ext w W → Calls Tryd.prog 16 #[.agg (wcells (lbs 8 ((pM x y m * y % P25 + x) % P25))).toArray, .agg (wcells (lbs 8 (y))).toArray] W fun e w' => e = .returned (.agg (wcells (lbs 8 (pM x y (m + 1)))).toArray) ∧ Ext W w') := fun m W e => by
    exact esub_calls (Nat.mod_lt _ P25_pos) yp (hG.ext e)
  have KM : Hid (∀ (m : Nat) (W : World), Ext w W → Calls Tryd.prog 12 #[.agg (wcells (lbs 8 (pM x y m * y % P25))).toArray] W fun e w' => e = .returned (.agg (cellsOf (kL (pM x y m * y % P25))).toArray) ∧ Ext W w') := fun m W e => by
    exact ekey_calls
  have OM : Hid (∀ (m : Nat) (W : World), Ext w W → Calls Tryd.prog 10 #[.agg (cellsOf (kL (pM x y m * y % P25))).toArray] W fun e w' => e = .returned (.agg (wcells (lbs 8 (pM x y m * y % P25))).toArray) ∧ Ext W w') := fun m W e => by
    have := of_calls (kL_len (pM x y m * y % P25)) (hG.ext e)
    rw [ofV_kL (Nat.mod_lt _ P25_pos)] at this
    exact this
  have KA : Hid (∀ (m : Nat) (W : World), Ext w W → Calls Tryd.prog 12 #[.agg (wcells (lbs 8 ((pM x y m * y % P25 + x) % P25))).toArray] W fun e w' => e = .returned (.agg (cellsOf (kL ((pM x y m * y % P25 + x) % P25))).toArray) ∧ Ext W w') := fun m W e => by
    exact ekey_calls
  have OA : Hid (∀ (m : Nat) (W : World), Ext w W → Calls Tryd.prog 10 #[.agg (cellsOf (kL ((pM x y m * y % P25 + x) % P25))).toArray] W fun e w' => e = .returned (.agg (wcells (lbs 8 ((pM x y m * y % P25 + x) % P25))).toArray) ∧ Ext W w') := fun m W e => by
    have := of_calls (kL_len ((pM x y m * y % P25 + x) % P25)) (hG.ext e)
    rw [ofV_kL (Nat.mod_lt _ P25_pos)] at this
    exact this
  have KN : Hid (∀ (m : Nat) (W : World), Ext w W → Calls Tryd.prog 12 #[.agg (wcells (lbs 8 (pM x y (m + 1)))).toArray] W fun e w' => e = .returned (.agg (cellsOf (kL (pM x y (m + 1)))).toArray) ∧ Ext W w') := fun m W e => by
    exact ekey_calls
  have ON : Hid (∀ (m : Nat) (W : World), Ext w W → Calls Tryd.prog 10 #[.agg (cellsOf (kL (pM x y (m + 1)))).toArray] W fun e w' => e = .returned (.agg (wcells (lbs 8 (pM x y (m + 1)))).toArray) ∧ Ext W w') := fun m W e => by
    have := of_calls (kL_len (pM x y (m + 1))) (hG.ext e)
    rw [ofV_kL (pM_lt xp (m + 1))] at this
    exact this
  have KP : Hid (∀ (m : Nat) (W : World), Ext w W → Calls Tryd.prog 12 #[.agg (wcells (lbs 8 (pM x y m))).toArray] W fun e w' => e = .returned (.agg (cellsOf (kL (pM x y m))).toArray) ∧ Ext W w') := fun m W e => by
    exact ekey_calls
  clear hG hx hy
  obtain ⟨fP, hfP⟩ : ∃ f : Nat → List Nat, f = fun m => lbs 8 (pM x y m) := ⟨_, rfl⟩
  have hfP' : ∀ m, lbs 8 (pM x y m) = fP m := fun m => by rw [hfP]
  have L_fP : Hid (∀ m, (fP m).length = 8) := fun m => by rw [← hfP']; exact lbs_len _ _
  obtain ⟨fM, hfM⟩ : ∃ f : Nat → List Nat, f = fun m => lbs 8 (pM x y m * y % P25) := ⟨_, rfl⟩
  have hfM' : ∀ m, lbs 8 (pM x y m * y % P25) = fM m := fun m => by rw [hfM]
  have L_fM : Hid (∀ m, (fM m).length = 8) := fun m => by rw [← hfM']; exact lbs_len _ _
  obtain ⟨fA, hfA⟩ : ∃ f : Nat → List Nat, f = fun m => lbs 8 ((pM x y m * y % P25 + x) % P25) := ⟨_, rfl⟩
  have hfA' : ∀ m, lbs 8 ((pM x y m * y % P25 + x) % P25) = fA m := fun m => by rw [hfA]
  have L_fA : Hid (∀ m, (fA m).length = 8) := fun m => by rw [← hfA']; exact lbs_len _ _
  obtain ⟨kM, hkM⟩ : ∃ f : Nat → List UInt8, f = fun m => kL (pM x y m * y % P25) := ⟨_, rfl⟩
  have hkM' : ∀ m, kL (pM x y m * y % P25) = kM m := fun m => by rw [hkM]
  have L_kM : Hid (∀ m, (kM m).length = 32) := fun m => by rw [← hkM']; exact kL_len _
  obtain ⟨kA, hkA⟩ : ∃ f : Nat → List UInt8, f = fun m => kL ((pM x y m * y % P25 + x) % P25) := ⟨_, rfl⟩
  have hkA' : ∀ m, kL ((pM x y m * y % P25 + x) % P25) = kA m := fun m => by rw [hkA]
  have L_kA : Hid (∀ m, (kA m).length = 32) := fun m => by rw [← hkA']; exact kL_len _
  obtain ⟨kP, hkP⟩ : ∃ f : Nat → List UInt8, f = fun m => kL (pM x y m) := ⟨_, rfl⟩
  have hkP' : ∀ m, kL (pM x y m) = kP m := fun m => by rw [hkP]
  have L_kP : Hid (∀ m, (kP m).length = 32) := fun m => by rw [← hkP']; exact kL_len _
  have f0 : Hid (fP 0 = lbs 8 x) := (hfP' 0).symm
  simp only [hkP', hkM', hkA', hfP', hfM', hfA'] at MU AD SU KM OM KA OA KN ON KP
  clear hfP' hfP hfM' hfM hfA' hfA hkM' hkM hkA' hkA hkP' hkP
  have L_vx := lbs_len 8 x
  have L_vy := lbs_len 8 y
  generalize lbs 8 x = vx at *
  generalize lbs 8 y = vy at *
  have hal2 := elem_alloc
  have L_zs : zw8.length = 8 := rfl
  generalize zw8 = zs at *
  have S_zs := wcells_size L_zs
  have hal : ∀ w, (zeroValue 23).run Tryd.prog w = .ok (.agg (cellsOf (List.replicate 32 0)).toArray) w := fun w => by rw [zeros32_cells]; exact key_alloc w
  have L_ka := ha
  have L_kb := hb
  have S_vx : (wcells vx).toArray.size = 8 := wcells_size L_vx
  have O_vx := wcells_one vx
  have S_vy : (wcells vy).toArray.size = 8 := wcells_size L_vy
  have O_vy := wcells_one vy
  have S_ka : (cellsOf ka).toArray.size = 32 := by simp [cellsOf_len, L_ka]
  have O_ka := cellsOf_one ka
  have S_kb : (cellsOf kb).toArray.size = 32 := by simp [cellsOf_len, L_kb]
  have O_kb := cellsOf_one kb
  have t1 : decide ((n : Int) < 0) = false := decide_eq_false (by omega)
  have t2 : decide (60 < (n : Int)) = false := decide_eq_false (by omega)
  have B0 : Hid (∀ s, Ext ((w.alloc (Obj.cells (cellsOf ka).toArray 23)).alloc (Obj.cells (cellsOf kb).toArray 23)) s → Ky s w.heap.size ka ∧ Ky s (w.heap.size + 1) kb ∧ Ext w s) := fun s e => ⟨Ky.ext ⟨heap_alloc1 _ _ _, ha⟩ e, Ky.ext ⟨heap_alloc2 _ _ _, hb⟩ e, (((Ext.refl w).alloc _).alloc _).trans e⟩
  go_enter Tryd.func7, Tryd.ntmps7
  go_wp2_with fail
  refine (AW.out _ (B0.out _ (Ext.refl _)).2.2).mono ?_
  rintro e w0 ⟨rfl, e1⟩
  have P0 : Hid (∀ s, Ext w0 s → Ky s w.heap.size ka ∧ Ky s (w.heap.size + 1) kb ∧ Ext w s) := fun s e => B0.out s (e1.trans e)
  clear AW B0 e1
  have q0 := Lib.hid (P0.out _ (Ext.refl _)).1
  have q1 := Lib.hid (P0.out _ (Ext.refl _)).2.1
  go_wp2_with (first
    | (refine wpList_exec rfl (exec_load_row rfl rfl q0.out.1 rfl rfl (by rw [S_ka]; rfl)) ?_; simp only [Act.put, List.setIfInBounds_toArray, List.set_cons_zero, List.set_cons_succ])
    | (refine wpList_exec rfl (exec_load_row rfl rfl q1.out.1 rfl rfl (by rw [S_kb]; rfl)) ?_; simp only [Act.put, List.setIfInBounds_toArray, List.set_cons_zero, List.set_cons_succ]))
  refine (OFA.out _ (P0.out _ (Ext.refl _)).2.2).mono ?_
  rintro e v ⟨rfl, e1⟩
  have a1 : Hid ((v.alloc (Obj.cells (wcells zs).toArray 28)).heap[v.heap.size]? = some (.cells (wcells zs).toArray 28 (0, 0))) := heap_alloc_new _ _
  have e5 : Ext v ((v.alloc (Obj.cells (wcells zs).toArray 28)).setRow v.heap.size (wcells vx).toArray) := below_setRow ((Ext.refl v).alloc _) (Nat.le_refl _) _
  go_upto_region 5 with (refine wpList_store_row rfl 28 _ _ rfl v.heap.size (wcells vx).toArray rfl rfl 28 _ a1.out (by rw [S_vx]; rfl) (by rw [S_vx, S_zs]) O_vx ?_; simp only [Act.put, List.setIfInBounds_toArray, List.set_cons_zero, List.set_cons_succ])
  obtain ⟨g1, hg⟩ : ∃ g, g = v.heap.size := ⟨_, rfl⟩
  refine wp_gen (fun W => ∀ s, Ext W s → Ky s w.heap.size ka ∧ Ky s (w.heap.size + 1) kb ∧ Wr s g1 28 vx ∧ Ext w s) (fun s e => by
    obtain ⟨p0, p1, p2⟩ := P0.out s (e1.trans (e5.trans e))
    exact ⟨p0, p1, (show Wr _ g1 28 vx from by rw [hg]; exact setRow_heap _ _ _ _ _ _ a1.out).kept e (Wr.lt (show Wr _ g1 28 vx from by rw [hg]; exact setRow_heap _ _ _ _ _ _ a1.out)), p2⟩) ?_
  rw [← hg]
  clear hg a1 e5 e1 P0 q0 q1
  rintro w1 P1
  replace P1 := Lib.hid P1
  have q0 := Lib.hid (P1.out _ (Ext.refl _)).1
  have q1 := Lib.hid (P1.out _ (Ext.refl _)).2.1
  have q2 := Lib.hid (P1.out _ (Ext.refl _)).2.2.1
  go_wp2_with (first
    | (refine wpList_exec rfl (exec_load_row rfl rfl q0.out.1 rfl rfl (by rw [S_ka]; rfl)) ?_; simp only [Act.put, List.setIfInBounds_toArray, List.set_cons_zero, List.set_cons_succ])
    | (refine wpList_exec rfl (exec_load_row rfl rfl q1.out.1 rfl rfl (by rw [S_kb]; rfl)) ?_; simp only [Act.put, List.setIfInBounds_toArray, List.set_cons_zero, List.set_cons_succ])
    | (refine wpList_exec rfl (exec_load_row rfl rfl q2.out rfl rfl (by rw [S_vx]; rfl)) ?_; simp only [Act.put, List.setIfInBounds_toArray, List.set_cons_zero, List.set_cons_succ]))
  refine (OFB.out _ (P1.out _ (Ext.refl _)).2.2.2).mono ?_
  rintro e v ⟨rfl, e1⟩
  have a1 : Hid ((v.alloc (Obj.cells (wcells zs).toArray 28)).heap[v.heap.size]? = some (.cells (wcells zs).toArray 28 (0, 0))) := heap_alloc_new _ _
  have e5 : Ext v ((v.alloc (Obj.cells (wcells zs).toArray 28)).setRow v.heap.size (wcells vy).toArray) := below_setRow ((Ext.refl v).alloc _) (Nat.le_refl _) _
  go_upto_region 6 with (refine wpList_store_row rfl 28 _ _ rfl v.heap.size (wcells vy).toArray rfl rfl 28 _ a1.out (by rw [S_vy]; rfl) (by rw [S_vy, S_zs]) O_vy ?_; simp only [Act.put, List.setIfInBounds_toArray, List.set_cons_zero, List.set_cons_succ])
  obtain ⟨g2, hg⟩ : ∃ g, g = v.heap.size := ⟨_, rfl⟩
  refine wp_gen (fun W => ∀ s, Ext W s → Ky s w.heap.size ka ∧ Ky s (w.heap.size + 1) kb ∧ Wr s g1 28 vx ∧ Wr s g2 28 vy ∧ Ext w s) (fun s e => by
    obtain ⟨p0, p1, p2, p3⟩ := P1.out s (e1.trans (e5.trans e))
    exact ⟨p0, p1, p2, (show Wr _ g2 28 vy from by rw [hg]; exact setRow_heap _ _ _ _ _ _ a1.out).kept e (Wr.lt (show Wr _ g2 28 vy from by rw [hg]; exact setRow_heap _ _ _ _ _ _ a1.out)), p3⟩) ?_
  rw [← hg]
  clear hg a1 e5 e1 P1 q0 q1 q2
  rintro w2 P2
  replace P2 := Lib.hid P2
  have q0 := Lib.hid (P2.out _ (Ext.refl _)).2.2.1
  have a1 : Hid ((w2.alloc (Obj.cells (wcells zs).toArray 28)).heap[w2.heap.size]? = some (.cells (wcells zs).toArray 28 (0, 0))) := heap_alloc_new _ _
  have e5 : Ext w2 ((w2.alloc (Obj.cells (wcells zs).toArray 28)).setRow w2.heap.size (wcells vx).toArray) := below_setRow ((Ext.refl w2).alloc _) (Nat.le_refl _) _
  go_upto_region 7 with (first
    | (refine wpList_exec rfl (exec_load_row rfl rfl q0.out rfl rfl (by rw [S_vx]; rfl)) ?_; simp only [Act.put, List.setIfInBounds_toArray, List.set_cons_zero, List.set_cons_succ])
    | (refine wpList_store_row rfl 28 _ _ rfl w2.heap.size (wcells vx).toArray rfl rfl 28 _ a1.out (by rw [S_vx]; rfl) (by rw [S_vx, S_zs]) O_vx ?_; simp only [Act.put, List.setIfInBounds_toArray, List.set_cons_zero, List.set_cons_succ]))
  obtain ⟨g3, hg⟩ : ∃ g, g = w2.heap.size := ⟨_, rfl⟩
  refine wp_gen (fun W => ∀ s, Ext W s → Ky s w.heap.size ka ∧ Ky s (w.heap.size + 1) kb ∧ Wr s g1 28 vx ∧ Wr s g2 28 vy ∧ Wr s g3 28 vx ∧ Ext w s) (fun s e => by
    obtain ⟨p0, p1, p2, p3, p4⟩ := P2.out s (e5.trans e)
    exact ⟨p0, p1, p2, p3, (show Wr _ g3 28 vx from by rw [hg]; exact setRow_heap _ _ _ _ _ _ a1.out).kept e (Wr.lt (show Wr _ g3 28 vx from by rw [hg]; exact setRow_heap _ _ _ _ _ _ a1.out)), p4⟩) ?_
  have l_g1_g3 : g1 < g3 := by rw [hg]; exact Wr.lt (P2.out _ (Ext.refl _)).2.2.1
  have l_g2_g3 : g2 < g3 := by rw [hg]; exact Wr.lt (P2.out _ (Ext.refl _)).2.2.2.1
  have l_w_g3 : w.heap.size ≤ g3 := by rw [hg]; exact Ext.size (P2.out _ (Ext.refl _)).2.2.2.2
  rw [← hg]
  clear hg a1 e5 P2 q0
  rintro w3 P3
  replace P3 := Lib.hid P3
  have S_vx2 := S_vx
  have O_vx2 := O_vx
  have q0 := Lib.hid (P3.out _ (Ext.refl _)).2.2.1
  have a1 : Hid ((w3.alloc (Obj.cells (wcells zs).toArray 28)).heap[w3.heap.size]? = some (.cells (wcells zs).toArray 28 (0, 0))) := heap_alloc_new _ _
  have e5 : Ext w3 ((w3.alloc (Obj.cells (wcells zs).toArray 28)).setRow w3.heap.size (wcells vx).toArray) := below_setRow ((Ext.refl w3).alloc _) (Nat.le_refl _) _
  go_upto_region 8 with (first
    | (refine wpList_exec rfl (exec_load_row rfl rfl q0.out rfl rfl (by rw [S_vx]; rfl)) ?_; simp only [Act.put, List.setIfInBounds_toArray, List.set_cons_zero, List.set_cons_succ])
    | (refine wpList_store_row rfl 28 _ _ rfl w3.heap.size (wcells vx).toArray rfl rfl 28 _ a1.out (by rw [S_vx]; rfl) (by rw [S_vx, S_zs]) O_vx ?_; simp only [Act.put, List.setIfInBounds_toArray, List.set_cons_zero, List.set_cons_succ]))
  obtain ⟨g4, hg⟩ : ∃ g, g = w3.heap.size := ⟨_, rfl⟩
  refine wp_gen (fun W => ∀ s, Ext W s → Ky s w.heap.size ka ∧ Ky s (w.heap.size + 1) kb ∧ Wr s g1 28 vx ∧ Wr s g2 28 vy ∧ Wr s g3 28 vx ∧ Wr s g4 28 vx ∧ Ext w s) (fun s e => by
    obtain ⟨p0, p1, p2, p3, p4, p5⟩ := P3.out s (e5.trans e)
    exact ⟨p0, p1, p2, p3, p4, (show Wr _ g4 28 vx from by rw [hg]; exact setRow_heap _ _ _ _ _ _ a1.out).kept e (Wr.lt (show Wr _ g4 28 vx from by rw [hg]; exact setRow_heap _ _ _ _ _ _ a1.out)), p5⟩) ?_
  have l_g1_g4 : g1 < g4 := by rw [hg]; exact Wr.lt (P3.out _ (Ext.refl _)).2.2.1
  have l_g2_g4 : g2 < g4 := by rw [hg]; exact Wr.lt (P3.out _ (Ext.refl _)).2.2.2.1
  have l_g3_g4 : g3 < g4 := by rw [hg]; exact Wr.lt (P3.out _ (Ext.refl _)).2.2.2.2.1
  have l_w_g4 : w.heap.size ≤ g4 := by rw [hg]; exact Ext.size (P3.out _ (Ext.refl _)).2.2.2.2.2
  rw [← hg]
  clear hg a1 e5 P3 q0
  rintro w4 P4
  replace P4 := Lib.hid P4
  have x4 := P4.out _ (Ext.refl _)
  have wx := Lib.hid x4.2.2.1
  have wy := Lib.hid x4.2.2.2.1
  have wp3 := Lib.hid x4.2.2.2.2.1
  have wp4 := Lib.hid x4.2.2.2.2.2.1
  have e0 := Lib.hid x4.2.2.2.2.2.2
  clear x4 P4
  go_wp2_with fail
  go_loopw [12] (fun iv wr => ∃ m : Nat, m ≤ n ∧ iv = .int .i64 (m : Int) ∧ (Wr wr g1 28 vx ∧ Wr wr g2 28 vy ∧ Wr wr g3 28 (fP m) ∧ Wr wr g4 28 (fP m) ∧ Ext w wr)) (fun iv _ => ((n : Int) - intOf iv).toNat)
  case atStart => exact ⟨0, Nat.zero_le _, rfl, wx.out, wy.out, by rw [f0.out]; exact wp3.out, by rw [f0.out]; exact wp4.out, e0.out⟩
  case round =>
    clear wx wy wp3 wp4 e0 f0
    obtain ⟨m, hm, rfl, hx1, hx2, hx3, hx4, hE⟩ := hrel
    have PR : Hid (∀ s, Ext wr s → Wr s g1 28 vx ∧ Wr s g2 28 vy ∧ Wr s g3 28 (fP m) ∧ Wr s g4 28 (fP m) ∧ Ext w s) := fun s e => ⟨hx1.kept e hx1.lt, hx2.kept e hx2.lt, hx3.kept e hx3.lt, hx4.kept e hx4.lt, hE.trans e⟩
    clear hx1 hx2 hx3 hx4 hE
    by_cases hlt : m < n
    · have d1 : decide ((m : Int) < (n : Int)) = true := decide_eq_true (by omega)
      have aw : IntKind.i64.wrap ((m : Int) + 1) = ((m + 1 : Nat) : Int) := IntWalk.i64_in _ (by omega)
      have MUm := Lib.hid (fun W e => MU.out m W e)
      have ADm := Lib.hid (fun W e => AD.out m W e)
      have SUm := Lib.hid (fun W e => SU.out m W e)
      have KMm := Lib.hid (fun W e => KM.out m W e)
      have OMm := Lib.hid (fun W e => OM.out m W e)
      have KAm := Lib.hid (fun W e => KA.out m W e)
      have OAm := Lib.hid (fun W e => OA.out m W e)
      have KNm := Lib.hid (fun W e => KN.out m W e)
      have ONm := Lib.hid (fun W e => ON.out m W e)
      have L_fp := L_fP.out m
      have L_fm := L_fM.out m
      have L_fa := L_fA.out m
      have L_fn := L_fP.out (m + 1)
      have L_km := L_kM.out m
      have L_kam := L_kA.out m
      have L_kn := L_kP.out (m + 1)
      clear MU AD SU KM OM KA OA KN ON KP L_fP L_fM L_fA L_kM L_kA L_kP
      obtain ⟨fn, hfn⟩ : ∃ f, f = fP (m + 1) := ⟨_, rfl⟩
      obtain ⟨kn, hkn⟩ : ∃ f, f = kP (m + 1) := ⟨_, rfl⟩
      rw [← hfn] at L_fn SUm KNm ONm
      rw [← hkn] at L_kn KNm ONm
      replace hfn := Lib.hid hfn
      clear hkn
      generalize fP m = fp at *
      generalize fM m = fm at *
      generalize fA m = fa at *
      generalize kM m = km at *
      generalize kA m = kam at *
      have S_fp := wcells_size L_fp
      have O_fp := wcells_one fp
      have S_fm := wcells_size L_fm
      have O_fm := wcells_one fm
      have S_fa := wcells_size L_fa
      have O_fa := wcells_one fa
      have S_fn := wcells_size L_fn
      have O_fn := wcells_one fn
      go_upto_region 11 with fail
      have P10 : Hid (∀ s, Ext wr s → Wr s g1 28 vx ∧ Wr s g2 28 vy ∧ Wr s g3 28 fp ∧ Wr s g4 28 fp ∧ Ext w s) := PR
      clear PR
      refine wp_region_seqZ (R := Ext) Ext.refl (fun _ _ _ => Ext.trans) 7 [0, 1, 3, 5, 2, 4, 6, 7] [2, 4, 6, 7] [(0, 33, 2048), (0, 34, 1024), (3, 35, 25769803776), (0, 36, 512), (12, 37, 103079215104), (0, 38, 1024), (48, 39, 412316860416), (127, 0, 549755815936)] (by kernel_rfl) (by kernel_rfl) (by kernel_rfl) rfl (by kernel_rfl) (by kernel_rfl) (by kernel_rfl) (fun _ _ d _ _ h => by cases d <;> exact h) ?_
      refine seqZ_read (fun w' => w'.heap[g3]? = some (.cells (wcells fp).toArray 28 (0, 0))) (fun w' e => (P10.out w' ((Ext.refl _).drew.trans e)).2.2.1) _ (v := .agg (wcells fp).toArray) rfl rfl (by rfl) (fun w' hF => exec_load_row rfl rfl hF rfl rfl (by rw [S_fp]; rfl)) ?_
      simp only [Act.put, List.setIfInBounds_toArray, List.set_cons_zero, List.set_cons_succ]
      refine seqZ_read (fun w' => w'.heap[g2]? = some (.cells (wcells vy).toArray 28 (0, 0))) (fun w' e => (P10.out w' ((Ext.refl _).drew.trans e)).2.1) _ (v := .agg (wcells vy).toArray) rfl rfl (by rfl) (fun w' hF => exec_load_row rfl rfl hF rfl rfl (by rw [S_vy]; rfl)) ?_
      simp only [Act.put, List.setIfInBounds_toArray, List.set_cons_zero, List.set_cons_succ]
      refine seqZ_read (fun w' => w'.heap[g1]? = some (.cells (wcells vx).toArray 28 (0, 0))) (fun w' e => (P10.out w' ((Ext.refl _).drew.trans e)).1) _ (v := .agg (wcells vx).toArray) rfl rfl (by rfl) (fun w' hF => exec_load_row rfl rfl hF rfl rfl (by rw [S_vx]; rfl)) ?_
      simp only [Act.put, List.setIfInBounds_toArray, List.set_cons_zero, List.set_cons_succ]
      refine seqZ_read (fun w' => w'.heap[g2]? = some (.cells (wcells vy).toArray 28 (0, 0))) (fun w' e => (P10.out w' ((Ext.refl _).drew.trans e)).2.1) _ (v := .agg (wcells vy).toArray) rfl rfl (by rfl) (fun w' hF => exec_load_row rfl rfl hF rfl rfl (by rw [S_vy]; rfl)) ?_
      simp only [Act.put, List.setIfInBounds_toArray, List.set_cons_zero, List.set_cons_succ]
      refine seqZ_do _ rfl rfl (by rfl) (fun K1 hK1 => ?_)
      go_simp
      refine (MUm.out _ (P10.out _ (Ext.refl _).drew).2.2.2.2).mono ?_
      rintro e w11 ⟨rfl, e1⟩
      refine hK1.out _ _ (.inr e1) ?_
      clear hK1 K1
      (try simp only [Act.put, List.setIfInBounds_toArray, List.set_cons_zero, List.set_cons_succ])
      have P11 : Hid (∀ s, Ext w11 s → Wr s g1 28 vx ∧ Wr s g2 28 vy ∧ Wr s g3 28 fp ∧ Wr s g4 28 fp ∧ Ext w s) := fun s e => P10.out s ((Ext.refl _).drew.trans (e1.trans e))
      clear P10 e1
      refine seqZ_do _ rfl rfl (by rfl) (fun K1 hK1 => ?_)
      go_simp
      refine (ADm.out _ (P11.out _ (Ext.refl _)).2.2.2.2).mono ?_
      rintro e w12 ⟨rfl, e1⟩
      refine hK1.out _ _ (.inr e1) ?_
      clear hK1 K1
      (try simp only [Act.put, List.setIfInBounds_toArray, List.set_cons_zero, List.set_cons_succ])
      have P12 : Hid (∀ s, Ext w12 s → Wr s g1 28 vx ∧ Wr s g2 28 vy ∧ Wr s g3 28 fp ∧ Wr s g4 28 fp ∧ Ext w s) := fun s e => P11.out s (e1.trans e)
      clear P11 e1
      refine seqZ_do _ rfl rfl (by rfl) (fun K1 hK1 => ?_)
      go_simp
      refine (SUm.out _ (P12.out _ (Ext.refl _)).2.2.2.2).mono ?_
      rintro e w13 ⟨rfl, e1⟩
      refine hK1.out _ _ (.inr e1) ?_
      clear hK1 K1
      (try simp only [Act.put, List.setIfInBounds_toArray, List.set_cons_zero, List.set_cons_succ])
      have P13 : Hid (∀ s, Ext w13 s → Wr s g1 28 vx ∧ Wr s g2 28 vy ∧ Wr s g3 28 fp ∧ Wr s g4 28 fp ∧ Ext w s) := fun s e => P12.out s (e1.trans e)
      clear P12 e1
      refine seqZ_do _ rfl rfl (by rfl) (fun K1 hK1 => ?_)
      refine wp_store_row _ _ _ rfl g3 (wcells fn).toArray rfl rfl 28 (wcells fp).toArray (P13.out _ (Ext.refl _)).2.2.1 (by rw [S_fn]; rfl) (by rw [S_fn, S_fp]) O_fn ?_
      refine hK1.out _ _ (.inl rfl) ?_
      clear hK1 K1
      refine seqZ_done ?_
      refine gen_q (fun W => Wr W g1 28 vx ∧ Wr W g2 28 vy ∧ Wr W g3 28 fn ∧ Wr W g4 28 fp ∧ Ext w W) ?_ ?_
      · exact ⟨(setRow_other _ _ _ _ (by omega)).trans (P13.out _ (Ext.refl _)).1, (setRow_other _ _ _ _ (by omega)).trans (P13.out _ (Ext.refl _)).2.1, setRow_heap _ _ _ _ _ _ (P13.out _ (Ext.refl _)).2.2.1, (setRow_other _ _ _ _ (by omega)).trans (P13.out _ (Ext.refl _)).2.2.2.1, below_setRow (P13.out _ (Ext.refl _)).2.2.2.2 l_w_g3 _⟩
      clear P13
      rintro w20 ⟨hx1, hx2, hx3, hx4, hE⟩
      have P20 : Hid (∀ s, Ext w20 s → Wr s g1 28 vx ∧ Wr s g2 28 vy ∧ Wr s g3 28 fn ∧ Wr s g4 28 fp ∧ Ext w s) := fun s e => ⟨hx1.kept e hx1.lt, hx2.kept e hx2.lt, hx3.kept e hx3.lt, hx4.kept e hx4.lt, hE.trans e⟩
      clear hx1 hx2 hx3 hx4 hE
      go_upto_region 12 with fail
      refine wp_region_seqZ (R := Ext) Ext.refl (fun _ _ _ => Ext.trans) 13 [0, 1, 5, 9, 2, 3, 4, 6, 7, 8, 10, 11, 12, 13] [2, 3, 4, 6, 7, 8, 10, 11, 12, 13] [(0, 40, 4096), (0, 41, 1024), (3, 42, 3298534883328), (4, 43, 4398046511104), (8, 44, 8796093022208), (0, 45, 512), (48, 46, 52776558133248), (64, 47, 70368744177664), (128, 48, 140737488355328), (0, 49, 1024), (768, 50, 844424930131968), (1024, 51, 1125899906842624), (2048, 52, 2251799813685248), (8191, 0, 4503599627374592)] (by kernel_rfl) (by kernel_rfl) (by kernel_rfl) rfl (by kernel_rfl) (by kernel_rfl) (by kernel_rfl) (fun _ _ d _ _ h => by cases d <;> exact h) ?_
      refine seqZ_read (fun w' => w'.heap[g4]? = some (.cells (wcells fp).toArray 28 (0, 0))) (fun w' e => (P20.out w' ((Ext.refl _).drew.trans e)).2.2.2.1) _ (v := .agg (wcells fp).toArray) rfl rfl (by rfl) (fun w' hF => exec_load_row rfl rfl hF rfl rfl (by rw [S_fp]; rfl)) ?_
      simp only [Act.put, List.setIfInBounds_toArray, List.set_cons_zero, List.set_cons_succ]
      refine seqZ_read (fun w' => w'.heap[g2]? = some (.cells (wcells vy).toArray 28 (0, 0))) (fun w' e => (P20.out w' ((Ext.refl _).drew.trans e)).2.1) _ (v := .agg (wcells vy).toArray) rfl rfl (by rfl) (fun w' hF => exec_load_row rfl rfl hF rfl rfl (by rw [S_vy]; rfl)) ?_
      simp only [Act.put, List.setIfInBounds_toArray, List.set_cons_zero, List.set_cons_succ]
      refine seqZ_read (fun w' => w'.heap[g1]? = some (.cells (wcells vx).toArray 28 (0, 0))) (fun w' e => (P20.out w' ((Ext.refl _).drew.trans e)).1) _ (v := .agg (wcells vx).toArray) rfl rfl (by rfl) (fun w' hF => exec_load_row rfl rfl hF rfl rfl (by rw [S_vx]; rfl)) ?_
      simp only [Act.put, List.setIfInBounds_toArray, List.set_cons_zero, List.set_cons_succ]
      refine seqZ_read (fun w' => w'.heap[g2]? = some (.cells (wcells vy).toArray 28 (0, 0))) (fun w' e => (P20.out w' ((Ext.refl _).drew.trans e)).2.1) _ (v := .agg (wcells vy).toArray) rfl rfl (by rfl) (fun w' hF => exec_load_row rfl rfl hF rfl rfl (by rw [S_vy]; rfl)) ?_
      simp only [Act.put, List.setIfInBounds_toArray, List.set_cons_zero, List.set_cons_succ]
      refine seqZ_do _ rfl rfl (by rfl) (fun K1 hK1 => ?_)
      go_simp
      refine (MUm.out _ (P20.out _ (Ext.refl _).drew).2.2.2.2).mono ?_
      rintro e w21 ⟨rfl, e1⟩
      refine hK1.out _ _ (.inr e1) ?_
      clear hK1 K1
      (try simp only [Act.put, List.setIfInBounds_toArray, List.set_cons_zero, List.set_cons_succ])
      have P21 : Hid (∀ s, Ext w21 s → Wr s g1 28 vx ∧ Wr s g2 28 vy ∧ Wr s g3 28 fn ∧ Wr s g4 28 fp ∧ Ext w s) := fun s e => P20.out s ((Ext.refl _).drew.trans (e1.trans e))
      clear P20 e1
      refine seqZ_do _ rfl rfl (by rfl) (fun K1 hK1 => ?_)
      go_simp
      refine (KMm.out _ (P21.out _ (Ext.refl _)).2.2.2.2).mono ?_
      rintro e w22 ⟨rfl, e1⟩
      refine hK1.out _ _ (.inr e1) ?_
      clear hK1 K1
      (try simp only [Act.put, List.setIfInBounds_toArray, List.set_cons_zero, List.set_cons_succ])
      have P22 : Hid (∀ s, Ext w22 s → Wr s g1 28 vx ∧ Wr s g2 28 vy ∧ Wr s g3 28 fn ∧ Wr s g4 28 fp ∧ Ext w s) := fun s e => P21.out s (e1.trans e)
      clear P21 e1
      refine seqZ_do _ rfl rfl (by rfl) (fun K1 hK1 => ?_)
      go_simp
      refine (OMm.out _ (P22.out _ (Ext.refl _)).2.2.2.2).mono ?_
      rintro e w23 ⟨rfl, e1⟩
      refine hK1.out _ _ (.inr e1) ?_
      clear hK1 K1
      (try simp only [Act.put, List.setIfInBounds_toArray, List.set_cons_zero, List.set_cons_succ])
      have P23 : Hid (∀ s, Ext w23 s → Wr s g1 28 vx ∧ Wr s g2 28 vy ∧ Wr s g3 28 fn ∧ Wr s g4 28 fp ∧ Ext w s) := fun s e => P22.out s (e1.trans e)
      clear P22 e1
      refine seqZ_do _ rfl rfl (by rfl) (fun K1 hK1 => ?_)
      go_simp
      refine (ADm.out _ (P23.out _ (Ext.refl _)).2.2.2.2).mono ?_
      rintro e w24 ⟨rfl, e1⟩
      refine hK1.out _ _ (.inr e1) ?_
      clear hK1 K1
      (try simp only [Act.put, List.setIfInBounds_toArray, List.set_cons_zero, List.set_cons_succ])
      have P24 : Hid (∀ s, Ext w24 s → Wr s g1 28 vx ∧ Wr s g2 28 vy ∧ Wr s g3 28 fn ∧ Wr s g4 28 fp ∧ Ext w s) := fun s e => P23.out s (e1.trans e)
      clear P23 e1
      refine seqZ_do _ rfl rfl (by rfl) (fun K1 hK1 => ?_)
      go_simp
      refine (KAm.out _ (P24.out _ (Ext.refl _)).2.2.2.2).mono ?_
      rintro e w25 ⟨rfl, e1⟩
      refine hK1.out _ _ (.inr e1) ?_
      clear hK1 K1
      (try simp only [Act.put, List.setIfInBounds_toArray, List.set_cons_zero, List.set_cons_succ])
      have P25 : Hid (∀ s, Ext w25 s → Wr s g1 28 vx ∧ Wr s g2 28 vy ∧ Wr s g3 28 fn ∧ Wr s g4 28 fp ∧ Ext w s) := fun s e => P24.out s (e1.trans e)
      clear P24 e1
      refine seqZ_do _ rfl rfl (by rfl) (fun K1 hK1 => ?_)
      go_simp
      refine (OAm.out _ (P25.out _ (Ext.refl _)).2.2.2.2).mono ?_
      rintro e w26 ⟨rfl, e1⟩
      refine hK1.out _ _ (.inr e1) ?_
      clear hK1 K1
      (try simp only [Act.put, List.setIfInBounds_toArray, List.set_cons_zero, List.set_cons_succ])
      have P26 : Hid (∀ s, Ext w26 s → Wr s g1 28 vx ∧ Wr s g2 28 vy ∧ Wr s g3 28 fn ∧ Wr s g4 28 fp ∧ Ext w s) := fun s e => P25.out s (e1.trans e)
      clear P25 e1
      refine seqZ_do _ rfl rfl (by rfl) (fun K1 hK1 => ?_)
      go_simp
      refine (SUm.out _ (P26.out _ (Ext.refl _)).2.2.2.2).mono ?_
      rintro e w27 ⟨rfl, e1⟩
      refine hK1.out _ _ (.inr e1) ?_
      clear hK1 K1
      (try simp only [Act.put, List.setIfInBounds_toArray, List.set_cons_zero, List.set_cons_succ])
      have P27 : Hid (∀ s, Ext w27 s → Wr s g1 28 vx ∧ Wr s g2 28 vy ∧ Wr s g3 28 fn ∧ Wr s g4 28 fp ∧ Ext w s) := fun s e => P26.out s (e1.trans e)
      clear P26 e1
      refine seqZ_do _ rfl rfl (by rfl) (fun K1 hK1 => ?_)
      go_simp
      refine (KNm.out _ (P27.out _ (Ext.refl _)).2.2.2.2).mono ?_
      rintro e w28 ⟨rfl, e1⟩
      refine hK1.out _ _ (.inr e1) ?_
      clear hK1 K1
      (try simp only [Act.put, List.setIfInBounds_toArray, List.set_cons_zero, List.set_cons_succ])
      have P28 : Hid (∀ s, Ext w28 s → Wr s g1 28 vx ∧ Wr s g2 28 vy ∧ Wr s g3 28 fn ∧ Wr s g4 28 fp ∧ Ext w s) := fun s e => P27.out s (e1.trans e)
      clear P27 e1
      refine seqZ_do _ rfl rfl (by rfl) (fun K1 hK1 => ?_)
      go_simp
      refine (ONm.out _ (P28.out _ (Ext.refl _)).2.2.2.2).mono ?_
      rintro e w29 ⟨rfl, e1⟩
      refine hK1.out _ _ (.inr e1) ?_
      clear hK1 K1
      (try simp only [Act.put, List.setIfInBounds_toArray, List.set_cons_zero, List.set_cons_succ])
      have P29 : Hid (∀ s, Ext w29 s → Wr s g1 28 vx ∧ Wr s g2 28 vy ∧ Wr s g3 28 fn ∧ Wr s g4 28 fp ∧ Ext w s) := fun s e => P28.out s (e1.trans e)
      clear P28 e1
      refine seqZ_do _ rfl rfl (by rfl) (fun K1 hK1 => ?_)
      refine wp_store_row _ _ _ rfl g4 (wcells fn).toArray rfl rfl 28 (wcells fp).toArray (P29.out _ (Ext.refl _)).2.2.2.1 (by rw [S_fn]; rfl) (by rw [S_fn, S_fp]) O_fn ?_
      refine hK1.out _ _ (.inl rfl) ?_
      clear hK1 K1
      refine seqZ_done ?_
      refine gen_q (fun W => Wr W g1 28 vx ∧ Wr W g2 28 vy ∧ Wr W g3 28 fn ∧ Wr W g4 28 fn ∧ Ext w W) ?_ ?_
      · exact ⟨(setRow_other _ _ _ _ (by omega)).trans (P29.out _ (Ext.refl _)).1, (setRow_other _ _ _ _ (by omega)).trans (P29.out _ (Ext.refl _)).2.1, (setRow_other _ _ _ _ (by omega)).trans (P29.out _ (Ext.refl _)).2.2.1, setRow_heap _ _ _ _ _ _ (P29.out _ (Ext.refl _)).2.2.2.1, below_setRow (P29.out _ (Ext.refl _)).2.2.2.2 l_w_g4 _⟩
      clear P29
      rintro w40 ⟨hx1, hx2, hx3, hx4, hE⟩
      have P40 : Hid (∀ s, Ext w40 s → Wr s g1 28 vx ∧ Wr s g2 28 vy ∧ Wr s g3 28 fn ∧ Wr s g4 28 fn ∧ Ext w s) := fun s e => ⟨hx1.kept e hx1.lt, hx2.kept e hx2.lt, hx3.kept e hx3.lt, hx4.kept e hx4.lt, hE.trans e⟩
      clear hx1 hx2 hx3 hx4 hE
      have q := P40.out _ (Ext.refl _)
      go_wp2_with fail
      refine ⟨⟨m + 1, by omega, rfl, q.1, q.2.1, by rw [← hfn.out]; exact q.2.2.1, by rw [← hfn.out]; exact q.2.2.2.1, q.2.2.2.2⟩, by simp [intOf]; omega⟩
    · obtain rfl : m = n := by omega
      have d1 : decide ((m : Int) < (m : Int)) = false := decide_eq_false (by omega)
      have KPm := Lib.hid (fun W e => KP.out m W e)
      have L_fp := L_fP.out m
      have L_kp := L_kP.out m
      clear MU AD SU KM OM KA OA KN ON KP L_fP L_fM L_fA L_kM L_kA L_kP
      generalize fP m = fp at *
      generalize kP m = kp at *
      have S_fp := wcells_size L_fp
      have O_fp := wcells_one fp
      have S_kp : (cellsOf kp).toArray.size = 32 := by simp [cellsOf_len, L_kp]
      have O_kp := cellsOf_one kp
      have P50 : Hid (∀ s, Ext wr s → Wr s g1 28 vx ∧ Wr s g2 28 vy ∧ Wr s g3 28 fp ∧ Wr s g4 28 fp ∧ Ext w s) := PR
      clear PR
      go_upto_region 13 with fail
      refine wp_region_seq (R := Ext) Ext.refl (fun _ _ _ => Ext.trans) [0, 1, 2, 4, 3, 5, 6, 7, 8] [3, 5] [(0, 53, 256), (1, 54, 9007199254740992), (2, 55, 18014398509484032), (6, 56, 54043195528445952), (2, 57, 18014398509486080), (26, 58, 162129586585337856), (42, 59, 378302368699121664), (66, 60, 594475150812905472), (255, 7, 1152921504606846976)] (by kernel_rfl) (by kernel_rfl) (by kernel_rfl) rfl (by kernel_rfl) (by kernel_rfl) (fun _ _ d _ _ h => by cases d <;> exact h) ?_
      iterate 2 (first | (refine seq_read (fun _ => True) (fun _ _ => trivial) _ (v := ?_) rfl rfl (by rfl) ?_ ?_; rotate_left; (· intro w' hF; go_simp; (try with_reducible rfl)); simp only [Act.put, List.setIfInBounds_toArray, List.set_cons_zero, List.set_cons_succ]) | (refine seq_skip _ rfl rfl (by rfl) ?_; simp only [Act.put, List.setIfInBounds_toArray, List.set_cons_zero, List.set_cons_succ]))
      refine seq_read (fun w' => w'.heap[g3]? = some (.cells (wcells fp).toArray 28 (0, 0))) (fun w' e => (P50.out w' ((Ext.refl _).drew.trans e)).2.2.1) _ (v := .agg (wcells fp).toArray) rfl rfl (by rfl) (fun w' hF => exec_load_row rfl rfl hF rfl rfl (by rw [S_fp]; rfl)) ?_
      simp only [Act.put, List.setIfInBounds_toArray, List.set_cons_zero, List.set_cons_succ]
      refine seq_read (fun w' => w'.heap[g4]? = some (.cells (wcells fp).toArray 28 (0, 0))) (fun w' e => (P50.out w' ((Ext.refl _).drew.trans e)).2.2.2.1) _ (v := .agg (wcells fp).toArray) rfl rfl (by rfl) (fun w' hF => exec_load_row rfl rfl hF rfl rfl (by rw [S_fp]; rfl)) ?_
      simp only [Act.put, List.setIfInBounds_toArray, List.set_cons_zero, List.set_cons_succ]
      refine seq_do _ rfl rfl (by rfl) (fun K1 hK1 => ?_)
      go_simp
      refine (KPm.out _ (P50.out _ (Ext.refl _).drew).2.2.2.2).mono ?_
      rintro e w51 ⟨rfl, e1⟩
      refine hK1.out _ _ e1 ?_
      clear hK1 K1
      try simp only [Act.put, List.setIfInBounds_toArray, List.set_cons_zero, List.set_cons_succ]
      have P51 : Hid (∀ s, Ext w51 s → Wr s g1 28 vx ∧ Wr s g2 28 vy ∧ Wr s g3 28 fp ∧ Wr s g4 28 fp ∧ Ext w s) := fun s e => P50.out s ((Ext.refl _).drew.trans (e1.trans e))
      clear P50 e1
      refine seq_do _ rfl rfl (by rfl) (fun K1 hK1 => ?_)
      go_simp
      refine (KPm.out _ (P51.out _ (Ext.refl _)).2.2.2.2).mono ?_
      rintro e w52 ⟨rfl, e1⟩
      refine hK1.out _ _ e1 ?_
      clear hK1 K1
      try simp only [Act.put, List.setIfInBounds_toArray, List.set_cons_zero, List.set_cons_succ]
      have P52 : Hid (∀ s, Ext w52 s → Wr s g1 28 vx ∧ Wr s g2 28 vy ∧ Wr s g3 28 fp ∧ Wr s g4 28 fp ∧ Ext w s) := fun s e => P51.out s (e1.trans e)
      clear P51 e1
      refine seq_read (fun _ => True) (fun _ _ => trivial) _ (v := .bool true) rfl rfl (by rfl) (fun w' _ => exec_eql_keyB (xs := kp) (ys := kp) (decide_eq_true rfl) L_kp L_kp rfl rfl rfl) ?_
      simp only [Act.put, List.setIfInBounds_toArray, List.set_cons_zero, List.set_cons_succ]
      repeat (first | (refine seq_read (fun _ => True) (fun _ _ => trivial) _ (v := ?_) rfl rfl (by rfl) ?_ ?_; rotate_left; (· intro w' hF; go_simp; (try with_reducible rfl)); simp only [Act.put, List.setIfInBounds_toArray, List.set_cons_zero, List.set_cons_succ]) | (refine seq_skip _ rfl rfl (by rfl) ?_; simp only [Act.put, List.setIfInBounds_toArray, List.set_cons_zero, List.set_cons_succ]))
      refine seq_done ?_
      have EE := Lib.hid (P52.out _ (Ext.refl _)).2.2.2.2
      clear P52
      go_wp2_with fail
      (try simp only [Exit.inBlock, Exit.then])
      go_ret
      exact ⟨rfl, EE.out⟩

theorem fieldMany_calls {ka kb : List UInt8} {z : Int} {w : World} (ha : ka.length = 32) (hb : kb.length = 32) {tg : TypeId × Nat × Nat} (hG : Gp w tg) :
    Calls Tryd.prog 7 #[.agg (cellsOf ka).toArray, .agg (cellsOf kb).toArray, .int .i64 z] w fun e w' => e = .returned (.bool true) ∧ Ext w w' := by
  by_cases h : z < 0 ∨ 60 < z
  · exact fieldMany_out h hG
  · obtain ⟨n, rfl⟩ : ∃ n : Nat, z = (n : Int) := ⟨z.toNat, by omega⟩
    exact fieldMany_in ha hb (by omega) hG
end Go.Proofs.YteognebhlehjlaaDoor
