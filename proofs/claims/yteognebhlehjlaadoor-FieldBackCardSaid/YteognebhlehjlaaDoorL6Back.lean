/-
  FieldBack: what is added can be taken off; a number that is not 0 times its Inv is 1.
-/
import Derived.Test.YteognebhlehjlaaDoorAwake6
import Derived.Test.YteognebhlehjlaaDoorFldBack
import Derived.Test.YteognebhlehjlaaDoorSeq
import Derived.Test.YteognebhlehjlaaDoorSeqZ
import Derived.Test.YteognebhlehjlaaDoorFermat
import Derived.Test.YteognebhlehjlaaDoorSeqT
import Derived.Test.YteognebhlehjlaaDoorL6Nought
import Derived.Deep.DeepCutAuto
import Derived.Deep.DeepHandedRow
namespace Go.Proofs.YteognebhlehjlaaDoor
open Go.ChangeShapes Go.WideShapes Go.ChangeAt Go.RowKit Go.Deep
set_option maxRecDepth 100000

theorem kL_31 {x : Nat} (h : x < P25) : bt (kL x) 31 < 128 := by
  rw [bt_kL_div (by decide)]
  have h2 : x < 128 * 256 ^ 31 := Nat.lt_of_lt_of_le h (by decide +kernel)
  have : x / 256 ^ 31 < 128 := (Nat.div_lt_iff_lt_mul (Nat.pow_pos (by decide))).mpr h2
  omega
theorem kL_ne {x : Nat} (h : x < P25) (h0 : x ≠ 0) : kL x ≠ List.replicate 32 0 := fun e => by
  have h1 := ofV_kL h
  rw [e, ofV0] at h1
  exact h0 h1.symm
theorem add_back {x y : Nat} (hx : x < P25) (hy : y < P25) : ((x + y) % P25 + (P25 - y)) % P25 = x := by
  rw [Nat.mod_add_mod, show x + y + (P25 - y) = x + P25 by omega, Nat.add_mod_right, Nat.mod_eq_of_lt hx]
theorem sub_self {x : Nat} (hx : x < P25) : (x + (P25 - x)) % P25 = 0 := by
  rw [show x + (P25 - x) = P25 by omega, Nat.mod_self]

set_option maxHeartbeats 8000000 in
theorem fieldBack_zero {ka kb : List UInt8} {w : World} (ha : ka.length = 32) (hb : kb.length = 32) (hx0 : ofV ka = 0) {tg : TypeId × Nat × Nat} (hG : Gp w tg) :
    Calls Tryd.prog 6 #[.agg (cellsOf ka).toArray, .agg (cellsOf kb).toArray] w fun e w' => e = .returned (.bool true) ∧ Ext w w' := by
  have AW : Hid (∀ W, Ext w W → Calls Tryd.prog 9 #[] W fun e w' => e = .returned (.bool true) ∧ Ext W w') := fun W e => awake6_calls (hG.ext e)
  obtain ⟨x, hx⟩ : ∃ x, x = ofV ka := ⟨_, rfl⟩
  have xp : x < P25 := by rw [hx]; exact ofV_lt ka
  obtain ⟨y, hy⟩ : ∃ x, x = ofV kb := ⟨_, rfl⟩
  have yp : y < P25 := by rw [hy]; exact ofV_lt kb
  have OFA : Hid (∀ W, Ext w W → Calls Tryd.prog 10 #[.agg (cellsOf ka).toArray] W fun e w' => e = .returned (eV (x)) ∧ Ext W w') := fun W e => by
    rw [hx]; exact of_calls ha (hG.ext e)
  have OFB : Hid (∀ W, Ext w W → Calls Tryd.prog 10 #[.agg (cellsOf kb).toArray] W fun e w' => e = .returned (eV (y)) ∧ Ext W w') := fun W e => by
    rw [hy]; exact of_calls hb (hG.ext e)
  rw [← hx] at hx0
  have KX : Hid (∀ W, Ext w W → Calls Tryd.prog 12 #[eV (x)] W fun e w' => e = .returned (.agg (cellsOf (kL x)).toArray) ∧ Ext W w') := fun W e => by
    exact ekey_calls
  have IX : Hid (∀ W, Ext w W → Calls Tryd.prog 20 #[eV (x)] W fun e w' => e = .returned (eV (invF x)) ∧ Ext W w') := fun W e => by
    exact inv_calls xp (hG.ext e)
  have MXI : Hid (∀ W, Ext w W → Calls Tryd.prog 18 #[eV (x), eV (invF x)] W fun e w' => e = .returned (eV (0)) ∧ Ext W w') := fun W e => by
    have := emul_calls xp (invF_lt x) (hG.ext e)
    rw [hx0] at this ⊢
    rwa [Nat.zero_mul, Nat.zero_mod] at this
  have KZ : Hid (∀ W, Ext w W → Calls Tryd.prog 12 #[eV (0)] W fun e w' => e = .returned (.agg (cellsOf (List.replicate 32 0)).toArray) ∧ Ext W w') := fun W e => by
    have := ekey_calls (x := 0) (w := W)
    rwa [kL0] at this
  have OFK : Hid (∀ W, Ext w W → Calls Tryd.prog 10 #[.agg (cellsOf (kL x)).toArray] W fun e w' => e = .returned (eV (x)) ∧ Ext W w') := fun W e => by
    have := of_calls (kL_len x) (hG.ext e)
    rwa [ofV_kL xp] at this
  have AXY : Hid (∀ W, Ext w W → Calls Tryd.prog 14 #[eV (x), eV (y)] W fun e w' => e = .returned (eV ((x + y) % P25)) ∧ Ext W w') := fun W e => by
    exact eadd_calls xp yp (hG.ext e)
  have SXY : Hid (∀ W, Ext w W → Calls Tryd.prog 16 #[eV ((x + y) % P25), eV (y)] W fun e w' => e = .returned (eV (x)) ∧ Ext W w') := fun W e => by
    have := esub_calls (Nat.mod_lt (x + y) P25_pos) yp (hG.ext e)
    rwa [add_back xp yp] at this
  have SXX : Hid (∀ W, Ext w W → Calls Tryd.prog 16 #[eV (x), eV (x)] W fun e w' => e = .returned (eV (0)) ∧ Ext W w') := fun W e => by
    have := esub_calls xp xp (hG.ext e)
    rwa [sub_self xp] at this
  have IIX : Hid (∀ W, Ext w W → Calls Tryd.prog 20 #[eV (invF x)] W fun e w' => e = .returned (eV (x)) ∧ Ext W w') := fun W e => by
    have := inv_calls (invF_lt x) (hG.ext e)
    rwa [invF_invF xp] at this
  have b128 : bt (kL x) 31 < 128 := kL_31 xp
  have hzk : Hid (decide (kL x = List.replicate 32 0) = true) := by unfold Hid; rw [hx0]; exact decide_eq_true kL0
  clear hG hx hy xp yp hx0
  unfold eV at *
  have L_vs := lbs_len 8 ((x + y) % P25)
  have L_vi := lbs_len 8 (invF x)
  have L_vx := lbs_len 8 (x)
  have L_vy := lbs_len 8 (y)
  have L_vz := lbs_len 8 (0)
  have L_kx := kL_len x
  generalize lbs 8 ((x + y) % P25) = vs at *
  generalize lbs 8 (invF x) = vi at *
  generalize lbs 8 (x) = vx at *
  generalize lbs 8 (y) = vy at *
  generalize lbs 8 (0) = vz at *
  generalize kL x = kx at *
  have hal2 := elem_alloc
  have L_zs : zw8.length = 8 := rfl
  generalize zw8 = zs at *
  have S_zs := wcells_size L_zs
  have hal : ∀ w, (zeroValue 23).run Tryd.prog w = .ok (.agg (cellsOf (List.replicate 32 0)).toArray) w := fun w => by rw [zeros32_cells]; exact key_alloc w
  have L_zk : (List.replicate 32 (0 : UInt8)).length = 32 := rfl
  have b_zk : Hid (Tryd.prog.built 23 [] = some (cellsOf (List.replicate 32 0)).toArray) := by unfold Hid; rw [zeros32_cells]; exact zeros32_built
  generalize List.replicate 32 (0 : UInt8) = zk at *
  have L_ka := ha
  have L_kb := hb
  have S_vs : (wcells vs).toArray.size = 8 := wcells_size L_vs
  have O_vs := wcells_one vs
  have S_vi : (wcells vi).toArray.size = 8 := wcells_size L_vi
  have O_vi := wcells_one vi
  have S_vx : (wcells vx).toArray.size = 8 := wcells_size L_vx
  have O_vx := wcells_one vx
  have S_vy : (wcells vy).toArray.size = 8 := wcells_size L_vy
  have O_vy := wcells_one vy
  have S_vz : (wcells vz).toArray.size = 8 := wcells_size L_vz
  have O_vz := wcells_one vz
  have S_kx : (cellsOf kx).toArray.size = 32 := by simp [cellsOf_len, L_kx]
  have O_kx := cellsOf_one kx
  have S_zk : (cellsOf zk).toArray.size = 32 := by simp [cellsOf_len, L_zk]
  have O_zk := cellsOf_one zk
  have S_ka : (cellsOf ka).toArray.size = 32 := by simp [cellsOf_len, L_ka]
  have O_ka := cellsOf_one ka
  have S_kb : (cellsOf kb).toArray.size = 32 := by simp [cellsOf_len, L_kb]
  have O_kb := cellsOf_one kb
  have B0 : Hid (∀ s, Ext ((w.alloc (Obj.cells (cellsOf ka).toArray 23)).alloc (Obj.cells (cellsOf kb).toArray 23)) s → Ky s w.heap.size ka ∧ Ky s (w.heap.size + 1) kb ∧ Ext w s) := fun s e => ⟨Ky.ext ⟨heap_alloc1 _ _ _, ha⟩ e, Ky.ext ⟨heap_alloc2 _ _ _, hb⟩ e, (((Ext.refl w).alloc _).alloc _).trans e⟩
  go_enter Tryd.func6, Tryd.ntmps6
  go_wp2_with fail
  refine (AW.out _ (B0.out _ (Ext.refl _)).2.2).mono ?_
  rintro e w0 ⟨rfl, e1⟩
  have P0 : Hid (∀ s, Ext w0 s → Ky s w.heap.size ka ∧ Ky s (w.heap.size + 1) kb ∧ Ext w s) := fun s e => B0.out s (e1.trans e)
  clear AW B0 e1
  have q0 := Lib.hid (P0.out _ (Ext.refl _)).1
  have q1 := Lib.hid (P0.out _ (Ext.refl _)).2.1
  go_wp2_with (first
    | (refine wpList_exec rfl (exec_load_row rfl rfl q0.out.1 rfl rfl (by rw [S_ka]; rfl)) ?_; simp only [Act.put, List.setIfInBounds_toArray, List.set_cons_zero, List.set_cons_succ])
    | (refine wpList_exec rfl (exec_load_row rfl rfl q1.out.1 rfl rfl (by rw [S_kb]; rfl)) ?_; simp only [Act.put, List.setIfInBounds_toArray, List.set_cons_zero, List.set_cons_succ]))
  refine (OFA.out _ (P0.out _ (Ext.refl _)).2.2).mono ?_
  rintro e v ⟨rfl, e1⟩
  have a1 : Hid ((v.alloc (Obj.cells (wcells zs).toArray 28)).heap[v.heap.size]? = some (.cells (wcells zs).toArray 28 (0, 0))) := heap_alloc_new _ _
  have e5 : Ext v ((v.alloc (Obj.cells (wcells zs).toArray 28)).setRow v.heap.size (wcells vx).toArray) := below_setRow ((Ext.refl v).alloc _) (Nat.le_refl _) _
  go_upto_region 3 with (refine wpList_store_row rfl 28 _ _ rfl v.heap.size (wcells vx).toArray rfl rfl 28 _ a1.out (by rw [S_vx]; rfl) (by rw [S_vx, S_zs]) O_vx ?_; simp only [Act.put, List.setIfInBounds_toArray, List.set_cons_zero, List.set_cons_succ])
  obtain ⟨g1, hg⟩ : ∃ g, g = v.heap.size := ⟨_, rfl⟩
  refine wp_gen (fun W => ∀ s, Ext W s → Ky s w.heap.size ka ∧ Ky s (w.heap.size + 1) kb ∧ Wr s g1 28 vx ∧ Ext w s) (fun s e => by
    obtain ⟨p0, p1, p2⟩ := P0.out s (e1.trans (e5.trans e))
    exact ⟨p0, p1, (show Wr _ g1 28 vx from by rw [hg]; exact setRow_heap _ _ _ _ _ _ a1.out).kept e (Wr.lt (show Wr _ g1 28 vx from by rw [hg]; exact setRow_heap _ _ _ _ _ _ a1.out)), p2⟩) ?_
  rw [← hg]
  clear hg a1 e5 e1 P0 q0 q1
  rintro w1 P1
  replace P1 := Lib.hid P1
  have q0 := Lib.hid (P1.out _ (Ext.refl _)).1
  have q1 := Lib.hid (P1.out _ (Ext.refl _)).2.1
  have q2 := Lib.hid (P1.out _ (Ext.refl _)).2.2.1
  go_wp2_with (first
    | (refine wpList_exec rfl (exec_load_row rfl rfl q0.out.1 rfl rfl (by rw [S_ka]; rfl)) ?_; simp only [Act.put, List.setIfInBounds_toArray, List.set_cons_zero, List.set_cons_succ])
    | (refine wpList_exec rfl (exec_load_row rfl rfl q1.out.1 rfl rfl (by rw [S_kb]; rfl)) ?_; simp only [Act.put, List.setIfInBounds_toArray, List.set_cons_zero, List.set_cons_succ])
    | (refine wpList_exec rfl (exec_load_row rfl rfl q2.out rfl rfl (by rw [S_vx]; rfl)) ?_; simp only [Act.put, List.setIfInBounds_toArray, List.set_cons_zero, List.set_cons_succ]))
  refine (OFB.out _ (P1.out _ (Ext.refl _)).2.2.2).mono ?_
  rintro e v ⟨rfl, e1⟩
  have a1 : Hid ((v.alloc (Obj.cells (wcells zs).toArray 28)).heap[v.heap.size]? = some (.cells (wcells zs).toArray 28 (0, 0))) := heap_alloc_new _ _
  have e5 : Ext v ((v.alloc (Obj.cells (wcells zs).toArray 28)).setRow v.heap.size (wcells vy).toArray) := below_setRow ((Ext.refl v).alloc _) (Nat.le_refl _) _
  go_upto_region 4 with (refine wpList_store_row rfl 28 _ _ rfl v.heap.size (wcells vy).toArray rfl rfl 28 _ a1.out (by rw [S_vy]; rfl) (by rw [S_vy, S_zs]) O_vy ?_; simp only [Act.put, List.setIfInBounds_toArray, List.set_cons_zero, List.set_cons_succ])
  obtain ⟨g2, hg⟩ : ∃ g, g = v.heap.size := ⟨_, rfl⟩
  refine wp_gen (fun W => ∀ s, Ext W s → Ky s w.heap.size ka ∧ Ky s (w.heap.size + 1) kb ∧ Wr s g1 28 vx ∧ Wr s g2 28 vy ∧ Ext w s) (fun s e => by
    obtain ⟨p0, p1, p2, p3⟩ := P1.out s (e1.trans (e5.trans e))
    exact ⟨p0, p1, p2, (show Wr _ g2 28 vy from by rw [hg]; exact setRow_heap _ _ _ _ _ _ a1.out).kept e (Wr.lt (show Wr _ g2 28 vy from by rw [hg]; exact setRow_heap _ _ _ _ _ _ a1.out)), p3⟩) ?_
  rw [← hg]
  clear hg a1 e5 e1 P1 q0 q1 q2
  rintro w2 P2
  replace P2 := Lib.hid P2
  have q0 := Lib.hid (P2.out _ (Ext.refl _)).1
  have q1 := Lib.hid (P2.out _ (Ext.refl _)).2.1
  have q2 := Lib.hid (P2.out _ (Ext.refl _)).2.2.1
  have q3 := Lib.hid (P2.out _ (Ext.refl _)).2.2.2.1
  go_wp2_with (first
    | (refine wpList_exec rfl (exec_load_row rfl rfl q0.out.1 rfl rfl (by rw [S_ka]; rfl)) ?_; simp only [Act.put, List.setIfInBounds_toArray, List.set_cons_zero, List.set_cons_succ])
    | (refine wpList_exec rfl (exec_load_row rfl rfl q1.out.1 rfl rfl (by rw [S_kb]; rfl)) ?_; simp only [Act.put, List.setIfInBounds_toArray, List.set_cons_zero, List.set_cons_succ])
    | (refine wpList_exec rfl (exec_load_row rfl rfl q2.out rfl rfl (by rw [S_vx]; rfl)) ?_; simp only [Act.put, List.setIfInBounds_toArray, List.set_cons_zero, List.set_cons_succ])
    | (refine wpList_exec rfl (exec_load_row rfl rfl q3.out rfl rfl (by rw [S_vy]; rfl)) ?_; simp only [Act.put, List.setIfInBounds_toArray, List.set_cons_zero, List.set_cons_succ]))
  refine (KX.out _ (P2.out _ (Ext.refl _)).2.2.2.2).mono ?_
  rintro e v ⟨rfl, e1⟩
  have a1 : Hid ((v.alloc (Obj.cells (cellsOf zk).toArray 23)).heap[v.heap.size]? = some (.cells (cellsOf zk).toArray 23 (0, 0))) := heap_alloc_new _ _
  have e5 : Ext v ((v.alloc (Obj.cells (cellsOf zk).toArray 23)).setRow v.heap.size (cellsOf kx).toArray) := below_setRow ((Ext.refl v).alloc _) (Nat.le_refl _) _
  go_upto_region 5 with (refine wpList_store_row rfl 23 _ _ rfl v.heap.size (cellsOf kx).toArray rfl rfl 23 _ a1.out (by rw [S_kx]; rfl) (by rw [S_kx, S_zk]) O_kx ?_; simp only [Act.put, List.setIfInBounds_toArray, List.set_cons_zero, List.set_cons_succ])
  obtain ⟨g3, hg⟩ : ∃ g, g = v.heap.size := ⟨_, rfl⟩
  refine wp_gen (fun W => ∀ s, Ext W s → Ky s w.heap.size ka ∧ Ky s (w.heap.size + 1) kb ∧ Wr s g1 28 vx ∧ Wr s g2 28 vy ∧ Ky s g3 kx ∧ Ext w s) (fun s e => by
    obtain ⟨p0, p1, p2, p3, p4⟩ := P2.out s (e1.trans (e5.trans e))
    exact ⟨p0, p1, p2, p3, (show Ky _ g3 kx from ⟨by rw [hg]; exact setRow_heap _ _ _ _ _ _ a1.out, L_kx⟩).ext e, p4⟩) ?_
  rw [← hg]
  clear hg a1 e5 e1 P2 q0 q1 q2 q3
  rintro w3 P3
  replace P3 := Lib.hid P3
  go_cut [9] (fun s9 wx => ∃ g : Nat, s9 = .pointer (some ⟨g, 0, none⟩) ∧ Below w3.heap.size w3 wx ∧ wx.heap[g]? = some (.cells (cellsOf zk).toArray 23 (0, 0)) ∧ w3.heap.size ≤ g)
  case first =>
    refine wp_region_tree (R := Below w3.heap.size) (Below.refl _) (fun _ _ _ => Below.trans) (.rd 0 (.rd 1 (.alt 2 (.alt 3 (.alt 4 (.alt 5 (.alt 6 .nil .stop) .stop) (.alt 5 (.alt 4 (.alt 6 .nil .stop) .stop) .stop)) (.alt 5 (.alt 3 (.alt 4 (.alt 6 .nil .stop) .stop) .stop) .stop)) (.alt 5 (.alt 2 (.alt 3 (.alt 4 (.alt 6 .nil .stop) .stop) .stop) .stop) .stop)))) [(0, 19, 128), (0, 20, 128), (2, 21, 1048576), (5, 22, 2621440), (8, 23, 4194304), (0, 10, 0), (63, 0, 8389632)] 7 (by kernel_rfl) (by kernel_rfl) (by kernel_rfl) rfl (by kernel_rfl) (by kernel_rfl) (fun _ _ d _ _ h => by cases d <;> exact h) ?_
    refine seqT_read (fun w' => w'.heap[g1]? = some (.cells (wcells vx).toArray 28 (0, 0))) (fun w' e => (P3.out w' (Ext.trans (Ext.refl _).drew e)).2.2.1) _ (v := .agg (wcells vx).toArray) rfl (by rfl) (fun w' hF => exec_load_row rfl rfl hF rfl rfl (by rw [S_vx]; rfl)) ?_
    simp only [Act.put, List.setIfInBounds_toArray, List.set_cons_zero, List.set_cons_succ]
    refine seqT_read (fun w' => w'.heap[g1]? = some (.cells (wcells vx).toArray 28 (0, 0))) (fun w' e => (P3.out w' (Ext.trans (Ext.refl _).drew e)).2.2.1) _ (v := .agg (wcells vx).toArray) rfl (by rfl) (fun w' hF => exec_load_row rfl rfl hF rfl rfl (by rw [S_vx]; rfl)) ?_
    simp only [Act.put, List.setIfInBounds_toArray, List.set_cons_zero, List.set_cons_succ]
    repeat (first | (refine seqT_read (fun _ => True) (fun _ _ => trivial) _ (v := ?_) rfl ?_ ?_ ?_; rotate_left; (· rfl); (· intro w' hF; go_simp; (try with_reducible rfl)); simp only [Act.put, List.setIfInBounds_toArray, List.set_cons_zero, List.set_cons_succ]) | (refine seqT_skip _ rfl ?_ ?_; (· rfl); simp only [Act.put, List.setIfInBounds_toArray, List.set_cons_zero, List.set_cons_succ]))
    have SE : Hid (Ext w3 w3.drew) := (Ext.refl w3).drew
    generalize w3.drew = WC at *
    repeat' (first
      | exact seqT_stop
      | (refine seqT_do (i := 2) _ rfl ?_ ?_ (fun K1 hK1 => ?_)
         (· rfl)
         rotate_left
         go_simp
         refine (IX.out _ (P3.out _ SE.out).2.2.2.2.2).mono ?_
         rintro e0 WC ⟨rfl, e⟩
         refine hK1.out _ _ (e.mono SE.out.size) ?_
         clear hK1 K1
         (try replace hL := Lib.hid ((e.block _ (heap_lt hL.out)).trans hL.out))
         replace SE := Lib.hid (SE.out.trans e)
         clear e
         (try simp only [Act.put, List.setIfInBounds_toArray, List.set_cons_zero, List.set_cons_succ])
         repeat (first | (refine seqT_read (fun _ => True) (fun _ _ => trivial) _ (v := ?_) rfl ?_ ?_ ?_; rotate_left; (· rfl); (· intro w' hF; go_simp; (try with_reducible rfl)); simp only [Act.put, List.setIfInBounds_toArray, List.set_cons_zero, List.set_cons_succ]) | (refine seqT_skip _ rfl ?_ ?_; (· rfl); simp only [Act.put, List.setIfInBounds_toArray, List.set_cons_zero, List.set_cons_succ]))
         skip)
      | (refine seqT_do (i := 3) _ rfl ?_ ?_ (fun K1 hK1 => ?_)
         (· rfl)
         rotate_left
         go_simp
         refine (MXI.out _ (P3.out _ SE.out).2.2.2.2.2).mono ?_
         rintro e0 WC ⟨rfl, e⟩
         refine hK1.out _ _ (e.mono SE.out.size) ?_
         clear hK1 K1
         (try replace hL := Lib.hid ((e.block _ (heap_lt hL.out)).trans hL.out))
         replace SE := Lib.hid (SE.out.trans e)
         clear e
         (try simp only [Act.put, List.setIfInBounds_toArray, List.set_cons_zero, List.set_cons_succ])
         repeat (first | (refine seqT_read (fun _ => True) (fun _ _ => trivial) _ (v := ?_) rfl ?_ ?_ ?_; rotate_left; (· rfl); (· intro w' hF; go_simp; (try with_reducible rfl)); simp only [Act.put, List.setIfInBounds_toArray, List.set_cons_zero, List.set_cons_succ]) | (refine seqT_skip _ rfl ?_ ?_; (· rfl); simp only [Act.put, List.setIfInBounds_toArray, List.set_cons_zero, List.set_cons_succ]))
         skip)
      | (refine seqT_do (i := 4) _ rfl ?_ ?_ (fun K1 hK1 => ?_)
         (· rfl)
         rotate_left
         go_simp
         refine (KZ.out _ (P3.out _ SE.out).2.2.2.2.2).mono ?_
         rintro e0 WC ⟨rfl, e⟩
         refine hK1.out _ _ (e.mono SE.out.size) ?_
         clear hK1 K1
         (try replace hL := Lib.hid ((e.block _ (heap_lt hL.out)).trans hL.out))
         replace SE := Lib.hid (SE.out.trans e)
         clear e
         (try simp only [Act.put, List.setIfInBounds_toArray, List.set_cons_zero, List.set_cons_succ])
         repeat (first | (refine seqT_read (fun _ => True) (fun _ _ => trivial) _ (v := ?_) rfl ?_ ?_ ?_; rotate_left; (· rfl); (· intro w' hF; go_simp; (try with_reducible rfl)); simp only [Act.put, List.setIfInBounds_toArray, List.set_cons_zero, List.set_cons_succ]) | (refine seqT_skip _ rfl ?_ ?_; (· rfl); simp only [Act.put, List.setIfInBounds_toArray, List.set_cons_zero, List.set_cons_succ]))
         skip)
      | (refine seqT_do (i := 5) _ rfl ?_ ?_ (fun K1 hK1 => ?_)
         (· rfl)
         rotate_left
         go_simp
         have e : Ext WC (WC.alloc (Obj.cells (cellsOf zk).toArray 23)) := (Ext.refl WC).alloc _
         obtain ⟨gL, hgL⟩ : ∃ g, g = WC.heap.size := ⟨_, rfl⟩
         have hL := Lib.hid (heap_alloc_new WC (Obj.cells (cellsOf zk).toArray 23))
         rw [← hgL] at hL ⊢
         have zl : w3.heap.size ≤ gL := by rw [hgL]; exact SE.out.size
         refine hK1.out _ _ (e.mono SE.out.size) ?_
         clear hK1 K1
         replace hgL := Lib.hid hgL
         replace SE := Lib.hid (SE.out.trans e)
         clear e
         generalize WC.alloc (Obj.cells (cellsOf zk).toArray 23) = WC at *
         (try simp only [Act.put, List.setIfInBounds_toArray, List.set_cons_zero, List.set_cons_succ])
         repeat (first | (refine seqT_read (fun _ => True) (fun _ _ => trivial) _ (v := ?_) rfl ?_ ?_ ?_; rotate_left; (· rfl); (· intro w' hF; go_simp; (try with_reducible rfl)); simp only [Act.put, List.setIfInBounds_toArray, List.set_cons_zero, List.set_cons_succ]) | (refine seqT_skip _ rfl ?_ ?_; (· rfl); simp only [Act.put, List.setIfInBounds_toArray, List.set_cons_zero, List.set_cons_succ]))
         skip)
      | (refine seqT_do (i := 6) _ rfl ?_ ?_ (fun K1 hK1 => ?_)
         (· rfl)
         rotate_left
         refine wp_store_row _ _ _ rfl gL (cellsOf zk).toArray rfl rfl 23 (cellsOf zk).toArray hL.out (by rw [S_zk]; rfl) (by simp only [S_zk, S_zk]) O_zk ?_
         refine hK1.out _ _ (below_setRow (Below.refl _ _) zl _) ?_
         clear hK1 K1
         have S1 : Hid (Below w3.heap.size w3 (WC.setRow gL (cellsOf zk).toArray)) := below_setRow SE.out zl _
         have kx : Hid ((WC.setRow gL (cellsOf zk).toArray).heap[gL]? = some (.cells (cellsOf zk).toArray 23 (0, 0))) := setRow_heap _ _ _ _ _ _ hL.out
         (try simp only [Act.put, List.setIfInBounds_toArray, List.set_cons_zero, List.set_cons_succ])
         repeat (first | (refine seqT_read (fun _ => True) (fun _ _ => trivial) _ (v := ?_) rfl ?_ ?_ ?_; rotate_left; (· rfl); (· intro w' hF; go_simp; (try with_reducible rfl)); simp only [Act.put, List.setIfInBounds_toArray, List.set_cons_zero, List.set_cons_succ]) | (refine seqT_skip _ rfl ?_ ?_; (· rfl); simp only [Act.put, List.setIfInBounds_toArray, List.set_cons_zero, List.set_cons_succ]))
         refine seqT_done ?_
         go_wp2_with fail
         go_meet
         exact ⟨gL, rfl, S1.out, kx.out, zl⟩)
      )
  case rest =>
    obtain ⟨g9, rfl, E1, kr, hg⟩ := hcut
    have P4 : Hid (∀ s, Ext wc s → Ky s w.heap.size ka ∧ Ky s (w.heap.size + 1) kb ∧ Wr s g1 28 vx ∧ Wr s g2 28 vy ∧ Ky s g3 kx ∧ Ky s g9 zk ∧ Ext w s) := fun s e => by
      obtain ⟨p0, p1, p2, p3, p4, p5⟩ := P3.out s (Ext.trans E1 e)
      exact ⟨p0, p1, p2, p3, p4, Ky.ext ⟨kr, L_zk⟩ e, p5⟩
    clear E1 kr hg P3

    have q4 := Lib.hid (P4.out _ (Ext.refl _)).2.2.2.2.1
    go_upto_region 7 with (first
      | (refine wpList_exec rfl (exec_load_row rfl rfl q4.out.1 rfl rfl (by rw [S_kx]; rfl)) ?_; simp only [Act.put, List.setIfInBounds_toArray, List.set_cons_zero, List.set_cons_succ])
      | (refine wpList_build_as rfl _ _ rfl (cellsOf zk).toArray (by simp only [List.map_toArray, List.map_nil]; exact b_zk.out) ?_; simp only [Act.put, List.setIfInBounds_toArray, List.set_cons_zero, List.set_cons_succ])
      | (refine wpList_eql_keyB rfl _ _ _ rfl kx zk true hzk.out rfl rfl L_kx L_zk ?_; simp only [Act.put, List.setIfInBounds_toArray, List.set_cons_zero, List.set_cons_succ]))
    clear q4
    refine wp_region_seq (R := Ext) Ext.refl (fun _ _ _ => Ext.trans) [0, 1, 2, 5, 3, 4, 6, 7, 8, 9, 10, 12, 15, 11, 13, 14, 16, 17, 18, 19, 20, 23, 21, 22, 24, 25, 26, 27, 28, 29, 30, 31, 32, 33, 34, 35, 36, 37, 38, 39, 40, 41, 42, 43, 44, 48, 45, 46, 47, 49, 50, 51, 52, 53, 54, 55, 56] [3, 4, 11, 13, 14, 21, 22, 45, 46, 47] [(0, 27, 64), (1, 28, 134217728), (2, 29, 268435968), (6, 30, 805306368), (10, 31, 1342177280), (2, 32, 268435968), (50, 33, 6710886400), (66, 34, 8858370048), (144, 35, 17179869184), (256, 36, 34359738496), (256, 37, 34359738624), (1792, 38, 240518168576), (256, 39, 34359738624), (6400, 40, 858993459200), (8448, 41, 1133871366144), (256, 42, 34359738880), (49408, 43, 6631429505024), (65792, 44, 8830452760576), (147456, 45, 17592186044416), (262144, 46, 35184372088960), (262144, 47, 35184372088960), (1835008, 48, 246290604621824), (2359296, 49, 316659348799488), (262144, 50, 35184372088832), (12845056, 51, 1724034232352768), (17039360, 52, 2286984185774080), (37748736, 53, 4503599627370496), (67108864, 54, 9007199254743040), (201326592, 55, 27021597764222976), (268435456, 56, 36028797018964992), (268435456, 57, 36028797018963968), (1879048192, 58, 252201579132747776), (2483027968, 59, 333266372425416704), (4630511616, 60, 585467951558164480), (8589934592, 61, 1152921504606849024), (25769803776, 62, 3458764513820540928), (42949672960, 63, 5764607523034234880), (68719476736, 64, 9223372036854776832), (68719476736, 65, 9223372036854775808), (481036337152, 66, 64563604257983430656), (627065225216, 67, 84163269836299829248), (1108168671232, 68, 148735881293538000896), (2199090364416, 69, 295156912378607566848), (4466765987840, 70, 590295810358705651712), (8796093022208, 71, 1180591620717411303552), (26388279066624, 72, 3541774862152233910272), (43980465111040, 73, 5902958103587056517120), (79164837199872, 74, 10625324586456701730816), (8796093022208, 75, 1180591620717411303936), (431008558088192, 76, 57848989415153153867776), (571746046443520, 77, 76738455346631734722560), (1266637395197952, 78, 151115727451828646838272), (2251799813685248, 79, 302231454903657293677056), (6755399441055744, 80, 906694364710971881029632), (11258999068426240, 81, 1511157274518286468382720), (20266198323167232, 82, 2720083094132915643088896), (72057594037927935, 5, 4835703278458516698824704)] (by kernel_rfl) (by kernel_rfl) (by kernel_rfl) rfl (by kernel_rfl) (by kernel_rfl) (fun _ _ d _ _ h => by cases d <;> exact h) ?_
    iterate 2 (first | (refine seq_read (fun _ => True) (fun _ _ => trivial) _ (v := ?_) rfl rfl (by rfl) ?_ ?_; rotate_left; (· intro w' hF; go_simp; (try with_reducible rfl)); simp only [Act.put, List.setIfInBounds_toArray, List.set_cons_zero, List.set_cons_succ]) | (refine seq_skip _ rfl rfl (by rfl) ?_; simp only [Act.put, List.setIfInBounds_toArray, List.set_cons_zero, List.set_cons_succ]))
    refine seq_read (fun w' => w'.heap[g3]? = some (.cells (cellsOf kx).toArray 23 (0, 0))) (fun w' e => (P4.out w' ((Ext.refl _).drew.trans e)).2.2.2.2.1.1) _ (v := .agg (cellsOf kx).toArray) rfl rfl (by rfl) (fun w' hF => exec_load_row rfl rfl hF rfl rfl (by rw [S_kx]; rfl)) ?_
    simp only [Act.put, List.setIfInBounds_toArray, List.set_cons_zero, List.set_cons_succ]
    refine seq_read (fun w' => w'.heap[g3]? = some (.cells (cellsOf kx).toArray 23 (0, 0))) (fun w' e => (P4.out w' ((Ext.refl _).drew.trans e)).2.2.2.2.1.1) _ (v := .agg (cellsOf kx).toArray) rfl rfl (by rfl) (fun w' hF => exec_load_row rfl rfl hF rfl rfl (by rw [S_kx]; rfl)) ?_
    simp only [Act.put, List.setIfInBounds_toArray, List.set_cons_zero, List.set_cons_succ]
    refine seq_do _ rfl rfl (by rfl) (fun K1 hK1 => ?_)
    go_simp
    refine (OFK.out _ (P4.out _ (Ext.refl _).drew).2.2.2.2.2.2).mono ?_
    rintro e w5 ⟨rfl, e1⟩
    refine hK1.out _ _ e1 ?_
    clear hK1 K1
    try simp only [Act.put, List.setIfInBounds_toArray, List.set_cons_zero, List.set_cons_succ]
    have P5 : Hid (∀ s, Ext w5 s → Ky s w.heap.size ka ∧ Ky s (w.heap.size + 1) kb ∧ Wr s g1 28 vx ∧ Wr s g2 28 vy ∧ Ky s g3 kx ∧ Ky s g9 zk ∧ Ext w s) := fun s e => P4.out s ((Ext.refl _).drew.trans (e1.trans e))
    clear P4 e1
    refine seq_do _ rfl rfl (by rfl) (fun K1 hK1 => ?_)
    go_simp
    refine (KX.out _ (P5.out _ (Ext.refl _)).2.2.2.2.2.2).mono ?_
    rintro e w6 ⟨rfl, e1⟩
    refine hK1.out _ _ e1 ?_
    clear hK1 K1
    try simp only [Act.put, List.setIfInBounds_toArray, List.set_cons_zero, List.set_cons_succ]
    have P6 : Hid (∀ s, Ext w6 s → Ky s w.heap.size ka ∧ Ky s (w.heap.size + 1) kb ∧ Wr s g1 28 vx ∧ Wr s g2 28 vy ∧ Ky s g3 kx ∧ Ky s g9 zk ∧ Ext w s) := fun s e => P5.out s (e1.trans e)
    clear P5 e1
    refine seq_read (fun _ => True) (fun _ _ => trivial) _ (v := .bool true) rfl rfl (by rfl) (fun w' _ => exec_eql_keyB (xs := kx) (ys := kx) (decide_eq_true rfl) L_kx L_kx rfl rfl rfl) ?_
    simp only [Act.put, List.setIfInBounds_toArray, List.set_cons_zero, List.set_cons_succ]
    iterate 2 (first | (refine seq_read (fun _ => True) (fun _ _ => trivial) _ (v := ?_) rfl rfl (by rfl) ?_ ?_; rotate_left; (· intro w' hF; go_simp; (try with_reducible rfl)); simp only [Act.put, List.setIfInBounds_toArray, List.set_cons_zero, List.set_cons_succ]) | (refine seq_skip _ rfl rfl (by rfl) ?_; simp only [Act.put, List.setIfInBounds_toArray, List.set_cons_zero, List.set_cons_succ]))
    refine seq_read (fun w' => w'.heap[g1]? = some (.cells (wcells vx).toArray 28 (0, 0))) (fun w' e => (P6.out w' e).2.2.1) _ (v := .agg (wcells vx).toArray) rfl rfl (by rfl) (fun w' hF => exec_load_row rfl rfl hF rfl rfl (by rw [S_vx]; rfl)) ?_
    simp only [Act.put, List.setIfInBounds_toArray, List.set_cons_zero, List.set_cons_succ]
    refine seq_read (fun w' => w'.heap[g2]? = some (.cells (wcells vy).toArray 28 (0, 0))) (fun w' e => (P6.out w' e).2.2.2.1) _ (v := .agg (wcells vy).toArray) rfl rfl (by rfl) (fun w' hF => exec_load_row rfl rfl hF rfl rfl (by rw [S_vy]; rfl)) ?_
    simp only [Act.put, List.setIfInBounds_toArray, List.set_cons_zero, List.set_cons_succ]
    refine seq_read (fun w' => w'.heap[g2]? = some (.cells (wcells vy).toArray 28 (0, 0))) (fun w' e => (P6.out w' e).2.2.2.1) _ (v := .agg (wcells vy).toArray) rfl rfl (by rfl) (fun w' hF => exec_load_row rfl rfl hF rfl rfl (by rw [S_vy]; rfl)) ?_
    simp only [Act.put, List.setIfInBounds_toArray, List.set_cons_zero, List.set_cons_succ]
    refine seq_read (fun w' => w'.heap[g3]? = some (.cells (cellsOf kx).toArray 23 (0, 0))) (fun w' e => (P6.out w' e).2.2.2.2.1.1) _ (v := .agg (cellsOf kx).toArray) rfl rfl (by rfl) (fun w' hF => exec_load_row rfl rfl hF rfl rfl (by rw [S_kx]; rfl)) ?_
    simp only [Act.put, List.setIfInBounds_toArray, List.set_cons_zero, List.set_cons_succ]
    refine seq_do _ rfl rfl (by rfl) (fun K1 hK1 => ?_)
    go_simp
    refine (AXY.out _ (P6.out _ (Ext.refl _)).2.2.2.2.2.2).mono ?_
    rintro e w7 ⟨rfl, e1⟩
    refine hK1.out _ _ e1 ?_
    clear hK1 K1
    try simp only [Act.put, List.setIfInBounds_toArray, List.set_cons_zero, List.set_cons_succ]
    have P7 : Hid (∀ s, Ext w7 s → Ky s w.heap.size ka ∧ Ky s (w.heap.size + 1) kb ∧ Wr s g1 28 vx ∧ Wr s g2 28 vy ∧ Ky s g3 kx ∧ Ky s g9 zk ∧ Ext w s) := fun s e => P6.out s (e1.trans e)
    clear P6 e1
    refine seq_do _ rfl rfl (by rfl) (fun K1 hK1 => ?_)
    go_simp
    refine (SXY.out _ (P7.out _ (Ext.refl _)).2.2.2.2.2.2).mono ?_
    rintro e w8 ⟨rfl, e1⟩
    refine hK1.out _ _ e1 ?_
    clear hK1 K1
    try simp only [Act.put, List.setIfInBounds_toArray, List.set_cons_zero, List.set_cons_succ]
    have P8 : Hid (∀ s, Ext w8 s → Ky s w.heap.size ka ∧ Ky s (w.heap.size + 1) kb ∧ Wr s g1 28 vx ∧ Wr s g2 28 vy ∧ Ky s g3 kx ∧ Ky s g9 zk ∧ Ext w s) := fun s e => P7.out s (e1.trans e)
    clear P7 e1
    refine seq_do _ rfl rfl (by rfl) (fun K1 hK1 => ?_)
    go_simp
    refine (KX.out _ (P8.out _ (Ext.refl _)).2.2.2.2.2.2).mono ?_
    rintro e w9 ⟨rfl, e1⟩
    refine hK1.out _ _ e1 ?_
    clear hK1 K1
    try simp only [Act.put, List.setIfInBounds_toArray, List.set_cons_zero, List.set_cons_succ]
    have P9 : Hid (∀ s, Ext w9 s → Ky s w.heap.size ka ∧ Ky s (w.heap.size + 1) kb ∧ Wr s g1 28 vx ∧ Wr s g2 28 vy ∧ Ky s g3 kx ∧ Ky s g9 zk ∧ Ext w s) := fun s e => P8.out s (e1.trans e)
    clear P8 e1
    refine seq_read (fun _ => True) (fun _ _ => trivial) _ (v := .bool true) rfl rfl (by rfl) (fun w' _ => exec_eql_keyB (xs := kx) (ys := kx) (decide_eq_true rfl) L_kx L_kx rfl rfl rfl) ?_
    simp only [Act.put, List.setIfInBounds_toArray, List.set_cons_zero, List.set_cons_succ]
    iterate 2 (first | (refine seq_read (fun _ => True) (fun _ _ => trivial) _ (v := ?_) rfl rfl (by rfl) ?_ ?_; rotate_left; (· intro w' hF; go_simp; (try with_reducible rfl)); simp only [Act.put, List.setIfInBounds_toArray, List.set_cons_zero, List.set_cons_succ]) | (refine seq_skip _ rfl rfl (by rfl) ?_; simp only [Act.put, List.setIfInBounds_toArray, List.set_cons_zero, List.set_cons_succ]))
    refine seq_read (fun w' => w'.heap[g1]? = some (.cells (wcells vx).toArray 28 (0, 0))) (fun w' e => (P9.out w' e).2.2.1) _ (v := .agg (wcells vx).toArray) rfl rfl (by rfl) (fun w' hF => exec_load_row rfl rfl hF rfl rfl (by rw [S_vx]; rfl)) ?_
    simp only [Act.put, List.setIfInBounds_toArray, List.set_cons_zero, List.set_cons_succ]
    refine seq_read (fun w' => w'.heap[g1]? = some (.cells (wcells vx).toArray 28 (0, 0))) (fun w' e => (P9.out w' e).2.2.1) _ (v := .agg (wcells vx).toArray) rfl rfl (by rfl) (fun w' hF => exec_load_row rfl rfl hF rfl rfl (by rw [S_vx]; rfl)) ?_
    simp only [Act.put, List.setIfInBounds_toArray, List.set_cons_zero, List.set_cons_succ]
    refine seq_read (fun _ => True) (fun _ _ => trivial) _ (v := .agg (cellsOf zk).toArray) rfl rfl (by rfl) (fun w' _ => exec_build_as rfl (by simp only [List.map_toArray, List.map_cons, List.map_nil]; exact b_zk.out)) ?_
    simp only [Act.put, List.setIfInBounds_toArray, List.set_cons_zero, List.set_cons_succ]
    refine seq_do _ rfl rfl (by rfl) (fun K1 hK1 => ?_)
    go_simp
    refine (SXX.out _ (P9.out _ (Ext.refl _)).2.2.2.2.2.2).mono ?_
    rintro e w10 ⟨rfl, e1⟩
    refine hK1.out _ _ e1 ?_
    clear hK1 K1
    try simp only [Act.put, List.setIfInBounds_toArray, List.set_cons_zero, List.set_cons_succ]
    have P10 : Hid (∀ s, Ext w10 s → Ky s w.heap.size ka ∧ Ky s (w.heap.size + 1) kb ∧ Wr s g1 28 vx ∧ Wr s g2 28 vy ∧ Ky s g3 kx ∧ Ky s g9 zk ∧ Ext w s) := fun s e => P9.out s (e1.trans e)
    clear P9 e1
    refine seq_do _ rfl rfl (by rfl) (fun K1 hK1 => ?_)
    go_simp
    refine (KZ.out _ (P10.out _ (Ext.refl _)).2.2.2.2.2.2).mono ?_
    rintro e w11 ⟨rfl, e1⟩
    refine hK1.out _ _ e1 ?_
    clear hK1 K1
    try simp only [Act.put, List.setIfInBounds_toArray, List.set_cons_zero, List.set_cons_succ]
    have P11 : Hid (∀ s, Ext w11 s → Ky s w.heap.size ka ∧ Ky s (w.heap.size + 1) kb ∧ Wr s g1 28 vx ∧ Wr s g2 28 vy ∧ Ky s g3 kx ∧ Ky s g9 zk ∧ Ext w s) := fun s e => P10.out s (e1.trans e)
    clear P10 e1
    refine seq_read (fun _ => True) (fun _ _ => trivial) _ (v := .bool true) rfl rfl (by rfl) (fun w' _ => exec_eql_keyB (xs := zk) (ys := zk) (decide_eq_true rfl) L_zk L_zk rfl rfl rfl) ?_
    simp only [Act.put, List.setIfInBounds_toArray, List.set_cons_zero, List.set_cons_succ]
    iterate 4 (first | (refine seq_read (fun _ => True) (fun _ _ => trivial) _ (v := ?_) rfl rfl (by rfl) ?_ ?_; rotate_left; (· intro w' hF; go_simp; (try with_reducible rfl)); simp only [Act.put, List.setIfInBounds_toArray, List.set_cons_zero, List.set_cons_succ]) | (refine seq_skip _ rfl rfl (by rfl) ?_; simp only [Act.put, List.setIfInBounds_toArray, List.set_cons_zero, List.set_cons_succ]))
    refine seq_read (fun w' => w'.heap[g9]? = some (.cells (cellsOf zk).toArray 23 (0, 0))) (fun w' e => (P11.out w' e).2.2.2.2.2.1.1) _ (v := .agg (cellsOf zk).toArray) rfl rfl (by rfl) (fun w' hF => exec_load_row rfl rfl hF rfl rfl (by rw [S_zk]; rfl)) ?_
    simp only [Act.put, List.setIfInBounds_toArray, List.set_cons_zero, List.set_cons_succ]
    refine seq_read (fun _ => True) (fun _ _ => trivial) _ (v := .agg (cellsOf zk).toArray) rfl rfl (by rfl) (fun w' _ => exec_build_as rfl (by simp only [List.map_toArray, List.map_cons, List.map_nil]; exact b_zk.out)) ?_
    simp only [Act.put, List.setIfInBounds_toArray, List.set_cons_zero, List.set_cons_succ]
    refine seq_read (fun _ => True) (fun _ _ => trivial) _ (v := .bool true) rfl rfl (by rfl) (fun w' _ => exec_eql_keyB (xs := zk) (ys := zk) (decide_eq_true rfl) L_zk L_zk rfl rfl rfl) ?_
    simp only [Act.put, List.setIfInBounds_toArray, List.set_cons_zero, List.set_cons_succ]
    iterate 12 (first | (refine seq_read (fun _ => True) (fun _ _ => trivial) _ (v := ?_) rfl rfl (by rfl) ?_ ?_; rotate_left; (· intro w' hF; go_simp; (try with_reducible rfl)); simp only [Act.put, List.setIfInBounds_toArray, List.set_cons_zero, List.set_cons_succ]) | (refine seq_skip _ rfl rfl (by rfl) ?_; simp only [Act.put, List.setIfInBounds_toArray, List.set_cons_zero, List.set_cons_succ]))
    refine seq_read (fun w' => w'.heap[g1]? = some (.cells (wcells vx).toArray 28 (0, 0))) (fun w' e => (P11.out w' e).2.2.1) _ (v := .agg (wcells vx).toArray) rfl rfl (by rfl) (fun w' hF => exec_load_row rfl rfl hF rfl rfl (by rw [S_vx]; rfl)) ?_
    simp only [Act.put, List.setIfInBounds_toArray, List.set_cons_zero, List.set_cons_succ]
    refine seq_read (fun w' => w'.heap[g3]? = some (.cells (cellsOf kx).toArray 23 (0, 0))) (fun w' e => (P11.out w' e).2.2.2.2.1.1) _ (v := .agg (cellsOf kx).toArray) rfl rfl (by rfl) (fun w' hF => exec_load_row rfl rfl hF rfl rfl (by rw [S_kx]; rfl)) ?_
    simp only [Act.put, List.setIfInBounds_toArray, List.set_cons_zero, List.set_cons_succ]
    refine seq_do _ rfl rfl (by rfl) (fun K1 hK1 => ?_)
    go_simp
    refine (IX.out _ (P11.out _ (Ext.refl _)).2.2.2.2.2.2).mono ?_
    rintro e w12 ⟨rfl, e1⟩
    refine hK1.out _ _ e1 ?_
    clear hK1 K1
    try simp only [Act.put, List.setIfInBounds_toArray, List.set_cons_zero, List.set_cons_succ]
    have P12 : Hid (∀ s, Ext w12 s → Ky s w.heap.size ka ∧ Ky s (w.heap.size + 1) kb ∧ Wr s g1 28 vx ∧ Wr s g2 28 vy ∧ Ky s g3 kx ∧ Ky s g9 zk ∧ Ext w s) := fun s e => P11.out s (e1.trans e)
    clear P11 e1
    refine seq_do _ rfl rfl (by rfl) (fun K1 hK1 => ?_)
    go_simp
    refine (IIX.out _ (P12.out _ (Ext.refl _)).2.2.2.2.2.2).mono ?_
    rintro e w13 ⟨rfl, e1⟩
    refine hK1.out _ _ e1 ?_
    clear hK1 K1
    try simp only [Act.put, List.setIfInBounds_toArray, List.set_cons_zero, List.set_cons_succ]
    have P13 : Hid (∀ s, Ext w13 s → Ky s w.heap.size ka ∧ Ky s (w.heap.size + 1) kb ∧ Wr s g1 28 vx ∧ Wr s g2 28 vy ∧ Ky s g3 kx ∧ Ky s g9 zk ∧ Ext w s) := fun s e => P12.out s (e1.trans e)
    clear P12 e1
    refine seq_do _ rfl rfl (by rfl) (fun K1 hK1 => ?_)
    go_simp
    refine (KX.out _ (P13.out _ (Ext.refl _)).2.2.2.2.2.2).mono ?_
    rintro e w14 ⟨rfl, e1⟩
    refine hK1.out _ _ e1 ?_
    clear hK1 K1
    try simp only [Act.put, List.setIfInBounds_toArray, List.set_cons_zero, List.set_cons_succ]
    have P14 : Hid (∀ s, Ext w14 s → Ky s w.heap.size ka ∧ Ky s (w.heap.size + 1) kb ∧ Wr s g1 28 vx ∧ Wr s g2 28 vy ∧ Ky s g3 kx ∧ Ky s g9 zk ∧ Ext w s) := fun s e => P13.out s (e1.trans e)
    clear P13 e1
    refine seq_read (fun _ => True) (fun _ _ => trivial) _ (v := .bool true) rfl rfl (by rfl) (fun w' _ => exec_eql_keyB (xs := kx) (ys := kx) (decide_eq_true rfl) L_kx L_kx rfl rfl rfl) ?_
    simp only [Act.put, List.setIfInBounds_toArray, List.set_cons_zero, List.set_cons_succ]
    generalize hb31 : bt kx 31 = b31 at *
    replace hb31 := Lib.hid hb31
    have t128 : decide ((b31 : Int) < 128) = true := decide_eq_true (by omega)
    repeat (first | (refine seq_read _ (fun w' e => (show w'.cell? ⟨g3, 31, none⟩ = some (.int .u8 (b31 : Int)) from by rw [← hb31.out]; exact (P14.out w' e).2.2.2.2.1.cell (by decide))) _ (v := ?_) rfl rfl (by rfl) ?_ ?_; rotate_left; (· intro w' hF; go_simp; (try with_reducible rfl)); simp only [Act.put, List.setIfInBounds_toArray, List.set_cons_zero, List.set_cons_succ]) | (refine seq_skip _ rfl rfl (by rfl) ?_; simp only [Act.put, List.setIfInBounds_toArray, List.set_cons_zero, List.set_cons_succ]))
    refine seq_done ?_
    have EE := Lib.hid (P14.out _ (Ext.refl _)).2.2.2.2.2.2
    clear P14
    go_wp2_with fail
    go_ret
    exact ⟨rfl, EE.out⟩

set_option maxHeartbeats 8000000 in
theorem fieldBack_more {ka kb : List UInt8} {w : World} (ha : ka.length = 32) (hb : kb.length = 32) (hx0 : ofV ka ≠ 0) {tg : TypeId × Nat × Nat} (hG : Gp w tg) :
    Calls Tryd.prog 6 #[.agg (cellsOf ka).toArray, .agg (cellsOf kb).toArray] w fun e w' => e = .returned (.bool true) ∧ Ext w w' := by
  have AW : Hid (∀ W, Ext w W → Calls Tryd.prog 9 #[] W fun e w' => e = .returned (.bool true) ∧ Ext W w') := fun W e => awake6_calls (hG.ext e)
  obtain ⟨x, hx⟩ : ∃ x, x = ofV ka := ⟨_, rfl⟩
  have xp : x < P25 := by rw [hx]; exact ofV_lt ka
  obtain ⟨y, hy⟩ : ∃ x, x = ofV kb := ⟨_, rfl⟩
  have yp : y < P25 := by rw [hy]; exact ofV_lt kb
  have OFA : Hid (∀ W, Ext w W → Calls Tryd.prog 10 #[.agg (cellsOf ka).toArray] W fun e w' => e = .returned (eV (x)) ∧ Ext W w') := fun W e => by
    rw [hx]; exact of_calls ha (hG.ext e)
  have OFB : Hid (∀ W, Ext w W → Calls Tryd.prog 10 #[.agg (cellsOf kb).toArray] W fun e w' => e = .returned (eV (y)) ∧ Ext W w') := fun W e => by
    rw [hy]; exact of_calls hb (hG.ext e)
  rw [← hx] at hx0
  have KX : Hid (∀ W, Ext w W → Calls Tryd.prog 12 #[eV (x)] W fun e w' => e = .returned (.agg (cellsOf (kL x)).toArray) ∧ Ext W w') := fun W e => by
    exact ekey_calls
  have IX : Hid (∀ W, Ext w W → Calls Tryd.prog 20 #[eV (x)] W fun e w' => e = .returned (eV (invF x)) ∧ Ext W w') := fun W e => by
    exact inv_calls xp (hG.ext e)
  have MXI : Hid (∀ W, Ext w W → Calls Tryd.prog 18 #[eV (x), eV (invF x)] W fun e w' => e = .returned (eV (1)) ∧ Ext W w') := fun W e => by
    have := emul_calls xp (invF_lt x) (hG.ext e)
    rwa [mul_invF hx0 xp] at this
  have KZ : Hid (∀ W, Ext w W → Calls Tryd.prog 12 #[eV (0)] W fun e w' => e = .returned (.agg (cellsOf (List.replicate 32 0)).toArray) ∧ Ext W w') := fun W e => by
    have := ekey_calls (x := 0) (w := W)
    rwa [kL0] at this
  have KO : Hid (∀ W, Ext w W → Calls Tryd.prog 12 #[eV (1)] W fun e w' => e = .returned (.agg (cellsOf (keyN 1)).toArray) ∧ Ext W w') := fun W e => by
    have := ekey_calls (x := 1) (w := W)
    rwa [kL1] at this
  have OFK : Hid (∀ W, Ext w W → Calls Tryd.prog 10 #[.agg (cellsOf (kL x)).toArray] W fun e w' => e = .returned (eV (x)) ∧ Ext W w') := fun W e => by
    have := of_calls (kL_len x) (hG.ext e)
    rwa [ofV_kL xp] at this
  have AXY : Hid (∀ W, Ext w W → Calls Tryd.prog 14 #[eV (x), eV (y)] W fun e w' => e = .returned (eV ((x + y) % P25)) ∧ Ext W w') := fun W e => by
    exact eadd_calls xp yp (hG.ext e)
  have SXY : Hid (∀ W, Ext w W → Calls Tryd.prog 16 #[eV ((x + y) % P25), eV (y)] W fun e w' => e = .returned (eV (x)) ∧ Ext W w') := fun W e => by
    have := esub_calls (Nat.mod_lt (x + y) P25_pos) yp (hG.ext e)
    rwa [add_back xp yp] at this
  have SXX : Hid (∀ W, Ext w W → Calls Tryd.prog 16 #[eV (x), eV (x)] W fun e w' => e = .returned (eV (0)) ∧ Ext W w') := fun W e => by
    have := esub_calls xp xp (hG.ext e)
    rwa [sub_self xp] at this
  have IIX : Hid (∀ W, Ext w W → Calls Tryd.prog 20 #[eV (invF x)] W fun e w' => e = .returned (eV (x)) ∧ Ext W w') := fun W e => by
    have := inv_calls (invF_lt x) (hG.ext e)
    rwa [invF_invF xp] at this
  have b128 : bt (kL x) 31 < 128 := kL_31 xp
  have hzk : Hid (decide (kL x = List.replicate 32 0) = false) := decide_eq_false (kL_ne xp hx0)
  clear hG hx hy xp yp hx0
  unfold eV at *
  have L_vs := lbs_len 8 ((x + y) % P25)
  have L_vi := lbs_len 8 (invF x)
  have L_vx := lbs_len 8 (x)
  have L_vy := lbs_len 8 (y)
  have L_vz := lbs_len 8 (0)
  have L_v1 := lbs_len 8 (1)
  have L_kx := kL_len x
  generalize lbs 8 ((x + y) % P25) = vs at *
  generalize lbs 8 (invF x) = vi at *
  generalize lbs 8 (x) = vx at *
  generalize lbs 8 (y) = vy at *
  generalize lbs 8 (0) = vz at *
  generalize lbs 8 (1) = v1 at *
  generalize kL x = kx at *
  have hal2 := elem_alloc
  have L_zs : zw8.length = 8 := rfl
  generalize zw8 = zs at *
  have S_zs := wcells_size L_zs
  have hal : ∀ w, (zeroValue 23).run Tryd.prog w = .ok (.agg (cellsOf (List.replicate 32 0)).toArray) w := fun w => by rw [zeros32_cells]; exact key_alloc w
  have L_zk : (List.replicate 32 (0 : UInt8)).length = 32 := rfl
  have b_zk : Hid (Tryd.prog.built 23 [] = some (cellsOf (List.replicate 32 0)).toArray) := by unfold Hid; rw [zeros32_cells]; exact zeros32_built
  generalize List.replicate 32 (0 : UInt8) = zk at *
  have L_k1 := keyN_len 1
  have b_k1 : Hid (Tryd.prog.built 23 [(0, .int .u8 1)] = some (cellsOf (keyN 1)).toArray) := built1
  generalize keyN 1 = k1 at *
  have L_ka := ha
  have L_kb := hb
  have S_vs : (wcells vs).toArray.size = 8 := wcells_size L_vs
  have O_vs := wcells_one vs
  have S_vi : (wcells vi).toArray.size = 8 := wcells_size L_vi
  have O_vi := wcells_one vi
  have S_vx : (wcells vx).toArray.size = 8 := wcells_size L_vx
  have O_vx := wcells_one vx
  have S_vy : (wcells vy).toArray.size = 8 := wcells_size L_vy
  have O_vy := wcells_one vy
  have S_vz : (wcells vz).toArray.size = 8 := wcells_size L_vz
  have O_vz := wcells_one vz
  have S_v1 : (wcells v1).toArray.size = 8 := wcells_size L_v1
  have O_v1 := wcells_one v1
  have S_kx : (cellsOf kx).toArray.size = 32 := by simp [cellsOf_len, L_kx]
  have O_kx := cellsOf_one kx
  have S_zk : (cellsOf zk).toArray.size = 32 := by simp [cellsOf_len, L_zk]
  have O_zk := cellsOf_one zk
  have S_ka : (cellsOf ka).toArray.size = 32 := by simp [cellsOf_len, L_ka]
  have O_ka := cellsOf_one ka
  have S_kb : (cellsOf kb).toArray.size = 32 := by simp [cellsOf_len, L_kb]
  have O_kb := cellsOf_one kb
  have S_k1 : (cellsOf k1).toArray.size = 32 := by simp [cellsOf_len, L_k1]
  have O_k1 := cellsOf_one k1
  have B0 : Hid (∀ s, Ext ((w.alloc (Obj.cells (cellsOf ka).toArray 23)).alloc (Obj.cells (cellsOf kb).toArray 23)) s → Ky s w.heap.size ka ∧ Ky s (w.heap.size + 1) kb ∧ Ext w s) := fun s e => ⟨Ky.ext ⟨heap_alloc1 _ _ _, ha⟩ e, Ky.ext ⟨heap_alloc2 _ _ _, hb⟩ e, (((Ext.refl w).alloc _).alloc _).trans e⟩
  go_enter Tryd.func6, Tryd.ntmps6
  go_wp2_with fail
  refine (AW.out _ (B0.out _ (Ext.refl _)).2.2).mono ?_
  rintro e w0 ⟨rfl, e1⟩
  have P0 : Hid (∀ s, Ext w0 s → Ky s w.heap.size ka ∧ Ky s (w.heap.size + 1) kb ∧ Ext w s) := fun s e => B0.out s (e1.trans e)
  clear AW B0 e1
  have q0 := Lib.hid (P0.out _ (Ext.refl _)).1
  have q1 := Lib.hid (P0.out _ (Ext.refl _)).2.1
  go_wp2_with (first
    | (refine wpList_exec rfl (exec_load_row rfl rfl q0.out.1 rfl rfl (by rw [S_ka]; rfl)) ?_; simp only [Act.put, List.setIfInBounds_toArray, List.set_cons_zero, List.set_cons_succ])
    | (refine wpList_exec rfl (exec_load_row rfl rfl q1.out.1 rfl rfl (by rw [S_kb]; rfl)) ?_; simp only [Act.put, List.setIfInBounds_toArray, List.set_cons_zero, List.set_cons_succ]))
  refine (OFA.out _ (P0.out _ (Ext.refl _)).2.2).mono ?_
  rintro e v ⟨rfl, e1⟩
  have a1 : Hid ((v.alloc (Obj.cells (wcells zs).toArray 28)).heap[v.heap.size]? = some (.cells (wcells zs).toArray 28 (0, 0))) := heap_alloc_new _ _
  have e5 : Ext v ((v.alloc (Obj.cells (wcells zs).toArray 28)).setRow v.heap.size (wcells vx).toArray) := below_setRow ((Ext.refl v).alloc _) (Nat.le_refl _) _
  go_upto_region 3 with (refine wpList_store_row rfl 28 _ _ rfl v.heap.size (wcells vx).toArray rfl rfl 28 _ a1.out (by rw [S_vx]; rfl) (by rw [S_vx, S_zs]) O_vx ?_; simp only [Act.put, List.setIfInBounds_toArray, List.set_cons_zero, List.set_cons_succ])
  obtain ⟨g1, hg⟩ : ∃ g, g = v.heap.size := ⟨_, rfl⟩
  refine wp_gen (fun W => ∀ s, Ext W s → Ky s w.heap.size ka ∧ Ky s (w.heap.size + 1) kb ∧ Wr s g1 28 vx ∧ Ext w s) (fun s e => by
    obtain ⟨p0, p1, p2⟩ := P0.out s (e1.trans (e5.trans e))
    exact ⟨p0, p1, (show Wr _ g1 28 vx from by rw [hg]; exact setRow_heap _ _ _ _ _ _ a1.out).kept e (Wr.lt (show Wr _ g1 28 vx from by rw [hg]; exact setRow_heap _ _ _ _ _ _ a1.out)), p2⟩) ?_
  rw [← hg]
  clear hg a1 e5 e1 P0 q0 q1
  rintro w1 P1
  replace P1 := Lib.hid P1
  have q0 := Lib.hid (P1.out _ (Ext.refl _)).1
  have q1 := Lib.hid (P1.out _ (Ext.refl _)).2.1
  have q2 := Lib.hid (P1.out _ (Ext.refl _)).2.2.1
  go_wp2_with (first
    | (refine wpList_exec rfl (exec_load_row rfl rfl q0.out.1 rfl rfl (by rw [S_ka]; rfl)) ?_; simp only [Act.put, List.setIfInBounds_toArray, List.set_cons_zero, List.set_cons_succ])
    | (refine wpList_exec rfl (exec_load_row rfl rfl q1.out.1 rfl rfl (by rw [S_kb]; rfl)) ?_; simp only [Act.put, List.setIfInBounds_toArray, List.set_cons_zero, List.set_cons_succ])
    | (refine wpList_exec rfl (exec_load_row rfl rfl q2.out rfl rfl (by rw [S_vx]; rfl)) ?_; simp only [Act.put, List.setIfInBounds_toArray, List.set_cons_zero, List.set_cons_succ]))
  refine (OFB.out _ (P1.out _ (Ext.refl _)).2.2.2).mono ?_
  rintro e v ⟨rfl, e1⟩
  have a1 : Hid ((v.alloc (Obj.cells (wcells zs).toArray 28)).heap[v.heap.size]? = some (.cells (wcells zs).toArray 28 (0, 0))) := heap_alloc_new _ _
  have e5 : Ext v ((v.alloc (Obj.cells (wcells zs).toArray 28)).setRow v.heap.size (wcells vy).toArray) := below_setRow ((Ext.refl v).alloc _) (Nat.le_refl _) _
  go_upto_region 4 with (refine wpList_store_row rfl 28 _ _ rfl v.heap.size (wcells vy).toArray rfl rfl 28 _ a1.out (by rw [S_vy]; rfl) (by rw [S_vy, S_zs]) O_vy ?_; simp only [Act.put, List.setIfInBounds_toArray, List.set_cons_zero, List.set_cons_succ])
  obtain ⟨g2, hg⟩ : ∃ g, g = v.heap.size := ⟨_, rfl⟩
  refine wp_gen (fun W => ∀ s, Ext W s → Ky s w.heap.size ka ∧ Ky s (w.heap.size + 1) kb ∧ Wr s g1 28 vx ∧ Wr s g2 28 vy ∧ Ext w s) (fun s e => by
    obtain ⟨p0, p1, p2, p3⟩ := P1.out s (e1.trans (e5.trans e))
    exact ⟨p0, p1, p2, (show Wr _ g2 28 vy from by rw [hg]; exact setRow_heap _ _ _ _ _ _ a1.out).kept e (Wr.lt (show Wr _ g2 28 vy from by rw [hg]; exact setRow_heap _ _ _ _ _ _ a1.out)), p3⟩) ?_
  rw [← hg]
  clear hg a1 e5 e1 P1 q0 q1 q2
  rintro w2 P2
  replace P2 := Lib.hid P2
  have q0 := Lib.hid (P2.out _ (Ext.refl _)).1
  have q1 := Lib.hid (P2.out _ (Ext.refl _)).2.1
  have q2 := Lib.hid (P2.out _ (Ext.refl _)).2.2.1
  have q3 := Lib.hid (P2.out _ (Ext.refl _)).2.2.2.1
  go_wp2_with (first
    | (refine wpList_exec rfl (exec_load_row rfl rfl q0.out.1 rfl rfl (by rw [S_ka]; rfl)) ?_; simp only [Act.put, List.setIfInBounds_toArray, List.set_cons_zero, List.set_cons_succ])
    | (refine wpList_exec rfl (exec_load_row rfl rfl q1.out.1 rfl rfl (by rw [S_kb]; rfl)) ?_; simp only [Act.put, List.setIfInBounds_toArray, List.set_cons_zero, List.set_cons_succ])
    | (refine wpList_exec rfl (exec_load_row rfl rfl q2.out rfl rfl (by rw [S_vx]; rfl)) ?_; simp only [Act.put, List.setIfInBounds_toArray, List.set_cons_zero, List.set_cons_succ])
    | (refine wpList_exec rfl (exec_load_row rfl rfl q3.out rfl rfl (by rw [S_vy]; rfl)) ?_; simp only [Act.put, List.setIfInBounds_toArray, List.set_cons_zero, List.set_cons_succ]))
  refine (KX.out _ (P2.out _ (Ext.refl _)).2.2.2.2).mono ?_
  rintro e v ⟨rfl, e1⟩
  have a1 : Hid ((v.alloc (Obj.cells (cellsOf zk).toArray 23)).heap[v.heap.size]? = some (.cells (cellsOf zk).toArray 23 (0, 0))) := heap_alloc_new _ _
  have e5 : Ext v ((v.alloc (Obj.cells (cellsOf zk).toArray 23)).setRow v.heap.size (cellsOf kx).toArray) := below_setRow ((Ext.refl v).alloc _) (Nat.le_refl _) _
  go_upto_region 5 with (refine wpList_store_row rfl 23 _ _ rfl v.heap.size (cellsOf kx).toArray rfl rfl 23 _ a1.out (by rw [S_kx]; rfl) (by rw [S_kx, S_zk]) O_kx ?_; simp only [Act.put, List.setIfInBounds_toArray, List.set_cons_zero, List.set_cons_succ])
  obtain ⟨g3, hg⟩ : ∃ g, g = v.heap.size := ⟨_, rfl⟩
  refine wp_gen (fun W => ∀ s, Ext W s → Ky s w.heap.size ka ∧ Ky s (w.heap.size + 1) kb ∧ Wr s g1 28 vx ∧ Wr s g2 28 vy ∧ Ky s g3 kx ∧ Ext w s) (fun s e => by
    obtain ⟨p0, p1, p2, p3, p4⟩ := P2.out s (e1.trans (e5.trans e))
    exact ⟨p0, p1, p2, p3, (show Ky _ g3 kx from ⟨by rw [hg]; exact setRow_heap _ _ _ _ _ _ a1.out, L_kx⟩).ext e, p4⟩) ?_
  rw [← hg]
  clear hg a1 e5 e1 P2 q0 q1 q2 q3
  rintro w3 P3
  replace P3 := Lib.hid P3
  go_cut [9] (fun s9 wx => ∃ g : Nat, s9 = .pointer (some ⟨g, 0, none⟩) ∧ Below w3.heap.size w3 wx ∧ wx.heap[g]? = some (.cells (cellsOf k1).toArray 23 (0, 0)) ∧ w3.heap.size ≤ g)
  case first =>
    refine wp_region_tree (R := Below w3.heap.size) (Below.refl _) (fun _ _ _ => Below.trans) (.rd 0 (.rd 1 (.alt 2 (.alt 3 (.alt 4 (.alt 5 (.alt 6 .nil .stop) .stop) (.alt 5 (.alt 4 (.alt 6 .nil .stop) .stop) .stop)) (.alt 5 (.alt 3 (.alt 4 (.alt 6 .nil .stop) .stop) .stop) .stop)) (.alt 5 (.alt 2 (.alt 3 (.alt 4 (.alt 6 .nil .stop) .stop) .stop) .stop) .stop)))) [(0, 19, 128), (0, 20, 128), (2, 21, 1048576), (5, 22, 2621440), (8, 23, 4194304), (0, 10, 0), (63, 0, 8389632)] 7 (by kernel_rfl) (by kernel_rfl) (by kernel_rfl) rfl (by kernel_rfl) (by kernel_rfl) (fun _ _ d _ _ h => by cases d <;> exact h) ?_
    refine seqT_read (fun w' => w'.heap[g1]? = some (.cells (wcells vx).toArray 28 (0, 0))) (fun w' e => (P3.out w' (Ext.trans (Ext.refl _).drew e)).2.2.1) _ (v := .agg (wcells vx).toArray) rfl (by rfl) (fun w' hF => exec_load_row rfl rfl hF rfl rfl (by rw [S_vx]; rfl)) ?_
    simp only [Act.put, List.setIfInBounds_toArray, List.set_cons_zero, List.set_cons_succ]
    refine seqT_read (fun w' => w'.heap[g1]? = some (.cells (wcells vx).toArray 28 (0, 0))) (fun w' e => (P3.out w' (Ext.trans (Ext.refl _).drew e)).2.2.1) _ (v := .agg (wcells vx).toArray) rfl (by rfl) (fun w' hF => exec_load_row rfl rfl hF rfl rfl (by rw [S_vx]; rfl)) ?_
    simp only [Act.put, List.setIfInBounds_toArray, List.set_cons_zero, List.set_cons_succ]
    repeat (first | (refine seqT_read (fun _ => True) (fun _ _ => trivial) _ (v := ?_) rfl ?_ ?_ ?_; rotate_left; (· rfl); (· intro w' hF; go_simp; (try with_reducible rfl)); simp only [Act.put, List.setIfInBounds_toArray, List.set_cons_zero, List.set_cons_succ]) | (refine seqT_skip _ rfl ?_ ?_; (· rfl); simp only [Act.put, List.setIfInBounds_toArray, List.set_cons_zero, List.set_cons_succ]))
    have SE : Hid (Ext w3 w3.drew) := (Ext.refl w3).drew
    generalize w3.drew = WC at *
    repeat' (first
      | exact seqT_stop
      | (refine seqT_do (i := 2) _ rfl ?_ ?_ (fun K1 hK1 => ?_)
         (· rfl)
         rotate_left
         go_simp
         refine (IX.out _ (P3.out _ SE.out).2.2.2.2.2).mono ?_
         rintro e0 WC ⟨rfl, e⟩
         refine hK1.out _ _ (e.mono SE.out.size) ?_
         clear hK1 K1
         (try replace hL := Lib.hid ((e.block _ (heap_lt hL.out)).trans hL.out))
         replace SE := Lib.hid (SE.out.trans e)
         clear e
         (try simp only [Act.put, List.setIfInBounds_toArray, List.set_cons_zero, List.set_cons_succ])
         repeat (first | (refine seqT_read (fun _ => True) (fun _ _ => trivial) _ (v := ?_) rfl ?_ ?_ ?_; rotate_left; (· rfl); (· intro w' hF; go_simp; (try with_reducible rfl)); simp only [Act.put, List.setIfInBounds_toArray, List.set_cons_zero, List.set_cons_succ]) | (refine seqT_skip _ rfl ?_ ?_; (· rfl); simp only [Act.put, List.setIfInBounds_toArray, List.set_cons_zero, List.set_cons_succ]))
         skip)
      | (refine seqT_do (i := 3) _ rfl ?_ ?_ (fun K1 hK1 => ?_)
         (· rfl)
         rotate_left
         go_simp
         refine (MXI.out _ (P3.out _ SE.out).2.2.2.2.2).mono ?_
         rintro e0 WC ⟨rfl, e⟩
         refine hK1.out _ _ (e.mono SE.out.size) ?_
         clear hK1 K1
         (try replace hL := Lib.hid ((e.block _ (heap_lt hL.out)).trans hL.out))
         replace SE := Lib.hid (SE.out.trans e)
         clear e
         (try simp only [Act.put, List.setIfInBounds_toArray, List.set_cons_zero, List.set_cons_succ])
         repeat (first | (refine seqT_read (fun _ => True) (fun _ _ => trivial) _ (v := ?_) rfl ?_ ?_ ?_; rotate_left; (· rfl); (· intro w' hF; go_simp; (try with_reducible rfl)); simp only [Act.put, List.setIfInBounds_toArray, List.set_cons_zero, List.set_cons_succ]) | (refine seqT_skip _ rfl ?_ ?_; (· rfl); simp only [Act.put, List.setIfInBounds_toArray, List.set_cons_zero, List.set_cons_succ]))
         skip)
      | (refine seqT_do (i := 4) _ rfl ?_ ?_ (fun K1 hK1 => ?_)
         (· rfl)
         rotate_left
         go_simp
         refine (KO.out _ (P3.out _ SE.out).2.2.2.2.2).mono ?_
         rintro e0 WC ⟨rfl, e⟩
         refine hK1.out _ _ (e.mono SE.out.size) ?_
         clear hK1 K1
         (try replace hL := Lib.hid ((e.block _ (heap_lt hL.out)).trans hL.out))
         replace SE := Lib.hid (SE.out.trans e)
         clear e
         (try simp only [Act.put, List.setIfInBounds_toArray, List.set_cons_zero, List.set_cons_succ])
         repeat (first | (refine seqT_read (fun _ => True) (fun _ _ => trivial) _ (v := ?_) rfl ?_ ?_ ?_; rotate_left; (· rfl); (· intro w' hF; go_simp; (try with_reducible rfl)); simp only [Act.put, List.setIfInBounds_toArray, List.set_cons_zero, List.set_cons_succ]) | (refine seqT_skip _ rfl ?_ ?_; (· rfl); simp only [Act.put, List.setIfInBounds_toArray, List.set_cons_zero, List.set_cons_succ]))
         skip)
      | (refine seqT_do (i := 5) _ rfl ?_ ?_ (fun K1 hK1 => ?_)
         (· rfl)
         rotate_left
         go_simp
         have e : Ext WC (WC.alloc (Obj.cells (cellsOf zk).toArray 23)) := (Ext.refl WC).alloc _
         obtain ⟨gL, hgL⟩ : ∃ g, g = WC.heap.size := ⟨_, rfl⟩
         have hL := Lib.hid (heap_alloc_new WC (Obj.cells (cellsOf zk).toArray 23))
         rw [← hgL] at hL ⊢
         have zl : w3.heap.size ≤ gL := by rw [hgL]; exact SE.out.size
         refine hK1.out _ _ (e.mono SE.out.size) ?_
         clear hK1 K1
         replace hgL := Lib.hid hgL
         replace SE := Lib.hid (SE.out.trans e)
         clear e
         generalize WC.alloc (Obj.cells (cellsOf zk).toArray 23) = WC at *
         (try simp only [Act.put, List.setIfInBounds_toArray, List.set_cons_zero, List.set_cons_succ])
         repeat (first | (refine seqT_read (fun _ => True) (fun _ _ => trivial) _ (v := ?_) rfl ?_ ?_ ?_; rotate_left; (· rfl); (· intro w' hF; go_simp; (try with_reducible rfl)); simp only [Act.put, List.setIfInBounds_toArray, List.set_cons_zero, List.set_cons_succ]) | (refine seqT_skip _ rfl ?_ ?_; (· rfl); simp only [Act.put, List.setIfInBounds_toArray, List.set_cons_zero, List.set_cons_succ]))
         skip)
      | (refine seqT_do (i := 6) _ rfl ?_ ?_ (fun K1 hK1 => ?_)
         (· rfl)
         rotate_left
         refine wp_store_row _ _ _ rfl gL (cellsOf k1).toArray rfl rfl 23 (cellsOf zk).toArray hL.out (by rw [S_k1]; rfl) (by simp only [S_k1, S_zk]) O_k1 ?_
         refine hK1.out _ _ (below_setRow (Below.refl _ _) zl _) ?_
         clear hK1 K1
         have S1 : Hid (Below w3.heap.size w3 (WC.setRow gL (cellsOf k1).toArray)) := below_setRow SE.out zl _
         have kx : Hid ((WC.setRow gL (cellsOf k1).toArray).heap[gL]? = some (.cells (cellsOf k1).toArray 23 (0, 0))) := setRow_heap _ _ _ _ _ _ hL.out
         (try simp only [Act.put, List.setIfInBounds_toArray, List.set_cons_zero, List.set_cons_succ])
         repeat (first | (refine seqT_read (fun _ => True) (fun _ _ => trivial) _ (v := ?_) rfl ?_ ?_ ?_; rotate_left; (· rfl); (· intro w' hF; go_simp; (try with_reducible rfl)); simp only [Act.put, List.setIfInBounds_toArray, List.set_cons_zero, List.set_cons_succ]) | (refine seqT_skip _ rfl ?_ ?_; (· rfl); simp only [Act.put, List.setIfInBounds_toArray, List.set_cons_zero, List.set_cons_succ]))
         refine seqT_done ?_
         go_wp2_with fail
         go_meet
         exact ⟨gL, rfl, S1.out, kx.out, zl⟩)
      )
  case rest =>
    obtain ⟨g9, rfl, E1, kr, hg⟩ := hcut
    have P4 : Hid (∀ s, Ext wc s → Ky s w.heap.size ka ∧ Ky s (w.heap.size + 1) kb ∧ Wr s g1 28 vx ∧ Wr s g2 28 vy ∧ Ky s g3 kx ∧ Ky s g9 k1 ∧ Ext w s) := fun s e => by
      obtain ⟨p0, p1, p2, p3, p4, p5⟩ := P3.out s (Ext.trans E1 e)
      exact ⟨p0, p1, p2, p3, p4, Ky.ext ⟨kr, L_k1⟩ e, p5⟩
    clear E1 kr hg P3

    have q4 := Lib.hid (P4.out _ (Ext.refl _)).2.2.2.2.1
    go_upto_region 7 with (first
      | (refine wpList_exec rfl (exec_load_row rfl rfl q4.out.1 rfl rfl (by rw [S_kx]; rfl)) ?_; simp only [Act.put, List.setIfInBounds_toArray, List.set_cons_zero, List.set_cons_succ])
      | (refine wpList_build_as rfl _ _ rfl (cellsOf zk).toArray (by simp only [List.map_toArray, List.map_nil]; exact b_zk.out) ?_; simp only [Act.put, List.setIfInBounds_toArray, List.set_cons_zero, List.set_cons_succ])
      | (refine wpList_eql_keyB rfl _ _ _ rfl kx zk false hzk.out rfl rfl L_kx L_zk ?_; simp only [Act.put, List.setIfInBounds_toArray, List.set_cons_zero, List.set_cons_succ]))
    clear q4
    refine wp_region_seq (R := Ext) Ext.refl (fun _ _ _ => Ext.trans) [0, 1, 2, 5, 3, 4, 6, 7, 8, 9, 10, 12, 15, 11, 13, 14, 16, 17, 18, 19, 20, 23, 21, 22, 24, 25, 26, 27, 28, 29, 30, 31, 32, 33, 34, 35, 36, 37, 38, 39, 40, 41, 42, 43, 44, 48, 45, 46, 47, 49, 50, 51, 52, 53, 54, 55, 56] [3, 4, 11, 13, 14, 21, 22, 45, 46, 47] [(0, 27, 64), (1, 28, 134217728), (2, 29, 268435968), (6, 30, 805306368), (10, 31, 1342177280), (2, 32, 268435968), (50, 33, 6710886400), (66, 34, 8858370048), (144, 35, 17179869184), (256, 36, 34359738496), (256, 37, 34359738624), (1792, 38, 240518168576), (256, 39, 34359738624), (6400, 40, 858993459200), (8448, 41, 1133871366144), (256, 42, 34359738880), (49408, 43, 6631429505024), (65792, 44, 8830452760576), (147456, 45, 17592186044416), (262144, 46, 35184372088960), (262144, 47, 35184372088960), (1835008, 48, 246290604621824), (2359296, 49, 316659348799488), (262144, 50, 35184372088832), (12845056, 51, 1724034232352768), (17039360, 52, 2286984185774080), (37748736, 53, 4503599627370496), (67108864, 54, 9007199254743040), (201326592, 55, 27021597764222976), (268435456, 56, 36028797018964992), (268435456, 57, 36028797018963968), (1879048192, 58, 252201579132747776), (2483027968, 59, 333266372425416704), (4630511616, 60, 585467951558164480), (8589934592, 61, 1152921504606849024), (25769803776, 62, 3458764513820540928), (42949672960, 63, 5764607523034234880), (68719476736, 64, 9223372036854776832), (68719476736, 65, 9223372036854775808), (481036337152, 66, 64563604257983430656), (627065225216, 67, 84163269836299829248), (1108168671232, 68, 148735881293538000896), (2199090364416, 69, 295156912378607566848), (4466765987840, 70, 590295810358705651712), (8796093022208, 71, 1180591620717411303552), (26388279066624, 72, 3541774862152233910272), (43980465111040, 73, 5902958103587056517120), (79164837199872, 74, 10625324586456701730816), (8796093022208, 75, 1180591620717411303936), (431008558088192, 76, 57848989415153153867776), (571746046443520, 77, 76738455346631734722560), (1266637395197952, 78, 151115727451828646838272), (2251799813685248, 79, 302231454903657293677056), (6755399441055744, 80, 906694364710971881029632), (11258999068426240, 81, 1511157274518286468382720), (20266198323167232, 82, 2720083094132915643088896), (72057594037927935, 5, 4835703278458516698824704)] (by kernel_rfl) (by kernel_rfl) (by kernel_rfl) rfl (by kernel_rfl) (by kernel_rfl) (fun _ _ d _ _ h => by cases d <;> exact h) ?_
    iterate 2 (first | (refine seq_read (fun _ => True) (fun _ _ => trivial) _ (v := ?_) rfl rfl (by rfl) ?_ ?_; rotate_left; (· intro w' hF; go_simp; (try with_reducible rfl)); simp only [Act.put, List.setIfInBounds_toArray, List.set_cons_zero, List.set_cons_succ]) | (refine seq_skip _ rfl rfl (by rfl) ?_; simp only [Act.put, List.setIfInBounds_toArray, List.set_cons_zero, List.set_cons_succ]))
    refine seq_read (fun w' => w'.heap[g3]? = some (.cells (cellsOf kx).toArray 23 (0, 0))) (fun w' e => (P4.out w' ((Ext.refl _).drew.trans e)).2.2.2.2.1.1) _ (v := .agg (cellsOf kx).toArray) rfl rfl (by rfl) (fun w' hF => exec_load_row rfl rfl hF rfl rfl (by rw [S_kx]; rfl)) ?_
    simp only [Act.put, List.setIfInBounds_toArray, List.set_cons_zero, List.set_cons_succ]
    refine seq_read (fun w' => w'.heap[g3]? = some (.cells (cellsOf kx).toArray 23 (0, 0))) (fun w' e => (P4.out w' ((Ext.refl _).drew.trans e)).2.2.2.2.1.1) _ (v := .agg (cellsOf kx).toArray) rfl rfl (by rfl) (fun w' hF => exec_load_row rfl rfl hF rfl rfl (by rw [S_kx]; rfl)) ?_
    simp only [Act.put, List.setIfInBounds_toArray, List.set_cons_zero, List.set_cons_succ]
    refine seq_do _ rfl rfl (by rfl) (fun K1 hK1 => ?_)
    go_simp
    refine (OFK.out _ (P4.out _ (Ext.refl _).drew).2.2.2.2.2.2).mono ?_
    rintro e w5 ⟨rfl, e1⟩
    refine hK1.out _ _ e1 ?_
    clear hK1 K1
    try simp only [Act.put, List.setIfInBounds_toArray, List.set_cons_zero, List.set_cons_succ]
    have P5 : Hid (∀ s, Ext w5 s → Ky s w.heap.size ka ∧ Ky s (w.heap.size + 1) kb ∧ Wr s g1 28 vx ∧ Wr s g2 28 vy ∧ Ky s g3 kx ∧ Ky s g9 k1 ∧ Ext w s) := fun s e => P4.out s ((Ext.refl _).drew.trans (e1.trans e))
    clear P4 e1
    refine seq_do _ rfl rfl (by rfl) (fun K1 hK1 => ?_)
    go_simp
    refine (KX.out _ (P5.out _ (Ext.refl _)).2.2.2.2.2.2).mono ?_
    rintro e w6 ⟨rfl, e1⟩
    refine hK1.out _ _ e1 ?_
    clear hK1 K1
    try simp only [Act.put, List.setIfInBounds_toArray, List.set_cons_zero, List.set_cons_succ]
    have P6 : Hid (∀ s, Ext w6 s → Ky s w.heap.size ka ∧ Ky s (w.heap.size + 1) kb ∧ Wr s g1 28 vx ∧ Wr s g2 28 vy ∧ Ky s g3 kx ∧ Ky s g9 k1 ∧ Ext w s) := fun s e => P5.out s (e1.trans e)
    clear P5 e1
    refine seq_read (fun _ => True) (fun _ _ => trivial) _ (v := .bool true) rfl rfl (by rfl) (fun w' _ => exec_eql_keyB (xs := kx) (ys := kx) (decide_eq_true rfl) L_kx L_kx rfl rfl rfl) ?_
    simp only [Act.put, List.setIfInBounds_toArray, List.set_cons_zero, List.set_cons_succ]
    iterate 2 (first | (refine seq_read (fun _ => True) (fun _ _ => trivial) _ (v := ?_) rfl rfl (by rfl) ?_ ?_; rotate_left; (· intro w' hF; go_simp; (try with_reducible rfl)); simp only [Act.put, List.setIfInBounds_toArray, List.set_cons_zero, List.set_cons_succ]) | (refine seq_skip _ rfl rfl (by rfl) ?_; simp only [Act.put, List.setIfInBounds_toArray, List.set_cons_zero, List.set_cons_succ]))
    refine seq_read (fun w' => w'.heap[g1]? = some (.cells (wcells vx).toArray 28 (0, 0))) (fun w' e => (P6.out w' e).2.2.1) _ (v := .agg (wcells vx).toArray) rfl rfl (by rfl) (fun w' hF => exec_load_row rfl rfl hF rfl rfl (by rw [S_vx]; rfl)) ?_
    simp only [Act.put, List.setIfInBounds_toArray, List.set_cons_zero, List.set_cons_succ]
    refine seq_read (fun w' => w'.heap[g2]? = some (.cells (wcells vy).toArray 28 (0, 0))) (fun w' e => (P6.out w' e).2.2.2.1) _ (v := .agg (wcells vy).toArray) rfl rfl (by rfl) (fun w' hF => exec_load_row rfl rfl hF rfl rfl (by rw [S_vy]; rfl)) ?_
    simp only [Act.put, List.setIfInBounds_toArray, List.set_cons_zero, List.set_cons_succ]
    refine seq_read (fun w' => w'.heap[g2]? = some (.cells (wcells vy).toArray 28 (0, 0))) (fun w' e => (P6.out w' e).2.2.2.1) _ (v := .agg (wcells vy).toArray) rfl rfl (by rfl) (fun w' hF => exec_load_row rfl rfl hF rfl rfl (by rw [S_vy]; rfl)) ?_
    simp only [Act.put, List.setIfInBounds_toArray, List.set_cons_zero, List.set_cons_succ]
    refine seq_read (fun w' => w'.heap[g3]? = some (.cells (cellsOf kx).toArray 23 (0, 0))) (fun w' e => (P6.out w' e).2.2.2.2.1.1) _ (v := .agg (cellsOf kx).toArray) rfl rfl (by rfl) (fun w' hF => exec_load_row rfl rfl hF rfl rfl (by rw [S_kx]; rfl)) ?_
    simp only [Act.put, List.setIfInBounds_toArray, List.set_cons_zero, List.set_cons_succ]
    refine seq_do _ rfl rfl (by rfl) (fun K1 hK1 => ?_)
    go_simp
    refine (AXY.out _ (P6.out _ (Ext.refl _)).2.2.2.2.2.2).mono ?_
    rintro e w7 ⟨rfl, e1⟩
    refine hK1.out _ _ e1 ?_
    clear hK1 K1
    try simp only [Act.put, List.setIfInBounds_toArray, List.set_cons_zero, List.set_cons_succ]
    have P7 : Hid (∀ s, Ext w7 s → Ky s w.heap.size ka ∧ Ky s (w.heap.size + 1) kb ∧ Wr s g1 28 vx ∧ Wr s g2 28 vy ∧ Ky s g3 kx ∧ Ky s g9 k1 ∧ Ext w s) := fun s e => P6.out s (e1.trans e)
    clear P6 e1
    refine seq_do _ rfl rfl (by rfl) (fun K1 hK1 => ?_)
    go_simp
    refine (SXY.out _ (P7.out _ (Ext.refl _)).2.2.2.2.2.2).mono ?_
    rintro e w8 ⟨rfl, e1⟩
    refine hK1.out _ _ e1 ?_
    clear hK1 K1
    try simp only [Act.put, List.setIfInBounds_toArray, List.set_cons_zero, List.set_cons_succ]
    have P8 : Hid (∀ s, Ext w8 s → Ky s w.heap.size ka ∧ Ky s (w.heap.size + 1) kb ∧ Wr s g1 28 vx ∧ Wr s g2 28 vy ∧ Ky s g3 kx ∧ Ky s g9 k1 ∧ Ext w s) := fun s e => P7.out s (e1.trans e)
    clear P7 e1
    refine seq_do _ rfl rfl (by rfl) (fun K1 hK1 => ?_)
    go_simp
    refine (KX.out _ (P8.out _ (Ext.refl _)).2.2.2.2.2.2).mono ?_
    rintro e w9 ⟨rfl, e1⟩
    refine hK1.out _ _ e1 ?_
    clear hK1 K1
    try simp only [Act.put, List.setIfInBounds_toArray, List.set_cons_zero, List.set_cons_succ]
    have P9 : Hid (∀ s, Ext w9 s → Ky s w.heap.size ka ∧ Ky s (w.heap.size + 1) kb ∧ Wr s g1 28 vx ∧ Wr s g2 28 vy ∧ Ky s g3 kx ∧ Ky s g9 k1 ∧ Ext w s) := fun s e => P8.out s (e1.trans e)
    clear P8 e1
    refine seq_read (fun _ => True) (fun _ _ => trivial) _ (v := .bool true) rfl rfl (by rfl) (fun w' _ => exec_eql_keyB (xs := kx) (ys := kx) (decide_eq_true rfl) L_kx L_kx rfl rfl rfl) ?_
    simp only [Act.put, List.setIfInBounds_toArray, List.set_cons_zero, List.set_cons_succ]
    iterate 2 (first | (refine seq_read (fun _ => True) (fun _ _ => trivial) _ (v := ?_) rfl rfl (by rfl) ?_ ?_; rotate_left; (· intro w' hF; go_simp; (try with_reducible rfl)); simp only [Act.put, List.setIfInBounds_toArray, List.set_cons_zero, List.set_cons_succ]) | (refine seq_skip _ rfl rfl (by rfl) ?_; simp only [Act.put, List.setIfInBounds_toArray, List.set_cons_zero, List.set_cons_succ]))
    refine seq_read (fun w' => w'.heap[g1]? = some (.cells (wcells vx).toArray 28 (0, 0))) (fun w' e => (P9.out w' e).2.2.1) _ (v := .agg (wcells vx).toArray) rfl rfl (by rfl) (fun w' hF => exec_load_row rfl rfl hF rfl rfl (by rw [S_vx]; rfl)) ?_
    simp only [Act.put, List.setIfInBounds_toArray, List.set_cons_zero, List.set_cons_succ]
    refine seq_read (fun w' => w'.heap[g1]? = some (.cells (wcells vx).toArray 28 (0, 0))) (fun w' e => (P9.out w' e).2.2.1) _ (v := .agg (wcells vx).toArray) rfl rfl (by rfl) (fun w' hF => exec_load_row rfl rfl hF rfl rfl (by rw [S_vx]; rfl)) ?_
    simp only [Act.put, List.setIfInBounds_toArray, List.set_cons_zero, List.set_cons_succ]
    refine seq_read (fun _ => True) (fun _ _ => trivial) _ (v := .agg (cellsOf zk).toArray) rfl rfl (by rfl) (fun w' _ => exec_build_as rfl (by simp only [List.map_toArray, List.map_cons, List.map_nil]; exact b_zk.out)) ?_
    simp only [Act.put, List.setIfInBounds_toArray, List.set_cons_zero, List.set_cons_succ]
    refine seq_do _ rfl rfl (by rfl) (fun K1 hK1 => ?_)
    go_simp
    refine (SXX.out _ (P9.out _ (Ext.refl _)).2.2.2.2.2.2).mono ?_
    rintro e w10 ⟨rfl, e1⟩
    refine hK1.out _ _ e1 ?_
    clear hK1 K1
    try simp only [Act.put, List.setIfInBounds_toArray, List.set_cons_zero, List.set_cons_succ]
    have P10 : Hid (∀ s, Ext w10 s → Ky s w.heap.size ka ∧ Ky s (w.heap.size + 1) kb ∧ Wr s g1 28 vx ∧ Wr s g2 28 vy ∧ Ky s g3 kx ∧ Ky s g9 k1 ∧ Ext w s) := fun s e => P9.out s (e1.trans e)
    clear P9 e1
    refine seq_do _ rfl rfl (by rfl) (fun K1 hK1 => ?_)
    go_simp
    refine (KZ.out _ (P10.out _ (Ext.refl _)).2.2.2.2.2.2).mono ?_
    rintro e w11 ⟨rfl, e1⟩
    refine hK1.out _ _ e1 ?_
    clear hK1 K1
    try simp only [Act.put, List.setIfInBounds_toArray, List.set_cons_zero, List.set_cons_succ]
    have P11 : Hid (∀ s, Ext w11 s → Ky s w.heap.size ka ∧ Ky s (w.heap.size + 1) kb ∧ Wr s g1 28 vx ∧ Wr s g2 28 vy ∧ Ky s g3 kx ∧ Ky s g9 k1 ∧ Ext w s) := fun s e => P10.out s (e1.trans e)
    clear P10 e1
    refine seq_read (fun _ => True) (fun _ _ => trivial) _ (v := .bool true) rfl rfl (by rfl) (fun w' _ => exec_eql_keyB (xs := zk) (ys := zk) (decide_eq_true rfl) L_zk L_zk rfl rfl rfl) ?_
    simp only [Act.put, List.setIfInBounds_toArray, List.set_cons_zero, List.set_cons_succ]
    iterate 12 (first | (refine seq_read (fun _ => True) (fun _ _ => trivial) _ (v := ?_) rfl rfl (by rfl) ?_ ?_; rotate_left; (· intro w' hF; go_simp; (try with_reducible rfl)); simp only [Act.put, List.setIfInBounds_toArray, List.set_cons_zero, List.set_cons_succ]) | (refine seq_skip _ rfl rfl (by rfl) ?_; simp only [Act.put, List.setIfInBounds_toArray, List.set_cons_zero, List.set_cons_succ]))
    refine seq_read (fun w' => w'.heap[g9]? = some (.cells (cellsOf k1).toArray 23 (0, 0))) (fun w' e => (P11.out w' e).2.2.2.2.2.1.1) _ (v := .agg (cellsOf k1).toArray) rfl rfl (by rfl) (fun w' hF => exec_load_row rfl rfl hF rfl rfl (by rw [S_k1]; rfl)) ?_
    simp only [Act.put, List.setIfInBounds_toArray, List.set_cons_zero, List.set_cons_succ]
    refine seq_read (fun _ => True) (fun _ _ => trivial) _ (v := .agg (cellsOf k1).toArray) rfl rfl (by rfl) (fun w' _ => exec_build_as rfl (by simp only [List.map_toArray, List.map_cons, List.map_nil]; exact b_k1.out)) ?_
    simp only [Act.put, List.setIfInBounds_toArray, List.set_cons_zero, List.set_cons_succ]
    refine seq_read (fun _ => True) (fun _ _ => trivial) _ (v := .bool true) rfl rfl (by rfl) (fun w' _ => exec_eql_keyB (xs := k1) (ys := k1) (decide_eq_true rfl) L_k1 L_k1 rfl rfl rfl) ?_
    simp only [Act.put, List.setIfInBounds_toArray, List.set_cons_zero, List.set_cons_succ]
    iterate 4 (first | (refine seq_read (fun _ => True) (fun _ _ => trivial) _ (v := ?_) rfl rfl (by rfl) ?_ ?_; rotate_left; (· intro w' hF; go_simp; (try with_reducible rfl)); simp only [Act.put, List.setIfInBounds_toArray, List.set_cons_zero, List.set_cons_succ]) | (refine seq_skip _ rfl rfl (by rfl) ?_; simp only [Act.put, List.setIfInBounds_toArray, List.set_cons_zero, List.set_cons_succ]))
    refine seq_read (fun w' => w'.heap[g1]? = some (.cells (wcells vx).toArray 28 (0, 0))) (fun w' e => (P11.out w' e).2.2.1) _ (v := .agg (wcells vx).toArray) rfl rfl (by rfl) (fun w' hF => exec_load_row rfl rfl hF rfl rfl (by rw [S_vx]; rfl)) ?_
    simp only [Act.put, List.setIfInBounds_toArray, List.set_cons_zero, List.set_cons_succ]
    refine seq_read (fun w' => w'.heap[g3]? = some (.cells (cellsOf kx).toArray 23 (0, 0))) (fun w' e => (P11.out w' e).2.2.2.2.1.1) _ (v := .agg (cellsOf kx).toArray) rfl rfl (by rfl) (fun w' hF => exec_load_row rfl rfl hF rfl rfl (by rw [S_kx]; rfl)) ?_
    simp only [Act.put, List.setIfInBounds_toArray, List.set_cons_zero, List.set_cons_succ]
    refine seq_do _ rfl rfl (by rfl) (fun K1 hK1 => ?_)
    go_simp
    refine (IX.out _ (P11.out _ (Ext.refl _)).2.2.2.2.2.2).mono ?_
    rintro e w12 ⟨rfl, e1⟩
    refine hK1.out _ _ e1 ?_
    clear hK1 K1
    try simp only [Act.put, List.setIfInBounds_toArray, List.set_cons_zero, List.set_cons_succ]
    have P12 : Hid (∀ s, Ext w12 s → Ky s w.heap.size ka ∧ Ky s (w.heap.size + 1) kb ∧ Wr s g1 28 vx ∧ Wr s g2 28 vy ∧ Ky s g3 kx ∧ Ky s g9 k1 ∧ Ext w s) := fun s e => P11.out s (e1.trans e)
    clear P11 e1
    refine seq_do _ rfl rfl (by rfl) (fun K1 hK1 => ?_)
    go_simp
    refine (IIX.out _ (P12.out _ (Ext.refl _)).2.2.2.2.2.2).mono ?_
    rintro e w13 ⟨rfl, e1⟩
    refine hK1.out _ _ e1 ?_
    clear hK1 K1
    try simp only [Act.put, List.setIfInBounds_toArray, List.set_cons_zero, List.set_cons_succ]
    have P13 : Hid (∀ s, Ext w13 s → Ky s w.heap.size ka ∧ Ky s (w.heap.size + 1) kb ∧ Wr s g1 28 vx ∧ Wr s g2 28 vy ∧ Ky s g3 kx ∧ Ky s g9 k1 ∧ Ext w s) := fun s e => P12.out s (e1.trans e)
    clear P12 e1
    refine seq_do _ rfl rfl (by rfl) (fun K1 hK1 => ?_)
    go_simp
    refine (KX.out _ (P13.out _ (Ext.refl _)).2.2.2.2.2.2).mono ?_
    rintro e w14 ⟨rfl, e1⟩
    refine hK1.out _ _ e1 ?_
    clear hK1 K1
    try simp only [Act.put, List.setIfInBounds_toArray, List.set_cons_zero, List.set_cons_succ]
    have P14 : Hid (∀ s, Ext w14 s → Ky s w.heap.size ka ∧ Ky s (w.heap.size + 1) kb ∧ Wr s g1 28 vx ∧ Wr s g2 28 vy ∧ Ky s g3 kx ∧ Ky s g9 k1 ∧ Ext w s) := fun s e => P13.out s (e1.trans e)
    clear P13 e1
    refine seq_read (fun _ => True) (fun _ _ => trivial) _ (v := .bool true) rfl rfl (by rfl) (fun w' _ => exec_eql_keyB (xs := kx) (ys := kx) (decide_eq_true rfl) L_kx L_kx rfl rfl rfl) ?_
    simp only [Act.put, List.setIfInBounds_toArray, List.set_cons_zero, List.set_cons_succ]
    generalize hb31 : bt kx 31 = b31 at *
    replace hb31 := Lib.hid hb31
    have t128 : decide ((b31 : Int) < 128) = true := decide_eq_true (by omega)
    repeat (first | (refine seq_read _ (fun w' e => (show w'.cell? ⟨g3, 31, none⟩ = some (.int .u8 (b31 : Int)) from by rw [← hb31.out]; exact (P14.out w' e).2.2.2.2.1.cell (by decide))) _ (v := ?_) rfl rfl (by rfl) ?_ ?_; rotate_left; (· intro w' hF; go_simp; (try with_reducible rfl)); simp only [Act.put, List.setIfInBounds_toArray, List.set_cons_zero, List.set_cons_succ]) | (refine seq_skip _ rfl rfl (by rfl) ?_; simp only [Act.put, List.setIfInBounds_toArray, List.set_cons_zero, List.set_cons_succ]))
    refine seq_done ?_
    have EE := Lib.hid (P14.out _ (Ext.refl _)).2.2.2.2.2.2
    clear P14
    go_wp2_with fail
    go_ret
    exact ⟨rfl, EE.out⟩

theorem fieldBack_calls {ka kb : List UInt8} {w : World} (ha : ka.length = 32) (hb : kb.length = 32) {tg : TypeId × Nat × Nat} (hG : Gp w tg) :
    Calls Tryd.prog 6 #[.agg (cellsOf ka).toArray, .agg (cellsOf kb).toArray] w fun e w' => e = .returned (.bool true) ∧ Ext w w' := by
  by_cases h : ofV ka = 0
  · exact fieldBack_zero ha hb h hG
  · exact fieldBack_more ha hb h hG
end Go.Proofs.YteognebhlehjlaaDoor
