/-
  keys.Common; the document's.
-/
import Derived.Test.YtadnmiedmcckkaaDoorKeys
namespace Go.Proofs.YtadnmiedmcckkaaDoor
open Go.ChangeShapes Go.WideShapes Go.ChangeAt Go.RowKit Go.Deep
set_option maxRecDepth 100000

theorem comL_len (s p : List UInt8) : (comL s p).length = 32 := kL_len _
theorem zero_built : Tryd.prog.built 23 [] = some (cellsOf (List.replicate 32 0)).toArray := by rw [zeros32_cells]; exact zeros32_built


set_option maxHeartbeats 4000000 in
theorem common_calls {w : World} {s q p : List UInt8} (hs : s.length = 32) (hq : q.length = 32) (hp : p.length = 32) {tp : TypeId × Nat × Nat} (hP : Gp w tp) :
    Calls Tryd.prog 21 #[.agg (cellsOf (s ++ q)).toArray, .agg (cellsOf p).toArray] w fun e w' => e = .returned (.tuple #[.agg (cellsOf (comL s p)).toArray, .int .i64 (comE (comL s p))]) ∧ Ext w w' := by
  have MU : Hid (∀ W, Ext w W → Calls Tryd.prog 14 #[.agg (cellsOf s).toArray, .agg (cellsOf p).toArray] W fun e w' => e = .returned (.agg (cellsOf (comL s p)).toArray) ∧ Ext W w') := fun W e => mult_calls hs hp (hP.ext e)
  have L_rk := comL_len s p
  have hE : Hid (comE (comL s p) = if comL s p = List.replicate 32 0 then 12 else 0) := rfl
  clear hP
  generalize comL s p = rk at *
  generalize hce : comE rk = ce at *
  replace hce := Lib.hid hce
  have S_rk : (cellsOf rk).toArray.size = 32 := by simp [cellsOf_len, L_rk]
  have O_rk := cellsOf_one rk
  have S_s : (cellsOf s).length = 32 := by simp [cellsOf_len, hs]
  have S_p : (cellsOf p).toArray.size = 32 := by simp [cellsOf_len, hp]
  have S_o : (cellsOf (s ++ q)).toArray.size = 64 := by simp [cellsOf_len, hs, hq]
  have hal : ∀ w, (zeroValue 23).run Tryd.prog w = .ok (.agg (cellsOf (List.replicate 32 0)).toArray) w := fun w => by rw [zeros32_cells]; exact key_alloc w
  have hbz := Lib.hid zero_built
  have L_zk : (List.replicate 32 (0 : UInt8)).length = 32 := rfl
  generalize List.replicate 32 (0 : UInt8) = zk at *
  have S_zk : (cellsOf zk).toArray.size = 32 := by simp [cellsOf_len, L_zk]
  have O_zk := cellsOf_one zk
  have B0 : Hid (∀ s', Ext (((w.alloc (Obj.cells (cellsOf (s ++ q)).toArray 37)).alloc (Obj.cells (cellsOf p).toArray 23)).alloc (Obj.cells (cellsOf zk).toArray 23)) s' → Kp s' w.heap.size (s ++ q) ∧ Ky s' (w.heap.size + 1) p ∧ Ky s' (w.heap.size + 1 + 1) zk ∧ Ext w s') := fun s' e => ⟨Kp.ext ⟨heap_alloc30 _ _ _ _, by rw [List.length_append, hs, hq]⟩ e, Ky.ext ⟨heap_alloc31 _ _ _ _, hp⟩ e, Ky.ext ⟨heap_alloc32 _ _ _ _, L_zk⟩ e, ((((Ext.refl w).alloc _).alloc _).alloc _).trans e⟩
  go_enter Tryd.func21, Tryd.ntmps21
  go_upto_region 1 with fail
  refine wp_gen (fun W => ∀ s', Ext W s' → Kp s' w.heap.size (s ++ q) ∧ Ky s' (w.heap.size + 1) p ∧ Ky s' (w.heap.size + 1 + 1) zk ∧ Ext w s') B0.out ?_
  clear B0
  rintro w0 P0
  replace P0 := Lib.hid P0
  have q0 := Lib.hid (P0.out _ (Ext.refl _)).1
  have q1 := Lib.hid (P0.out _ (Ext.refl _)).2.1
  go_wp2_with (first
    | (refine wpList_load_mid rfl (g := w.heap.size) (off := 0) (ys := cellsOf s) rfl rfl q0.out.at0 rfl rfl (by rw [S_s]; rfl) ?_; simp only [Act.put, List.setIfInBounds_toArray, List.set_cons_zero, List.set_cons_succ])
    | (refine wpList_load_row rfl 23 _ rfl (w.heap.size + 1) rfl 23 (cellsOf p).toArray (0, 0) _ q1.out.1 rfl rfl (by rw [S_p]; rfl) ?_; simp only [Act.put, List.setIfInBounds_toArray, List.set_cons_zero, List.set_cons_succ]))
  refine (MU.out _ (P0.out _ (Ext.refl _)).2.2.2).mono ?_
  rintro e u_ ⟨rfl, e1⟩
  have a1 : Hid ((u_.alloc (Obj.cells (cellsOf zk).toArray 23)).heap[u_.heap.size]? = some (.cells (cellsOf zk).toArray 23 (0, 0))) := heap_alloc_new _ _
  have E_ : Ext w0 ((u_.alloc (Obj.cells (cellsOf zk).toArray 23)).setRow u_.heap.size (cellsOf rk).toArray) := e1.trans (below_setRow ((Ext.refl u_).alloc _) (Nat.le_refl _) _)
  go_upto_region 2 with (refine wpList_store_row rfl 23 _ _ rfl u_.heap.size (cellsOf rk).toArray rfl rfl 23 _ a1.out (by rw [S_rk]; rfl) (by rw [S_rk, S_zk]) O_rk ?_; simp only [Act.put])
  obtain ⟨g6, hg_⟩ : ∃ g, g = u_.heap.size := ⟨_, rfl⟩
  refine wp_gen (fun W => Ky W g6 rk ∧ Ky W (w.heap.size + 1 + 1) zk ∧ Ext w W) ⟨⟨by rw [hg_]; exact setRow_heap _ _ _ _ _ _ a1.out, L_rk⟩, (P0.out _ E_).2.2⟩ ?_
  rw [← hg_]
  clear hg_ a1 E_ e1 q0 q1 P0 MU
  rintro w1 ⟨k1, z1, x1⟩
  have S1 : Hid (∀ (W : World), Ext w1 W → Ky W (g6 + 1) zk → True) := fun _ _ _ => trivial
  clear S1
  have n1 : Hid (Ky (w1.alloc (Obj.cells (cellsOf zk).toArray 23)) w1.heap.size zk) := ⟨heap_alloc_new _ _, L_zk⟩
  have m1 : Hid (Ext w1 (w1.alloc (Obj.cells (cellsOf zk).toArray 23))) := (Ext.refl _).alloc _
  obtain ⟨g7, hg_⟩ : ∃ g, g = w1.heap.size := ⟨_, rfl⟩
  go_upto_region 3 with fail
  refine wp_gen (fun W => Ky W g6 rk ∧ Ky W g7 zk ∧ Ky W (w.heap.size + 1 + 1) zk ∧ Ext w W) ⟨k1.ext m1.out, by rw [hg_]; exact n1.out, z1.ext m1.out, x1.trans m1.out⟩ ?_
  rw [← hg_]
  clear hg_ n1 m1 k1 z1 x1
  rintro w2 ⟨k1, n1, z1, x1⟩
  have Q2 : Hid (∀ s', Ext w2 s' → Ky s' g6 rk ∧ Ky s' g7 zk ∧ Ky s' (w.heap.size + 1 + 1) zk ∧ Ext w s') := fun s' e => ⟨k1.ext e, n1.ext e, z1.ext e, x1.trans e⟩
  have SA : Hid (∀ W, Ky W g6 rk → Ky W g7 zk → Calls Tryd.prog 46 #[.slice (some ⟨g6, 0, none⟩) 32 32, .slice (some ⟨g7, 0, none⟩) 32 32] W fun e w' => e = .returned (.bool (decide (rk = zk))) ∧ Ext W w') := fun W h1 h2 => by
    refine (same_calls h1.bs h2.bs).mono ?_
    rintro e w' ⟨he, k, rfl⟩
    exact ⟨he, (Ext.refl W).drewN k⟩
  clear k1 n1 z1 x1
  obtain ⟨b, hb⟩ : ∃ b, b = decide (rk = zk) := ⟨_, rfl⟩
  rw [← hb] at SA
  replace hb := Lib.hid (fun _ : Unit => hb)
  refine wp_region_free (R := Ext) Ext.refl (fun _ _ _ => Ext.trans) [0, 1, 2] [] [0, 0, 3] [true, true, true] [(0, 13, 128), (0, 14, 256), (3, 15, 24576)] (by kernel_rfl) (by kernel_rfl) (by kernel_rfl) (by kernel_rfl) ?_
  refine free_det (fun _ => Ext.refl _) _ rfl (v := ?_) (d := 13) rfl rfl ?_ ?_
  rotate_left
  · intro a_ w_ hev hR hk
    have e6 : a_.eval (.tmp 6) = _ := hk 6 rfl
    clear hk
    generalize a_.eval = ev at *
    obtain ⟨hev1, hev2, hev3⟩ := hev
    go_simp
    (try with_reducible rfl)
  refine free_det (fun _ => Ext.refl _) _ rfl (v := ?_) (d := 14) rfl rfl ?_ ?_
  rotate_left
  · intro a_ w_ hev hR hk
    have e7 : a_.eval (.tmp 7) = _ := hk 7 rfl
    clear hk
    generalize a_.eval = ev at *
    obtain ⟨hev1, hev2, hev3⟩ := hev
    go_simp
    (try with_reducible rfl)
  refine free_step _ rfl (fun u _ => u = .bool b) (d := 15) rfl (fun _ _ _ h _ => h) rfl ?_ ?_
  · intro a_ w_ hev hR hk K1 hK1
    have e12 : a_.eval (.tmp 12) = _ := hk 12 rfl
    have e13 : a_.eval (.tmp 13) = _ := hk 13 rfl
    clear hk
    have f12 := ev_get.trans e12
    have f13 := ev_get.trans e13
    go_simp
    refine (SA.out _ (Q2.out w_ (Ext.trans (Ext.refl _).drew hR)).1 (Q2.out w_ (Ext.trans (Ext.refl _).drew hR)).2.1).mono ?_
    rintro e_ w2_ ⟨rfl, x_⟩
    exact hK1.out _ _ x_ rfl
  intro v_ w3 hR hV_ hN_
  obtain ⟨hv2, hv1, hv0, _⟩ := hV_
  replace hv0 : v_ 0 = _ := hv0
  replace hv1 : v_ 1 = _ := hv1
  replace hv2 : v_ 2 = _ := hv2
  dsimp only [putE, dOpt]
  clear hN_
  rw [hv0, hv1, hv2]
  simp only [Act.put, List.setIfInBounds_toArray, List.set_cons_zero, List.set_cons_succ]
  clear hv0 hv1 hv2
  have Q3 := Lib.hid (Q2.out w3 ((Ext.refl _).drew.trans hR))
  refine any_nil (by kernel_rfl) ?_
  clear hR Q2 SA
  have k2 := Lib.hid Q3.out.1
  have z2 := Lib.hid Q3.out.2.2.1
  have x2 := Lib.hid Q3.out.2.2.2
  clear Q3
  by_cases hz : rk = zk
  · have hbt : b = true := by rw [hb.out ()]; exact decide_eq_true hz
    have hE2 : Hid (ce = 12) := by unfold Hid; rw [hE.out, if_pos hz]
    clear hE hce hb
    subst hbt
    have hz' : Hid (cellsOf rk = cellsOf zk) := by unfold Hid; rw [hz]
    clear hz
    go_wp2_with (first
      | (refine wpList_build_as rfl _ _ rfl (cellsOf zk).toArray (by simp only [List.map_toArray, List.map_nil]; exact hbz.out) ?_; simp only [Act.put, List.setIfInBounds_toArray, List.set_cons_zero, List.set_cons_succ])
      | (refine wpList_store_row rfl 23 _ _ rfl (w.heap.size + 1 + 1) (cellsOf zk).toArray rfl rfl 23 _ z2.out.1 (by rw [S_zk]; rfl) rfl O_zk ?_; simp only [Act.put]))
    (try simp only [Exit.inBlock, Exit.then])
    refine bodyPost_ret (v := .tuple #[.agg (cellsOf zk).toArray, .int .i64 12]) ?_ rfl ?_
    · exact results_row_tmp rfl _ _ (w.heap.size + 1 + 1) 23 (cellsOf zk).toArray (0, 0) _ _ rfl rfl (setRow_heap _ _ _ _ _ _ z2.out.1) rfl rfl (by rw [S_zk]; rfl)
    exact ⟨by rw [hE2.out, hz'.out], below_setRow x2.out (by omega) _⟩
  · have hbt : b = false := by rw [hb.out ()]; exact decide_eq_false hz
    have hE2 : Hid (ce = 0) := by unfold Hid; rw [hE.out, if_neg hz]
    clear hE hce hb hz
    subst hbt
    go_wp2_with (first
      | (refine wpList_load_row rfl 23 _ rfl g6 rfl 23 (cellsOf rk).toArray (0, 0) _ k2.out.1 rfl rfl (by rw [S_rk]; rfl) ?_; simp only [Act.put, List.setIfInBounds_toArray, List.set_cons_zero, List.set_cons_succ])
      | (refine wpList_store_row rfl 23 _ _ rfl (w.heap.size + 1 + 1) (cellsOf rk).toArray rfl rfl 23 _ z2.out.1 (by rw [S_rk]; rfl) (by rw [S_rk, S_zk]) O_rk ?_; simp only [Act.put]))
    (try simp only [Exit.inBlock, Exit.then])
    refine bodyPost_ret (v := .tuple #[.agg (cellsOf rk).toArray, .int .i64 0]) ?_ rfl ?_
    · exact results_row_tmp rfl _ _ (w.heap.size + 1 + 1) 23 (cellsOf rk).toArray (0, 0) _ _ rfl rfl (setRow_heap _ _ _ _ _ _ z2.out.1) rfl rfl (by rw [S_rk]; rfl)
    exact ⟨by rw [hE2.out], below_setRow x2.out (by omega) _⟩

end Go.Proofs.YtadnmiedmcckkaaDoor
