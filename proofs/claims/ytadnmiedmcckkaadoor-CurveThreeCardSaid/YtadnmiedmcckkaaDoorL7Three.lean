/-
  CurveThree: three who go on by one another's keys have the same, whichever way.
-/
import Derived.Test.YtadnmiedmcckkaaDoorCurve2
import Derived.Test.YtadnmiedmcckkaaDoorFree
import Derived.Test.YtadnmiedmcckkaaDoorFldBack
namespace Go.Proofs.YtadnmiedmcckkaaDoor
open Go.ChangeShapes Go.WideShapes Go.ChangeAt Go.RowKit Go.Deep
set_option maxRecDepth 100000

set_option maxHeartbeats 8000000 in
theorem curveThree_calls {ka kb kc : List UInt8} {w : World} (hka : ka.length = 32) (hkb : kb.length = 32) (hkc : kc.length = 32) {tg : TypeId × Nat × Nat} (hG : Gp w tg) :
    Calls Tryd.prog 5 #[.agg (cellsOf ka).toArray, .agg (cellsOf kb).toArray, .agg (cellsOf kc).toArray] w fun e w' => e = .returned (.bool true) ∧ Ext w w' := by
  have AW : Hid (∀ W, Ext w W → Calls Tryd.prog 13 #[] W fun e w' => e = .returned (.bool true) ∧ Ext W w') := fun W e => awake7_calls (hG.ext e)
  have BA : Hid (∀ W, Ext w W → Calls Tryd.prog 16 #[.agg (cellsOf (ka)).toArray] W fun e w' => e = .returned (.agg (cellsOf (kL (multN ka 9))).toArray) ∧ Ext W w') := fun W e => by
    exact base_calls hka (hG.ext e)
  have BC : Hid (∀ W, Ext w W → Calls Tryd.prog 16 #[.agg (cellsOf (kc)).toArray] W fun e w' => e = .returned (.agg (cellsOf (kL (multN kc 9))).toArray) ∧ Ext W w') := fun W e => by
    exact base_calls hkc (hG.ext e)
  have MBA : Hid (∀ W, Ext w W → Calls Tryd.prog 14 #[.agg (cellsOf (kb)).toArray, .agg (cellsOf (kL (multN ka 9))).toArray] W fun e w' => e = .returned (.agg (cellsOf (kL (multN kb (multN ka 9)))).toArray) ∧ Ext W w') := fun W e => by
    have := mult_calls hkb (kL_len (multN ka 9)) (hG.ext e)
    rw [ofV_kL (multN_lt _ _)] at this
    exact this
  have MC : Hid (∀ W, Ext w W → Calls Tryd.prog 14 #[.agg (cellsOf (kc)).toArray, .agg (cellsOf (kL (multN kb (multN ka 9)))).toArray] W fun e w' => e = .returned (.agg (cellsOf (kL (multN kc (multN kb (multN ka 9))))).toArray) ∧ Ext W w') := fun W e => by
    have := mult_calls hkc (kL_len (multN kb (multN ka 9))) (hG.ext e)
    rw [ofV_kL (multN_lt _ _)] at this
    exact this
  have MBC : Hid (∀ W, Ext w W → Calls Tryd.prog 14 #[.agg (cellsOf (kb)).toArray, .agg (cellsOf (kL (multN kc 9))).toArray] W fun e w' => e = .returned (.agg (cellsOf (kL (multN kb (multN kc 9)))).toArray) ∧ Ext W w') := fun W e => by
    have := mult_calls hkb (kL_len (multN kc 9)) (hG.ext e)
    rw [ofV_kL (multN_lt _ _)] at this
    exact this
  have MA : Hid (∀ W, Ext w W → Calls Tryd.prog 14 #[.agg (cellsOf (ka)).toArray, .agg (cellsOf (kL (multN kb (multN kc 9)))).toArray] W fun e w' => e = .returned (.agg (cellsOf (kL (multN kc (multN kb (multN ka 9))))).toArray) ∧ Ext W w') := fun W e => by
    have := mult_calls hka (kL_len (multN kb (multN kc 9))) (hG.ext e)
    rw [ofV_kL (multN_lt _ _)] at this
    rwa [mult_comm kb ka (multN_lt _ _), mult_comm kc ka (show 9 < P25 by decide +kernel), mult_comm kc kb (multN_lt _ _)] at this
  have MCA : Hid (∀ W, Ext w W → Calls Tryd.prog 14 #[.agg (cellsOf (kc)).toArray, .agg (cellsOf (kL (multN ka 9))).toArray] W fun e w' => e = .returned (.agg (cellsOf (kL (multN kc (multN ka 9)))).toArray) ∧ Ext W w') := fun W e => by
    have := mult_calls hkc (kL_len (multN ka 9)) (hG.ext e)
    rw [ofV_kL (multN_lt _ _)] at this
    exact this
  have MB : Hid (∀ W, Ext w W → Calls Tryd.prog 14 #[.agg (cellsOf (kb)).toArray, .agg (cellsOf (kL (multN kc (multN ka 9)))).toArray] W fun e w' => e = .returned (.agg (cellsOf (kL (multN kc (multN kb (multN ka 9))))).toArray) ∧ Ext W w') := fun W e => by
    have := mult_calls hkb (kL_len (multN kc (multN ka 9))) (hG.ext e)
    rw [ofV_kL (multN_lt _ _)] at this
    rwa [mult_comm kc kb (multN_lt _ _)] at this
  clear hG
  have L_kr := kL_len (multN kc (multN kb (multN ka 9)))
  have L_k3 := kL_len (multN kb (multN ka 9))
  have L_k4 := kL_len (multN kb (multN kc 9))
  have L_k5 := kL_len (multN kc (multN ka 9))
  have L_k1 := kL_len (multN ka 9)
  have L_k2 := kL_len (multN kc 9)
  generalize kL (multN kc (multN kb (multN ka 9))) = kr at *
  generalize kL (multN kb (multN ka 9)) = k3 at *
  generalize kL (multN kb (multN kc 9)) = k4 at *
  generalize kL (multN kc (multN ka 9)) = k5 at *
  generalize kL (multN ka 9) = k1 at *
  generalize kL (multN kc 9) = k2 at *
  have L_ka := hka
  have L_kb := hkb
  have L_kc := hkc
  have S_kr : (cellsOf kr).toArray.size = 32 := by simp [cellsOf_len, L_kr]
  have O_kr := cellsOf_one kr
  have S_k3 : (cellsOf k3).toArray.size = 32 := by simp [cellsOf_len, L_k3]
  have O_k3 := cellsOf_one k3
  have S_k4 : (cellsOf k4).toArray.size = 32 := by simp [cellsOf_len, L_k4]
  have O_k4 := cellsOf_one k4
  have S_k5 : (cellsOf k5).toArray.size = 32 := by simp [cellsOf_len, L_k5]
  have O_k5 := cellsOf_one k5
  have S_k1 : (cellsOf k1).toArray.size = 32 := by simp [cellsOf_len, L_k1]
  have O_k1 := cellsOf_one k1
  have S_k2 : (cellsOf k2).toArray.size = 32 := by simp [cellsOf_len, L_k2]
  have O_k2 := cellsOf_one k2
  have S_ka : (cellsOf ka).toArray.size = 32 := by simp [cellsOf_len, L_ka]
  have O_ka := cellsOf_one ka
  have S_kb : (cellsOf kb).toArray.size = 32 := by simp [cellsOf_len, L_kb]
  have O_kb := cellsOf_one kb
  have S_kc : (cellsOf kc).toArray.size = 32 := by simp [cellsOf_len, L_kc]
  have O_kc := cellsOf_one kc
  have hal : ∀ w, (zeroValue 23).run Tryd.prog w = .ok (.agg (cellsOf (List.replicate 32 0)).toArray) w := fun w => by rw [zeros32_cells]; exact key_alloc w
  have L_zk : (List.replicate 32 (0 : UInt8)).length = 32 := rfl
  generalize List.replicate 32 (0 : UInt8) = zk at *
  have S_zk : (cellsOf zk).toArray.size = 32 := by simp [cellsOf_len, L_zk]
  have B0 : Hid (∀ s, Ext (((w.alloc (Obj.cells (cellsOf ka).toArray 23)).alloc (Obj.cells (cellsOf kb).toArray 23)).alloc (Obj.cells (cellsOf kc).toArray 23)) s → Ky s w.heap.size ka ∧ Ky s (w.heap.size + 1) kb ∧ Ky s (w.heap.size + 1 + 1) kc ∧ Ext w s) := fun s e => ⟨Ky.ext ⟨heap_alloc30 _ _ _ _, L_ka⟩ e, Ky.ext ⟨heap_alloc31 _ _ _ _, L_kb⟩ e, Ky.ext ⟨heap_alloc32 _ _ _ _, L_kc⟩ e, ((((Ext.refl w).alloc _).alloc _).alloc _).trans e⟩
  go_enter Tryd.func5, Tryd.ntmps5
  go_wp2_with fail
  refine (AW.out _ (B0.out _ (Ext.refl _)).2.2.2).mono ?_
  rintro e w0 ⟨rfl, e1⟩
  have P0 : Hid (∀ s, Ext w0 s → Ky s w.heap.size ka ∧ Ky s (w.heap.size + 1) kb ∧ Ky s (w.heap.size + 1 + 1) kc ∧ Ext w s) := fun s e => B0.out s (e1.trans e)
  clear AW B0 e1
  go_wp2_with fail
  refine wp_region_free (R := Ext) Ext.refl (fun _ _ _ => Ext.trans) [0, 1, 2, 3, 4, 5, 6] [7] [0, 0, 0, 4, 14, 31, 0, 127] [true, true, true, true, true, true, true, false] [(0, 12, 64), (0, 13, 32), (0, 14, 16), (4, 15, 16384), (10, 16, 40960), (17, 17, 69632), (0, 9, 0), (127, 0, 131584)] (by kernel_rfl) (by kernel_rfl) (by kernel_rfl) (by kernel_rfl) ?_
  refine free_det (fun _ => Ext.refl _) _ rfl (v := .agg (cellsOf kc).toArray) (d := 12) rfl rfl ?_ ?_
  · intro a_ w_ hev hR hk
    have e5 : a_.eval (.tmp 5) = _ := hk 5 rfl
    exact (exec_load_row rfl e5 (P0.out w_ (Ext.trans (Ext.refl _).drew hR)).2.2.1.1 rfl rfl (by rw [S_kc]; rfl))
  refine free_det (fun _ => Ext.refl _) _ rfl (v := .agg (cellsOf kb).toArray) (d := 13) rfl rfl ?_ ?_
  · intro a_ w_ hev hR hk
    have e4 : a_.eval (.tmp 4) = _ := hk 4 rfl
    exact (exec_load_row rfl e4 (P0.out w_ (Ext.trans (Ext.refl _).drew hR)).2.1.1 rfl rfl (by rw [S_kb]; rfl))
  refine free_det (fun _ => Ext.refl _) _ rfl (v := .agg (cellsOf ka).toArray) (d := 14) rfl rfl ?_ ?_
  · intro a_ w_ hev hR hk
    have e3 : a_.eval (.tmp 3) = _ := hk 3 rfl
    exact (exec_load_row rfl e3 (P0.out w_ (Ext.trans (Ext.refl _).drew hR)).1.1 rfl rfl (by rw [S_ka]; rfl))
  refine free_step _ rfl (fun u _ => u = .agg (cellsOf k1).toArray) (d := 15) rfl (fun _ _ _ h _ => h) rfl ?_ ?_
  · intro a_ w_ hev hR hk K1 hK1
    have e13 : a_.eval (.tmp 13) = _ := hk 13 rfl
    clear hk
    have f13 := ev_get.trans e13
    go_simp
    refine (BA.out _ (P0.out w_ (Ext.trans (Ext.refl _).drew hR)).2.2.2).mono ?_
    rintro e_ w2_ ⟨rfl, x_⟩
    exact hK1.out _ _ x_ rfl
  refine free_step _ rfl (fun u _ => u = .agg (cellsOf k3).toArray) (d := 16) rfl (fun _ _ _ h _ => h) rfl ?_ ?_
  · intro a_ w_ hev hR hk K1 hK1
    have e12 : a_.eval (.tmp 12) = _ := hk 12 rfl
    have e14 : a_.eval (.tmp 14) = _ := hk 14 rfl
    clear hk
    have f12 := ev_get.trans e12
    have f14 := ev_get.trans e14
    go_simp
    refine (MBA.out _ (P0.out w_ (Ext.trans (Ext.refl _).drew hR)).2.2.2).mono ?_
    rintro e_ w2_ ⟨rfl, x_⟩
    exact hK1.out _ _ x_ rfl
  refine free_step _ rfl (fun u _ => u = .agg (cellsOf kr).toArray) (d := 17) rfl (fun _ _ _ h _ => h) rfl ?_ ?_
  · intro a_ w_ hev hR hk K1 hK1
    have e11 : a_.eval (.tmp 11) = _ := hk 11 rfl
    have e15 : a_.eval (.tmp 15) = _ := hk 15 rfl
    clear hk
    have f11 := ev_get.trans e11
    have f15 := ev_get.trans e15
    go_simp
    refine (MC.out _ (P0.out w_ (Ext.trans (Ext.refl _).drew hR)).2.2.2).mono ?_
    rintro e_ w2_ ⟨rfl, x_⟩
    exact hK1.out _ _ x_ rfl
  refine free_new _ rfl (fun u w_ => ∃ g, u = .pointer (some ⟨g, 0, none⟩) ∧ w0.drew.heap.size ≤ g ∧ w_.heap[g]? = some (.cells (cellsOf zk).toArray 23 (0, 0))) (d := 9) rfl (fun _ _ _ h e => by obtain ⟨g, h1, h2, h3⟩ := h; exact ⟨g, h1, h2, (e.block g (heap_lt h3)).trans h3⟩) rfl (by decide) (fun _ _ h => by obtain ⟨g, h1, h2, h3⟩ := h; subst h1; exact ⟨g, rfl, heap_lt h3⟩) ?_ ?_
  · intro a_ w_ hev hR hk K1 hK1
    go_simp
    exact hK1.out _ _ ((Ext.refl _).alloc _) ⟨_, rfl, hR.size, heap_alloc_new _ _⟩ (fun _ q => by cases q; exact Nat.le_refl _)
  intro v_ w0q hR hV_ hN_
  obtain ⟨hv6, hv5, hv4, hv3, hv2, hv1, hv0, _⟩ := hV_
  replace hv0 : v_ 0 = _ := hv0
  replace hv1 : v_ 1 = _ := hv1
  replace hv2 : v_ 2 = _ := hv2
  replace hv3 : v_ 3 = _ := hv3
  replace hv4 : v_ 4 = _ := hv4
  replace hv5 : v_ 5 = _ := hv5
  skip
  dsimp only [putE, dOpt]
  obtain ⟨g_6, hv6, gb_6, gc_6⟩ := hv6
  clear hN_
  rw [hv0, hv1, hv2, hv3, hv4, hv5, hv6]
  simp only [Act.put, List.setIfInBounds_toArray, List.set_cons_zero, List.set_cons_succ]
  clear hv0 hv1 hv2 hv3 hv4 hv5 hv6
  refine any_more (z := 7) _ rfl rfl (by kernel_rfl) ?_
  intro K1 hK1
  refine wp_store_row _ _ _ rfl g_6 (cellsOf kr).toArray rfl rfl 23 (cellsOf zk).toArray gc_6 (by rw [S_kr]; rfl) (by rw [S_kr, S_zk]) O_kr ?_
  refine hK1.out _ _ ?_
  clear hK1 K1
  refine any_nil (by kernel_rfl) ?_
  refine gen_q (fun W => Ext w0 W ∧ Ky W g_6 kr) ⟨(below_setRow ((Ext.refl w0).drew.trans hR) gb_6 _), ⟨(setRow_heap _ _ _ _ _ _ gc_6), L_kr⟩⟩ ?_
  clear hR gc_6
  rintro w1 ⟨x_, k0⟩
  generalize g_6 = g1_8 at *
  have P1 : Hid (∀ s, Ext w1 s → Ky s w.heap.size ka ∧ Ky s (w.heap.size + 1) kb ∧ Ky s (w.heap.size + 1 + 1) kc ∧ Ky s g1_8 kr ∧ Ext w s) := fun s e => by
    obtain ⟨p0, p1, p2, p3⟩ := P0.out s (x_.trans e)
    exact ⟨p0, p1, p2, k0.ext e, p3⟩
  clear P0 x_ k0
  clear gb_6
  go_upto_region 3 with fail
  refine wp_region_free (R := Ext) Ext.refl (fun _ _ _ => Ext.trans) [0, 1, 2, 3, 4, 5, 6] [7] [0, 0, 0, 4, 14, 31, 0, 127] [true, true, true, true, true, true, true, false] [(0, 18, 16), (0, 19, 32), (0, 20, 64), (4, 21, 1048576), (10, 22, 2621440), (17, 23, 4456448), (0, 10, 0), (127, 0, 8389632)] (by kernel_rfl) (by kernel_rfl) (by kernel_rfl) (by kernel_rfl) ?_
  refine free_det (fun _ => Ext.refl _) _ rfl (v := .agg (cellsOf ka).toArray) (d := 18) rfl rfl ?_ ?_
  · intro a_ w_ hev hR hk
    have e3 : a_.eval (.tmp 3) = _ := hk 3 rfl
    exact (exec_load_row rfl e3 (P1.out w_ (Ext.trans (Ext.refl _).drew hR)).1.1 rfl rfl (by rw [S_ka]; rfl))
  refine free_det (fun _ => Ext.refl _) _ rfl (v := .agg (cellsOf kb).toArray) (d := 19) rfl rfl ?_ ?_
  · intro a_ w_ hev hR hk
    have e4 : a_.eval (.tmp 4) = _ := hk 4 rfl
    exact (exec_load_row rfl e4 (P1.out w_ (Ext.trans (Ext.refl _).drew hR)).2.1.1 rfl rfl (by rw [S_kb]; rfl))
  refine free_det (fun _ => Ext.refl _) _ rfl (v := .agg (cellsOf kc).toArray) (d := 20) rfl rfl ?_ ?_
  · intro a_ w_ hev hR hk
    have e5 : a_.eval (.tmp 5) = _ := hk 5 rfl
    exact (exec_load_row rfl e5 (P1.out w_ (Ext.trans (Ext.refl _).drew hR)).2.2.1.1 rfl rfl (by rw [S_kc]; rfl))
  refine free_step _ rfl (fun u _ => u = .agg (cellsOf k2).toArray) (d := 21) rfl (fun _ _ _ h _ => h) rfl ?_ ?_
  · intro a_ w_ hev hR hk K1 hK1
    have e19 : a_.eval (.tmp 19) = _ := hk 19 rfl
    clear hk
    have f19 := ev_get.trans e19
    go_simp
    refine (BC.out _ (P1.out w_ (Ext.trans (Ext.refl _).drew hR)).2.2.2.2).mono ?_
    rintro e_ w2_ ⟨rfl, x_⟩
    exact hK1.out _ _ x_ rfl
  refine free_step _ rfl (fun u _ => u = .agg (cellsOf k4).toArray) (d := 22) rfl (fun _ _ _ h _ => h) rfl ?_ ?_
  · intro a_ w_ hev hR hk K1 hK1
    have e18 : a_.eval (.tmp 18) = _ := hk 18 rfl
    have e20 : a_.eval (.tmp 20) = _ := hk 20 rfl
    clear hk
    have f18 := ev_get.trans e18
    have f20 := ev_get.trans e20
    go_simp
    refine (MBC.out _ (P1.out w_ (Ext.trans (Ext.refl _).drew hR)).2.2.2.2).mono ?_
    rintro e_ w2_ ⟨rfl, x_⟩
    exact hK1.out _ _ x_ rfl
  refine free_step _ rfl (fun u _ => u = .agg (cellsOf kr).toArray) (d := 23) rfl (fun _ _ _ h _ => h) rfl ?_ ?_
  · intro a_ w_ hev hR hk K1 hK1
    have e17 : a_.eval (.tmp 17) = _ := hk 17 rfl
    have e21 : a_.eval (.tmp 21) = _ := hk 21 rfl
    clear hk
    have f17 := ev_get.trans e17
    have f21 := ev_get.trans e21
    go_simp
    refine (MA.out _ (P1.out w_ (Ext.trans (Ext.refl _).drew hR)).2.2.2.2).mono ?_
    rintro e_ w2_ ⟨rfl, x_⟩
    exact hK1.out _ _ x_ rfl
  refine free_new _ rfl (fun u w_ => ∃ g, u = .pointer (some ⟨g, 0, none⟩) ∧ w1.drew.heap.size ≤ g ∧ w_.heap[g]? = some (.cells (cellsOf zk).toArray 23 (0, 0))) (d := 10) rfl (fun _ _ _ h e => by obtain ⟨g, h1, h2, h3⟩ := h; exact ⟨g, h1, h2, (e.block g (heap_lt h3)).trans h3⟩) rfl (by decide) (fun _ _ h => by obtain ⟨g, h1, h2, h3⟩ := h; subst h1; exact ⟨g, rfl, heap_lt h3⟩) ?_ ?_
  · intro a_ w_ hev hR hk K1 hK1
    go_simp
    exact hK1.out _ _ ((Ext.refl _).alloc _) ⟨_, rfl, hR.size, heap_alloc_new _ _⟩ (fun _ q => by cases q; exact Nat.le_refl _)
  intro v_ w1q hR hV_ hN_
  obtain ⟨hv6, hv5, hv4, hv3, hv2, hv1, hv0, _⟩ := hV_
  replace hv0 : v_ 0 = _ := hv0
  replace hv1 : v_ 1 = _ := hv1
  replace hv2 : v_ 2 = _ := hv2
  replace hv3 : v_ 3 = _ := hv3
  replace hv4 : v_ 4 = _ := hv4
  replace hv5 : v_ 5 = _ := hv5
  skip
  dsimp only [putE, dOpt]
  obtain ⟨g_6, hv6, gb_6, gc_6⟩ := hv6
  clear hN_
  rw [hv0, hv1, hv2, hv3, hv4, hv5, hv6]
  simp only [Act.put, List.setIfInBounds_toArray, List.set_cons_zero, List.set_cons_succ]
  clear hv0 hv1 hv2 hv3 hv4 hv5 hv6
  refine any_more (z := 7) _ rfl rfl (by kernel_rfl) ?_
  intro K1 hK1
  refine wp_store_row _ _ _ rfl g_6 (cellsOf kr).toArray rfl rfl 23 (cellsOf zk).toArray gc_6 (by rw [S_kr]; rfl) (by rw [S_kr, S_zk]) O_kr ?_
  refine hK1.out _ _ ?_
  clear hK1 K1
  refine any_nil (by kernel_rfl) ?_
  refine gen_q (fun W => Ext w1 W ∧ Ky W g_6 kr) ⟨(below_setRow ((Ext.refl w1).drew.trans hR) gb_6 _), ⟨(setRow_heap _ _ _ _ _ _ gc_6), L_kr⟩⟩ ?_
  clear hR gc_6
  rintro w2 ⟨x_, k0⟩
  generalize g_6 = g2_9 at *
  have P2 : Hid (∀ s, Ext w2 s → Ky s w.heap.size ka ∧ Ky s (w.heap.size + 1) kb ∧ Ky s (w.heap.size + 1 + 1) kc ∧ Ky s g1_8 kr ∧ Ky s g2_9 kr ∧ Ext w s) := fun s e => by
    obtain ⟨p0, p1, p2, p3, p4⟩ := P1.out s (x_.trans e)
    exact ⟨p0, p1, p2, p3, k0.ext e, p4⟩
  clear P1 x_ k0
  clear gb_6
  go_upto_region 4 with fail
  refine wp_region_free (R := Ext) Ext.refl (fun _ _ _ => Ext.trans) [0, 1, 2, 3, 4, 5, 6, 7, 8, 9, 10, 11, 12, 13, 14, 15, 16] [] [0, 1, 3, 3, 15, 31, 63, 127, 127, 127, 127, 1151, 3711, 8063, 16383, 32767, 65535] [true, true, true, true, true, true, true, true, true, true, true, true, true, true, true, true, true] [(0, 24, 256), (1, 25, 16777216), (2, 26, 33554944), (2, 27, 33555456), (14, 28, 234881024), (18, 29, 301989888), (34, 30, 536870912), (64, 31, 1073742336), (64, 32, 1073741856), (64, 33, 1073741888), (64, 34, 1073741840), (1088, 35, 18253611008), (2624, 36, 44023414784), (4416, 37, 74088185856), (8384, 38, 140660178944), (16448, 39, 275951648768), (65535, 7, 549755813888)] (by kernel_rfl) (by kernel_rfl) (by kernel_rfl) (by kernel_rfl) ?_
  refine free_det (fun _ => Ext.refl _) _ rfl (v := ?_) (d := 24) rfl rfl ?_ ?_
  rotate_left
  · intro a_ w_ hev hR hk
    have e7 : a_.eval (.tmp 7) = _ := hk 7 rfl
    clear hk
    generalize a_.eval = ev at *
    obtain ⟨hev1, hev2, hev3⟩ := hev
    go_simp
    (try with_reducible rfl)
  refine free_det (fun _ => Ext.refl _) _ rfl (v := ?_) (d := 25) rfl rfl ?_ ?_
  rotate_left
  · intro a_ w_ hev hR hk
    have e23 : a_.eval (.tmp 23) = _ := hk 23 rfl
    clear hk
    generalize a_.eval = ev at *
    obtain ⟨hev1, hev2, hev3⟩ := hev
    go_simp
    (try with_reducible rfl)
  refine free_detG (fun _ => Ext.refl _) _ rfl (v := .agg (cellsOf kr).toArray) (d := 26) rfl 24 true rfl rfl (fun _ _ h => h) ?_ ?_
  · intro a_ w_ hev hR hk
    have e8 : a_.eval (.tmp 8) = _ := hk 8 rfl
    exact (exec_load_row rfl e8 (P2.out w_ (Ext.trans (Ext.refl _).drew hR)).2.2.2.1.1 rfl rfl (by rw [S_kr]; rfl))
  refine free_detG (fun _ => Ext.refl _) _ rfl (v := .agg (cellsOf kr).toArray) (d := 27) rfl 24 true rfl rfl (fun _ _ h => h) ?_ ?_
  · intro a_ w_ hev hR hk
    have e9 : a_.eval (.tmp 9) = _ := hk 9 rfl
    exact (exec_load_row rfl e9 (P2.out w_ (Ext.trans (Ext.refl _).drew hR)).2.2.2.2.1.1 rfl rfl (by rw [S_kr]; rfl))
  refine free_detG (fun _ => Ext.refl _) _ rfl (v := .bool true) (d := 28) rfl 24 true rfl rfl (fun _ _ h => h) ?_ ?_
  · intro a_ w_ hev hR hk
    have e25 : a_.eval (.tmp 25) = _ := hk 25 rfl
    have e26 : a_.eval (.tmp 26) = _ := hk 26 rfl
    exact (exec_eql_keyB (xs := kr) (ys := kr) (decide_eq_true rfl) L_kr L_kr rfl e25 e26)
  refine free_det (fun _ => Ext.refl _) _ rfl (v := ?_) (d := 29) rfl rfl ?_ ?_
  rotate_left
  · intro a_ w_ hev hR hk
    have e24 : a_.eval (.tmp 24) = _ := hk 24 rfl
    have e27 : a_.eval (.tmp 27) = _ := hk 27 rfl
    clear hk
    generalize a_.eval = ev at *
    obtain ⟨hev1, hev2, hev3⟩ := hev
    go_simp
    (try with_reducible rfl)
  refine free_det (fun _ => Ext.refl _) _ rfl (v := ?_) (d := 30) rfl rfl ?_ ?_
  rotate_left
  · intro a_ w_ hev hR hk
    have e28 : a_.eval (.tmp 28) = _ := hk 28 rfl
    clear hk
    generalize a_.eval = ev at *
    obtain ⟨hev1, hev2, hev3⟩ := hev
    go_simp
    (try with_reducible rfl)
  refine free_detG (fun _ => Ext.refl _) _ rfl (v := .agg (cellsOf kr).toArray) (d := 31) rfl 29 true rfl rfl (fun _ _ h => h) ?_ ?_
  · intro a_ w_ hev hR hk
    have e8 : a_.eval (.tmp 8) = _ := hk 8 rfl
    exact (exec_load_row rfl e8 (P2.out w_ (Ext.trans (Ext.refl _).drew hR)).2.2.2.1.1 rfl rfl (by rw [S_kr]; rfl))
  refine free_detG (fun _ => Ext.refl _) _ rfl (v := .agg (cellsOf kb).toArray) (d := 32) rfl 29 true rfl rfl (fun _ _ h => h) ?_ ?_
  · intro a_ w_ hev hR hk
    have e4 : a_.eval (.tmp 4) = _ := hk 4 rfl
    exact (exec_load_row rfl e4 (P2.out w_ (Ext.trans (Ext.refl _).drew hR)).2.1.1 rfl rfl (by rw [S_kb]; rfl))
  refine free_detG (fun _ => Ext.refl _) _ rfl (v := .agg (cellsOf kc).toArray) (d := 33) rfl 29 true rfl rfl (fun _ _ h => h) ?_ ?_
  · intro a_ w_ hev hR hk
    have e5 : a_.eval (.tmp 5) = _ := hk 5 rfl
    exact (exec_load_row rfl e5 (P2.out w_ (Ext.trans (Ext.refl _).drew hR)).2.2.1.1 rfl rfl (by rw [S_kc]; rfl))
  refine free_detG (fun _ => Ext.refl _) _ rfl (v := .agg (cellsOf ka).toArray) (d := 34) rfl 29 true rfl rfl (fun _ _ h => h) ?_ ?_
  · intro a_ w_ hev hR hk
    have e3 : a_.eval (.tmp 3) = _ := hk 3 rfl
    exact (exec_load_row rfl e3 (P2.out w_ (Ext.trans (Ext.refl _).drew hR)).1.1 rfl rfl (by rw [S_ka]; rfl))
  refine free_stepG _ rfl (fun u _ => u = .agg (cellsOf k1).toArray) (d := 35) rfl (fun _ _ _ h _ => h) 29 true rfl rfl (fun _ _ h => h) ?_ ?_
  · intro a_ w_ hev hR hk K1 hK1
    have e33 : a_.eval (.tmp 33) = _ := hk 33 rfl
    clear hk
    have f33 := ev_get.trans e33
    go_simp
    refine (BA.out _ (P2.out w_ (Ext.trans (Ext.refl _).drew hR)).2.2.2.2.2).mono ?_
    rintro e_ w2_ ⟨rfl, x_⟩
    exact hK1.out _ _ x_ rfl
  refine free_stepG _ rfl (fun u _ => u = .agg (cellsOf k5).toArray) (d := 36) rfl (fun _ _ _ h _ => h) 29 true rfl rfl (fun _ _ h => h) ?_ ?_
  · intro a_ w_ hev hR hk K1 hK1
    have e32 : a_.eval (.tmp 32) = _ := hk 32 rfl
    have e34 : a_.eval (.tmp 34) = _ := hk 34 rfl
    clear hk
    have f32 := ev_get.trans e32
    have f34 := ev_get.trans e34
    go_simp
    refine (MCA.out _ (P2.out w_ (Ext.trans (Ext.refl _).drew hR)).2.2.2.2.2).mono ?_
    rintro e_ w2_ ⟨rfl, x_⟩
    exact hK1.out _ _ x_ rfl
  refine free_stepG _ rfl (fun u _ => u = .agg (cellsOf kr).toArray) (d := 37) rfl (fun _ _ _ h _ => h) 29 true rfl rfl (fun _ _ h => h) ?_ ?_
  · intro a_ w_ hev hR hk K1 hK1
    have e31 : a_.eval (.tmp 31) = _ := hk 31 rfl
    have e35 : a_.eval (.tmp 35) = _ := hk 35 rfl
    clear hk
    have f31 := ev_get.trans e31
    have f35 := ev_get.trans e35
    go_simp
    refine (MB.out _ (P2.out w_ (Ext.trans (Ext.refl _).drew hR)).2.2.2.2.2).mono ?_
    rintro e_ w2_ ⟨rfl, x_⟩
    exact hK1.out _ _ x_ rfl
  refine free_detG (fun _ => Ext.refl _) _ rfl (v := .bool true) (d := 38) rfl 29 true rfl rfl (fun _ _ h => h) ?_ ?_
  · intro a_ w_ hev hR hk
    have e30 : a_.eval (.tmp 30) = _ := hk 30 rfl
    have e36 : a_.eval (.tmp 36) = _ := hk 36 rfl
    exact (exec_eql_keyB (xs := kr) (ys := kr) (decide_eq_true rfl) L_kr L_kr rfl e30 e36)
  refine free_det (fun _ => Ext.refl _) _ rfl (v := ?_) (d := 39) rfl rfl ?_ ?_
  rotate_left
  · intro a_ w_ hev hR hk
    have e29 : a_.eval (.tmp 29) = _ := hk 29 rfl
    have e37 : a_.eval (.tmp 37) = _ := hk 37 rfl
    clear hk
    generalize a_.eval = ev at *
    obtain ⟨hev1, hev2, hev3⟩ := hev
    go_simp
    (try with_reducible rfl)
  refine free_det (fun _ => Ext.refl _) _ rfl (v := ?_) (d := 7) rfl rfl ?_ ?_
  rotate_left
  · intro a_ w_ hev hR hk
    have e38 : a_.eval (.tmp 38) = _ := hk 38 rfl
    clear hk
    generalize a_.eval = ev at *
    obtain ⟨hev1, hev2, hev3⟩ := hev
    go_simp
    (try with_reducible rfl)
  intro v_ w2q hR hV_ hN_
  obtain ⟨hv16, hv15, hv14, hv13, hv12, hv11, hv10, hv9, hv8, hv7, hv6, hv5, hv4, hv3, hv2, hv1, hv0, _⟩ := hV_
  replace hv0 : v_ 0 = _ := hv0
  replace hv1 : v_ 1 = _ := hv1
  replace hv2 : v_ 2 = _ := hv2
  replace hv3 : v_ 3 = _ := hv3
  replace hv4 : v_ 4 = _ := hv4
  replace hv5 : v_ 5 = _ := hv5
  replace hv6 : v_ 6 = _ := hv6
  replace hv7 : v_ 7 = _ := hv7
  replace hv8 : v_ 8 = _ := hv8
  replace hv9 : v_ 9 = _ := hv9
  replace hv10 : v_ 10 = _ := hv10
  replace hv11 : v_ 11 = _ := hv11
  replace hv12 : v_ 12 = _ := hv12
  replace hv13 : v_ 13 = _ := hv13
  replace hv14 : v_ 14 = _ := hv14
  replace hv15 : v_ 15 = _ := hv15
  replace hv16 : v_ 16 = _ := hv16
  dsimp only [putE, dOpt]
  clear hN_
  rw [hv0, hv1, hv2, hv3, hv4, hv5, hv6, hv7, hv8, hv9, hv10, hv11, hv12, hv13, hv14, hv15, hv16]
  simp only [Act.put, List.setIfInBounds_toArray, List.set_cons_zero, List.set_cons_succ]
  clear hv0 hv1 hv2 hv3 hv4 hv5 hv6 hv7 hv8 hv9 hv10 hv11 hv12 hv13 hv14 hv15 hv16
  refine any_nil (by kernel_rfl) ?_
  have EX := Lib.hid ((P2.out _ ((Ext.refl _).drew.trans hR)).2.2.2.2.2)
  clear P2 hR
  go_wp2_with fail
  go_ret
  exact ⟨rfl, EX.out⟩
end Go.Proofs.YtadnmiedmcckkaaDoor
