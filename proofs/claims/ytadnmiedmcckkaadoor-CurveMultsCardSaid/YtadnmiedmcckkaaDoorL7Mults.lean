import Derived.Test.YtadnmiedmcckkaaDoorPkC
import Derived.Test.YtadnmiedmcckkaaDoorFree
import Derived.Test.YtadnmiedmcckkaaDoorRbase
/-
  CurveMults: what any two keys come to, and any secret's public key.
-/
namespace Go.Proofs.YtadnmiedmcckkaaDoor
open Go.ChangeShapes Go.WideShapes Go.ChangeAt Go.RowKit Go.Deep
set_option maxRecDepth 100000

set_option maxHeartbeats 8000000 in
theorem curveMults_calls {ka kb : List UInt8} {w : World} (hka : ka.length = 32) (hkb : kb.length = 32) {tg : TypeId × Nat × Nat} (hG : Gp w tg) :
    Calls Tryd.prog 3 #[.agg (cellsOf ka).toArray, .agg (cellsOf kb).toArray] w fun e w' => e = .returned (.bool true) ∧ Ext w w' := by
  have AW : Hid (∀ W, Ext w W → Calls Tryd.prog 13 #[] W fun e w' => e = .returned (.bool true) ∧ Ext W w') := fun W e => awake7_calls (hG.ext e)
  have MU : Hid (∀ W, Ext w W → Calls Tryd.prog 14 #[.agg (cellsOf (ka)).toArray, .agg (cellsOf (kb)).toArray] W fun e w' => e = .returned (.agg (cellsOf (kL (multN ka (ofV kb)))).toArray) ∧ Ext W w') := fun W e => by
    exact mult_calls hka hkb (hG.ext e)
  have RM : Hid (∀ W, Ext w W → Calls Tryd.prog 15 #[.agg (cellsOf (ka)).toArray, .agg (cellsOf (kb)).toArray] W fun e w' => e = .returned (.agg (cellsOf (kL (multN ka (ofV kb)))).toArray) ∧ Ext W w') := fun W e => by
    exact rmult_calls hka hkb
  have BA : Hid (∀ W, Ext w W → Calls Tryd.prog 16 #[.agg (cellsOf (ka)).toArray] W fun e w' => e = .returned (.agg (cellsOf (kL (multN ka 9))).toArray) ∧ Ext W w') := fun W e => by
    exact base_calls hka (hG.ext e)
  have RB : Hid (∀ W, Ext w W → Calls Tryd.prog 17 #[.agg (cellsOf (ka)).toArray] W fun e w' => e = .returned (.agg (cellsOf (kL (multN ka 9))).toArray) ∧ Ext W w') := fun W e => by
    exact rbase_calls hka
  clear hG
  have L_kk := kL_len (multN ka (ofV kb))
  have L_kx := kL_len (multN ka 9)
  generalize kL (multN ka (ofV kb)) = kk at *
  generalize kL (multN ka 9) = kx at *
  have L_ka := hka
  have L_kb := hkb
  have S_kk : (cellsOf kk).toArray.size = 32 := by simp [cellsOf_len, L_kk]
  have O_kk := cellsOf_one kk
  have S_kx : (cellsOf kx).toArray.size = 32 := by simp [cellsOf_len, L_kx]
  have O_kx := cellsOf_one kx
  have S_ka : (cellsOf ka).toArray.size = 32 := by simp [cellsOf_len, L_ka]
  have O_ka := cellsOf_one ka
  have S_kb : (cellsOf kb).toArray.size = 32 := by simp [cellsOf_len, L_kb]
  have O_kb := cellsOf_one kb
  have B0 : Hid (∀ s, Ext ((w.alloc (Obj.cells (cellsOf ka).toArray 23)).alloc (Obj.cells (cellsOf kb).toArray 23)) s → Ky s w.heap.size ka ∧ Ky s (w.heap.size + 1) kb ∧ Ext w s) := fun s e => ⟨Ky.ext ⟨heap_alloc1 _ _ _, L_ka⟩ e, Ky.ext ⟨heap_alloc2 _ _ _, L_kb⟩ e, (((Ext.refl w).alloc _).alloc _).trans e⟩
  go_enter Tryd.func3, Tryd.ntmps3
  go_wp2_with fail
  refine (AW.out _ (B0.out _ (Ext.refl _)).2.2).mono ?_
  rintro e w0 ⟨rfl, e1⟩
  have P0 : Hid (∀ s, Ext w0 s → Ky s w.heap.size ka ∧ Ky s (w.heap.size + 1) kb ∧ Ext w s) := fun s e => B0.out s (e1.trans e)
  clear AW B0 e1
  go_wp2_with fail
  refine wp_region_free (R := Ext) Ext.refl (fun _ _ _ => Ext.trans) [0, 1, 2, 3, 4, 5, 6, 7, 8, 9, 10, 11, 12, 13, 14, 15, 16, 17] [] [0, 1, 3, 3, 15, 3, 3, 127, 255, 511, 1023, 2047, 4095, 2047, 16383, 32767, 65535, 131071] [true, true, true, true, true, true, true, true, true, true, true, true, true, true, true, true, true, true] [(0, 8, 64), (1, 9, 256), (2, 10, 520), (2, 11, 528), (14, 12, 3584), (2, 13, 520), (2, 14, 528), (114, 15, 25088), (146, 16, 37376), (258, 17, 66048), (640, 18, 131072), (1024, 19, 262152), (3072, 20, 786432), (1024, 21, 262152), (13312, 22, 2359296), (21504, 23, 5505024), (33792, 24, 8650752), (131071, 5, 16777216)] (by kernel_rfl) (by kernel_rfl) (by kernel_rfl) (by kernel_rfl) ?_
  refine free_det (fun _ => Ext.refl _) _ rfl (v := ?_) (d := 8) rfl rfl ?_ ?_
  rotate_left
  · intro a_ w_ hev hR hk
    have e5 : a_.eval (.tmp 5) = _ := hk 5 rfl
    clear hk
    generalize a_.eval = ev at *
    obtain ⟨hev1, hev2, hev3⟩ := hev
    go_simp
    (try with_reducible rfl)
  refine free_det (fun _ => Ext.refl _) _ rfl (v := ?_) (d := 9) rfl rfl ?_ ?_
  rotate_left
  · intro a_ w_ hev hR hk
    have e7 : a_.eval (.tmp 7) = _ := hk 7 rfl
    clear hk
    generalize a_.eval = ev at *
    obtain ⟨hev1, hev2, hev3⟩ := hev
    go_simp
    (try with_reducible rfl)
  refine free_detG (fun _ => Ext.refl _) _ rfl (v := .agg (cellsOf ka).toArray) (d := 10) rfl 8 true rfl rfl (fun _ _ h => h) ?_ ?_
  · intro a_ w_ hev hR hk
    have e2 : a_.eval (.tmp 2) = _ := hk 2 rfl
    exact (exec_load_row rfl e2 (P0.out w_ (Ext.trans (Ext.refl _).drew hR)).1.1 rfl rfl (by rw [S_ka]; rfl))
  refine free_detG (fun _ => Ext.refl _) _ rfl (v := .agg (cellsOf kb).toArray) (d := 11) rfl 8 true rfl rfl (fun _ _ h => h) ?_ ?_
  · intro a_ w_ hev hR hk
    have e3 : a_.eval (.tmp 3) = _ := hk 3 rfl
    exact (exec_load_row rfl e3 (P0.out w_ (Ext.trans (Ext.refl _).drew hR)).2.1.1 rfl rfl (by rw [S_kb]; rfl))
  refine free_stepG _ rfl (fun u _ => u = .agg (cellsOf kk).toArray) (d := 12) rfl (fun _ _ _ h _ => h) 8 true rfl rfl (fun _ _ h => h) ?_ ?_
  · intro a_ w_ hev hR hk K1 hK1
    have e9 : a_.eval (.tmp 9) = _ := hk 9 rfl
    have e10 : a_.eval (.tmp 10) = _ := hk 10 rfl
    clear hk
    have f9 := ev_get.trans e9
    have f10 := ev_get.trans e10
    go_simp
    refine (MU.out _ (P0.out w_ (Ext.trans (Ext.refl _).drew hR)).2.2).mono ?_
    rintro e_ w2_ ⟨rfl, x_⟩
    exact hK1.out _ _ x_ rfl
  refine free_detG (fun _ => Ext.refl _) _ rfl (v := .agg (cellsOf ka).toArray) (d := 13) rfl 8 true rfl rfl (fun _ _ h => h) ?_ ?_
  · intro a_ w_ hev hR hk
    have e2 : a_.eval (.tmp 2) = _ := hk 2 rfl
    exact (exec_load_row rfl e2 (P0.out w_ (Ext.trans (Ext.refl _).drew hR)).1.1 rfl rfl (by rw [S_ka]; rfl))
  refine free_detG (fun _ => Ext.refl _) _ rfl (v := .agg (cellsOf kb).toArray) (d := 14) rfl 8 true rfl rfl (fun _ _ h => h) ?_ ?_
  · intro a_ w_ hev hR hk
    have e3 : a_.eval (.tmp 3) = _ := hk 3 rfl
    exact (exec_load_row rfl e3 (P0.out w_ (Ext.trans (Ext.refl _).drew hR)).2.1.1 rfl rfl (by rw [S_kb]; rfl))
  refine free_stepG _ rfl (fun u _ => u = .agg (cellsOf kk).toArray) (d := 15) rfl (fun _ _ _ h _ => h) 8 true rfl rfl (fun _ _ h => h) ?_ ?_
  · intro a_ w_ hev hR hk K1 hK1
    have e12 : a_.eval (.tmp 12) = _ := hk 12 rfl
    have e13 : a_.eval (.tmp 13) = _ := hk 13 rfl
    clear hk
    have f12 := ev_get.trans e12
    have f13 := ev_get.trans e13
    go_simp
    refine (RM.out _ (P0.out w_ (Ext.trans (Ext.refl _).drew hR)).2.2).mono ?_
    rintro e_ w2_ ⟨rfl, x_⟩
    exact hK1.out _ _ x_ rfl
  refine free_detG (fun _ => Ext.refl _) _ rfl (v := .bool true) (d := 16) rfl 8 true rfl rfl (fun _ _ h => h) ?_ ?_
  · intro a_ w_ hev hR hk
    have e11 : a_.eval (.tmp 11) = _ := hk 11 rfl
    have e14 : a_.eval (.tmp 14) = _ := hk 14 rfl
    exact (exec_eql_keyB (xs := kk) (ys := kk) (decide_eq_true rfl) L_kk L_kk rfl e11 e14)
  refine free_det (fun _ => Ext.refl _) _ rfl (v := ?_) (d := 17) rfl rfl ?_ ?_
  rotate_left
  · intro a_ w_ hev hR hk
    have e8 : a_.eval (.tmp 8) = _ := hk 8 rfl
    have e15 : a_.eval (.tmp 15) = _ := hk 15 rfl
    clear hk
    generalize a_.eval = ev at *
    obtain ⟨hev1, hev2, hev3⟩ := hev
    go_simp
    (try with_reducible rfl)
  refine free_det (fun _ => Ext.refl _) _ rfl (v := ?_) (d := 18) rfl rfl ?_ ?_
  rotate_left
  · intro a_ w_ hev hR hk
    have e16 : a_.eval (.tmp 16) = _ := hk 16 rfl
    clear hk
    generalize a_.eval = ev at *
    obtain ⟨hev1, hev2, hev3⟩ := hev
    go_simp
    (try with_reducible rfl)
  refine free_detG (fun _ => Ext.refl _) _ rfl (v := .agg (cellsOf ka).toArray) (d := 19) rfl 17 true rfl rfl (fun _ _ h => h) ?_ ?_
  · intro a_ w_ hev hR hk
    have e2 : a_.eval (.tmp 2) = _ := hk 2 rfl
    exact (exec_load_row rfl e2 (P0.out w_ (Ext.trans (Ext.refl _).drew hR)).1.1 rfl rfl (by rw [S_ka]; rfl))
  refine free_stepG _ rfl (fun u _ => u = .agg (cellsOf kx).toArray) (d := 20) rfl (fun _ _ _ h _ => h) 17 true rfl rfl (fun _ _ h => h) ?_ ?_
  · intro a_ w_ hev hR hk K1 hK1
    have e18 : a_.eval (.tmp 18) = _ := hk 18 rfl
    clear hk
    have f18 := ev_get.trans e18
    go_simp
    refine (BA.out _ (P0.out w_ (Ext.trans (Ext.refl _).drew hR)).2.2).mono ?_
    rintro e_ w2_ ⟨rfl, x_⟩
    exact hK1.out _ _ x_ rfl
  refine free_detG (fun _ => Ext.refl _) _ rfl (v := .agg (cellsOf ka).toArray) (d := 21) rfl 17 true rfl rfl (fun _ _ h => h) ?_ ?_
  · intro a_ w_ hev hR hk
    have e2 : a_.eval (.tmp 2) = _ := hk 2 rfl
    exact (exec_load_row rfl e2 (P0.out w_ (Ext.trans (Ext.refl _).drew hR)).1.1 rfl rfl (by rw [S_ka]; rfl))
  refine free_stepG _ rfl (fun u _ => u = .agg (cellsOf kx).toArray) (d := 22) rfl (fun _ _ _ h _ => h) 17 true rfl rfl (fun _ _ h => h) ?_ ?_
  · intro a_ w_ hev hR hk K1 hK1
    have e20 : a_.eval (.tmp 20) = _ := hk 20 rfl
    clear hk
    have f20 := ev_get.trans e20
    go_simp
    refine (RB.out _ (P0.out w_ (Ext.trans (Ext.refl _).drew hR)).2.2).mono ?_
    rintro e_ w2_ ⟨rfl, x_⟩
    exact hK1.out _ _ x_ rfl
  refine free_detG (fun _ => Ext.refl _) _ rfl (v := .bool true) (d := 23) rfl 17 true rfl rfl (fun _ _ h => h) ?_ ?_
  · intro a_ w_ hev hR hk
    have e19 : a_.eval (.tmp 19) = _ := hk 19 rfl
    have e21 : a_.eval (.tmp 21) = _ := hk 21 rfl
    exact (exec_eql_keyB (xs := kx) (ys := kx) (decide_eq_true rfl) L_kx L_kx rfl e19 e21)
  refine free_det (fun _ => Ext.refl _) _ rfl (v := ?_) (d := 24) rfl rfl ?_ ?_
  rotate_left
  · intro a_ w_ hev hR hk
    have e17 : a_.eval (.tmp 17) = _ := hk 17 rfl
    have e22 : a_.eval (.tmp 22) = _ := hk 22 rfl
    clear hk
    generalize a_.eval = ev at *
    obtain ⟨hev1, hev2, hev3⟩ := hev
    go_simp
    (try with_reducible rfl)
  refine free_det (fun _ => Ext.refl _) _ rfl (v := ?_) (d := 5) rfl rfl ?_ ?_
  rotate_left
  · intro a_ w_ hev hR hk
    have e23 : a_.eval (.tmp 23) = _ := hk 23 rfl
    clear hk
    generalize a_.eval = ev at *
    obtain ⟨hev1, hev2, hev3⟩ := hev
    go_simp
    (try with_reducible rfl)
  intro v_ w0q hR hV_ hN_
  obtain ⟨hv17, hv16, hv15, hv14, hv13, hv12, hv11, hv10, hv9, hv8, hv7, hv6, hv5, hv4, hv3, hv2, hv1, hv0, _⟩ := hV_
  replace hv0 : v_ 0 = _ := hv0
  replace hv1 : v_ 1 = _ := hv1
  replace hv2 : v_ 2 = _ := hv2
  replace hv3 : v_ 3 = _ := hv3
  replace hv4 : v_ 4 = _ := hv4
  replace hv5 : v_ 5 = _ := hv5
  replace hv6 : v_ 6 = _ := hv6
  replace hv7 : v_ 7 = _ := hv7
  replace hv8 : v_ 8 = _ := hv8
  replace hv9 : v_ 9 = _ := hv9
  replace hv10 : v_ 10 = _ := hv10
  replace hv11 : v_ 11 = _ := hv11
  replace hv12 : v_ 12 = _ := hv12
  replace hv13 : v_ 13 = _ := hv13
  replace hv14 : v_ 14 = _ := hv14
  replace hv15 : v_ 15 = _ := hv15
  replace hv16 : v_ 16 = _ := hv16
  replace hv17 : v_ 17 = _ := hv17
  dsimp only [putE, dOpt]
  clear hN_
  rw [hv0, hv1, hv2, hv3, hv4, hv5, hv6, hv7, hv8, hv9, hv10, hv11, hv12, hv13, hv14, hv15, hv16, hv17]
  simp only [Act.put, List.setIfInBounds_toArray, List.set_cons_zero, List.set_cons_succ]
  clear hv0 hv1 hv2 hv3 hv4 hv5 hv6 hv7 hv8 hv9 hv10 hv11 hv12 hv13 hv14 hv15 hv16 hv17
  refine any_nil (by kernel_rfl) ?_
  have EX := Lib.hid ((P0.out _ ((Ext.refl _).drew.trans hR)).2.2)
  clear P0 hR
  go_wp2_with fail
  go_ret
  exact ⟨rfl, EX.out⟩
end Go.Proofs.YtadnmiedmcckkaaDoor
