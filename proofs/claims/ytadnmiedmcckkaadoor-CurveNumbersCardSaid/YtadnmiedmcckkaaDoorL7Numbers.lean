/-
  CurveNumbers: what comes of two keys is a number below p; of keys that stand for one number the same comes.
-/
import Derived.Test.YtadnmiedmcckkaaDoorCurve2
import Derived.Test.YtadnmiedmcckkaaDoorFree
import Derived.Test.YtadnmiedmcckkaaDoorFldBack
import Derived.Test.YtadnmiedmcckkaaDoorRfKey
import Derived.Test.YtadnmiedmcckkaaDoorRfOf
namespace Go.Proofs.YtadnmiedmcckkaaDoor
open Go.ChangeShapes Go.WideShapes Go.ChangeAt Go.RowKit Go.Deep
set_option maxRecDepth 100000

set_option maxHeartbeats 8000000 in
theorem curveNumbers_calls {ka kb : List UInt8} {w : World} (hka : ka.length = 32) (hkb : kb.length = 32) {tg : TypeId × Nat × Nat} (hG : Gp w tg) :
    Calls Tryd.prog 7 #[.agg (cellsOf ka).toArray, .agg (cellsOf kb).toArray] w fun e w' => e = .returned (.bool true) ∧ Ext w w' := by
  have AW : Hid (∀ W, Ext w W → Calls Tryd.prog 13 #[] W fun e w' => e = .returned (.bool true) ∧ Ext W w') := fun W e => awake7_calls (hG.ext e)
  have MU : Hid (∀ W, Ext w W → Calls Tryd.prog 14 #[.agg (cellsOf (ka)).toArray, .agg (cellsOf (kb)).toArray] W fun e w' => e = .returned (.agg (cellsOf (kL (multN ka (ofV kb)))).toArray) ∧ Ext W w') := fun W e => by
    exact mult_calls hka hkb (hG.ext e)
  have OB : Hid (∀ W, Ext w W → Calls Tryd.prog 19 #[.agg (cellsOf (kb)).toArray] W fun e w' => e = .returned (.agg (ucells (dgs 16 (ofM kb))).toArray) ∧ Ext W w') := fun W e => by
    exact rfof_calls hkb
  have KB : Hid (∀ W, Ext w W → Calls Tryd.prog 18 #[.agg (ucells (dgs 16 (ofM kb))).toArray] W fun e w' => e = .returned (.agg (cellsOf (kL (ofV kb))).toArray) ∧ Ext W w') := fun W e => by
    have := rfkey_calls (w := W) (ofM_lt kb)
    rwa [← ofV_ofM] at this
  have OK : Hid (∀ W, Ext w W → Calls Tryd.prog 19 #[.agg (cellsOf (kL (multN ka (ofV kb)))).toArray] W fun e w' => e = .returned (.agg (ucells (dgs 16 (ofM (kL (multN ka (ofV kb)))))).toArray) ∧ Ext W w') := fun W e => by
    exact rfof_calls (kL_len _)
  have KKK : Hid (∀ W, Ext w W → Calls Tryd.prog 18 #[.agg (ucells (dgs 16 (ofM (kL (multN ka (ofV kb)))))).toArray] W fun e w' => e = .returned (.agg (cellsOf (kL (multN ka (ofV kb)))).toArray) ∧ Ext W w') := fun W e => by
    have := rfkey_calls (w := W) (ofM_lt (kL (multN ka (ofV kb))))
    rwa [← ofV_ofM, ofV_kL (multN_lt _ _)] at this
  have MS : Hid (∀ W, Ext w W → Calls Tryd.prog 14 #[.agg (cellsOf (ka)).toArray, .agg (cellsOf (kL (ofV kb))).toArray] W fun e w' => e = .returned (.agg (cellsOf (kL (multN ka (ofV kb)))).toArray) ∧ Ext W w') := fun W e => by
    have := mult_calls hka (kL_len (ofV kb)) (hG.ext e)
    rwa [ofV_kL (ofV_lt kb)] at this
  clear hG
  have L_db := dgs_len 16 (ofM kb)
  have L_dk := dgs_len 16 (ofM (kL (multN ka (ofV kb))))
  generalize dgs 16 (ofM (kL (multN ka (ofV kb)))) = dk at *
  generalize dgs 16 (ofM kb) = db at *
  have L_kk := kL_len (multN ka (ofV kb))
  have L_km := kL_len (ofV kb)
  generalize kL (multN ka (ofV kb)) = kk at *
  generalize kL (ofV kb) = km at *
  have L_ka := hka
  have L_kb := hkb
  have S_kk : (cellsOf kk).toArray.size = 32 := by simp [cellsOf_len, L_kk]
  have O_kk := cellsOf_one kk
  have S_km : (cellsOf km).toArray.size = 32 := by simp [cellsOf_len, L_km]
  have O_km := cellsOf_one km
  have S_ka : (cellsOf ka).toArray.size = 32 := by simp [cellsOf_len, L_ka]
  have O_ka := cellsOf_one ka
  have S_kb : (cellsOf kb).toArray.size = 32 := by simp [cellsOf_len, L_kb]
  have O_kb := cellsOf_one kb
  have hal : ∀ w, (zeroValue 23).run Tryd.prog w = .ok (.agg (cellsOf (List.replicate 32 0)).toArray) w := fun w => by rw [zeros32_cells]; exact key_alloc w
  have L_zk : (List.replicate 32 (0 : UInt8)).length = 32 := rfl
  generalize List.replicate 32 (0 : UInt8) = zk at *
  have S_zk : (cellsOf zk).toArray.size = 32 := by simp [cellsOf_len, L_zk]
  have B0 : Hid (∀ s, Ext ((w.alloc (Obj.cells (cellsOf ka).toArray 23)).alloc (Obj.cells (cellsOf kb).toArray 23)) s → Ky s w.heap.size ka ∧ Ky s (w.heap.size + 1) kb ∧ Ext w s) := fun s e => ⟨Ky.ext ⟨heap_alloc1 _ _ _, L_ka⟩ e, Ky.ext ⟨heap_alloc2 _ _ _, L_kb⟩ e, (((Ext.refl w).alloc _).alloc _).trans e⟩
  go_enter Tryd.func7, Tryd.ntmps7
  go_wp2_with fail
  refine (AW.out _ (B0.out _ (Ext.refl _)).2.2).mono ?_
  rintro e w0 ⟨rfl, e1⟩
  have P0 : Hid (∀ s, Ext w0 s → Ky s w.heap.size ka ∧ Ky s (w.heap.size + 1) kb ∧ Ext w s) := fun s e => B0.out s (e1.trans e)
  clear AW B0 e1
  go_upto_region 2 with fail
  have q0 := Lib.hid (P0.out _ (Ext.refl _)).1
  have q1 := Lib.hid (P0.out _ (Ext.refl _)).2.1
  go_wp2_with (first
    | (refine wpList_load_row rfl 23 _ rfl w.heap.size rfl 23 (cellsOf ka).toArray (0, 0) _ q0.out.1 rfl rfl (by rw [S_ka]; rfl) ?_; simp only [Act.put, List.setIfInBounds_toArray, List.set_cons_zero, List.set_cons_succ])
    | (refine wpList_load_row rfl 23 _ rfl (w.heap.size + 1) rfl 23 (cellsOf kb).toArray (0, 0) _ q1.out.1 rfl rfl (by rw [S_kb]; rfl) ?_; simp only [Act.put, List.setIfInBounds_toArray, List.set_cons_zero, List.set_cons_succ]))
  refine (MU.out _ (P0.out _ (Ext.refl _)).2.2).mono ?_
  rintro e v_ ⟨rfl, e1⟩
  have a1 : Hid ((v_.alloc (Obj.cells (cellsOf zk).toArray 23)).heap[v_.heap.size]? = some (.cells (cellsOf zk).toArray 23 (0, 0))) := heap_alloc_new _ _
  have e5 : Ext v_ ((v_.alloc (Obj.cells (cellsOf zk).toArray 23)).setRow v_.heap.size (cellsOf kk).toArray) := below_setRow ((Ext.refl v_).alloc _) (Nat.le_refl _) _
  go_upto_region 3 with (refine wpList_store_row rfl 23 _ _ rfl v_.heap.size (cellsOf kk).toArray rfl rfl 23 _ a1.out (by rw [S_kk]; rfl) (by rw [S_kk, S_zk]) O_kk ?_; simp only [Act.put, List.setIfInBounds_toArray, List.set_cons_zero, List.set_cons_succ])
  obtain ⟨g1_s, hg_⟩ : ∃ g, g = v_.heap.size := ⟨_, rfl⟩
  refine wp_gen (fun W => Ext w0 W ∧ Ky W g1_s kk) ⟨e1.trans e5, ⟨by rw [hg_]; exact setRow_heap _ _ _ _ _ _ a1.out, L_kk⟩⟩ ?_
  rw [← hg_]
  clear hg_ a1 e5 e1 q0 q1
  rintro w1 ⟨x_, k0⟩
  have P1 : Hid (∀ s, Ext w1 s → Ky s w.heap.size ka ∧ Ky s (w.heap.size + 1) kb ∧ Ky s g1_s kk ∧ Ext w s) := fun s e => by
    obtain ⟨p0, p1, p2⟩ := P0.out s (x_.trans e)
    exact ⟨p0, p1, k0.ext e, p2⟩
  clear P0 x_ k0
  have q0 := Lib.hid (P1.out _ (Ext.refl _)).2.1
  go_wp2_with (first
    | (refine wpList_load_row rfl 23 _ rfl (w.heap.size + 1) rfl 23 (cellsOf kb).toArray (0, 0) _ q0.out.1 rfl rfl (by rw [S_kb]; rfl) ?_; simp only [Act.put, List.setIfInBounds_toArray, List.set_cons_zero, List.set_cons_succ]))
  refine (OB.out _ (P1.out _ (Ext.refl _)).2.2.2).mono ?_
  rintro e v_ ⟨rfl, e1⟩
  go_wp2_with fail
  refine (KB.out _ (P1.out _ e1).2.2.2).mono ?_
  rintro e v2_ ⟨rfl, e2⟩
  have e1 := e1.trans e2
  clear e2
  have a1 : Hid ((v2_.alloc (Obj.cells (cellsOf zk).toArray 23)).heap[v2_.heap.size]? = some (.cells (cellsOf zk).toArray 23 (0, 0))) := heap_alloc_new _ _
  have e5 : Ext v2_ ((v2_.alloc (Obj.cells (cellsOf zk).toArray 23)).setRow v2_.heap.size (cellsOf km).toArray) := below_setRow ((Ext.refl v2_).alloc _) (Nat.le_refl _) _
  go_upto_region 4 with (refine wpList_store_row rfl 23 _ _ rfl v2_.heap.size (cellsOf km).toArray rfl rfl 23 _ a1.out (by rw [S_km]; rfl) (by rw [S_km, S_zk]) O_km ?_; simp only [Act.put, List.setIfInBounds_toArray, List.set_cons_zero, List.set_cons_succ])
  obtain ⟨g2_s, hg_⟩ : ∃ g, g = v2_.heap.size := ⟨_, rfl⟩
  refine wp_gen (fun W => Ext w1 W ∧ Ky W g2_s km) ⟨e1.trans e5, ⟨by rw [hg_]; exact setRow_heap _ _ _ _ _ _ a1.out, L_km⟩⟩ ?_
  rw [← hg_]
  clear hg_ a1 e5 e1 q0
  rintro w2 ⟨x_, k0⟩
  have P2 : Hid (∀ s, Ext w2 s → Ky s w.heap.size ka ∧ Ky s (w.heap.size + 1) kb ∧ Ky s g1_s kk ∧ Ky s g2_s km ∧ Ext w s) := fun s e => by
    obtain ⟨p0, p1, p2, p3⟩ := P1.out s (x_.trans e)
    exact ⟨p0, p1, p2, k0.ext e, p3⟩
  clear P1 x_ k0
  refine wp_region_free (R := Ext) Ext.refl (fun _ _ _ => Ext.trans) [0, 1, 2, 3, 4, 5, 6, 7, 8, 9, 10, 11, 12, 13, 14, 15] [] [0, 1, 3, 3, 11, 27, 63, 127, 255, 511, 511, 2047, 511, 8191, 16383, 32767] [true, true, true, true, true, true, true, true, true, true, true, true, true, true, true, true] [(0, 16, 64), (1, 17, 65536), (2, 18, 131200), (2, 19, 131200), (10, 20, 655360), (18, 21, 1179648), (38, 22, 2490368), (66, 23, 4325376), (160, 24, 8388608), (256, 25, 16777224), (256, 26, 16777472), (1792, 27, 117440512), (256, 28, 16777344), (6400, 29, 419430400), (8448, 30, 553648128), (32767, 5, 1073741824)] (by kernel_rfl) (by kernel_rfl) (by kernel_rfl) (by kernel_rfl) ?_
  refine free_det (fun _ => Ext.refl _) _ rfl (v := ?_) (d := 16) rfl rfl ?_ ?_
  rotate_left
  · intro a_ w_ hev hR hk
    have e5 : a_.eval (.tmp 5) = _ := hk 5 rfl
    clear hk
    generalize a_.eval = ev at *
    obtain ⟨hev1, hev2, hev3⟩ := hev
    go_simp
    (try with_reducible rfl)
  refine free_det (fun _ => Ext.refl _) _ rfl (v := ?_) (d := 17) rfl rfl ?_ ?_
  rotate_left
  · intro a_ w_ hev hR hk
    have e15 : a_.eval (.tmp 15) = _ := hk 15 rfl
    clear hk
    generalize a_.eval = ev at *
    obtain ⟨hev1, hev2, hev3⟩ := hev
    go_simp
    (try with_reducible rfl)
  refine free_detG (fun _ => Ext.refl _) _ rfl (v := .agg (cellsOf kk).toArray) (d := 18) rfl 16 true rfl rfl (fun _ _ h => h) ?_ ?_
  · intro a_ w_ hev hR hk
    have e6 : a_.eval (.tmp 6) = _ := hk 6 rfl
    exact (exec_load_row rfl e6 (P2.out w_ (Ext.trans (Ext.refl _).drew hR)).2.2.1.1 rfl rfl (by rw [S_kk]; rfl))
  refine free_detG (fun _ => Ext.refl _) _ rfl (v := .agg (cellsOf kk).toArray) (d := 19) rfl 16 true rfl rfl (fun _ _ h => h) ?_ ?_
  · intro a_ w_ hev hR hk
    have e6 : a_.eval (.tmp 6) = _ := hk 6 rfl
    exact (exec_load_row rfl e6 (P2.out w_ (Ext.trans (Ext.refl _).drew hR)).2.2.1.1 rfl rfl (by rw [S_kk]; rfl))
  refine free_stepG _ rfl (fun u _ => u = .agg (ucells dk).toArray) (d := 20) rfl (fun _ _ _ h _ => h) 16 true rfl rfl (fun _ _ h => h) ?_ ?_
  · intro a_ w_ hev hR hk K1 hK1
    have e18 : a_.eval (.tmp 18) = _ := hk 18 rfl
    clear hk
    have f18 := ev_get.trans e18
    go_simp
    refine (OK.out _ (P2.out w_ (Ext.trans (Ext.refl _).drew hR)).2.2.2.2).mono ?_
    rintro e_ w2_ ⟨rfl, x_⟩
    exact hK1.out _ _ x_ rfl
  refine free_stepG _ rfl (fun u _ => u = .agg (cellsOf kk).toArray) (d := 21) rfl (fun _ _ _ h _ => h) 16 true rfl rfl (fun _ _ h => h) ?_ ?_
  · intro a_ w_ hev hR hk K1 hK1
    have e19 : a_.eval (.tmp 19) = _ := hk 19 rfl
    clear hk
    have f19 := ev_get.trans e19
    go_simp
    refine (KKK.out _ (P2.out w_ (Ext.trans (Ext.refl _).drew hR)).2.2.2.2).mono ?_
    rintro e_ w2_ ⟨rfl, x_⟩
    exact hK1.out _ _ x_ rfl
  refine free_detG (fun _ => Ext.refl _) _ rfl (v := .bool true) (d := 22) rfl 16 true rfl rfl (fun _ _ h => h) ?_ ?_
  · intro a_ w_ hev hR hk
    have e17 : a_.eval (.tmp 17) = _ := hk 17 rfl
    have e20 : a_.eval (.tmp 20) = _ := hk 20 rfl
    exact (exec_eql_keyB (xs := kk) (ys := kk) (decide_eq_true rfl) L_kk L_kk rfl e17 e20)
  refine free_det (fun _ => Ext.refl _) _ rfl (v := ?_) (d := 23) rfl rfl ?_ ?_
  rotate_left
  · intro a_ w_ hev hR hk
    have e16 : a_.eval (.tmp 16) = _ := hk 16 rfl
    have e21 : a_.eval (.tmp 21) = _ := hk 21 rfl
    clear hk
    generalize a_.eval = ev at *
    obtain ⟨hev1, hev2, hev3⟩ := hev
    go_simp
    (try with_reducible rfl)
  refine free_det (fun _ => Ext.refl _) _ rfl (v := ?_) (d := 24) rfl rfl ?_ ?_
  rotate_left
  · intro a_ w_ hev hR hk
    have e22 : a_.eval (.tmp 22) = _ := hk 22 rfl
    clear hk
    generalize a_.eval = ev at *
    obtain ⟨hev1, hev2, hev3⟩ := hev
    go_simp
    (try with_reducible rfl)
  refine free_detG (fun _ => Ext.refl _) _ rfl (v := .agg (cellsOf ka).toArray) (d := 25) rfl 23 true rfl rfl (fun _ _ h => h) ?_ ?_
  · intro a_ w_ hev hR hk
    have e2 : a_.eval (.tmp 2) = _ := hk 2 rfl
    exact (exec_load_row rfl e2 (P2.out w_ (Ext.trans (Ext.refl _).drew hR)).1.1 rfl rfl (by rw [S_ka]; rfl))
  refine free_detG (fun _ => Ext.refl _) _ rfl (v := .agg (cellsOf km).toArray) (d := 26) rfl 23 true rfl rfl (fun _ _ h => h) ?_ ?_
  · intro a_ w_ hev hR hk
    have e7 : a_.eval (.tmp 7) = _ := hk 7 rfl
    exact (exec_load_row rfl e7 (P2.out w_ (Ext.trans (Ext.refl _).drew hR)).2.2.2.1.1 rfl rfl (by rw [S_km]; rfl))
  refine free_stepG _ rfl (fun u _ => u = .agg (cellsOf kk).toArray) (d := 27) rfl (fun _ _ _ h _ => h) 23 true rfl rfl (fun _ _ h => h) ?_ ?_
  · intro a_ w_ hev hR hk K1 hK1
    have e24 : a_.eval (.tmp 24) = _ := hk 24 rfl
    have e25 : a_.eval (.tmp 25) = _ := hk 25 rfl
    clear hk
    have f24 := ev_get.trans e24
    have f25 := ev_get.trans e25
    go_simp
    refine (MS.out _ (P2.out w_ (Ext.trans (Ext.refl _).drew hR)).2.2.2.2).mono ?_
    rintro e_ w2_ ⟨rfl, x_⟩
    exact hK1.out _ _ x_ rfl
  refine free_detG (fun _ => Ext.refl _) _ rfl (v := .agg (cellsOf kk).toArray) (d := 28) rfl 23 true rfl rfl (fun _ _ h => h) ?_ ?_
  · intro a_ w_ hev hR hk
    have e6 : a_.eval (.tmp 6) = _ := hk 6 rfl
    exact (exec_load_row rfl e6 (P2.out w_ (Ext.trans (Ext.refl _).drew hR)).2.2.1.1 rfl rfl (by rw [S_kk]; rfl))
  refine free_detG (fun _ => Ext.refl _) _ rfl (v := .bool true) (d := 29) rfl 23 true rfl rfl (fun _ _ h => h) ?_ ?_
  · intro a_ w_ hev hR hk
    have e26 : a_.eval (.tmp 26) = _ := hk 26 rfl
    have e27 : a_.eval (.tmp 27) = _ := hk 27 rfl
    exact (exec_eql_keyB (xs := kk) (ys := kk) (decide_eq_true rfl) L_kk L_kk rfl e26 e27)
  refine free_det (fun _ => Ext.refl _) _ rfl (v := ?_) (d := 30) rfl rfl ?_ ?_
  rotate_left
  · intro a_ w_ hev hR hk
    have e23 : a_.eval (.tmp 23) = _ := hk 23 rfl
    have e28 : a_.eval (.tmp 28) = _ := hk 28 rfl
    clear hk
    generalize a_.eval = ev at *
    obtain ⟨hev1, hev2, hev3⟩ := hev
    go_simp
    (try with_reducible rfl)
  refine free_det (fun _ => Ext.refl _) _ rfl (v := ?_) (d := 5) rfl rfl ?_ ?_
  rotate_left
  · intro a_ w_ hev hR hk
    have e29 : a_.eval (.tmp 29) = _ := hk 29 rfl
    clear hk
    generalize a_.eval = ev at *
    obtain ⟨hev1, hev2, hev3⟩ := hev
    go_simp
    (try with_reducible rfl)
  intro v_ w2q hR hV_ hN_
  obtain ⟨hv15, hv14, hv13, hv12, hv11, hv10, hv9, hv8, hv7, hv6, hv5, hv4, hv3, hv2, hv1, hv0, _⟩ := hV_
  replace hv0 : v_ 0 = _ := hv0
  replace hv1 : v_ 1 = _ := hv1
  replace hv2 : v_ 2 = _ := hv2
  replace hv3 : v_ 3 = _ := hv3
  replace hv4 : v_ 4 = _ := hv4
  replace hv5 : v_ 5 = _ := hv5
  replace hv6 : v_ 6 = _ := hv6
  replace hv7 : v_ 7 = _ := hv7
  replace hv8 : v_ 8 = _ := hv8
  replace hv9 : v_ 9 = _ := hv9
  replace hv10 : v_ 10 = _ := hv10
  replace hv11 : v_ 11 = _ := hv11
  replace hv12 : v_ 12 = _ := hv12
  replace hv13 : v_ 13 = _ := hv13
  replace hv14 : v_ 14 = _ := hv14
  replace hv15 : v_ 15 = _ := hv15
  dsimp only [putE, dOpt]
  clear hN_
  rw [hv0, hv1, hv2, hv3, hv4, hv5, hv6, hv7, hv8, hv9, hv10, hv11, hv12, hv13, hv14, hv15]
  simp only [Act.put, List.setIfInBounds_toArray, List.set_cons_zero, List.set_cons_succ]
  clear hv0 hv1 hv2 hv3 hv4 hv5 hv6 hv7 hv8 hv9 hv10 hv11 hv12 hv13 hv14 hv15
  refine any_nil (by kernel_rfl) ?_
  have EX := Lib.hid ((P2.out _ ((Ext.refl _).drew.trans hR)).2.2.2.2)
  clear P2 hR
  go_wp2_with fail
  go_ret
  exact ⟨rfl, EX.out⟩
end Go.Proofs.YtadnmiedmcckkaaDoor
