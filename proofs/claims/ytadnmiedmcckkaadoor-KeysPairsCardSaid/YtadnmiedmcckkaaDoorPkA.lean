import Derived.Test.YtadnmiedmcckkaaDoorRmult
import Derived.Test.YtadnmiedmcckkaaDoorPkJ
import Derived.Test.YtadnmiedmcckkaaDoorPkG
import Derived.Test.YtadnmiedmcckkaaDoorPkD
import Derived.Test.YtadnmiedmcckkaaDoorPkP
import Derived.Lib.LaidTab
import Derived.Test.YtadnmiedmcckkaaDoorPkM
import Derived.Test.YtadnmiedmcckkaaDoorBase
import Derived.Deep.Matrix
import Derived.Test.YtadnmiedmcckkaaDoorKeyEq
import Derived.Test.YtadnmiedmcckkaaDoorApiPair
import Derived.Deep.Fields
section
/-
  palfreyref07.Base.
-/
namespace Go.Proofs.YtadnmiedmcckkaaDoor
open Go.ChangeShapes Go.WideShapes Go.ChangeAt Go.RowKit Go.Deep
set_option maxRecDepth 100000

set_option maxHeartbeats 2000000 in
theorem rbase_calls {ks : List UInt8} {w : World} (hk : ks.length = 32) :
    Calls Tryd.prog 17 #[.agg (cellsOf ks).toArray] w fun e w' => e = .returned (.agg (cellsOf (kL (multN ks 9))).toArray) ∧ Ext w w' := by
  have MU : Hid (∀ W, Calls Tryd.prog 15 #[.agg (cellsOf ks).toArray, .agg (cellsOf key9).toArray] W fun e w' => e = .returned (.agg (cellsOf (kL (multN ks 9))).toArray) ∧ Ext W w') := fun W => by
    have := rmult_calls (w := W) hk (show key9.length = 32 from rfl)
    rwa [ofV9] at this
  have L_rk := kL_len (multN ks 9)
  generalize kL (multN ks 9) = rk at *
  have S_rk : (cellsOf rk).toArray.size = 32 := by simp [cellsOf_len, L_rk]
  have O_rk := cellsOf_one rk
  have S_ks : (cellsOf ks).toArray.size = 32 := by simp [cellsOf_len, hk]
  have hb := Lib.hid built9
  generalize key9 = k9 at *
  have hal : ∀ w, (zeroValue 23).run Tryd.prog w = .ok (.agg (cellsOf (List.replicate 32 0)).toArray) w := fun w => by rw [zeros32_cells]; exact key_alloc w
  have L_zk : (List.replicate 32 (0 : UInt8)).length = 32 := rfl
  generalize List.replicate 32 (0 : UInt8) = zk at *
  have S_zk : (cellsOf zk).toArray.size = 32 := by simp [cellsOf_len, L_zk]
  have B0 : Hid (Ky ((w.alloc (Obj.cells (cellsOf ks).toArray 23)).alloc (Obj.cells (cellsOf zk).toArray 23)) w.heap.size ks ∧ Ky ((w.alloc (Obj.cells (cellsOf ks).toArray 23)).alloc (Obj.cells (cellsOf zk).toArray 23)) (w.heap.size + 1) zk ∧ Ext w ((w.alloc (Obj.cells (cellsOf ks).toArray 23)).alloc (Obj.cells (cellsOf zk).toArray 23))) := ⟨⟨heap_alloc1 _ _ _, hk⟩, ⟨heap_alloc2 _ _ _, L_zk⟩, ((Ext.refl w).alloc _).alloc _⟩
  go_enter Tryd.func17, Tryd.ntmps17
  go_wp2_with (first
    | (refine wpList_load_row rfl 23 _ rfl w.heap.size rfl 23 (cellsOf ks).toArray (0, 0) _ B0.out.1.1 rfl rfl (by rw [S_ks]; rfl) ?_; simp only [Act.put, List.setIfInBounds_toArray, List.set_cons_zero, List.set_cons_succ])
    | (refine wpList_build_as rfl _ _ rfl (cellsOf k9).toArray (by simp only [List.map_toArray, List.map_cons, List.map_nil]; exact hb.out) ?_; simp only [Act.put, List.setIfInBounds_toArray, List.set_cons_zero, List.set_cons_succ]))
  refine (MU.out _).mono ?_
  rintro e w1 ⟨rfl, e1⟩
  have kr := Lib.hid (B0.out.2.1.ext e1)
  have kx : Hid (Ext w w1) := B0.out.2.2.trans e1
  clear B0 MU e1
  go_wp2_with (refine wpList_store_row rfl 23 _ _ rfl (w.heap.size + 1) (cellsOf rk).toArray rfl rfl 23 _ kr.out.1 (by rw [S_rk]; rfl) (by rw [S_rk, S_zk]) O_rk ?_; simp only [Act.put, List.setIfInBounds_toArray, List.set_cons_zero, List.set_cons_succ])
  (try simp only [Exit.inBlock, Exit.then])
  refine bodyPost_ret (results_cell_row rfl _ _ (w.heap.size + 1) 23 (cellsOf rk).toArray (0, 0) _ rfl (setRow_heap _ _ _ _ _ _ kr.out.1) rfl rfl (by rw [S_rk]; rfl)) rfl ?_
  exact ⟨rfl, below_setRow kx.out (by omega) _⟩
end Go.Proofs.YtadnmiedmcckkaaDoor
end

section
/-
  palfreyref08.Pair.
-/
namespace Go.Proofs.YtadnmiedmcckkaaDoor
open Go.ChangeShapes Go.WideShapes Go.ChangeAt Go.RowKit Go.Deep
set_option maxRecDepth 100000

set_option maxHeartbeats 4000000 in
theorem rpair_calls {w : World} {A : Option Addr} {n c : Nat} {xs : List UInt8} (h : Bs w A n c xs) (hn : n ≤ 1000000) :
    Calls Tryd.prog 24 #[.slice A n c] w fun e w' => e = .returned (.agg (cellsOf (pairL xs)).toArray) ∧ Ext w w' := by
  have SUM : Hid (∀ W, Ext w W → Calls Tryd.prog 48 #[.slice A n c] W fun e w' => e = .returned (.agg (cellsOf (macL [] xs)).toArray) ∧ Ext W w') := fun W e => refSum_calls (h.ext e) hn
  have BAS : Hid (∀ W, Ext w W → Calls Tryd.prog 17 #[.agg (cellsOf (macL [] xs)).toArray] W fun e w' => e = .returned (.agg (cellsOf (kL (multN (macL [] xs) 9))).toArray) ∧ Ext W w') := fun W e => rbase_calls (macL_len _ _)
  have BLT := Lib.hid (apair_built (macL_len [] xs) (kL_len (multN (macL [] xs) 9)))
  have RLe := pairL_len xs
  have hR_ : Hid (macL [] xs ++ kL (multN (macL [] xs) 9) = pairL xs) := rfl
  rw [hR_.out] at BLT
  clear hn
  have L_sk := macL_len [] xs
  have L_pk := kL_len (multN (macL [] xs) 9)
  clear hR_
  generalize kL (multN (macL [] xs) 9) = pk at *
  generalize macL [] xs = sk at *
  generalize pairL xs = rr at *
  have S_sk : (cellsOf sk).toArray.size = 32 := by simp [cellsOf_len, L_sk]
  have O_sk := cellsOf_one sk
  have S_rr : (cellsOf rr).toArray.size = 64 := by simp [cellsOf_len, RLe]
  have O_rr := cellsOf_one rr
  have hal : ∀ w, (zeroValue 23).run Tryd.prog w = .ok (.agg (cellsOf (List.replicate 32 0)).toArray) w := fun w => by rw [zeros32_cells]; exact key_alloc w
  have hal2 := apair_alloc
  have L_zk : (List.replicate 32 (0 : UInt8)).length = 32 := rfl
  have L_zp : (List.replicate 64 (0 : UInt8)).length = 64 := by simp
  generalize List.replicate 32 (0 : UInt8) = zk at *
  generalize List.replicate 64 (0 : UInt8) = zp at *
  have S_zk : (cellsOf zk).toArray.size = 32 := by simp [cellsOf_len, L_zk]
  have S_zp : (cellsOf zp).toArray.size = 64 := by simp [cellsOf_len, L_zp]
  have B0 : Hid (Kp (w.alloc (Obj.cells (cellsOf zp).toArray 37)) w.heap.size zp ∧ Ext w (w.alloc (Obj.cells (cellsOf zp).toArray 37))) := ⟨⟨heap_alloc_new _ _, L_zp⟩, (Ext.refl w).alloc _⟩
  go_enter Tryd.func24, Tryd.ntmps24
  go_wp2_with fail
  refine (SUM.out _ B0.out.2).mono ?_
  rintro e u_ ⟨rfl, e1⟩
  have a1 : Hid ((u_.alloc (Obj.cells (cellsOf zk).toArray 23)).heap[u_.heap.size]? = some (.cells (cellsOf zk).toArray 23 (0, 0))) := heap_alloc_new _ _
  have E_ : Ext (w.alloc (Obj.cells (cellsOf zp).toArray 37)) ((u_.alloc (Obj.cells (cellsOf zk).toArray 23)).setRow u_.heap.size (cellsOf sk).toArray) := e1.trans (below_setRow ((Ext.refl u_).alloc _) (Nat.le_refl _) _)
  go_upto_region 2 with (refine wpList_store_row rfl 23 _ _ rfl u_.heap.size (cellsOf sk).toArray rfl rfl 23 _ a1.out (by rw [S_sk]; rfl) (by rw [S_sk, S_zk]) O_sk ?_; simp only [Act.put])
  obtain ⟨g3, hg_⟩ : ∃ g, g = u_.heap.size := ⟨_, rfl⟩
  obtain ⟨r, hr_⟩ : ∃ r, r = w.heap.size := ⟨_, rfl⟩
  refine wp_gen (fun W => Ky W g3 sk ∧ Kp W r zp ∧ Ext w W) ⟨⟨by rw [hg_]; exact setRow_heap _ _ _ _ _ _ a1.out, L_sk⟩, by rw [hr_]; exact B0.out.1.ext E_, B0.out.2.trans E_⟩ ?_
  rw [← hg_, ← hr_]
  replace hr_ := Lib.hid hr_
  clear hg_ a1 E_ e1 B0 SUM
  rintro w1 ⟨k1, p1, x1⟩
  have Q1 : Hid (∀ s, Ext w1 s → Ky s g3 sk ∧ Kp s r zp ∧ Ext w s) := fun s e => ⟨k1.ext e, p1.ext e, x1.trans e⟩
  clear k1 p1 x1
  refine wp_region_free (R := Ext) Ext.refl (fun _ _ _ => Ext.trans) [0, 1, 2, 3] [4] [0, 0, 2, 7, 15] [true, true, true, true, false] [(0, 7, 16), (0, 8, 16), (2, 9, 256), (5, 10, 640), (15, 0, 1032)] (by kernel_rfl) (by kernel_rfl) (by kernel_rfl) (by kernel_rfl) ?_
  refine free_det (fun _ => Ext.refl _) _ rfl (v := .agg (cellsOf sk).toArray) (d := 7) rfl rfl ?_ ?_
  · intro a_ w_ hev hR hk
    have e3 : a_.eval (.tmp 3) = _ := hk 3 rfl
    exact (exec_load_row rfl e3 (Q1.out w_ (Ext.trans (Ext.refl _).drew hR)).1.1 rfl rfl (by rw [S_sk]; rfl))
  refine free_det (fun _ => Ext.refl _) _ rfl (v := .agg (cellsOf sk).toArray) (d := 8) rfl rfl ?_ ?_
  · intro a_ w_ hev hR hk
    have e3 : a_.eval (.tmp 3) = _ := hk 3 rfl
    exact (exec_load_row rfl e3 (Q1.out w_ (Ext.trans (Ext.refl _).drew hR)).1.1 rfl rfl (by rw [S_sk]; rfl))
  refine free_step _ rfl (fun u _ => u = .agg (cellsOf pk).toArray) (d := 9) rfl (fun _ _ _ h _ => h) rfl ?_ ?_
  · intro a_ w_ hev hR hk K1 hK1
    have e7 : a_.eval (.tmp 7) = _ := hk 7 rfl
    clear hk
    have f7 := ev_get.trans e7
    go_simp
    refine (BAS.out _ (Q1.out w_ (Ext.trans (Ext.refl _).drew hR)).2.2).mono ?_
    rintro e_ w2_ ⟨rfl, x_⟩
    exact hK1.out _ _ x_ rfl
  refine free_det (fun _ => Ext.refl _) _ rfl (v := .agg (cellsOf rr).toArray) (d := 10) rfl rfl ?_ ?_
  · intro a_ w_ hev hR hk
    have e6 : a_.eval (.tmp 6) = _ := hk 6 rfl
    have e8 : a_.eval (.tmp 8) = _ := hk 8 rfl
    exact (exec_build_as rfl (by simp only [List.map_toArray, List.map_cons, List.map_nil, e6, e8]; exact BLT.out))
  intro v_ w2 hR hV_ hN_
  obtain ⟨hv3, hv2, hv1, hv0, _⟩ := hV_
  replace hv0 : v_ 0 = _ := hv0
  replace hv1 : v_ 1 = _ := hv1
  replace hv2 : v_ 2 = _ := hv2
  replace hv3 : v_ 3 = _ := hv3
  dsimp only [putE, dOpt]
  clear hN_
  rw [hv0, hv1, hv2, hv3]
  simp only [Act.put, List.setIfInBounds_toArray, List.set_cons_zero, List.set_cons_succ]
  clear hv0 hv1 hv2 hv3
  have kz := Lib.hid (Q1.out w2 ((Ext.refl _).drew.trans hR)).2
  refine any_more (z := 4) _ rfl rfl (by kernel_rfl) ?_
  intro K1 hK1
  refine wp_store_row _ _ _ rfl r (cellsOf rr).toArray rfl rfl 37 (cellsOf zp).toArray kz.out.1.1 (by rw [S_rr]; rfl) (by rw [S_rr, S_zp]) O_rr ?_
  refine hK1.out _ _ ?_
  clear hK1 K1
  refine any_nil (by kernel_rfl) ?_
  clear hR Q1
  go_wp2_with fail
  (try simp only [Exit.inBlock, Exit.then])
  refine bodyPost_ret (results_cell_row rfl _ _ r 37 (cellsOf rr).toArray (0, 0) _ rfl (setRow_heap _ _ _ _ _ _ kz.out.1.1) rfl rfl (by rw [S_rr]; rfl)) rfl ?_
  exact ⟨rfl, below_setRow kz.out.2 (by rw [hr_.out]; exact Nat.le_refl _) _⟩
end Go.Proofs.YtadnmiedmcckkaaDoor
end

section
/-
  palfreyref08.Common.
-/
namespace Go.Proofs.YtadnmiedmcckkaaDoor
open Go.ChangeShapes Go.WideShapes Go.ChangeAt Go.RowKit Go.Deep
set_option maxRecDepth 100000

set_option maxHeartbeats 4000000 in
theorem rcommon_calls {w : World} {s q p : List UInt8} (hs : s.length = 32) (hq : q.length = 32) (hp : p.length = 32)  :
    Calls Tryd.prog 22 #[.agg (cellsOf (s ++ q)).toArray, .agg (cellsOf p).toArray] w fun e w' => e = .returned (.tuple #[.agg (cellsOf (comL s p)).toArray, .int .i64 (comE (comL s p))]) ∧ Ext w w' := by
  have MU : Hid (∀ W, Ext w W → Calls Tryd.prog 15 #[.agg (cellsOf s).toArray, .agg (cellsOf p).toArray] W fun e w' => e = .returned (.agg (cellsOf (comL s p)).toArray) ∧ Ext W w') := fun W e => rmult_calls hs hp
  have L_rk := comL_len s p
  have hE : Hid (comE (comL s p) = if comL s p = List.replicate 32 0 then 12 else 0) := rfl
  skip
  generalize comL s p = rk at *
  generalize hce : comE rk = ce at *
  replace hce := Lib.hid hce
  have S_rk : (cellsOf rk).toArray.size = 32 := by simp [cellsOf_len, L_rk]
  have O_rk := cellsOf_one rk
  have S_s : (cellsOf s).length = 32 := by simp [cellsOf_len, hs]
  have S_p : (cellsOf p).toArray.size = 32 := by simp [cellsOf_len, hp]
  have S_o : (cellsOf (s ++ q)).toArray.size = 64 := by simp [cellsOf_len, hs, hq]
  have hal : ∀ w, (zeroValue 23).run Tryd.prog w = .ok (.agg (cellsOf (List.replicate 32 0)).toArray) w := fun w => by rw [zeros32_cells]; exact key_alloc w
  have hbz := Lib.hid zero_built
  have L_zk : (List.replicate 32 (0 : UInt8)).length = 32 := rfl
  generalize List.replicate 32 (0 : UInt8) = zk at *
  have S_zk : (cellsOf zk).toArray.size = 32 := by simp [cellsOf_len, L_zk]
  have O_zk := cellsOf_one zk
  have B0 : Hid (∀ s', Ext (((w.alloc (Obj.cells (cellsOf (s ++ q)).toArray 37)).alloc (Obj.cells (cellsOf p).toArray 23)).alloc (Obj.cells (cellsOf zk).toArray 23)) s' → Kp s' w.heap.size (s ++ q) ∧ Ky s' (w.heap.size + 1) p ∧ Ky s' (w.heap.size + 1 + 1) zk ∧ Ext w s') := fun s' e => ⟨Kp.ext ⟨heap_alloc30 _ _ _ _, by rw [List.length_append, hs, hq]⟩ e, Ky.ext ⟨heap_alloc31 _ _ _ _, hp⟩ e, Ky.ext ⟨heap_alloc32 _ _ _ _, L_zk⟩ e, ((((Ext.refl w).alloc _).alloc _).alloc _).trans e⟩
  go_enter Tryd.func22, Tryd.ntmps22
  go_upto_region 1 with fail
  refine wp_gen (fun W => ∀ s', Ext W s' → Kp s' w.heap.size (s ++ q) ∧ Ky s' (w.heap.size + 1) p ∧ Ky s' (w.heap.size + 1 + 1) zk ∧ Ext w s') B0.out ?_
  clear B0
  rintro w0 P0
  replace P0 := Lib.hid P0
  have q0 := Lib.hid (P0.out _ (Ext.refl _)).1
  have q1 := Lib.hid (P0.out _ (Ext.refl _)).2.1
  go_wp2_with (first
    | (refine wpList_load_mid rfl (g := w.heap.size) (off := 0) (ys := cellsOf s) rfl rfl q0.out.at0 rfl rfl (by rw [S_s]; rfl) ?_; simp only [Act.put, List.setIfInBounds_toArray, List.set_cons_zero, List.set_cons_succ])
    | (refine wpList_load_row rfl 23 _ rfl (w.heap.size + 1) rfl 23 (cellsOf p).toArray (0, 0) _ q1.out.1 rfl rfl (by rw [S_p]; rfl) ?_; simp only [Act.put, List.setIfInBounds_toArray, List.set_cons_zero, List.set_cons_succ]))
  refine (MU.out _ (P0.out _ (Ext.refl _)).2.2.2).mono ?_
  rintro e u_ ⟨rfl, e1⟩
  have a1 : Hid ((u_.alloc (Obj.cells (cellsOf zk).toArray 23)).heap[u_.heap.size]? = some (.cells (cellsOf zk).toArray 23 (0, 0))) := heap_alloc_new _ _
  have E_ : Ext w0 ((u_.alloc (Obj.cells (cellsOf zk).toArray 23)).setRow u_.heap.size (cellsOf rk).toArray) := e1.trans (below_setRow ((Ext.refl u_).alloc _) (Nat.le_refl _) _)
  go_upto_region 2 with (refine wpList_store_row rfl 23 _ _ rfl u_.heap.size (cellsOf rk).toArray rfl rfl 23 _ a1.out (by rw [S_rk]; rfl) (by rw [S_rk, S_zk]) O_rk ?_; simp only [Act.put])
  obtain ⟨g6, hg_⟩ : ∃ g, g = u_.heap.size := ⟨_, rfl⟩
  refine wp_gen (fun W => Ky W g6 rk ∧ Ky W (w.heap.size + 1 + 1) zk ∧ Ext w W) ⟨⟨by rw [hg_]; exact setRow_heap _ _ _ _ _ _ a1.out, L_rk⟩, (P0.out _ E_).2.2⟩ ?_
  rw [← hg_]
  clear hg_ a1 E_ e1 q0 q1 P0 MU
  rintro w1 ⟨k1, z1, x1⟩
  have k2 := Lib.hid k1
  have z2 := Lib.hid z1
  have x2 := Lib.hid x1
  clear k1 z1 x1
  by_cases hz : rk = zk
  · have hbd : Hid (decide (rk = zk) = true) := decide_eq_true hz
    have hE2 : Hid (ce = 12) := by unfold Hid; rw [hE.out, if_pos hz]
    clear hE hce hz
    go_wp2_with (first
      | (refine wpList_load_row rfl 23 _ rfl g6 rfl 23 (cellsOf rk).toArray (0, 0) _ k2.out.1 rfl rfl (by rw [S_rk]; rfl) ?_; simp only [Act.put, List.setIfInBounds_toArray, List.set_cons_zero, List.set_cons_succ])
      | (refine wpList_build_as rfl _ _ rfl (cellsOf zk).toArray (by simp only [List.map_toArray, List.map_nil]; exact hbz.out) ?_; simp only [Act.put, List.setIfInBounds_toArray, List.set_cons_zero, List.set_cons_succ])
      | (refine wpList_eql_keyB rfl _ _ _ rfl rk zk true hbd.out rfl rfl L_rk L_zk ?_; simp only [Act.put, List.setIfInBounds_toArray, List.set_cons_zero, List.set_cons_succ])
      | (refine wpList_store_row rfl 23 _ _ rfl (w.heap.size + 1 + 1) (cellsOf rk).toArray rfl rfl 23 _ z2.out.1 (by rw [S_rk]; rfl) (by rw [S_rk, S_zk]) O_rk ?_; simp only [Act.put]))
    (try simp only [Exit.inBlock, Exit.then])
    refine bodyPost_ret (v := .tuple #[.agg (cellsOf rk).toArray, .int .i64 12]) ?_ rfl ?_
    · exact results_row_tmp rfl _ _ (w.heap.size + 1 + 1) 23 (cellsOf rk).toArray (0, 0) _ _ rfl rfl (setRow_heap _ _ _ _ _ _ z2.out.1) rfl rfl (by rw [S_rk]; rfl)
    exact ⟨by rw [hE2.out], below_setRow x2.out (by omega) _⟩
  · have hbd : Hid (decide (rk = zk) = false) := decide_eq_false hz
    have hE2 : Hid (ce = 0) := by unfold Hid; rw [hE.out, if_neg hz]
    clear hE hce hz
    go_wp2_with (first
      | (refine wpList_load_row rfl 23 _ rfl g6 rfl 23 (cellsOf rk).toArray (0, 0) _ k2.out.1 rfl rfl (by rw [S_rk]; rfl) ?_; simp only [Act.put, List.setIfInBounds_toArray, List.set_cons_zero, List.set_cons_succ])
      | (refine wpList_build_as rfl _ _ rfl (cellsOf zk).toArray (by simp only [List.map_toArray, List.map_nil]; exact hbz.out) ?_; simp only [Act.put, List.setIfInBounds_toArray, List.set_cons_zero, List.set_cons_succ])
      | (refine wpList_eql_keyB rfl _ _ _ rfl rk zk false hbd.out rfl rfl L_rk L_zk ?_; simp only [Act.put, List.setIfInBounds_toArray, List.set_cons_zero, List.set_cons_succ])
      | (refine wpList_store_row rfl 23 _ _ rfl (w.heap.size + 1 + 1) (cellsOf rk).toArray rfl rfl 23 _ z2.out.1 (by rw [S_rk]; rfl) (by rw [S_rk, S_zk]) O_rk ?_; simp only [Act.put]))
    (try simp only [Exit.inBlock, Exit.then])
    refine bodyPost_ret (v := .tuple #[.agg (cellsOf rk).toArray, .int .i64 0]) ?_ rfl ?_
    · exact results_row_tmp rfl _ _ (w.heap.size + 1 + 1) 23 (cellsOf rk).toArray (0, 0) _ _ rfl rfl (setRow_heap _ _ _ _ _ _ z2.out.1) rfl rfl (by rw [S_rk]; rfl)
    exact ⟨by rw [hE2.out], below_setRow x2.out (by omega) _⟩
end Go.Proofs.YtadnmiedmcckkaaDoor
end

section
/-
  KeysPairs: any seed's pair, and what any two have in common.
-/
namespace Go.Proofs.YtadnmiedmcckkaaDoor
open Go.ChangeShapes Go.WideShapes Go.ChangeAt Go.RowKit Go.Deep
set_option maxRecDepth 100000

set_option maxHeartbeats 1000000 in
theorem keysPairs_out {w : World} {A : Option Addr} {n c : Nat} {xs s q p : List UInt8} (h : Bs w A n c xs) (hs : s.length = 32) (hq : q.length = 32) (hp : p.length = 32) {tg tp : TypeId × Nat × Nat} (hG : Gl w tg) (hP : Gp w tp) (q1 : 300 < n) :
    Calls Tryd.prog 8 #[.slice A n c, .agg (cellsOf (s ++ q)).toArray, .agg (cellsOf p).toArray] w fun e w' => e = .returned (.bool true) ∧ Ext w w' := by
  have AW := Lib.hid (fun (W : World) (e : Ext w W) => awake8_calls (hG.ext e) (hP.ext e))
  have t1 : decide ((300 : Int) < (n : Int)) = true := decide_eq_true (by omega)
  clear h hG hP
  go_enter Tryd.func8, Tryd.ntmps8
  go_wp2_with fail
  refine (AW.out _ (((Ext.refl w).alloc _).alloc _)).mono ?_
  rintro e w1 ⟨rfl, e1⟩
  go_wp2_with fail
  go_ret
  exact ⟨rfl, (((Ext.refl w).alloc _).alloc _).trans e1⟩
set_option maxHeartbeats 8000000 in
theorem keysPairs_main {w : World} {A : Option Addr} {n c : Nat} {xs s q p : List UInt8} (h : Bs w A n c xs) (hs : s.length = 32) (hq : q.length = 32) (hp : p.length = 32) {tg tp : TypeId × Nat × Nat} (hG : Gl w tg) (hP : Gp w tp) (q1 : n ≤ 300) :
    Calls Tryd.prog 8 #[.slice A n c, .agg (cellsOf (s ++ q)).toArray, .agg (cellsOf p).toArray] w fun e w' => e = .returned (.bool true) ∧ Ext w w' := by
  have AW := Lib.hid (fun (W : World) (e : Ext w W) => awake8_calls (hG.ext e) (hP.ext e))
  have t1 : decide ((300 : Int) < (n : Int)) = false := decide_eq_false (by omega)
  have CX : Hid (∀ W, Ext w W → Calls Tryd.prog 21 #[.agg (cellsOf (s ++ q)).toArray, .agg (cellsOf p).toArray] W fun e w' => e = .returned (.tuple #[.agg (cellsOf (comL s p)).toArray, .int .i64 (comE (comL s p))]) ∧ Ext W w') := fun W e => common_calls hs hq hp (hP.ext e)
  have CY : Hid (∀ W, Calls Tryd.prog 22 #[.agg (cellsOf (s ++ q)).toArray, .agg (cellsOf p).toArray] W fun e w' => e = .returned (.tuple #[.agg (cellsOf (comL s p)).toArray, .int .i64 (comE (comL s p))]) ∧ Ext W w') := fun W => rcommon_calls hs hq hp
  have PX : Hid (∀ W, Ext w W → Calls Tryd.prog 23 #[.slice A n c] W fun e w' => e = .returned (.agg (cellsOf (pairL xs)).toArray) ∧ Ext W w') := fun W e => kpair_calls (h.ext e) (hG.ext e) (hP.ext e)
  have PY : Hid (∀ W, Ext w W → Calls Tryd.prog 24 #[.slice A n c] W fun e w' => e = .returned (.agg (cellsOf (pairL xs)).toArray) ∧ Ext W w') := fun W e => rpair_calls (h.ext e) (by omega)
  clear hG hP h
  have L_kk := comL_len s p
  have L_pp := pairL_len xs
  generalize comL s p = kk at *
  generalize comE kk = ce at *
  generalize pairL xs = pp at *
  have L_oo : (s ++ q).length = 64 := by rw [List.length_append, hs, hq]
  generalize s ++ q = oo at *
  have L_p := hp
  have hal : ∀ w, (zeroValue 23).run Tryd.prog w = .ok (.agg (cellsOf (List.replicate 32 0)).toArray) w := fun w => by rw [zeros32_cells]; exact key_alloc w
  have hal2 := apair_alloc
  have L_zk : (List.replicate 32 (0 : UInt8)).length = 32 := rfl
  have L_zp : (List.replicate 64 (0 : UInt8)).length = 64 := by simp
  generalize List.replicate 32 (0 : UInt8) = zk at *
  generalize List.replicate 64 (0 : UInt8) = zp at *
  have S_zk : (cellsOf zk).toArray.size = 32 := by simp [cellsOf_len, L_zk]
  have S_zp : (cellsOf zp).toArray.size = 64 := by simp [cellsOf_len, L_zp]
  have S_kk : (cellsOf kk).toArray.size = 32 := by simp [cellsOf_len, L_kk]
  have O_kk := cellsOf_one kk
  have S_p : (cellsOf p).toArray.size = 32 := by simp [cellsOf_len, L_p]
  have O_p := cellsOf_one p
  have S_oo : (cellsOf oo).toArray.size = 64 := by simp [cellsOf_len, L_oo]
  have O_oo := cellsOf_one oo
  have S_pp : (cellsOf pp).toArray.size = 64 := by simp [cellsOf_len, L_pp]
  have O_pp := cellsOf_one pp
  have B0 : Hid (∀ s', Ext ((w.alloc (Obj.cells (cellsOf oo).toArray 37)).alloc (Obj.cells (cellsOf p).toArray 23)) s' → Kp s' w.heap.size oo ∧ Ky s' (w.heap.size + 1) p ∧ Ext w s') := fun s' e => ⟨Kp.ext ⟨heap_alloc1 _ _ _, L_oo⟩ e, Ky.ext ⟨heap_alloc2 _ _ _, L_p⟩ e, (((Ext.refl w).alloc _).alloc _).trans e⟩
  go_enter Tryd.func8, Tryd.ntmps8
  go_wp2_with fail
  refine (AW.out _ (((Ext.refl w).alloc _).alloc _)).mono ?_
  rintro e w1 ⟨rfl, e1⟩
  have P1 : Hid (∀ s', Ext w1 s' → Kp s' w.heap.size oo ∧ Ky s' (w.heap.size + 1) p ∧ Ext w s') := fun s' e => B0.out s' (e1.trans e)
  clear AW B0 e1
  have q0 := Lib.hid (P1.out _ (Ext.refl _)).1
  have q1' := Lib.hid (P1.out _ (Ext.refl _)).2.1
  go_wp2_with (first
    | (refine wpList_load_row rfl 37 _ rfl w.heap.size rfl 37 (cellsOf oo).toArray (0, 0) _ q0.out.1 rfl rfl (by rw [S_oo]; rfl) ?_; simp only [Act.put, List.setIfInBounds_toArray, List.set_cons_zero, List.set_cons_succ])
    | (refine wpList_load_row rfl 23 _ rfl (w.heap.size + 1) rfl 23 (cellsOf p).toArray (0, 0) _ q1'.out.1 rfl rfl (by rw [S_p]; rfl) ?_; simp only [Act.put, List.setIfInBounds_toArray, List.set_cons_zero, List.set_cons_succ]))
  refine (CX.out _ (P1.out _ (Ext.refl _)).2.2).mono ?_
  rintro e u_ ⟨rfl, e1⟩
  have a1 : Hid ((u_.alloc (Obj.cells (cellsOf zk).toArray 23)).heap[u_.heap.size]? = some (.cells (cellsOf zk).toArray 23 (0, 0))) := heap_alloc_new _ _
  have E_ : Ext w1 ((u_.alloc (Obj.cells (cellsOf zk).toArray 23)).setRow u_.heap.size (cellsOf kk).toArray) := e1.trans (below_setRow ((Ext.refl u_).alloc _) (Nat.le_refl _) _)
  go_upto_region 5 with (refine wpList_store_row rfl 23 _ _ rfl u_.heap.size (cellsOf kk).toArray rfl rfl 23 _ a1.out (by rw [S_kk]; rfl) (by rw [S_kk, S_zk]) O_kk ?_; simp only [Act.put])
  obtain ⟨ga, hg_⟩ : ∃ g, g = u_.heap.size := ⟨_, rfl⟩
  refine wp_gen (fun W => Ky W ga kk ∧ Ext w1 W) ⟨⟨by rw [hg_]; exact setRow_heap _ _ _ _ _ _ a1.out, L_kk⟩, E_⟩ ?_
  rw [← hg_]
  clear hg_ a1 E_ e1 q0 q1' CX
  rintro w2 ⟨kn, en⟩
  have P2 : Hid (∀ s', Ext w2 s' → Kp s' w.heap.size oo ∧ Ky s' (w.heap.size + 1) p ∧ Ky s' ga kk ∧ Ext w s') := fun s' e => by
    obtain ⟨p1, p2, p3⟩ := P1.out s' (en.trans e)
    exact ⟨p1, p2, kn.ext e, p3⟩
  clear P1 kn en
  have q0 := Lib.hid (P2.out _ (Ext.refl _)).1
  have q1' := Lib.hid (P2.out _ (Ext.refl _)).2.1
  go_wp2_with (first
    | (refine wpList_load_row rfl 37 _ rfl w.heap.size rfl 37 (cellsOf oo).toArray (0, 0) _ q0.out.1 rfl rfl (by rw [S_oo]; rfl) ?_; simp only [Act.put, List.setIfInBounds_toArray, List.set_cons_zero, List.set_cons_succ])
    | (refine wpList_load_row rfl 23 _ rfl (w.heap.size + 1) rfl 23 (cellsOf p).toArray (0, 0) _ q1'.out.1 rfl rfl (by rw [S_p]; rfl) ?_; simp only [Act.put, List.setIfInBounds_toArray, List.set_cons_zero, List.set_cons_succ]))
  refine (CY.out _).mono ?_
  rintro e u_ ⟨rfl, e1⟩
  have a1 : Hid ((u_.alloc (Obj.cells (cellsOf zk).toArray 23)).heap[u_.heap.size]? = some (.cells (cellsOf zk).toArray 23 (0, 0))) := heap_alloc_new _ _
  have E_ : Ext w2 ((u_.alloc (Obj.cells (cellsOf zk).toArray 23)).setRow u_.heap.size (cellsOf kk).toArray) := e1.trans (below_setRow ((Ext.refl u_).alloc _) (Nat.le_refl _) _)
  go_upto_region 6 with (refine wpList_store_row rfl 23 _ _ rfl u_.heap.size (cellsOf kk).toArray rfl rfl 23 _ a1.out (by rw [S_kk]; rfl) (by rw [S_kk, S_zk]) O_kk ?_; simp only [Act.put])
  obtain ⟨gb, hg_⟩ : ∃ g, g = u_.heap.size := ⟨_, rfl⟩
  refine wp_gen (fun W => Ky W gb kk ∧ Ext w2 W) ⟨⟨by rw [hg_]; exact setRow_heap _ _ _ _ _ _ a1.out, L_kk⟩, E_⟩ ?_
  rw [← hg_]
  clear hg_ a1 E_ e1 q0 q1' CY
  rintro w3 ⟨kn, en⟩
  have P3 : Hid (∀ s', Ext w3 s' → Kp s' w.heap.size oo ∧ Ky s' (w.heap.size + 1) p ∧ Ky s' ga kk ∧ Ky s' gb kk ∧ Ext w s') := fun s' e => by
    obtain ⟨p1, p2, k_ga, p3⟩ := P2.out s' (en.trans e)
    exact ⟨p1, p2, k_ga, kn.ext e, p3⟩
  clear P2 kn en
  have hce : (ce == ce) = true := by simp
  go_wp2_with fail
  refine (PX.out _ (P3.out _ (Ext.refl _)).2.2.2.2).mono ?_
  rintro e w4 ⟨rfl, e4⟩
  go_wp2_with fail
  refine (PY.out _ (P3.out _ e4).2.2.2.2).mono ?_
  rintro e w5 ⟨rfl, e5⟩
  have P5 := Lib.hid (P3.out _ (e4.trans e5)).2.2
  clear P3 PX PY e4 e5
  go_wp2_with (first
    | (refine wpList_exec rfl (exec_eql_pairB (xs := pp) (ys := pp) (decide_eq_true rfl) L_pp L_pp rfl rfl rfl) ?_; simp only [Act.put, List.setIfInBounds_toArray, List.set_cons_zero, List.set_cons_succ])
    | (refine wpList_load_rowW rfl 23 _ rfl ga rfl 23 (cellsOf kk).toArray (0, 0) _ P5.out.1.1 rfl rfl (by rw [S_kk]; rfl) ?_; simp only [Act.put, List.setIfInBounds_toArray, List.set_cons_zero, List.set_cons_succ])
    | (refine wpList_load_rowW rfl 23 _ rfl gb rfl 23 (cellsOf kk).toArray (0, 0) _ P5.out.2.1.1 rfl rfl (by rw [S_kk]; rfl) ?_; simp only [Act.put, List.setIfInBounds_toArray, List.set_cons_zero, List.set_cons_succ])
    | (refine wpList_eql_keyB rfl _ _ _ rfl kk kk true (decide_eq_true rfl) rfl rfl L_kk L_kk ?_; simp only [Act.put, List.setIfInBounds_toArray, List.set_cons_zero, List.set_cons_succ]))
  go_ret
  exact ⟨rfl, P5.out.2.2⟩
theorem keysPairs_calls {w : World} {A : Option Addr} {n c : Nat} {xs s q p : List UInt8} (h : Bs w A n c xs) (hs : s.length = 32) (hq : q.length = 32) (hp : p.length = 32) {tg tp : TypeId × Nat × Nat} (hG : Gl w tg) (hP : Gp w tp) :
    Calls Tryd.prog 8 #[.slice A n c, .agg (cellsOf (s ++ q)).toArray, .agg (cellsOf p).toArray] w fun e w' => e = .returned (.bool true) ∧ Ext w w' := by
  by_cases q1 : 300 < n
  · exact keysPairs_out h hs hq hp hG hP q1
  · exact keysPairs_main h hs hq hp hG hP (by omega)
end Go.Proofs.YtadnmiedmcckkaaDoor
end

section
/-
  What the row's list says of blake.initial.
-/
namespace Go.Proofs.YtadnmiedmcckkaaDoor
open Go.ChangeShapes Go.WideShapes Go.ChangeAt Go.RowKit Go.Deep

def initZ : List Int := [1779033703, 3144134277, 1013904242, 2773480762, 1359893119, 2600822924, 528734635, 1541459225]
theorem gBlake : Tryd.prog.globalNamed "palfrey/blake.initial" = some 1 := by kernel_rfl
theorem gBlakeType : (Tryd.prog.globals[1]?).map (·.type) = some 55 := by kernel_rfl
theorem gl_of_tab {W : World} (h : Lib.TabIs Tryd.prog W "palfrey/blake.initial" .u32 initZ) : ∃ tg, Gl W tg := by
  unfold Lib.TabIs World.var? at h
  rw [gBlake] at h
  simp only [Option.bind_some] at h
  cases hh : W.heap[1]? with
  | none => rw [hh] at h; cases h
  | some o =>
    rw [hh] at h
    cases o with
    | cells cs t fr =>
      simp only [Option.some.injEq] at h
      subst h
      exact ⟨(t, fr), hh⟩
    | _ => cases h
theorem gl_of_laid {W : World} {rest : List (String × DataW Unit)} (h : laidMet Tryd.prog (("palfrey/blake.initial", Lib.tabData .u32 initZ) :: rest) W) : ∃ tg, Gl W tg :=
  gl_of_tab (Lib.tabIs_of_head (rest := rest) gBlake gBlakeType Tryd.underlying55 Tryd.underlying54 (by kernel_rfl) (by kernel_rfl) h)
end Go.Proofs.YtadnmiedmcckkaaDoor
end

section
/-
  What the row's list says of field.prime.
-/
namespace Go.Proofs.YtadnmiedmcckkaaDoor
open Go.ChangeShapes Go.WideShapes Go.ChangeAt Go.RowKit Go.Deep
set_option maxRecDepth 100000

def primeZ : List Int := [4294967277, 4294967295, 4294967295, 4294967295, 4294967295, 4294967295, 4294967295, 2147483647]
theorem gPrime : Tryd.prog.globalNamed "palfrey/field.prime" = some 0 := by kernel_rfl
theorem gPrimeType : (Tryd.prog.globals[0]?).map (·.type) = some 55 := by kernel_rfl
theorem gp_of_tab {W : World} (h : Lib.TabIs Tryd.prog W "palfrey/field.prime" .u32 primeZ) : ∃ tg, Gp W tg := by
  unfold Lib.TabIs World.var? at h
  rw [gPrime] at h
  simp only [Option.bind_some] at h
  cases hh : W.heap[0]? with
  | none => rw [hh] at h; cases h
  | some o =>
    rw [hh] at h
    cases o with
    | cells cs t fr =>
      simp only [Option.some.injEq] at h
      subst h
      refine ⟨(t, fr), ?_⟩
      unfold Gp
      rw [← primeL_eq]
      exact hh
    | _ => cases h
theorem gp_of_laid {W : World} {rest : List (String × DataW Unit)} (h : laidMet Tryd.prog (("palfrey/field.prime", Lib.tabData .u32 primeZ) :: rest) W) : ∃ tg, Gp W tg :=
  gp_of_tab (Lib.tabIs_of_head (rest := rest) gPrime gPrimeType Tryd.underlying55 Tryd.underlying54 (by kernel_rfl) (by kernel_rfl) h)
end Go.Proofs.YtadnmiedmcckkaaDoor
end

section
/-
  What the row's list says of field.prime and blake.initial.
-/
namespace Go.Proofs.YtadnmiedmcckkaaDoor
open Go.ChangeShapes Go.WideShapes Go.ChangeAt Go.RowKit Go.Deep
set_option maxRecDepth 100000

theorem laidMet_tail {P : Program} {W : World} {x : String × DataW Unit} {rest : List (String × DataW Unit)} (h : laidMet P (x :: rest) W) : laidMet P rest W := by
  obtain ⟨n, d⟩ := x
  obtain ⟨ps, ⟨g, t, cs, fuel, p, q, _, _, _, _, hr, rfl⟩, hnd, hall⟩ := h
  exact ⟨q, hr, (List.nodup_append.1 hnd).2.1, fun b off hm => hall b off (List.mem_append_right _ hm)⟩
theorem both_of_laid {W : World} {rest : List (String × DataW Unit)} (h : laidMet Tryd.prog (("palfrey/field.prime", Lib.tabData .u32 primeZ) :: ("palfrey/blake.initial", Lib.tabData .u32 initZ) :: rest) W) : (∃ tp, Gp W tp) ∧ ∃ tg, Gl W tg :=
  ⟨gp_of_laid h, gl_of_laid (laidMet_tail h)⟩
end Go.Proofs.YtadnmiedmcckkaaDoor
end

section
/-
  How the arguments of the statements read: a slice of bytes, of slices of bytes, of numbers. No conditions.
-/
namespace Go.Proofs.YtadnmiedmcckkaaDoor
open Go.ChangeShapes Go.WideShapes Go.ChangeAt Go.RowKit Go.Deep

theorem bounds_i64 {a : Int} (h : (Lit.int .i64 a).wf = true) : -9223372036854775808 ≤ a ∧ a ≤ 9223372036854775807 := by
  simpa [Lit.wf, IntKind.min, IntKind.max, IntKind.signed, IntKind.bits] using h

section
variable {H : Type} {enc : TypeId × Value → H} {W : World} {P : Program}
theorem bs_of_trod {t e : TypeId} {a : Option Addr} {len cap : Nat} {d : DataW H} {p : List MemPlace} (ht : P.underlying t = some (.slice e)) (he : P.underlying e = some (.int .u8)) (hc : P.cellsOf e = 1)
    (h : DataW.Trod enc P W 0 (fun _ => true) true t (.slice a len cap) d p) : ∃ xs, Bs W a len cap xs := by
  obtain ⟨fuel, hf⟩ := h
  rcases open_ints ht he hc hf with ⟨hcs, _⟩ | ⟨x, l, c, zs, hcs, _, hl, hm, hz, _, hcell, hwz⟩
  · simp [Value.cells] at hcs
    obtain ⟨rfl, rfl, rfl⟩ := hcs
    exact ⟨[], Bs.nil W⟩
  · simp [Value.cells] at hcs
    obtain ⟨rfl, rfl, rfl⟩ := hcs
    exact bs_of_row (.inr ⟨_, rfl, hl, hm, by simpa using hz, hcell, hwz⟩)
end
end Go.Proofs.YtadnmiedmcckkaaDoor
end

section
/-
  How an argument that is an array of bytes reads. No conditions.
-/
namespace Go.Proofs.YtadnmiedmcckkaaDoor
open Go.ChangeShapes Go.WideShapes Go.ChangeAt Go.RowKit Go.Deep

section
variable {H : Type} {enc : TypeId × Value → H} {W : World} {P : Program}
theorem okWide_array {r : Reach} {b n : Nat} {t e : TypeId} {v : Value} (ht : P.underlying t = some (.array n e)) (h : Value.okWide P W r b t v) : ∃ cs, v = .agg cs ∧ cs.size = P.cellsOf t := by
  simp only [Value.okWide, ht] at h
  obtain ⟨cs, h1, h2, _⟩ := h
  exact ⟨cs, h1, h2⟩
def byteV : Option Value → Nat
  | some (.int _ z) => z.toNat
  | _ => 0
theorem bytes_of_trod {n fuel : Nat} {t e : TypeId} {cs : List Value} {x : DataW H × List MemPlace} (ht : P.underlying t = some (.array n e)) (he : P.underlying e = some (.int .u8)) (hce : P.cellsOf e = 1) (hct : P.cellsOf t = n)
    (hf : DataW.trod enc P W 0 (fun _ => true) true fuel t cs = some x) : ∃ xs, cs = cellsOf xs ∧ xs.length = n := by
  cases fuel with
  | zero => simp [DataW.trod] at hf
  | succ fuel =>
    simp only [DataW.trod, ht, hce, hct, Nat.mul_one] at hf
    split at hf
    · rename_i hl
      obtain ⟨xs, hm, hx⟩ := Option.map_eq_some_iff.1 hf
      have hcell : ∀ i, i < n → ∃ z : Int, cs[i]? = some (.int .u8 z) ∧ 0 ≤ z ∧ z ≤ 255 := fun i hi => by
        obtain ⟨y, hy, hfy⟩ := Lib.mapM_at hm i i (by simp [hi])
        obtain ⟨z, hc, rfl, hw⟩ := DataW.trod_int he hfy
        have h1 : cs[i]? = some (.int .u8 z) := by
          have := congrArg (·[0]?) hc
          simpa [List.getElem?_take, List.getElem?_drop] using this
        have hb : 0 ≤ z ∧ z ≤ 255 := by simpa [Lit.wf, IntKind.min, IntKind.max, IntKind.signed, IntKind.bits] using hw
        exact ⟨z, h1, hb⟩
      refine ⟨(List.range n).map fun i => UInt8.ofNat (byteV cs[i]?), ?_, by simp⟩
      apply List.ext_getElem?
      intro i
      by_cases hi : i < n
      · obtain ⟨z, h1, h2, h3⟩ := hcell i hi
        have h4 := cellsOf_get (xs := (List.range n).map fun i => UInt8.ofNat (byteV cs[i]?)) (j := i) (by simp; exact hi)
        rw [h1]
        refine Eq.trans ?_ h4.symm
        congr 2
        unfold bt
        simp [List.getD, hi, h1, byteV]
        omega
      · rw [List.getElem?_eq_none (by omega), List.getElem?_eq_none (by simp [cellsOf_len]; omega)]
    · cases hf
theorem key_of_trod {r : Reach} {b n : Nat} {t e : TypeId} {v : Value} {d : DataW H} {p : List MemPlace} (ht : P.underlying t = some (.array n e)) (he : P.underlying e = some (.int .u8)) (hce : P.cellsOf e = 1) (hct : P.cellsOf t = n)
    (hv : Value.okWide P W r b t v) (h : DataW.Trod enc P W 0 (fun _ => true) true t v d p) : ∃ xs, v = .agg (cellsOf xs).toArray ∧ xs.length = n := by
  obtain ⟨cs, rfl, hsz⟩ := okWide_array ht hv
  obtain ⟨fuel, hf⟩ := h
  obtain ⟨xs, hx, hl⟩ := bytes_of_trod ht he hce hct hf
  refine ⟨xs, ?_, hl⟩
  congr 1
  apply Array.ext'
  rw [← hx]; rfl
end
end Go.Proofs.YtadnmiedmcckkaaDoor
end

section
/-
  How a pair of keys reads as an argument. No conditions.
-/
namespace Go.Proofs.YtadnmiedmcckkaaDoor
open Go.ChangeShapes Go.WideShapes Go.ChangeAt Go.RowKit Go.Deep
set_option maxRecDepth 100000

section
variable {H : Type} {enc : TypeId × Value → H} {W : World}
theorem pair64_of_trod {r : Reach} {b : Nat} {v : Value} {d : DataW H} {p : List MemPlace} (hv : Value.okWide Tryd.prog W r b 37 v) (h : DataW.Trod enc Tryd.prog W 0 (fun _ => true) true 37 v d p) :
    ∃ xs ys, v = .agg (cellsOf (xs ++ ys)).toArray ∧ xs.length = 32 ∧ ys.length = 32 := by
  obtain ⟨cs, rfl, hsz⟩ := okWide_struct Tryd.underlying37 hv
  have hC : Tryd.prog.cellsOf 37 = 64 := by kernel_rfl
  obtain ⟨fuel, hf⟩ := h
  obtain ⟨xs, n, _, hx, _, hlen, hg⟩ := DataW.trod_struct Tryd.underlying37 hf
  have c0 : Tryd.prog.cellsOf 23 = 32 := by kernel_rfl
  have ce : Tryd.prog.cellsOf 5 = 1 := by kernel_rfl
  have hl : cs.toList.length = 64 := by rw [Array.length_toList, hsz, hC]
  have g0 : DataW.trod enc Tryd.prog W 0 (fun _ => true) true n 23 ((cs.toList.drop 0).take 32) = xs[0]? := by rw [← c0]; exact hg 0 _ rfl
  have g1 : DataW.trod enc Tryd.prog W 0 (fun _ => true) true n 23 ((cs.toList.drop 32).take 32) = xs[1]? := by rw [← c0]; exact hg 1 _ rfl
  have hxl : xs.length = 2 := hlen
  rw [List.getElem?_eq_getElem (by omega)] at g0 g1
  obtain ⟨ks, hk, lk⟩ := bytes_of_trod Tryd.underlying23 Tryd.underlying5 ce c0 g0
  obtain ⟨ns, hn, ln⟩ := bytes_of_trod Tryd.underlying23 Tryd.underlying5 ce c0 g1
  refine ⟨ks, ns, ?_, lk, ln⟩
  congr 1
  apply Array.ext'
  have e1 : cs.toList = (cs.toList.drop 0).take 32 ++ (cs.toList.drop 32).take 32 := by
    rw [List.drop_zero]
    conv => lhs; rw [← List.take_append_drop 32 cs.toList]
    congr 1
    rw [List.take_of_length_le (by simp; omega)]
  rw [e1, hk, hn, cellsOf_app]
end
end Go.Proofs.YtadnmiedmcckkaaDoor
end
