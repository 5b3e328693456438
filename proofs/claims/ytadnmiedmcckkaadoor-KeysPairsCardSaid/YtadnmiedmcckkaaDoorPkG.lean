import Derived.Test.YtadnmiedmcckkaaDoorApiPair
import Derived.Test.YtadnmiedmcckkaaDoorSrcSt
import Derived.Test.YtadnmiedmcckkaaDoorPkH
import Derived.Test.YtadnmiedmcckkaaDoorFldOf
import Derived.Test.YtadnmiedmcckkaaDoorPkJ
import Derived.Test.YtadnmiedmcckkaaDoorComp
import Derived.Test.YtadnmiedmcckkaaDoorMx
section
/-
  keys.Pair, Common, the source's pairs; the document's (layer 8).
-/
namespace Go.Proofs.YtadnmiedmcckkaaDoor
open Go.ChangeShapes Go.WideShapes Go.ChangeAt Go.RowKit Go.Deep
set_option maxRecDepth 100000

/-- The pair of a seed. -/
def pairL (xs : List UInt8) : List UInt8 := macL [] xs ++ kL (multN (macL [] xs) 9)
theorem pairL_len (xs : List UInt8) : (pairL xs).length = 64 := by unfold pairL; rw [List.length_append, macL_len, kL_len]
/-- What two have in common; its number is 12 if it is nothing. -/
def comL (s p : List UInt8) : List UInt8 := kL (multN s (ofV p))
def comE (k : List UInt8) : Int := if k = List.replicate 32 0 then 12 else 0


set_option maxHeartbeats 4000000 in
theorem kpair_calls {w : World} {A : Option Addr} {n c : Nat} {xs : List UInt8} (h : Bs w A n c xs) {tg tp : TypeId × Nat × Nat} (hG : Gl w tg) (hP : Gp w tp) :
    Calls Tryd.prog 23 #[.slice A n c] w fun e w' => e = .returned (.agg (cellsOf (pairL xs)).toArray) ∧ Ext w w' := by
  have SUM : Hid (∀ W, Ext w W → Calls Tryd.prog 47 #[.slice A n c] W fun e w' => e = .returned (.agg (cellsOf (macL [] xs)).toArray) ∧ Ext W w') := fun W e => sum_calls (h.ext e) (hG.ext e)
  have BAS : Hid (∀ W, Ext w W → Calls Tryd.prog 16 #[.agg (cellsOf (macL [] xs)).toArray] W fun e w' => e = .returned (.agg (cellsOf (kL (multN (macL [] xs) 9))).toArray) ∧ Ext W w') := fun W e => base_calls (macL_len _ _) (hP.ext e)
  have BLT := Lib.hid (apair_built (macL_len [] xs) (kL_len (multN (macL [] xs) 9)))
  have RLe := pairL_len xs
  have hR_ : Hid (macL [] xs ++ kL (multN (macL [] xs) 9) = pairL xs) := rfl
  rw [hR_.out] at BLT
  clear hP hG
  have L_sk := macL_len [] xs
  have L_pk := kL_len (multN (macL [] xs) 9)
  clear hR_
  generalize kL (multN (macL [] xs) 9) = pk at *
  generalize macL [] xs = sk at *
  generalize pairL xs = rr at *
  have S_sk : (cellsOf sk).toArray.size = 32 := by simp [cellsOf_len, L_sk]
  have O_sk := cellsOf_one sk
  have S_rr : (cellsOf rr).toArray.size = 64 := by simp [cellsOf_len, RLe]
  have O_rr := cellsOf_one rr
  have hal : ∀ w, (zeroValue 23).run Tryd.prog w = .ok (.agg (cellsOf (List.replicate 32 0)).toArray) w := fun w => by rw [zeros32_cells]; exact key_alloc w
  have hal2 := apair_alloc
  have L_zk : (List.replicate 32 (0 : UInt8)).length = 32 := rfl
  have L_zp : (List.replicate 64 (0 : UInt8)).length = 64 := by simp
  generalize List.replicate 32 (0 : UInt8) = zk at *
  generalize List.replicate 64 (0 : UInt8) = zp at *
  have S_zk : (cellsOf zk).toArray.size = 32 := by simp [cellsOf_len, L_zk]
  have S_zp : (cellsOf zp).toArray.size = 64 := by simp [cellsOf_len, L_zp]
  have B0 : Hid (Kp (w.alloc (Obj.cells (cellsOf zp).toArray 37)) w.heap.size zp ∧ Ext w (w.alloc (Obj.cells (cellsOf zp).toArray 37))) := ⟨⟨heap_alloc_new _ _, L_zp⟩, (Ext.refl w).alloc _⟩
  go_enter Tryd.func23, Tryd.ntmps23
  go_wp2_with fail
  refine (SUM.out _ B0.out.2).mono ?_
  rintro e u_ ⟨rfl, e1⟩
  have a1 : Hid ((u_.alloc (Obj.cells (cellsOf zk).toArray 23)).heap[u_.heap.size]? = some (.cells (cellsOf zk).toArray 23 (0, 0))) := heap_alloc_new _ _
  have E_ : Ext (w.alloc (Obj.cells (cellsOf zp).toArray 37)) ((u_.alloc (Obj.cells (cellsOf zk).toArray 23)).setRow u_.heap.size (cellsOf sk).toArray) := e1.trans (below_setRow ((Ext.refl u_).alloc _) (Nat.le_refl _) _)
  go_upto_region 2 with (refine wpList_store_row rfl 23 _ _ rfl u_.heap.size (cellsOf sk).toArray rfl rfl 23 _ a1.out (by rw [S_sk]; rfl) (by rw [S_sk, S_zk]) O_sk ?_; simp only [Act.put])
  obtain ⟨g3, hg_⟩ : ∃ g, g = u_.heap.size := ⟨_, rfl⟩
  obtain ⟨r, hr_⟩ : ∃ r, r = w.heap.size := ⟨_, rfl⟩
  refine wp_gen (fun W => Ky W g3 sk ∧ Kp W r zp ∧ Ext w W) ⟨⟨by rw [hg_]; exact setRow_heap _ _ _ _ _ _ a1.out, L_sk⟩, by rw [hr_]; exact B0.out.1.ext E_, B0.out.2.trans E_⟩ ?_
  rw [← hg_, ← hr_]
  replace hr_ := Lib.hid hr_
  clear hg_ a1 E_ e1 B0 SUM
  rintro w1 ⟨k1, p1, x1⟩
  have Q1 : Hid (∀ s, Ext w1 s → Ky s g3 sk ∧ Kp s r zp ∧ Ext w s) := fun s e => ⟨k1.ext e, p1.ext e, x1.trans e⟩
  clear k1 p1 x1
  refine wp_region_free (R := Ext) Ext.refl (fun _ _ _ => Ext.trans) [0, 1, 2, 3] [4] [0, 0, 2, 7, 15] [true, true, true, true, false] [(0, 7, 16), (0, 8, 16), (2, 9, 256), (5, 10, 640), (15, 0, 1032)] (by kernel_rfl) (by kernel_rfl) (by kernel_rfl) (by kernel_rfl) ?_
  refine free_det (fun _ => Ext.refl _) _ rfl (v := .agg (cellsOf sk).toArray) (d := 7) rfl rfl ?_ ?_
  · intro a_ w_ hev hR hk
    have e3 : a_.eval (.tmp 3) = _ := hk 3 rfl
    exact (exec_load_row rfl e3 (Q1.out w_ (Ext.trans (Ext.refl _).drew hR)).1.1 rfl rfl (by rw [S_sk]; rfl))
  refine free_det (fun _ => Ext.refl _) _ rfl (v := .agg (cellsOf sk).toArray) (d := 8) rfl rfl ?_ ?_
  · intro a_ w_ hev hR hk
    have e3 : a_.eval (.tmp 3) = _ := hk 3 rfl
    exact (exec_load_row rfl e3 (Q1.out w_ (Ext.trans (Ext.refl _).drew hR)).1.1 rfl rfl (by rw [S_sk]; rfl))
  refine free_step _ rfl (fun u _ => u = .agg (cellsOf pk).toArray) (d := 9) rfl (fun _ _ _ h _ => h) rfl ?_ ?_
  · intro a_ w_ hev hR hk K1 hK1
    have e7 : a_.eval (.tmp 7) = _ := hk 7 rfl
    clear hk
    have f7 := ev_get.trans e7
    go_simp
    refine (BAS.out _ (Q1.out w_ (Ext.trans (Ext.refl _).drew hR)).2.2).mono ?_
    rintro e_ w2_ ⟨rfl, x_⟩
    exact hK1.out _ _ x_ rfl
  refine free_det (fun _ => Ext.refl _) _ rfl (v := .agg (cellsOf rr).toArray) (d := 10) rfl rfl ?_ ?_
  · intro a_ w_ hev hR hk
    have e6 : a_.eval (.tmp 6) = _ := hk 6 rfl
    have e8 : a_.eval (.tmp 8) = _ := hk 8 rfl
    exact (exec_build_as rfl (by simp only [List.map_toArray, List.map_cons, List.map_nil, e6, e8]; exact BLT.out))
  intro v_ w2 hR hV_ hN_
  obtain ⟨hv3, hv2, hv1, hv0, _⟩ := hV_
  replace hv0 : v_ 0 = _ := hv0
  replace hv1 : v_ 1 = _ := hv1
  replace hv2 : v_ 2 = _ := hv2
  replace hv3 : v_ 3 = _ := hv3
  dsimp only [putE, dOpt]
  clear hN_
  rw [hv0, hv1, hv2, hv3]
  simp only [Act.put, List.setIfInBounds_toArray, List.set_cons_zero, List.set_cons_succ]
  clear hv0 hv1 hv2 hv3
  have kz := Lib.hid (Q1.out w2 ((Ext.refl _).drew.trans hR)).2
  refine any_more (z := 4) _ rfl rfl (by kernel_rfl) ?_
  intro K1 hK1
  refine wp_store_row _ _ _ rfl r (cellsOf rr).toArray rfl rfl 37 (cellsOf zp).toArray kz.out.1.1 (by rw [S_rr]; rfl) (by rw [S_rr, S_zp]) O_rr ?_
  refine hK1.out _ _ ?_
  clear hK1 K1
  refine any_nil (by kernel_rfl) ?_
  clear hR Q1
  go_wp2_with fail
  (try simp only [Exit.inBlock, Exit.then])
  refine bodyPost_ret (results_cell_row rfl _ _ r 37 (cellsOf rr).toArray (0, 0) _ rfl (setRow_heap _ _ _ _ _ _ kz.out.1.1) rfl rfl (by rw [S_rr]; rfl)) rfl ?_
  exact ⟨rfl, below_setRow kz.out.2 (by rw [hr_.out]; exact Nat.le_refl _) _⟩


set_option maxHeartbeats 4000000 in
theorem pairOf_calls {w : World} {lo g k : Nat} {xs : List UInt8} (h : SrcSt w lo g xs k) (hk : k < 1000000) {tg tp : TypeId × Nat × Nat} (hG : Gl w tg) (hP : Gp w tp) (hq : 0 < lo) :
    Calls Tryd.prog 51 #[.func (.func 28) #[.pointer (some ⟨g, 0, none⟩)] #[]] w fun e w' => e = .returned (.agg (cellsOf (pairL (srcK xs k))).toArray) ∧ w.grownBy w' (some g) ∧ SrcSt w' lo g xs (k + 1) := by
  have hal : ∀ w, (zeroValue 23).run Tryd.prog w = .ok (.agg (cellsOf (List.replicate 32 0)).toArray) w := fun w => by rw [zeros32_cells]; exact key_alloc w
  have hal2 := apair_alloc
  have L_zk : (List.replicate 32 (0 : UInt8)).length = 32 := rfl
  have L_zp : (List.replicate 64 (0 : UInt8)).length = 64 := by simp
  generalize List.replicate 32 (0 : UInt8) = zk at *
  generalize List.replicate 64 (0 : UInt8) = zp at *
  have S_zk : (cellsOf zk).toArray.size = 32 := by simp [cellsOf_len, L_zk]
  have S_zp : (cellsOf zp).toArray.size = 64 := by simp [cellsOf_len, L_zp]
  have x0 : Ext w (w.alloc (Obj.cells (cellsOf zp).toArray 37)) := (Ext.refl w).alloc _
  have KE := Lib.hid (skey_calls (h.ext x0) hk (hG.ext x0))
  have gl : Hid (∀ W, (w.alloc (Obj.cells (cellsOf zp).toArray 37)).grownBy W (some g) → Gl W tg ∧ Gp W tp ∧ Kp W w.heap.size zp ∧ w.grownBy W (some g)) := fun W e =>
    have hlo := h.1
    ⟨(e.block _ (by rw [size_alloc]; exact Nat.lt_succ_of_lt hG.lt) (fun q => by have := Option.some.inj q; omega)).trans (hG.ext x0),
     (e.block _ (by rw [size_alloc]; exact Nat.lt_succ_of_lt hP.lt) (fun q => by have := Option.some.inj q; omega)).trans (hP.ext x0),
     ⟨grown_keep e (by have := h.lt; omega) (heap_alloc_new _ _), L_zp⟩, grown_trans' (grown_of_ext x0) e⟩
  have glt := h.lt
  have PA : Hid (∀ (W : World) (A : Option Addr) (m d : Nat), Gl W tg → Gp W tp → Bs W A m d (srcK xs k) → Calls Tryd.prog 23 #[.slice A m d] W fun e w' => e = .returned (.agg (cellsOf (pairL (srcK xs k))).toArray) ∧ Ext W w') := fun W A m d h1 h2 hb => kpair_calls hb h1 h2
  clear h hG hP x0
  have L_rr := pairL_len (srcK xs k)
  generalize pairL (srcK xs k) = rr at *
  have L_dk := srcK_len xs k
  generalize srcK xs k = dk at *
  have S_dk : (cellsOf dk).toArray.size = 32 := by simp [cellsOf_len, L_dk]
  have O_dk := cellsOf_one dk
  have S_rr : (cellsOf rr).toArray.size = 64 := by simp [cellsOf_len, L_rr]
  have O_rr := cellsOf_one rr
  obtain ⟨r, hr_⟩ : ∃ r, r = w.heap.size := ⟨_, rfl⟩
  go_enter Tryd.func51, Tryd.ntmps51
  go_wp2_with fail
  refine KE.out.mono ?_
  rintro e w1 ⟨rfl, g1, s1⟩
  obtain ⟨q1, q2, q3, q4⟩ := gl.out _ g1
  rw [← hr_] at q3 ⊢
  have a1 : Hid ((w1.alloc (Obj.cells (cellsOf zk).toArray 23)).heap[w1.heap.size]? = some (.cells (cellsOf zk).toArray 23 (0, 0))) := heap_alloc_new _ _
  have E_ : Ext w1 ((w1.alloc (Obj.cells (cellsOf zk).toArray 23)).setRow w1.heap.size (cellsOf dk).toArray) := below_setRow ((Ext.refl w1).alloc _) (Nat.le_refl _) _
  replace hr_ := Lib.hid hr_
  replace q3 := Lib.hid q3
  go_upto_region 2 with (refine wpList_store_row rfl 23 _ _ rfl w1.heap.size (cellsOf dk).toArray rfl rfl 23 _ a1.out (by rw [S_dk]; rfl) (by rw [S_dk, S_zk]) O_dk ?_; simp only [Act.put])
  obtain ⟨g3, hg_⟩ : ∃ g, g = w1.heap.size := ⟨_, rfl⟩
  refine wp_gen (fun W => Ky W g3 dk ∧ Kp W r zp ∧ Gl W tg ∧ Gp W tp ∧ w.grownBy W (some g) ∧ SrcSt W lo g xs (k + 1)) ⟨⟨by rw [hg_]; exact setRow_heap _ _ _ _ _ _ a1.out, L_dk⟩, q3.out.ext E_, q1.ext E_, q2.ext E_, grown_ext q4 E_, s1.ext E_⟩ ?_
  rw [← hg_]
  clear hg_ a1 E_ g1 s1 q1 q2 q3 q4 gl KE
  rintro w2 ⟨k2, p2, l2, f2, g2, s2⟩
  have PB := Lib.hid (PA.out _ _ _ _ l2 f2 k2.bs)
  replace p2 := Lib.hid p2
  replace g2 := Lib.hid g2
  replace s2 := Lib.hid s2
  clear k2 l2 f2 PA
  go_wp2_with fail
  refine PB.out.mono ?_
  rintro e w3 ⟨rfl, e3⟩
  have kr := Lib.hid (p2.out.ext e3)
  have gr := Lib.hid (grown_ext g2.out e3)
  have sr := Lib.hid (s2.out.ext e3)
  clear p2 g2 s2 e3 PB
  go_wp2_with (refine wpList_store_row rfl 37 _ _ rfl r (cellsOf rr).toArray rfl rfl 37 _ kr.out.1 (by rw [S_rr]; rfl) (by rw [S_rr, S_zp]) O_rr ?_; simp only [Act.put])
  (try simp only [Exit.inBlock, Exit.then])
  refine bodyPost_ret (results_cell_row rfl _ _ r 37 (cellsOf rr).toArray (0, 0) _ rfl (setRow_heap _ _ _ _ _ _ kr.out.1) rfl rfl (by rw [S_rr]; rfl)) rfl ?_
  exact ⟨rfl, grown_row gr.out (by rw [hr_.out]; exact Nat.le_refl _), sr.out.row (by have := hr_.out; omega)⟩

set_option maxHeartbeats 4000000 in
theorem spair_calls {w : World} {lo g k : Nat} {xs : List UInt8} (h : SrcSt w lo g xs k) (hk : k < 1000000) {tg tp : TypeId × Nat × Nat} (hG : Gl w tg) (hP : Gp w tp) (hq : 0 < lo) :
    Calls Tryd.prog 27 #[.pointer (some ⟨g, 0, none⟩)] w fun e w' => e = .returned (.agg (cellsOf (pairL (srcK xs k))).toArray) ∧ w.grownBy w' (some g) ∧ SrcSt w' lo g xs (k + 1) := by
  have hmf : ∀ (fn : Fn) (first cap : Array Value) (w : World), (Instr.makeFunc fn first cap).run Tryd.prog w = .ok (.func fn first cap) w := fun _ _ _ _ => rfl
  have hal2 := apair_alloc
  have L_zp : (List.replicate 64 (0 : UInt8)).length = 64 := by simp
  generalize List.replicate 64 (0 : UInt8) = zp at *
  have S_zp : (cellsOf zp).toArray.size = 64 := by simp [cellsOf_len, L_zp]
  have x0 : Ext w (w.alloc (Obj.cells (cellsOf zp).toArray 37)) := (Ext.refl w).alloc _
  have KE := Lib.hid (pairOf_calls (h.ext x0) hk (hG.ext x0) (hP.ext x0) hq)
  have glt := h.lt
  have gl : Hid (∀ W, (w.alloc (Obj.cells (cellsOf zp).toArray 37)).grownBy W (some g) → Kp W w.heap.size zp ∧ w.grownBy W (some g)) := fun W e =>
    ⟨⟨grown_keep e (by omega) (heap_alloc_new _ _), L_zp⟩, grown_trans' (grown_of_ext x0) e⟩
  clear h hG hP x0
  have L_rr := pairL_len (srcK xs k)
  generalize pairL (srcK xs k) = rr at *
  have S_rr : (cellsOf rr).toArray.size = 64 := by simp [cellsOf_len, L_rr]
  have O_rr := cellsOf_one rr
  go_enter Tryd.func27, Tryd.ntmps27
  go_wp2_with fail
  refine KE.out.mono ?_
  rintro e w1 ⟨rfl, g1, s1⟩
  obtain ⟨q3, q4⟩ := gl.out _ g1
  replace q3 := Lib.hid q3
  replace q4 := Lib.hid q4
  replace s1 := Lib.hid s1
  clear g1 gl KE
  go_wp2_with (refine wpList_store_row rfl 37 _ _ rfl w.heap.size (cellsOf rr).toArray rfl rfl 37 _ q3.out.1 (by rw [S_rr]; rfl) (by rw [S_rr, S_zp]) O_rr ?_; simp only [Act.put])
  (try simp only [Exit.inBlock, Exit.then])
  refine bodyPost_ret (results_cell_row rfl _ _ w.heap.size 37 (cellsOf rr).toArray (0, 0) _ rfl (setRow_heap _ _ _ _ _ _ q3.out.1) rfl rfl (by rw [S_rr]; rfl)) rfl ?_
  exact ⟨rfl, grown_row q4.out (Nat.le_refl _), s1.out.row glt⟩
end Go.Proofs.YtadnmiedmcckkaaDoor
end

section
/-
  keys.Common; the document's.
-/
namespace Go.Proofs.YtadnmiedmcckkaaDoor
open Go.ChangeShapes Go.WideShapes Go.ChangeAt Go.RowKit Go.Deep
set_option maxRecDepth 100000

theorem comL_len (s p : List UInt8) : (comL s p).length = 32 := kL_len _
theorem zero_built : Tryd.prog.built 23 [] = some (cellsOf (List.replicate 32 0)).toArray := by rw [zeros32_cells]; exact zeros32_built


set_option maxHeartbeats 4000000 in
theorem common_calls {w : World} {s q p : List UInt8} (hs : s.length = 32) (hq : q.length = 32) (hp : p.length = 32) {tp : TypeId × Nat × Nat} (hP : Gp w tp) :
    Calls Tryd.prog 21 #[.agg (cellsOf (s ++ q)).toArray, .agg (cellsOf p).toArray] w fun e w' => e = .returned (.tuple #[.agg (cellsOf (comL s p)).toArray, .int .i64 (comE (comL s p))]) ∧ Ext w w' := by
  have MU : Hid (∀ W, Ext w W → Calls Tryd.prog 14 #[.agg (cellsOf s).toArray, .agg (cellsOf p).toArray] W fun e w' => e = .returned (.agg (cellsOf (comL s p)).toArray) ∧ Ext W w') := fun W e => mult_calls hs hp (hP.ext e)
  have L_rk := comL_len s p
  have hE : Hid (comE (comL s p) = if comL s p = List.replicate 32 0 then 12 else 0) := rfl
  clear hP
  generalize comL s p = rk at *
  generalize hce : comE rk = ce at *
  replace hce := Lib.hid hce
  have S_rk : (cellsOf rk).toArray.size = 32 := by simp [cellsOf_len, L_rk]
  have O_rk := cellsOf_one rk
  have S_s : (cellsOf s).length = 32 := by simp [cellsOf_len, hs]
  have S_p : (cellsOf p).toArray.size = 32 := by simp [cellsOf_len, hp]
  have S_o : (cellsOf (s ++ q)).toArray.size = 64 := by simp [cellsOf_len, hs, hq]
  have hal : ∀ w, (zeroValue 23).run Tryd.prog w = .ok (.agg (cellsOf (List.replicate 32 0)).toArray) w := fun w => by rw [zeros32_cells]; exact key_alloc w
  have hbz := Lib.hid zero_built
  have L_zk : (List.replicate 32 (0 : UInt8)).length = 32 := rfl
  generalize List.replicate 32 (0 : UInt8) = zk at *
  have S_zk : (cellsOf zk).toArray.size = 32 := by simp [cellsOf_len, L_zk]
  have O_zk := cellsOf_one zk
  have B0 : Hid (∀ s', Ext (((w.alloc (Obj.cells (cellsOf (s ++ q)).toArray 37)).alloc (Obj.cells (cellsOf p).toArray 23)).alloc (Obj.cells (cellsOf zk).toArray 23)) s' → Kp s' w.heap.size (s ++ q) ∧ Ky s' (w.heap.size + 1) p ∧ Ky s' (w.heap.size + 1 + 1) zk ∧ Ext w s') := fun s' e => ⟨Kp.ext ⟨heap_alloc30 _ _ _ _, by rw [List.length_append, hs, hq]⟩ e, Ky.ext ⟨heap_alloc31 _ _ _ _, hp⟩ e, Ky.ext ⟨heap_alloc32 _ _ _ _, L_zk⟩ e, ((((Ext.refl w).alloc _).alloc _).alloc _).trans e⟩
  go_enter Tryd.func21, Tryd.ntmps21
  go_upto_region 1 with fail
  refine wp_gen (fun W => ∀ s', Ext W s' → Kp s' w.heap.size (s ++ q) ∧ Ky s' (w.heap.size + 1) p ∧ Ky s' (w.heap.size + 1 + 1) zk ∧ Ext w s') B0.out ?_
  clear B0
  rintro w0 P0
  replace P0 := Lib.hid P0
  have q0 := Lib.hid (P0.out _ (Ext.refl _)).1
  have q1 := Lib.hid (P0.out _ (Ext.refl _)).2.1
  go_wp2_with (first
    | (refine wpList_load_mid rfl (g := w.heap.size) (off := 0) (ys := cellsOf s) rfl rfl q0.out.at0 rfl rfl (by rw [S_s]; rfl) ?_; simp only [Act.put, List.setIfInBounds_toArray, List.set_cons_zero, List.set_cons_succ])
    | (refine wpList_load_row rfl 23 _ rfl (w.heap.size + 1) rfl 23 (cellsOf p).toArray (0, 0) _ q1.out.1 rfl rfl (by rw [S_p]; rfl) ?_; simp only [Act.put, List.setIfInBounds_toArray, List.set_cons_zero, List.set_cons_succ]))
  refine (MU.out _ (P0.out _ (Ext.refl _)).2.2.2).mono ?_
  rintro e u_ ⟨rfl, e1⟩
  have a1 : Hid ((u_.alloc (Obj.cells (cellsOf zk).toArray 23)).heap[u_.heap.size]? = some (.cells (cellsOf zk).toArray 23 (0, 0))) := heap_alloc_new _ _
  have E_ : Ext w0 ((u_.alloc (Obj.cells (cellsOf zk).toArray 23)).setRow u_.heap.size (cellsOf rk).toArray) := e1.trans (below_setRow ((Ext.refl u_).alloc _) (Nat.le_refl _) _)
  go_upto_region 2 with (refine wpList_store_row rfl 23 _ _ rfl u_.heap.size (cellsOf rk).toArray rfl rfl 23 _ a1.out (by rw [S_rk]; rfl) (by rw [S_rk, S_zk]) O_rk ?_; simp only [Act.put])
  obtain ⟨g6, hg_⟩ : ∃ g, g = u_.heap.size := ⟨_, rfl⟩
  refine wp_gen (fun W => Ky W g6 rk ∧ Ky W (w.heap.size + 1 + 1) zk ∧ Ext w W) ⟨⟨by rw [hg_]; exact setRow_heap _ _ _ _ _ _ a1.out, L_rk⟩, (P0.out _ E_).2.2⟩ ?_
  rw [← hg_]
  clear hg_ a1 E_ e1 q0 q1 P0 MU
  rintro w1 ⟨k1, z1, x1⟩
  have S1 : Hid (∀ (W : World), Ext w1 W → Ky W (g6 + 1) zk → True) := fun _ _ _ => trivial
  clear S1
  have n1 : Hid (Ky (w1.alloc (Obj.cells (cellsOf zk).toArray 23)) w1.heap.size zk) := ⟨heap_alloc_new _ _, L_zk⟩
  have m1 : Hid (Ext w1 (w1.alloc (Obj.cells (cellsOf zk).toArray 23))) := (Ext.refl _).alloc _
  obtain ⟨g7, hg_⟩ : ∃ g, g = w1.heap.size := ⟨_, rfl⟩
  go_upto_region 3 with fail
  refine wp_gen (fun W => Ky W g6 rk ∧ Ky W g7 zk ∧ Ky W (w.heap.size + 1 + 1) zk ∧ Ext w W) ⟨k1.ext m1.out, by rw [hg_]; exact n1.out, z1.ext m1.out, x1.trans m1.out⟩ ?_
  rw [← hg_]
  clear hg_ n1 m1 k1 z1 x1
  rintro w2 ⟨k1, n1, z1, x1⟩
  have Q2 : Hid (∀ s', Ext w2 s' → Ky s' g6 rk ∧ Ky s' g7 zk ∧ Ky s' (w.heap.size + 1 + 1) zk ∧ Ext w s') := fun s' e => ⟨k1.ext e, n1.ext e, z1.ext e, x1.trans e⟩
  have SA : Hid (∀ W, Ky W g6 rk → Ky W g7 zk → Calls Tryd.prog 46 #[.slice (some ⟨g6, 0, none⟩) 32 32, .slice (some ⟨g7, 0, none⟩) 32 32] W fun e w' => e = .returned (.bool (decide (rk = zk))) ∧ Ext W w') := fun W h1 h2 => by
    refine (same_calls h1.bs h2.bs).mono ?_
    rintro e w' ⟨he, k, rfl⟩
    exact ⟨he, (Ext.refl W).drewN k⟩
  clear k1 n1 z1 x1
  obtain ⟨b, hb⟩ : ∃ b, b = decide (rk = zk) := ⟨_, rfl⟩
  rw [← hb] at SA
  replace hb := Lib.hid (fun _ : Unit => hb)
  refine wp_region_free (R := Ext) Ext.refl (fun _ _ _ => Ext.trans) [0, 1, 2] [] [0, 0, 3] [true, true, true] [(0, 13, 128), (0, 14, 256), (3, 15, 24576)] (by kernel_rfl) (by kernel_rfl) (by kernel_rfl) (by kernel_rfl) ?_
  refine free_det (fun _ => Ext.refl _) _ rfl (v := ?_) (d := 13) rfl rfl ?_ ?_
  rotate_left
  · intro a_ w_ hev hR hk
    have e6 : a_.eval (.tmp 6) = _ := hk 6 rfl
    clear hk
    generalize a_.eval = ev at *
    obtain ⟨hev1, hev2, hev3⟩ := hev
    go_simp
    (try with_reducible rfl)
  refine free_det (fun _ => Ext.refl _) _ rfl (v := ?_) (d := 14) rfl rfl ?_ ?_
  rotate_left
  · intro a_ w_ hev hR hk
    have e7 : a_.eval (.tmp 7) = _ := hk 7 rfl
    clear hk
    generalize a_.eval = ev at *
    obtain ⟨hev1, hev2, hev3⟩ := hev
    go_simp
    (try with_reducible rfl)
  refine free_step _ rfl (fun u _ => u = .bool b) (d := 15) rfl (fun _ _ _ h _ => h) rfl ?_ ?_
  · intro a_ w_ hev hR hk K1 hK1
    have e12 : a_.eval (.tmp 12) = _ := hk 12 rfl
    have e13 : a_.eval (.tmp 13) = _ := hk 13 rfl
    clear hk
    have f12 := ev_get.trans e12
    have f13 := ev_get.trans e13
    go_simp
    refine (SA.out _ (Q2.out w_ (Ext.trans (Ext.refl _).drew hR)).1 (Q2.out w_ (Ext.trans (Ext.refl _).drew hR)).2.1).mono ?_
    rintro e_ w2_ ⟨rfl, x_⟩
    exact hK1.out _ _ x_ rfl
  intro v_ w3 hR hV_ hN_
  obtain ⟨hv2, hv1, hv0, _⟩ := hV_
  replace hv0 : v_ 0 = _ := hv0
  replace hv1 : v_ 1 = _ := hv1
  replace hv2 : v_ 2 = _ := hv2
  dsimp only [putE, dOpt]
  clear hN_
  rw [hv0, hv1, hv2]
  simp only [Act.put, List.setIfInBounds_toArray, List.set_cons_zero, List.set_cons_succ]
  clear hv0 hv1 hv2
  have Q3 := Lib.hid (Q2.out w3 ((Ext.refl _).drew.trans hR))
  refine any_nil (by kernel_rfl) ?_
  clear hR Q2 SA
  have k2 := Lib.hid Q3.out.1
  have z2 := Lib.hid Q3.out.2.2.1
  have x2 := Lib.hid Q3.out.2.2.2
  clear Q3
  by_cases hz : rk = zk
  · have hbt : b = true := by rw [hb.out ()]; exact decide_eq_true hz
    have hE2 : Hid (ce = 12) := by unfold Hid; rw [hE.out, if_pos hz]
    clear hE hce hb
    subst hbt
    have hz' : Hid (cellsOf rk = cellsOf zk) := by unfold Hid; rw [hz]
    clear hz
    go_wp2_with (first
      | (refine wpList_build_as rfl _ _ rfl (cellsOf zk).toArray (by simp only [List.map_toArray, List.map_nil]; exact hbz.out) ?_; simp only [Act.put, List.setIfInBounds_toArray, List.set_cons_zero, List.set_cons_succ])
      | (refine wpList_store_row rfl 23 _ _ rfl (w.heap.size + 1 + 1) (cellsOf zk).toArray rfl rfl 23 _ z2.out.1 (by rw [S_zk]; rfl) rfl O_zk ?_; simp only [Act.put]))
    (try simp only [Exit.inBlock, Exit.then])
    refine bodyPost_ret (v := .tuple #[.agg (cellsOf zk).toArray, .int .i64 12]) ?_ rfl ?_
    · exact results_row_tmp rfl _ _ (w.heap.size + 1 + 1) 23 (cellsOf zk).toArray (0, 0) _ _ rfl rfl (setRow_heap _ _ _ _ _ _ z2.out.1) rfl rfl (by rw [S_zk]; rfl)
    exact ⟨by rw [hE2.out, hz'.out], below_setRow x2.out (by omega) _⟩
  · have hbt : b = false := by rw [hb.out ()]; exact decide_eq_false hz
    have hE2 : Hid (ce = 0) := by unfold Hid; rw [hE.out, if_neg hz]
    clear hE hce hb hz
    subst hbt
    go_wp2_with (first
      | (refine wpList_load_row rfl 23 _ rfl g6 rfl 23 (cellsOf rk).toArray (0, 0) _ k2.out.1 rfl rfl (by rw [S_rk]; rfl) ?_; simp only [Act.put, List.setIfInBounds_toArray, List.set_cons_zero, List.set_cons_succ])
      | (refine wpList_store_row rfl 23 _ _ rfl (w.heap.size + 1 + 1) (cellsOf rk).toArray rfl rfl 23 _ z2.out.1 (by rw [S_rk]; rfl) (by rw [S_rk, S_zk]) O_rk ?_; simp only [Act.put]))
    (try simp only [Exit.inBlock, Exit.then])
    refine bodyPost_ret (v := .tuple #[.agg (cellsOf rk).toArray, .int .i64 0]) ?_ rfl ?_
    · exact results_row_tmp rfl _ _ (w.heap.size + 1 + 1) 23 (cellsOf rk).toArray (0, 0) _ _ rfl rfl (setRow_heap _ _ _ _ _ _ z2.out.1) rfl rfl (by rw [S_rk]; rfl)
    exact ⟨by rw [hE2.out], below_setRow x2.out (by omega) _⟩

end Go.Proofs.YtadnmiedmcckkaaDoor
end

section
/-
  A number's bytes are those of the number. No conditions.
-/
namespace Go.Proofs.YtadnmiedmcckkaaDoor

theorem bt_kL_div {x k : Nat} (h : k < 32) : bt (kL x) k = x / 256 ^ k % 256 := by
  rw [bt_kL h]
  have e : 256 ^ k = 4294967296 ^ (k / 4) * 256 ^ (k % 4) := by
    rw [← pow_four]
    congr 1
    omega
  rw [e, ← Nat.div_div_eq_div_mul]
  unfold lb
  generalize x / 4294967296 ^ (k / 4) = X
  have : k % 4 = 0 ∨ k % 4 = 1 ∨ k % 4 = 2 ∨ k % 4 = 3 := by omega
  rcases this with h | h | h | h <;> rw [h] <;> simp only [Nat.pow_zero, Nat.pow_succ, Nat.one_mul, Nat.div_one] <;> omega
theorem ofN_kL (x : Nat) : ∀ i, i ≤ 32 → ofN (kL x) i = x % 256 ^ i
  | 0, _ => by rw [ofN, Nat.pow_zero, Nat.mod_one]
  | i + 1, h => by
    rw [ofN, ofN_kL x i (by omega), bt_kL_div (by omega), Nat.pow_succ, Nat.mod_mul, Nat.mul_comm (256 ^ i)]
theorem ofV_kL {x : Nat} (h : x < P25) : ofV (kL x) = x := by
  have hH : x < H8 := Nat.lt_trans h (by decide +kernel)
  have hM : x < 256 ^ 32 := Nat.lt_trans hH (by decide +kernel)
  unfold ofV
  rw [ofN_kL x 32 (Nat.le_refl _), Nat.mod_eq_of_lt hM, Nat.mod_eq_of_lt hH, Nat.mod_eq_of_lt h]
end Go.Proofs.YtadnmiedmcckkaaDoor
end

section
/-
  Bits of a secret, and the highest of a public key, that do not count. Plain mathematics; no conditions.
-/
namespace Go.Proofs.YtadnmiedmcckkaaDoor
open Go.ChangeShapes Go.WideShapes Go.ChangeAt Go.RowKit Go.Deep
set_option maxRecDepth 100000

theorem nat_u8 {a : Int} (h : (Lit.int .u8 a).wf = true) : ∃ z : Nat, a = (z : Int) ∧ z < 256 := by
  have hb : 0 ≤ a ∧ a ≤ 255 := by simpa [Lit.wf, IntKind.min, IntKind.max, IntKind.signed, IntKind.bits] using h
  exact ⟨a.toNat, by omega, by omega⟩
theorem ladN_congr {x : Nat} {f g : Nat → Bool} : ∀ m, (∀ j, j < m → f j = g j) → ladN x f m = ladN x g m
  | 0, _ => rfl
  | m + 1, h => by
    show swapN (f m) (stepN x (swapN (f m) (ladN x f m))) = swapN (g m) (stepN x (swapN (g m) (ladN x g m)))
    rw [h m (Nat.lt_succ_self m), ladN_congr m fun j hj => h j (by omega)]
theorem multN_congr {ks ls : List UInt8} (x : Nat) (h : ∀ i, i ≤ 254 → bitB ks i = bitB ls i) : multN ks x = multN ls x := by
  unfold multN
  rw [ladN_congr 255 fun j hj => h (254 - j) (by omega)]
theorem btS {xs : List UInt8} {i j x : Nat} (hi : i < xs.length) (hx : x < 256) : bt (xs.set i (UInt8.ofNat x)) j = if j = i then x else bt xs j := by
  unfold bt
  by_cases e : j = i
  · subst e; simp [List.getD, hi]; omega
  · rw [if_neg e]; simp [List.getD, List.getElem?_set, show ¬ i = j from fun q => e q.symm]
theorem mixLow (x n : Nat) {i : Nat} (h3 : 3 ≤ i) (h8 : i < 8) : ((x &&& 248) ||| (n &&& 7)) / 2 ^ i % 2 = x / 2 ^ i % 2 := by
  have e : ∀ y, y / 2 ^ i % 2 = (y.testBit i).toNat := fun y => by rw [Nat.testBit_eq_decide_div_mod_eq]; rcases Nat.mod_two_eq_zero_or_one (y / 2 ^ i) with q | q <;> simp [q]
  rw [e, e, Nat.testBit_or, Nat.testBit_and, Nat.testBit_and]
  have : i = 3 ∨ i = 4 ∨ i = 5 ∨ i = 6 ∨ i = 7 := by omega
  rcases this with rfl | rfl | rfl | rfl | rfl <;> simp [show Nat.testBit 248 3 = true from rfl, show Nat.testBit 248 4 = true from rfl, show Nat.testBit 248 5 = true from rfl, show Nat.testBit 248 6 = true from rfl, show Nat.testBit 248 7 = true from rfl, show Nat.testBit 7 3 = false from rfl, show Nat.testBit 7 4 = false from rfl, show Nat.testBit 7 5 = false from rfl, show Nat.testBit 7 6 = false from rfl, show Nat.testBit 7 7 = false from rfl]
theorem mixHigh (x n : Nat) {i : Nat} (h6 : i < 6) : ((x &&& 63) ||| (n &&& 192)) / 2 ^ i % 2 = x / 2 ^ i % 2 := by
  have e : ∀ y, y / 2 ^ i % 2 = (y.testBit i).toNat := fun y => by rw [Nat.testBit_eq_decide_div_mod_eq]; rcases Nat.mod_two_eq_zero_or_one (y / 2 ^ i) with q | q <;> simp [q]
  rw [e, e, Nat.testBit_or, Nat.testBit_and, Nat.testBit_and]
  have : i = 0 ∨ i = 1 ∨ i = 2 ∨ i = 3 ∨ i = 4 ∨ i = 5 := by omega
  rcases this with rfl | rfl | rfl | rfl | rfl | rfl <;> simp [show Nat.testBit 63 0 = true from rfl, show Nat.testBit 63 1 = true from rfl, show Nat.testBit 63 2 = true from rfl, show Nat.testBit 63 3 = true from rfl, show Nat.testBit 63 4 = true from rfl, show Nat.testBit 63 5 = true from rfl, show Nat.testBit 192 0 = false from rfl, show Nat.testBit 192 1 = false from rfl, show Nat.testBit 192 2 = false from rfl, show Nat.testBit 192 3 = false from rfl, show Nat.testBit 192 4 = false from rfl, show Nat.testBit 192 5 = false from rfl]
def lowB (x n : Nat) : Nat := (x &&& 248) ||| (n &&& 7)
def highB (x n : Nat) : Nat := (x &&& 63) ||| (n &&& 192)
theorem lowB_lt {x n : Nat} (hx : x < 256) (hn : n < 256) : lowB x n < 256 := Nat.or_lt_two_pow (n := 8) (Nat.lt_of_le_of_lt Nat.and_le_left hx) (Nat.lt_of_le_of_lt Nat.and_le_left hn)
theorem highB_lt {x n : Nat} (hx : x < 256) (hn : n < 256) : highB x n < 256 := Nat.or_lt_two_pow (n := 8) (Nat.lt_of_le_of_lt Nat.and_le_left hx) (Nat.lt_of_le_of_lt Nat.and_le_left hn)
def mixS (ks : List UInt8) (n : Nat) : List UInt8 := (ks.set 0 (UInt8.ofNat (lowB (bt ks 0) n))).set 31 (UInt8.ofNat (highB (bt ks 31) n))
theorem mixS_len {ks : List UInt8} (h : ks.length = 32) (n : Nat) : (mixS ks n).length = 32 := by simp [mixS, h]
theorem mult_mixS {ks : List UInt8} (h : ks.length = 32) {n : Nat} (hn : n < 256) (x : Nat) : multN (mixS ks n) x = multN ks x := by
  refine multN_congr x fun i hi => ?_
  unfold bitB
  by_cases a : i < 3 ∨ i = 255
  · rw [if_pos a, if_pos a]
  · rw [if_neg a, if_neg a]
    by_cases b : i = 254
    · rw [if_pos b, if_pos b]
    · rw [if_neg b, if_neg b]
      congr 2
      have hm := Nat.mod_lt i (show 0 < 8 by decide)
      have hd := Nat.div_add_mod i 8
      unfold mixS
      rw [btS (by simp [h]) (highB_lt (bt_lt ks 31) hn), btS (by simp [h]) (lowB_lt (bt_lt ks 0) hn)]
      by_cases c : i / 8 = 31
      · rw [if_pos c, c, highB, mixHigh _ _ (by omega)]
      · rw [if_neg c]
        by_cases d : i / 8 = 0
        · rw [if_pos d, d, lowB, mixLow _ _ (by omega) hm]
        · rw [if_neg d]
theorem ofV_top {ks ls : List UInt8} (h : ∀ j, j < 31 → bt ks j = bt ls j) (h31 : bt ks 31 % 128 = bt ls 31 % 128) : ofV ks = ofV ls := by
  have e : ∀ i, i ≤ 31 → ofN ks i = ofN ls i := by
    intro i
    induction i with
    | zero => intro _; rfl
    | succ i ih => intro hi; rw [ofN, ofN, ih (by omega), h i (by omega)]
  have key : ∀ xs : List UInt8, ofN xs 32 % H8 = (ofN xs 31 + bt xs 31 % 128 * 256 ^ 31) % H8 := fun xs => by
    have h8 : H8 = 128 * 256 ^ 31 := by decide +kernel
    rw [show ofN xs 32 = ofN xs 31 + bt xs 31 * 256 ^ 31 from rfl, h8]
    have hd := Nat.div_add_mod (bt xs 31) 128
    generalize bt xs 31 % 128 = r at *
    generalize bt xs 31 / 128 = q at *
    rw [← hd]
    generalize (256 : Nat) ^ 31 = M
    rw [Nat.add_mul, show 128 * q * M = 128 * M * q by rw [Nat.mul_assoc, Nat.mul_comm q, Nat.mul_assoc], show ofN xs 31 + (128 * M * q + r * M) = (ofN xs 31 + r * M) + 128 * M * q by omega, Nat.add_mul_mod_self_left]
  show ofN ks 32 % H8 % P25 = ofN ls 32 % H8 % P25
  rw [key, key, e 31 (Nat.le_refl _), h31]
def flipT (ks : List UInt8) : List UInt8 := ks.set 31 (UInt8.ofNat (bt ks 31 ^^^ 128))
theorem xor128 : ∀ x, x < 256 → x ^^^ 128 < 256 ∧ (x ^^^ 128) % 128 = x % 128 := by decide +kernel
theorem flipT_len {ks : List UInt8} (h : ks.length = 32) : (flipT ks).length = 32 := by simp [flipT, h]
theorem ofV_flipT {ks : List UInt8} (h : ks.length = 32) : ofV (flipT ks) = ofV ks := by
  obtain ⟨x1, x2⟩ := xor128 _ (bt_lt ks 31)
  refine ofV_top (fun j hj => ?_) ?_
  · unfold flipT; rw [btS (by omega) x1, if_neg (by omega)]
  · unfold flipT; rw [btS (by omega) x1, if_pos rfl]; exact x2
theorem kL_top {x : Nat} (h : x < P25) : bt (kL x) 31 < 128 := by
  rw [bt_kL_div (by decide)]
  have h2 : x < 128 * 256 ^ 31 := Nat.lt_of_lt_of_le h (by decide +kernel)
  have : x / 256 ^ 31 < 128 := (Nat.div_lt_iff_lt_mul (Nat.pow_pos (by decide))).mpr h2
  omega
theorem kL_nil : kL 0 = List.replicate 32 0 := by decide +kernel
theorem ofV_nil : ofV (List.replicate 32 0) = 0 := by decide +kernel
end Go.Proofs.YtadnmiedmcckkaaDoor
end

section
/-
  The law's awake (layer 8): a source tells a key.
-/
namespace Go.Proofs.YtadnmiedmcckkaaDoor
open Go.ChangeShapes Go.WideShapes Go.ChangeAt Go.RowKit Go.Deep
set_option maxRecDepth 100000

theorem aw8_key : decide (srcK [120] 0 = List.replicate 32 0) = false := by decide +kernel
theorem aw8_com : comL (List.replicate 32 0) (List.replicate 32 0) = List.replicate 32 0 := by unfold comL; rw [ofV_nil, mult_zero, kL_nil]
theorem rep64 : (List.replicate 64 (0 : UInt8)) = List.replicate 32 0 ++ List.replicate 32 0 := by rw [List.replicate_append_replicate]
set_option maxHeartbeats 4000000 in
theorem awake8_calls {w : World} {tg tp : TypeId × Nat × Nat} (hG : Gl w tg) (hP : Gp w tp) :
    Calls Tryd.prog 20 #[] w fun e w' => e = .returned (.bool true) ∧ Ext w w' := by
  have hcv := conv_const
  have bs : Hid (Bs (w.alloc (.cells #[.int .u8 120] 5 (1, 2))) (some ⟨w.heap.size, 0, none⟩) 1 1 [120] ∧ Ext w (w.alloc (.cells #[.int .u8 120] 5 (1, 2)))) := ⟨Bs.of_list rfl (heap_alloc_new _ _) ⟨rfl, by omega⟩, (Ext.refl w).alloc _⟩
  have NEW := Lib.hid (new_calls bs.out.1 (by omega) (hG.ext bs.out.2))
  have glt := hG.lt
  have plt := hP.lt
  have KEY_ : Hid (∀ (W : World) lo g, Ext w W → SrcSt W lo g [120] 0 → Calls Tryd.prog 28 #[.pointer (some ⟨g, 0, none⟩)] W fun e w' => e = .returned (.agg (cellsOf (srcK [120] 0)).toArray) ∧ W.grownBy w' (some g) ∧ SrcSt w' lo g [120] (0 + 1)) := fun W lo g e h => skey_calls h (by omega) (hG.ext e)
  have COM : Hid (∀ W, Ext w W → Calls Tryd.prog 21 #[.agg (cellsOf (List.replicate 64 0)).toArray, .agg (cellsOf (List.replicate 32 0)).toArray] W fun e w' => e = .returned (.tuple #[.agg (cellsOf (List.replicate 32 0)).toArray, .int .i64 12]) ∧ Ext W w') := fun W e => by
    rw [rep64]
    have := common_calls (w := W) (s := List.replicate 32 0) (q := List.replicate 32 0) (p := List.replicate 32 0) rfl rfl rfl (hP.ext e)
    rw [aw8_com, show comE (List.replicate 32 0) = 12 from if_pos rfl] at this
    exact this
  have hne : Hid ((!decide (srcK [120] 0 = List.replicate 32 0)) = true) := by unfold Hid; rw [aw8_key]; rfl
  clear hG hP
  have L_dk := srcK_len [120] 0
  generalize srcK [120] 0 = dk at *
  have S_dk : (cellsOf dk).toArray.size = 32 := by simp [cellsOf_len, L_dk]
  have O_dk := cellsOf_one dk
  have hal : ∀ w, (zeroValue 23).run Tryd.prog w = .ok (.agg (cellsOf (List.replicate 32 0)).toArray) w := fun w => by rw [zeros32_cells]; exact key_alloc w
  have hbz := Lib.hid zero_built
  have hbp := Lib.hid apair_zero
  have L_zk : (List.replicate 32 (0 : UInt8)).length = 32 := rfl
  generalize List.replicate 32 (0 : UInt8) = zk at *
  generalize List.replicate 64 (0 : UInt8) = zp at *
  have S_zk : (cellsOf zk).toArray.size = 32 := by simp [cellsOf_len, L_zk]
  have O_zk := cellsOf_one zk
  go_enter Tryd.func20, Tryd.ntmps20
  go_wp2_with fail
  refine NEW.out.mono ?_
  rintro e w1 ⟨g, rfl, s1, e1⟩
  obtain ⟨lo, hlo⟩ : ∃ lo, lo = (w.alloc (.cells #[.int .u8 120] 5 (1, 2))).heap.size := ⟨_, rfl⟩
  rw [← hlo] at s1
  have wlo : w.heap.size ≤ lo := by rw [hlo]; exact (Ext.size bs.out.2)
  clear hlo
  have x1 := bs.out.2.trans e1
  have s1' := Lib.hid s1
  have KC := Lib.hid (KEY_.out _ _ _ x1 s1)
  have wlt : w.heap.size ≤ g := Nat.le_trans wlo s1.1.2
  replace x1 := Lib.hid x1
  clear NEW KEY_ bs s1 e1
  go_wp2_with fail
  refine KC.out.mono ?_
  rintro e w2 ⟨rfl, g2, s2⟩
  have x2 : Ext w w2 := ext_grown x1.out g2 (by omega)
  have a1 : Hid ((w2.alloc (Obj.cells (cellsOf zk).toArray 23)).heap[w2.heap.size]? = some (.cells (cellsOf zk).toArray 23 (0, 0))) := heap_alloc_new _ _
  have E_ : Ext w2 ((w2.alloc (Obj.cells (cellsOf zk).toArray 23)).setRow w2.heap.size (cellsOf dk).toArray) := below_setRow ((Ext.refl w2).alloc _) (Nat.le_refl _) _
  replace x2 := Lib.hid x2
  replace s2 := Lib.hid s2
  clear x1 s1' KC g2
  go_upto_region 5 with (refine wpList_store_row rfl 23 _ _ rfl w2.heap.size (cellsOf dk).toArray rfl rfl 23 _ a1.out (by rw [S_dk]; rfl) (by rw [S_dk, S_zk]) O_dk ?_; simp only [Act.put])
  obtain ⟨g2, hg_⟩ : ∃ g, g = w2.heap.size := ⟨_, rfl⟩
  refine wp_gen (fun W => Ky W g2 dk ∧ SrcSt W lo g [120] 1 ∧ Ext w W) ⟨⟨by rw [hg_]; exact setRow_heap _ _ _ _ _ _ a1.out, L_dk⟩, s2.out.ext E_, x2.out.trans E_⟩ ?_
  rw [← hg_]
  clear hg_ a1 E_ x2 s2
  rintro w3 ⟨k3, s3, x3⟩
  replace k3 := Lib.hid k3
  replace s3 := Lib.hid s3
  replace x3 := Lib.hid x3
  go_wp2_with (first
    | (refine wpList_build_as rfl _ _ rfl (cellsOf zp).toArray (by simp only [List.map_toArray, List.map_nil]; exact hbp.out) ?_; simp only [Act.put, List.setIfInBounds_toArray, List.set_cons_zero, List.set_cons_succ])
    | (refine wpList_build_as rfl _ _ rfl (cellsOf zk).toArray (by simp only [List.map_toArray, List.map_nil]; exact hbz.out) ?_; simp only [Act.put, List.setIfInBounds_toArray, List.set_cons_zero, List.set_cons_succ]))
  refine (COM.out _ x3.out).mono ?_
  rintro e w4 ⟨rfl, e4⟩
  have a4 : Hid ((w4.alloc (Obj.cells (cellsOf zk).toArray 23)).heap[w4.heap.size]? = some (.cells (cellsOf zk).toArray 23 (0, 0))) := heap_alloc_new _ _
  have E4 : Ext w3 ((w4.alloc (Obj.cells (cellsOf zk).toArray 23)).setRow w4.heap.size (cellsOf zk).toArray) := e4.trans (below_setRow ((Ext.refl w4).alloc _) (Nat.le_refl _) _)
  clear COM e4
  go_upto_region 6 with (refine wpList_store_row rfl 23 _ _ rfl w4.heap.size (cellsOf zk).toArray rfl rfl 23 _ a4.out (by rw [S_zk]; rfl) rfl O_zk ?_; simp only [Act.put])
  obtain ⟨g4, hg_⟩ : ∃ g, g = w4.heap.size := ⟨_, rfl⟩
  refine wp_gen (fun W => Ky W g2 dk ∧ SrcSt W lo g [120] 1 ∧ Ext w W) ⟨k3.out.ext E4, s3.out.ext E4, x3.out.trans E4⟩ ?_
  rw [← hg_]
  clear hg_ a4 E4 k3 s3 x3
  rintro w5 ⟨k5, s5, x5⟩
  have MA := Lib.hid (many_calls s5)
  replace k5 := Lib.hid k5
  replace x5 := Lib.hid x5
  clear s5
  go_wp2_with (first
    | (refine wpList_load_row rfl 23 _ rfl g2 rfl 23 (cellsOf dk).toArray (0, 0) _ k5.out.1 rfl rfl (by rw [S_dk]; rfl) ?_; simp only [Act.put, List.setIfInBounds_toArray, List.set_cons_zero, List.set_cons_succ])
    | (refine wpList_build_as rfl _ _ rfl (cellsOf zk).toArray (by simp only [List.map_toArray, List.map_nil]; exact hbz.out) ?_; simp only [Act.put, List.setIfInBounds_toArray, List.set_cons_zero, List.set_cons_succ])
    | (refine wpList_neq_keyB rfl _ _ _ rfl dk zk true hne.out rfl rfl L_dk L_zk ?_; simp only [Act.put, List.setIfInBounds_toArray, List.set_cons_zero, List.set_cons_succ]))
  refine MA.out.mono ?_
  rintro e w6 ⟨rfl, e6⟩
  go_wp2_with fail
  go_ret
  exact ⟨rfl, x5.out.trans e6⟩
end Go.Proofs.YtadnmiedmcckkaaDoor
end

section
/-
  The document's rows of the order (layer 2).
-/
namespace Go.Proofs.YtadnmiedmcckkaaDoor
open Go.ChangeShapes Go.WideShapes Go.ChangeAt Go.RowKit Go.Deep

def allocs (w : World) (l : List Obj) : World := l.foldl World.alloc w
theorem allocs_ext : ∀ (l : List Obj) (w : World), Ext w (allocs w l)
  | [], w => Ext.refl w
  | o :: l, w => ((Ext.refl w).alloc o).trans (allocs_ext l (w.alloc o))
theorem allocs_at : ∀ (l : List Obj) (w : World) (j : Nat) (o : Obj), l[j]? = some o → (allocs w l).heap[w.heap.size + j]? = some o
  | [], w, j, o, h => by simp at h
  | p :: l, w, 0, o, h => by
    simp at h
    subst h
    exact ((allocs_ext l (w.alloc p)).block w.heap.size (by rw [size_alloc]; omega)).trans (heap_alloc_new w p)
  | p :: l, w, j + 1, o, h => by
    have := allocs_at l (w.alloc p) j o (by simpa using h)
    rw [size_alloc] at this
    rw [show w.heap.size + (j + 1) = w.heap.size + 1 + j by omega]
    exact this
def rowI (k : Nat) : Array Value := ((List.range 16).map fun j => Value.int .i64 (pm k j : Int)).toArray
def rowsI (s : Nat) : Array Value := ((List.range 10).map fun k => Value.slice (some ⟨s + k, 0, none⟩) 16 16).toArray
/-- The order's rows, in blocks from s on, and the block that lists them. -/
def Rws (w : World) (s : Nat) : Prop := s + 10 < w.heap.size ∧ ∀ k, k < 10 → w.cell? ⟨s + 10, k, none⟩ = some (.slice (some ⟨s + k, 0, none⟩) 16 16) ∧ ∀ j, j < 16 → w.cell? ⟨s + k, j, none⟩ = some (.int .i64 (pm k j : Int))
def rowsO (s : Nat) : List Obj := ((List.range 10).map fun k => Obj.cells (rowI k) 3) ++ [Obj.cells (rowsI s) 43]
theorem rows_of (w : World) : Rws (allocs w (rowsO w.heap.size)) w.heap.size := by
  have hl : ∀ k, k < 10 → (rowsO w.heap.size)[k]? = some (Obj.cells (rowI k) 3) := fun k hk => by
    unfold rowsO
    rw [List.getElem?_append_left (by simp; omega)]
    simp [hk]
  have h10 : (rowsO w.heap.size)[10]? = some (Obj.cells (rowsI w.heap.size) 43) := by
    unfold rowsO
    rw [List.getElem?_append_right (by simp)]
    simp
  have hb := allocs_at _ w 10 _ h10
  refine ⟨heap_lt hb, fun k hk => ⟨?_, fun j hj => ?_⟩⟩
  · rw [cell_of_row _ _ _ _ _ (0, 0) hb]
    simp [rowsI, hk]
  · rw [cell_of_row _ _ _ _ _ (0, 0) (allocs_at _ w k _ (hl k hk))]
    simp [rowI, hj]
theorem Rws.ext {w w' : World} {s : Nat} (h : Rws w s) (e : Ext w w') : Rws w' s :=
  ⟨Nat.lt_of_lt_of_le h.1 e.size, fun k hk => ⟨(e.cell (p := ⟨s + 10, k, none⟩) h.1).trans (h.2 k hk).1, fun j hj => (e.cell (p := ⟨s + k, j, none⟩) (show s + k < _ by have := h.1; omega)).trans ((h.2 k hk).2 j hj)⟩⟩

set_option maxRecDepth 100000 in
set_option maxHeartbeats 1000000 in
theorem refRows_calls {w : World} :
    Calls Tryd.prog 86 #[] w fun e w' => ∃ s, e = .returned (.slice (some ⟨s + 10, 0, none⟩) 10 10) ∧ w.heap.size ≤ s ∧ Rws w' s ∧ Ext w w' := by
  go_enter Tryd.func86, Tryd.ntmps86
  go_wp2_with fail
  go_ret
  exact ⟨w.heap.size, rfl, Nat.le_refl _, rows_of w, allocs_ext (rowsO w.heap.size) w⟩
end Go.Proofs.YtadnmiedmcckkaaDoor
end

section
/-
  The document's TURN.
-/
namespace Go.Proofs.YtadnmiedmcckkaaDoor
open Go.ChangeShapes Go.WideShapes Go.ChangeAt Go.RowKit Go.Deep

set_option maxHeartbeats 1000000 in
theorem refTurn_calls {n x : Nat} {w : World} (hx : x < 4294967296) (h1 : 1 ≤ n) (h2 : n ≤ 31) :
    Calls Tryd.prog 94 #[.int .u32 (x : Int), .int .i64 (n : Int)] w fun e w' => e = .returned (.int .u32 (rotr n x : Int)) ∧ ∃ k, w' = w.drewN k := by
  have hs : ∃ s : Nat, 32 - n = s ∧ s ≤ 31 ∧ n = 32 - s ∧ 1 ≤ s := ⟨32 - n, rfl, by omega, by omega, by omega⟩
  obtain ⟨s, e1, e2, e3, e4⟩ := hs
  have hf := Lib.hid (rotr_int (n := n) (by omega) hx)
  rw [e1] at hf
  have hd : IntKind.i64.wrap (32 - (n : Int)) = (s : Int) := by rw [IntWalk.i64_in _ (by omega)]; omega
  have hor : ∀ a b, a < 4294967296 → b < 4294967296 → bits .or .u32 ((b : Nat) : Int) ((a : Nat) : Int) = bits .or .u32 ((a : Nat) : Int) ((b : Nat) : Int) := fun a b ha hb => by
    rw [u32_or_nat _ _ hb ha, u32_or_nat _ _ ha hb, Nat.or_comm]
  have HO := Lib.hid hor
  clear hor
  have q1 : Op.shift .shr .u32 (x : Int) .i64 (n : Int) = pure (.int .u32 ((x : Int) / 2 ^ n)) := by
    have := shift_shr .u32 .i64 (x : Int) (n : Int) (by omega) (by show (n : Int) ≤ 32; omega)
    rw [this]
    simp
  have q2 : Op.shift .shl .u32 (x : Int) .i64 (s : Int) = pure (.int .u32 ((x : Int) * 2 ^ s % 4294967296)) := by
    have := shift_shl .u32 .i64 (x : Int) (s : Int) (by omega) (by show (s : Int) ≤ 32; omega)
    rw [this, IntKind.wrap_u32]
    simp
  clear e1 e3
  go_enter Tryd.func94, Tryd.ntmps94
  go_wp2_with fail
  refine wp_region_seq (R := Ext) Ext.refl (fun _ _ _ => Ext.trans) [0, 1, 2, 3, 4, 5, 6, 7, 8] [] [(0, 6, 2), (0, 7, 4), (3, 8, 192), (0, 9, 2), (0, 10, 4), (16, 11, 1024), (40, 12, 2560), (68, 13, 4352), (255, 5, 8192)] (by kernel_rfl) (by kernel_rfl) (by kernel_rfl) rfl (by kernel_rfl) (by kernel_rfl) (fun _ _ d _ _ h => by cases d <;> exact h) ?_
  repeat (first | (refine seq_read (fun _ => True) (fun _ _ => trivial) _ (v := ?_) rfl rfl (by rfl) ?_ ?_; rotate_left; (· intro w' hF; go_simp; (try with_reducible rfl)); simp only [Act.put, List.setIfInBounds_toArray, List.set_cons_zero, List.set_cons_succ]) | (refine seq_skip _ rfl rfl (by rfl) ?_; simp only [Act.put, List.setIfInBounds_toArray, List.set_cons_zero, List.set_cons_succ]))
  refine seq_done ?_
  go_wp2_with fail
  go_ret
  refine ⟨congrArg (fun v => Ending.returned (Value.int .u32 v)) (Eq.trans ?_ hf.out), 1, rfl⟩
  have p1 : (x : Int) / 2 ^ n = ((x / 2 ^ n : Nat) : Int) := by simp
  have p2 : (x : Int) * 2 ^ s % 4294967296 = ((x * 2 ^ s % 4294967296 : Nat) : Int) := by simp
  rw [p1, p2]
  exact HO.out (x * 2 ^ s % 4294967296) (x / 2 ^ n) (Nat.mod_lt _ (by decide)) (Nat.lt_of_le_of_lt (Nat.div_le_self _ _) hx)
end Go.Proofs.YtadnmiedmcckkaaDoor
end
