import Derived.Test.YtadnmiedmcckkaaDoorPkN
import Derived.Test.YtadnmiedmcckkaaDoorSrcSt
import Derived.Test.YtadnmiedmcckkaaDoorPkF
/-
  keys.Pair, Common, the source's pairs; the document's (layer 8).
-/
namespace Go.Proofs.YtadnmiedmcckkaaDoor
open Go.ChangeShapes Go.WideShapes Go.ChangeAt Go.RowKit Go.Deep
set_option maxRecDepth 100000

/-- The pair of a seed. -/
def pairL (xs : List UInt8) : List UInt8 := macL [] xs ++ kL (multN (macL [] xs) 9)
theorem pairL_len (xs : List UInt8) : (pairL xs).length = 64 := by unfold pairL; rw [List.length_append, macL_len, kL_len]
/-- What two have in common; its number is 12 if it is nothing. -/
def comL (s p : List UInt8) : List UInt8 := kL (multN s (ofV p))
def comE (k : List UInt8) : Int := if k = List.replicate 32 0 then 12 else 0


set_option maxHeartbeats 4000000 in
theorem kpair_calls {w : World} {A : Option Addr} {n c : Nat} {xs : List UInt8} (h : Bs w A n c xs) {tg tp : TypeId × Nat × Nat} (hG : Gl w tg) (hP : Gp w tp) :
    Calls Tryd.prog 23 #[.slice A n c] w fun e w' => e = .returned (.agg (cellsOf (pairL xs)).toArray) ∧ Ext w w' := by
  have SUM : Hid (∀ W, Ext w W → Calls Tryd.prog 47 #[.slice A n c] W fun e w' => e = .returned (.agg (cellsOf (macL [] xs)).toArray) ∧ Ext W w') := fun W e => sum_calls (h.ext e) (hG.ext e)
  have BAS : Hid (∀ W, Ext w W → Calls Tryd.prog 16 #[.agg (cellsOf (macL [] xs)).toArray] W fun e w' => e = .returned (.agg (cellsOf (kL (multN (macL [] xs) 9))).toArray) ∧ Ext W w') := fun W e => base_calls (macL_len _ _) (hP.ext e)
  have BLT := Lib.hid (apair_built (macL_len [] xs) (kL_len (multN (macL [] xs) 9)))
  have RLe := pairL_len xs
  have hR_ : Hid (macL [] xs ++ kL (multN (macL [] xs) 9) = pairL xs) := rfl
  rw [hR_.out] at BLT
  clear hP hG
  have L_sk := macL_len [] xs
  have L_pk := kL_len (multN (macL [] xs) 9)
  clear hR_
  generalize kL (multN (macL [] xs) 9) = pk at *
  generalize macL [] xs = sk at *
  generalize pairL xs = rr at *
  have S_sk : (cellsOf sk).toArray.size = 32 := by simp [cellsOf_len, L_sk]
  have O_sk := cellsOf_one sk
  have S_rr : (cellsOf rr).toArray.size = 64 := by simp [cellsOf_len, RLe]
  have O_rr := cellsOf_one rr
  have hal : ∀ w, (zeroValue 23).run Tryd.prog w = .ok (.agg (cellsOf (List.replicate 32 0)).toArray) w := fun w => by rw [zeros32_cells]; exact key_alloc w
  have hal2 := apair_alloc
  have L_zk : (List.replicate 32 (0 : UInt8)).length = 32 := rfl
  have L_zp : (List.replicate 64 (0 : UInt8)).length = 64 := by simp
  generalize List.replicate 32 (0 : UInt8) = zk at *
  generalize List.replicate 64 (0 : UInt8) = zp at *
  have S_zk : (cellsOf zk).toArray.size = 32 := by simp [cellsOf_len, L_zk]
  have S_zp : (cellsOf zp).toArray.size = 64 := by simp [cellsOf_len, L_zp]
  have B0 : Hid (Kp (w.alloc (Obj.cells (cellsOf zp).toArray 37)) w.heap.size zp ∧ Ext w (w.alloc (Obj.cells (cellsOf zp).toArray 37))) := ⟨⟨heap_alloc_new _ _, L_zp⟩, (Ext.refl w).alloc _⟩
  go_enter Tryd.func23, Tryd.ntmps23
  go_wp2_with fail
  refine (SUM.out _ B0.out.2).mono ?_
  rintro e u_ ⟨rfl, e1⟩
  have a1 : Hid ((u_.alloc (Obj.cells (cellsOf zk).toArray 23)).heap[u_.heap.size]? = some (.cells (cellsOf zk).toArray 23 (0, 0))) := heap_alloc_new _ _
  have E_ : Ext (w.alloc (Obj.cells (cellsOf zp).toArray 37)) ((u_.alloc (Obj.cells (cellsOf zk).toArray 23)).setRow u_.heap.size (cellsOf sk).toArray) := e1.trans (below_setRow ((Ext.refl u_).alloc _) (Nat.le_refl _) _)
  go_upto_region 2 with (refine wpList_store_row rfl 23 _ _ rfl u_.heap.size (cellsOf sk).toArray rfl rfl 23 _ a1.out (by rw [S_sk]; rfl) (by rw [S_sk, S_zk]) O_sk ?_; simp only [Act.put])
  obtain ⟨g3, hg_⟩ : ∃ g, g = u_.heap.size := ⟨_, rfl⟩
  obtain ⟨r, hr_⟩ : ∃ r, r = w.heap.size := ⟨_, rfl⟩
  refine wp_gen (fun W => Ky W g3 sk ∧ Kp W r zp ∧ Ext w W) ⟨⟨by rw [hg_]; exact setRow_heap _ _ _ _ _ _ a1.out, L_sk⟩, by rw [hr_]; exact B0.out.1.ext E_, B0.out.2.trans E_⟩ ?_
  rw [← hg_, ← hr_]
  replace hr_ := Lib.hid hr_
  clear hg_ a1 E_ e1 B0 SUM
  rintro w1 ⟨k1, p1, x1⟩
  have Q1 : Hid (∀ s, Ext w1 s → Ky s g3 sk ∧ Kp s r zp ∧ Ext w s) := fun s e => ⟨k1.ext e, p1.ext e, x1.trans e⟩
  clear k1 p1 x1
  refine wp_region_free (R := Ext) Ext.refl (fun _ _ _ => Ext.trans) [0, 1, 2, 3] [4] [0, 0, 2, 7, 15] [true, true, true, true, false] [(0, 7, 16), (0, 8, 16), (2, 9, 256), (5, 10, 640), (15, 0, 1032)] (by kernel_rfl) (by kernel_rfl) (by kernel_rfl) (by kernel_rfl) ?_
  refine free_det (fun _ => Ext.refl _) _ rfl (v := .agg (cellsOf sk).toArray) (d := 7) rfl rfl ?_ ?_
  · intro a_ w_ hev hR hk
    have e3 : a_.eval (.tmp 3) = _ := hk 3 rfl
    exact (exec_load_row rfl e3 (Q1.out w_ (Ext.trans (Ext.refl _).drew hR)).1.1 rfl rfl (by rw [S_sk]; rfl))
  refine free_det (fun _ => Ext.refl _) _ rfl (v := .agg (cellsOf sk).toArray) (d := 8) rfl rfl ?_ ?_
  · intro a_ w_ hev hR hk
    have e3 : a_.eval (.tmp 3) = _ := hk 3 rfl
    exact (exec_load_row rfl e3 (Q1.out w_ (Ext.trans (Ext.refl _).drew hR)).1.1 rfl rfl (by rw [S_sk]; rfl))
  refine free_step _ rfl (fun u _ => u = .agg (cellsOf pk).toArray) (d := 9) rfl (fun _ _ _ h _ => h) rfl ?_ ?_
  · intro a_ w_ hev hR hk K1 hK1
    have e7 : a_.eval (.tmp 7) = _ := hk 7 rfl
    clear hk
    have f7 := ev_get.trans e7
    go_simp
    refine (BAS.out _ (Q1.out w_ (Ext.trans (Ext.refl _).drew hR)).2.2).mono ?_
    rintro e_ w2_ ⟨rfl, x_⟩
    exact hK1.out _ _ x_ rfl
  refine free_det (fun _ => Ext.refl _) _ rfl (v := .agg (cellsOf rr).toArray) (d := 10) rfl rfl ?_ ?_
  · intro a_ w_ hev hR hk
    have e6 : a_.eval (.tmp 6) = _ := hk 6 rfl
    have e8 : a_.eval (.tmp 8) = _ := hk 8 rfl
    exact (exec_build_as rfl (by simp only [List.map_toArray, List.map_cons, List.map_nil, e6, e8]; exact BLT.out))
  intro v_ w2 hR hV_ hN_
  obtain ⟨hv3, hv2, hv1, hv0, _⟩ := hV_
  replace hv0 : v_ 0 = _ := hv0
  replace hv1 : v_ 1 = _ := hv1
  replace hv2 : v_ 2 = _ := hv2
  replace hv3 : v_ 3 = _ := hv3
  dsimp only [putE, dOpt]
  clear hN_
  rw [hv0, hv1, hv2, hv3]
  simp only [Act.put, List.setIfInBounds_toArray, List.set_cons_zero, List.set_cons_succ]
  clear hv0 hv1 hv2 hv3
  have kz := Lib.hid (Q1.out w2 ((Ext.refl _).drew.trans hR)).2
  refine any_more (z := 4) _ rfl rfl (by kernel_rfl) ?_
  intro K1 hK1
  refine wp_store_row _ _ _ rfl r (cellsOf rr).toArray rfl rfl 37 (cellsOf zp).toArray kz.out.1.1 (by rw [S_rr]; rfl) (by rw [S_rr, S_zp]) O_rr ?_
  refine hK1.out _ _ ?_
  clear hK1 K1
  refine any_nil (by kernel_rfl) ?_
  clear hR Q1
  go_wp2_with fail
  (try simp only [Exit.inBlock, Exit.then])
  refine bodyPost_ret (results_cell_row rfl _ _ r 37 (cellsOf rr).toArray (0, 0) _ rfl (setRow_heap _ _ _ _ _ _ kz.out.1.1) rfl rfl (by rw [S_rr]; rfl)) rfl ?_
  exact ⟨rfl, below_setRow kz.out.2 (by rw [hr_.out]; exact Nat.le_refl _) _⟩


set_option maxHeartbeats 4000000 in
theorem pairOf_calls {w : World} {lo g k : Nat} {xs : List UInt8} (h : SrcSt w lo g xs k) (hk : k < 1000000) {tg tp : TypeId × Nat × Nat} (hG : Gl w tg) (hP : Gp w tp) (hq : 0 < lo) :
    Calls Tryd.prog 51 #[.func (.func 28) #[.pointer (some ⟨g, 0, none⟩)] #[]] w fun e w' => e = .returned (.agg (cellsOf (pairL (srcK xs k))).toArray) ∧ w.grownBy w' (some g) ∧ SrcSt w' lo g xs (k + 1) := by
  have hal : ∀ w, (zeroValue 23).run Tryd.prog w = .ok (.agg (cellsOf (List.replicate 32 0)).toArray) w := fun w => by rw [zeros32_cells]; exact key_alloc w
  have hal2 := apair_alloc
  have L_zk : (List.replicate 32 (0 : UInt8)).length = 32 := rfl
  have L_zp : (List.replicate 64 (0 : UInt8)).length = 64 := by simp
  generalize List.replicate 32 (0 : UInt8) = zk at *
  generalize List.replicate 64 (0 : UInt8) = zp at *
  have S_zk : (cellsOf zk).toArray.size = 32 := by simp [cellsOf_len, L_zk]
  have S_zp : (cellsOf zp).toArray.size = 64 := by simp [cellsOf_len, L_zp]
  have x0 : Ext w (w.alloc (Obj.cells (cellsOf zp).toArray 37)) := (Ext.refl w).alloc _
  have KE := Lib.hid (skey_calls (h.ext x0) hk (hG.ext x0))
  have gl : Hid (∀ W, (w.alloc (Obj.cells (cellsOf zp).toArray 37)).grownBy W (some g) → Gl W tg ∧ Gp W tp ∧ Kp W w.heap.size zp ∧ w.grownBy W (some g)) := fun W e =>
    have hlo := h.1
    ⟨(e.block _ (by rw [size_alloc]; exact Nat.lt_succ_of_lt hG.lt) (fun q => by have := Option.some.inj q; omega)).trans (hG.ext x0),
     (e.block _ (by rw [size_alloc]; exact Nat.lt_succ_of_lt hP.lt) (fun q => by have := Option.some.inj q; omega)).trans (hP.ext x0),
     ⟨grown_keep e (by have := h.lt; omega) (heap_alloc_new _ _), L_zp⟩, grown_trans' (grown_of_ext x0) e⟩
  have glt := h.lt
  have PA : Hid (∀ (W : World) (A : Option Addr) (m d : Nat), Gl W tg → Gp W tp → Bs W A m d (srcK xs k) → Calls Tryd.prog 23 #[.slice A m d] W fun e w' => e = .returned (.agg (cellsOf (pairL (srcK xs k))).toArray) ∧ Ext W w') := fun W A m d h1 h2 hb => kpair_calls hb h1 h2
  clear h hG hP x0
  have L_rr := pairL_len (srcK xs k)
  generalize pairL (srcK xs k) = rr at *
  have L_dk := srcK_len xs k
  generalize srcK xs k = dk at *
  have S_dk : (cellsOf dk).toArray.size = 32 := by simp [cellsOf_len, L_dk]
  have O_dk := cellsOf_one dk
  have S_rr : (cellsOf rr).toArray.size = 64 := by simp [cellsOf_len, L_rr]
  have O_rr := cellsOf_one rr
  obtain ⟨r, hr_⟩ : ∃ r, r = w.heap.size := ⟨_, rfl⟩
  go_enter Tryd.func51, Tryd.ntmps51
  go_wp2_with fail
  refine KE.out.mono ?_
  rintro e w1 ⟨rfl, g1, s1⟩
  obtain ⟨q1, q2, q3, q4⟩ := gl.out _ g1
  rw [← hr_] at q3 ⊢
  have a1 : Hid ((w1.alloc (Obj.cells (cellsOf zk).toArray 23)).heap[w1.heap.size]? = some (.cells (cellsOf zk).toArray 23 (0, 0))) := heap_alloc_new _ _
  have E_ : Ext w1 ((w1.alloc (Obj.cells (cellsOf zk).toArray 23)).setRow w1.heap.size (cellsOf dk).toArray) := below_setRow ((Ext.refl w1).alloc _) (Nat.le_refl _) _
  replace hr_ := Lib.hid hr_
  replace q3 := Lib.hid q3
  go_upto_region 2 with (refine wpList_store_row rfl 23 _ _ rfl w1.heap.size (cellsOf dk).toArray rfl rfl 23 _ a1.out (by rw [S_dk]; rfl) (by rw [S_dk, S_zk]) O_dk ?_; simp only [Act.put])
  obtain ⟨g3, hg_⟩ : ∃ g, g = w1.heap.size := ⟨_, rfl⟩
  refine wp_gen (fun W => Ky W g3 dk ∧ Kp W r zp ∧ Gl W tg ∧ Gp W tp ∧ w.grownBy W (some g) ∧ SrcSt W lo g xs (k + 1)) ⟨⟨by rw [hg_]; exact setRow_heap _ _ _ _ _ _ a1.out, L_dk⟩, q3.out.ext E_, q1.ext E_, q2.ext E_, grown_ext q4 E_, s1.ext E_⟩ ?_
  rw [← hg_]
  clear hg_ a1 E_ g1 s1 q1 q2 q3 q4 gl KE
  rintro w2 ⟨k2, p2, l2, f2, g2, s2⟩
  have PB := Lib.hid (PA.out _ _ _ _ l2 f2 k2.bs)
  replace p2 := Lib.hid p2
  replace g2 := Lib.hid g2
  replace s2 := Lib.hid s2
  clear k2 l2 f2 PA
  go_wp2_with fail
  refine PB.out.mono ?_
  rintro e w3 ⟨rfl, e3⟩
  have kr := Lib.hid (p2.out.ext e3)
  have gr := Lib.hid (grown_ext g2.out e3)
  have sr := Lib.hid (s2.out.ext e3)
  clear p2 g2 s2 e3 PB
  go_wp2_with (refine wpList_store_row rfl 37 _ _ rfl r (cellsOf rr).toArray rfl rfl 37 _ kr.out.1 (by rw [S_rr]; rfl) (by rw [S_rr, S_zp]) O_rr ?_; simp only [Act.put])
  (try simp only [Exit.inBlock, Exit.then])
  refine bodyPost_ret (results_cell_row rfl _ _ r 37 (cellsOf rr).toArray (0, 0) _ rfl (setRow_heap _ _ _ _ _ _ kr.out.1) rfl rfl (by rw [S_rr]; rfl)) rfl ?_
  exact ⟨rfl, grown_row gr.out (by rw [hr_.out]; exact Nat.le_refl _), sr.out.row (by have := hr_.out; omega)⟩

set_option maxHeartbeats 4000000 in
theorem spair_calls {w : World} {lo g k : Nat} {xs : List UInt8} (h : SrcSt w lo g xs k) (hk : k < 1000000) {tg tp : TypeId × Nat × Nat} (hG : Gl w tg) (hP : Gp w tp) (hq : 0 < lo) :
    Calls Tryd.prog 27 #[.pointer (some ⟨g, 0, none⟩)] w fun e w' => e = .returned (.agg (cellsOf (pairL (srcK xs k))).toArray) ∧ w.grownBy w' (some g) ∧ SrcSt w' lo g xs (k + 1) := by
  have hmf : ∀ (fn : Fn) (first cap : Array Value) (w : World), (Instr.makeFunc fn first cap).run Tryd.prog w = .ok (.func fn first cap) w := fun _ _ _ _ => rfl
  have hal2 := apair_alloc
  have L_zp : (List.replicate 64 (0 : UInt8)).length = 64 := by simp
  generalize List.replicate 64 (0 : UInt8) = zp at *
  have S_zp : (cellsOf zp).toArray.size = 64 := by simp [cellsOf_len, L_zp]
  have x0 : Ext w (w.alloc (Obj.cells (cellsOf zp).toArray 37)) := (Ext.refl w).alloc _
  have KE := Lib.hid (pairOf_calls (h.ext x0) hk (hG.ext x0) (hP.ext x0) hq)
  have glt := h.lt
  have gl : Hid (∀ W, (w.alloc (Obj.cells (cellsOf zp).toArray 37)).grownBy W (some g) → Kp W w.heap.size zp ∧ w.grownBy W (some g)) := fun W e =>
    ⟨⟨grown_keep e (by omega) (heap_alloc_new _ _), L_zp⟩, grown_trans' (grown_of_ext x0) e⟩
  clear h hG hP x0
  have L_rr := pairL_len (srcK xs k)
  generalize pairL (srcK xs k) = rr at *
  have S_rr : (cellsOf rr).toArray.size = 64 := by simp [cellsOf_len, L_rr]
  have O_rr := cellsOf_one rr
  go_enter Tryd.func27, Tryd.ntmps27
  go_wp2_with fail
  refine KE.out.mono ?_
  rintro e w1 ⟨rfl, g1, s1⟩
  obtain ⟨q3, q4⟩ := gl.out _ g1
  replace q3 := Lib.hid q3
  replace q4 := Lib.hid q4
  replace s1 := Lib.hid s1
  clear g1 gl KE
  go_wp2_with (refine wpList_store_row rfl 37 _ _ rfl w.heap.size (cellsOf rr).toArray rfl rfl 37 _ q3.out.1 (by rw [S_rr]; rfl) (by rw [S_rr, S_zp]) O_rr ?_; simp only [Act.put])
  (try simp only [Exit.inBlock, Exit.then])
  refine bodyPost_ret (results_cell_row rfl _ _ w.heap.size 37 (cellsOf rr).toArray (0, 0) _ rfl (setRow_heap _ _ _ _ _ _ q3.out.1) rfl rfl (by rw [S_rr]; rfl)) rfl ?_
  exact ⟨rfl, grown_row q4.out (Nat.le_refl _), s1.out.row glt⟩
end Go.Proofs.YtadnmiedmcckkaaDoor
