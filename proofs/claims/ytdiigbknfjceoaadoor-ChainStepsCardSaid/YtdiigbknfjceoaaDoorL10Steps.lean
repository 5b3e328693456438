/-
  ChainSteps: steps, roots and walks are the document's.
-/
import Derived.Test.YtdiigbknfjceoaaDoorAwake10
import Derived.Test.YtdiigbknfjceoaaDoorRefWalk
import Derived.Test.YtdiigbknfjceoaaDoorSame10
namespace Go.Proofs.YtdiigbknfjceoaaDoor
open Go.ChangeShapes Go.WideShapes Go.ChangeAt Go.RowKit Go.Deep

/-- Whatever the number: the two walks tell the same. -/
theorem walk_pair {ks : List UInt8} {m : Int} {w : World} (hk : ks.length = 32) {tg : TypeId × Nat × Nat} (hG : Gl w tg) :
    ∃ (l : List (List UInt8)) (la : List UInt8) (er : Int), l.length ≤ 8 ∧ la.length = 32 ∧
      (∀ W, Ext w W → Calls Tryd.prog 32 #[.agg (cellsOf ks).toArray, .int .i64 m] W (RetWalk l la er W)) ∧
      (∀ W, Ext w W → Calls Tryd.prog 33 #[.agg (cellsOf ks).toArray, .int .i64 m] W (RetWalk l la er W)) := by
  by_cases h : m < 0 ∨ 8 < m
  · exact ⟨[], List.replicate 32 0, 6, by simp, by simp, fun W _ => walk_err h, fun W _ => refWalk_err h⟩
  · obtain ⟨k, rfl⟩ := Int.eq_ofNat_of_zero_le (show 0 ≤ m by omega)
    exact ⟨msgL ks k, chAt ks k, 0, by simp [msgL]; omega, chAt_len hk k, fun W e => walk_calls hk (by omega) (hG.kept e hG.lt), fun W _ => refWalk_calls hk (by omega)⟩

set_option maxRecDepth 100000 in
set_option maxHeartbeats 4000000 in
theorem chainSteps_calls {rs cs : List UInt8} {m : Int} {w : World} (hr : rs.length = 32) (hc : cs.length = 32) {tg : TypeId × Nat × Nat} (hG : Gl w tg) :
    Calls Tryd.prog 10 #[.agg (cellsOf rs).toArray, .agg (cellsOf cs).toArray, .int .i64 m] w fun e w' => e = .returned (.bool true) ∧ Ext w w' := by
  have AW := Lib.hid (fun (W : World) (e : Ext w W) => awake10_calls (hG.kept e hG.lt))
  have C1 : Hid (∀ (W : World), Ext w W → Calls Tryd.prog 28 #[.agg (cellsOf rs).toArray] W (RetTwo (keyL rs msgS) (keyL rs chnS) W)) := fun W e => step_calls hr (hG.kept e hG.lt)
  have C2 : Hid (∀ (W : World), Ext w W → Calls Tryd.prog 29 #[.agg (cellsOf rs).toArray] W (RetTwo (keyL rs msgS) (keyL rs chnS) W)) := fun W e => refStep_calls hr
  have C3 : Hid (∀ (W : World), Ext w W → Calls Tryd.prog 30 #[.agg (cellsOf rs).toArray, .agg (cellsOf cs).toArray] W (RetTwo (keyL (macL rs cs) rootS) (keyL (macL rs cs) chnS) W)) := fun W e => root_calls hr hc (hG.kept e hG.lt)
  have C4 : Hid (∀ (W : World), Ext w W → Calls Tryd.prog 31 #[.agg (cellsOf rs).toArray, .agg (cellsOf cs).toArray] W (RetTwo (keyL (macL rs cs) rootS) (keyL (macL rs cs) chnS) W)) := fun W e => refRoot_calls hr hc
  obtain ⟨l, la, er, hl, Lla, C5, C6⟩ := walk_pair (m := m) hr hG
  replace C5 := Lib.hid C5
  replace C6 := Lib.hid C6
  clear hG
  have Lk0 := keyL_len rs msgS
  generalize keyL rs msgS = k0 at *
  have Lk1 := keyL_len rs chnS
  generalize keyL rs chnS = k1 at *
  have Lj0 := keyL_len (macL rs cs) rootS
  generalize keyL (macL rs cs) rootS = j0 at *
  have Lj1 := keyL_len (macL rs cs) chnS
  generalize keyL (macL rs cs) chnS = j1 at *
  have Srs : (cellsOf rs).toArray.size = 32 := by simp [cellsOf_len, hr]
  have Scs : (cellsOf cs).toArray.size = 32 := by simp [cellsOf_len, hc]
  have Sk0 : (cellsOf k0).toArray.size = 32 := by simp [cellsOf_len, Lk0]
  have Ok0 := cellsOf_one k0
  have Sk1 : (cellsOf k1).toArray.size = 32 := by simp [cellsOf_len, Lk1]
  have Ok1 := cellsOf_one k1
  have Sj0 : (cellsOf j0).toArray.size = 32 := by simp [cellsOf_len, Lj0]
  have Oj0 := cellsOf_one j0
  have Sj1 : (cellsOf j1).toArray.size = 32 := by simp [cellsOf_len, Lj1]
  have Oj1 := cellsOf_one j1
  have Sla : (cellsOf la).toArray.size = 32 := by simp [cellsOf_len, Lla]
  have Ola := cellsOf_one la
  have hal := key_alloc
  have hz0 := zeros32_size
  generalize zeros32 = Z at *
  have B0 : Hid (∀ w', Ext ((w.alloc (Obj.cells (cellsOf rs).toArray 25)).alloc (Obj.cells (cellsOf cs).toArray 25)) w' → Ky w' w.heap.size rs ∧ Ky w' (w.heap.size + 1) cs) := fun w' e => ⟨⟨(e.block _ (by rw [size_alloc, size_alloc]; omega)).trans (heap_alloc1 _ _ _), hr⟩, ⟨(e.block _ (by rw [size_alloc, size_alloc]; omega)).trans (heap_alloc2 _ _ _), hc⟩⟩
  go_enter Tryd.func10, Tryd.ntmps10
  go_wp2_with fail
  refine (AW.out _ (((Ext.refl w).alloc _).alloc _)).mono ?_
  rintro e w0 ⟨rfl, e0⟩
  have E0 : Hid (Ext w w0) := (((Ext.refl w).alloc _).alloc _).trans e0
  have P0 : Hid (∀ w', Ext w0 w' → Ky w' w.heap.size rs ∧ Ky w' (w.heap.size + 1) cs) := fun w' e => B0.out w' (e0.trans e)
  clear AW B0 e0
  have kk := Lib.hid (P0.out _ (Ext.refl _))
  go_wp2_with (first
    | (refine wpList_exec rfl (exec_load_row rfl rfl kk.out.1.1 rfl rfl (by rw [Srs]; rfl)) ?_; simp only [Act.put, List.setIfInBounds_toArray, List.set_cons_zero, List.set_cons_succ])
    | (refine wpList_exec rfl (exec_load_row rfl rfl kk.out.2.1 rfl rfl (by rw [Scs]; rfl)) ?_; simp only [Act.put, List.setIfInBounds_toArray, List.set_cons_zero, List.set_cons_succ]))
  refine (C1.out _ E0.out).mono ?_
  rintro e v ⟨rfl, e1⟩
  have a1 : Hid (((v.alloc (Obj.cells Z 25)).alloc (Obj.cells Z 25)).heap[v.heap.size]? = some (.cells Z 25 (0, 0))) := heap_alloc1 _ _ _
  have a2 : Hid ((((v.alloc (Obj.cells Z 25)).alloc (Obj.cells Z 25)).setRow v.heap.size (cellsOf k0).toArray).heap[v.heap.size + 1]? = some (.cells Z 25 (0, 0))) := (setRow_other _ _ _ _ (by omega)).trans (heap_alloc2 _ _ _)
  clear C1 kk
  go_upto_region 3 with (first
    | (refine wpList_store_row rfl 25 _ _ rfl v.heap.size (cellsOf k0).toArray rfl rfl 25 Z a1.out (by rw [Sk0]; rfl) (by rw [Sk0]; exact hz0) Ok0 ?_; simp only [Act.put, List.setIfInBounds_toArray, List.set_cons_zero, List.set_cons_succ])
    | (refine wpList_store_row rfl 25 _ _ rfl (v.heap.size + 1) (cellsOf k1).toArray rfl rfl 25 Z a2.out (by rw [Sk1]; rfl) (by rw [Sk1]; exact hz0) Ok1 ?_; simp only [Act.put, List.setIfInBounds_toArray, List.set_cons_zero, List.set_cons_succ]))
  obtain ⟨g1, hg⟩ : ∃ g, g = v.heap.size := ⟨_, rfl⟩
  refine wp_gen (fun W => Ext w0 W ∧ Ky W g1 k0 ∧ Ky W (g1 + 1) k1) ⟨e1.trans (below_setRow (below_setRow (((Ext.refl v).alloc _).alloc _) (Nat.le_refl _) _) (Nat.le_succ _) _), ⟨by rw [hg]; exact (setRow_other _ _ _ _ (by omega)).trans (setRow_heap _ _ _ _ _ _ a1.out), Lk0⟩, ⟨by rw [hg]; exact setRow_heap _ _ _ _ _ _ a2.out, Lk1⟩⟩ ?_
  rw [← hg]
  clear hg a1 a2 e1
  rintro w1 ⟨x, ya, yb⟩
  have P1 : Hid (∀ w', Ext w1 w' → Ky w' w.heap.size rs ∧ Ky w' (w.heap.size + 1) cs ∧ Ky w' g1 k0 ∧ Ky w' (g1 + 1) k1) := fun w' e => ⟨(P0.out w' (x.trans e)).1, (P0.out w' (x.trans e)).2, ya.ext e, yb.ext e⟩
  have E1 : Hid (Ext w w1) := E0.out.trans x
  clear x ya yb P0 E0
  have kk := Lib.hid (P1.out _ (Ext.refl _))
  go_wp2_with (first
    | (refine wpList_exec rfl (exec_load_row rfl rfl kk.out.1.1 rfl rfl (by rw [Srs]; rfl)) ?_; simp only [Act.put, List.setIfInBounds_toArray, List.set_cons_zero, List.set_cons_succ])
    | (refine wpList_exec rfl (exec_load_row rfl rfl kk.out.2.1.1 rfl rfl (by rw [Scs]; rfl)) ?_; simp only [Act.put, List.setIfInBounds_toArray, List.set_cons_zero, List.set_cons_succ]))
  refine (C2.out _ E1.out).mono ?_
  rintro e v ⟨rfl, e1⟩
  have a1 : Hid (((v.alloc (Obj.cells Z 25)).alloc (Obj.cells Z 25)).heap[v.heap.size]? = some (.cells Z 25 (0, 0))) := heap_alloc1 _ _ _
  have a2 : Hid ((((v.alloc (Obj.cells Z 25)).alloc (Obj.cells Z 25)).setRow v.heap.size (cellsOf k0).toArray).heap[v.heap.size + 1]? = some (.cells Z 25 (0, 0))) := (setRow_other _ _ _ _ (by omega)).trans (heap_alloc2 _ _ _)
  clear C2 kk
  go_upto_region 4 with (first
    | (refine wpList_store_row rfl 25 _ _ rfl v.heap.size (cellsOf k0).toArray rfl rfl 25 Z a1.out (by rw [Sk0]; rfl) (by rw [Sk0]; exact hz0) Ok0 ?_; simp only [Act.put, List.setIfInBounds_toArray, List.set_cons_zero, List.set_cons_succ])
    | (refine wpList_store_row rfl 25 _ _ rfl (v.heap.size + 1) (cellsOf k1).toArray rfl rfl 25 Z a2.out (by rw [Sk1]; rfl) (by rw [Sk1]; exact hz0) Ok1 ?_; simp only [Act.put, List.setIfInBounds_toArray, List.set_cons_zero, List.set_cons_succ]))
  obtain ⟨g2, hg⟩ : ∃ g, g = v.heap.size := ⟨_, rfl⟩
  refine wp_gen (fun W => Ext w1 W ∧ Ky W g2 k0 ∧ Ky W (g2 + 1) k1) ⟨e1.trans (below_setRow (below_setRow (((Ext.refl v).alloc _).alloc _) (Nat.le_refl _) _) (Nat.le_succ _) _), ⟨by rw [hg]; exact (setRow_other _ _ _ _ (by omega)).trans (setRow_heap _ _ _ _ _ _ a1.out), Lk0⟩, ⟨by rw [hg]; exact setRow_heap _ _ _ _ _ _ a2.out, Lk1⟩⟩ ?_
  rw [← hg]
  clear hg a1 a2 e1
  rintro w2 ⟨x, ya, yb⟩
  have P2 : Hid (∀ w', Ext w2 w' → Ky w' w.heap.size rs ∧ Ky w' (w.heap.size + 1) cs ∧ Ky w' g1 k0 ∧ Ky w' (g1 + 1) k1 ∧ Ky w' g2 k0 ∧ Ky w' (g2 + 1) k1) := fun w' e => ⟨(P1.out w' (x.trans e)).1, (P1.out w' (x.trans e)).2.1, (P1.out w' (x.trans e)).2.2.1, (P1.out w' (x.trans e)).2.2.2, ya.ext e, yb.ext e⟩
  have E2 : Hid (Ext w w2) := E1.out.trans x
  clear x ya yb P1 E1
  have kk := Lib.hid (P2.out _ (Ext.refl _))
  go_wp2_with (first
    | (refine wpList_exec rfl (exec_load_row rfl rfl kk.out.1.1 rfl rfl (by rw [Srs]; rfl)) ?_; simp only [Act.put, List.setIfInBounds_toArray, List.set_cons_zero, List.set_cons_succ])
    | (refine wpList_exec rfl (exec_load_row rfl rfl kk.out.2.1.1 rfl rfl (by rw [Scs]; rfl)) ?_; simp only [Act.put, List.setIfInBounds_toArray, List.set_cons_zero, List.set_cons_succ]))
  refine (C3.out _ E2.out).mono ?_
  rintro e v ⟨rfl, e1⟩
  have a1 : Hid (((v.alloc (Obj.cells Z 25)).alloc (Obj.cells Z 25)).heap[v.heap.size]? = some (.cells Z 25 (0, 0))) := heap_alloc1 _ _ _
  have a2 : Hid ((((v.alloc (Obj.cells Z 25)).alloc (Obj.cells Z 25)).setRow v.heap.size (cellsOf j0).toArray).heap[v.heap.size + 1]? = some (.cells Z 25 (0, 0))) := (setRow_other _ _ _ _ (by omega)).trans (heap_alloc2 _ _ _)
  clear C3 kk
  go_upto_region 5 with (first
    | (refine wpList_store_row rfl 25 _ _ rfl v.heap.size (cellsOf j0).toArray rfl rfl 25 Z a1.out (by rw [Sj0]; rfl) (by rw [Sj0]; exact hz0) Oj0 ?_; simp only [Act.put, List.setIfInBounds_toArray, List.set_cons_zero, List.set_cons_succ])
    | (refine wpList_store_row rfl 25 _ _ rfl (v.heap.size + 1) (cellsOf j1).toArray rfl rfl 25 Z a2.out (by rw [Sj1]; rfl) (by rw [Sj1]; exact hz0) Oj1 ?_; simp only [Act.put, List.setIfInBounds_toArray, List.set_cons_zero, List.set_cons_succ]))
  obtain ⟨g3, hg⟩ : ∃ g, g = v.heap.size := ⟨_, rfl⟩
  refine wp_gen (fun W => Ext w2 W ∧ Ky W g3 j0 ∧ Ky W (g3 + 1) j1) ⟨e1.trans (below_setRow (below_setRow (((Ext.refl v).alloc _).alloc _) (Nat.le_refl _) _) (Nat.le_succ _) _), ⟨by rw [hg]; exact (setRow_other _ _ _ _ (by omega)).trans (setRow_heap _ _ _ _ _ _ a1.out), Lj0⟩, ⟨by rw [hg]; exact setRow_heap _ _ _ _ _ _ a2.out, Lj1⟩⟩ ?_
  rw [← hg]
  clear hg a1 a2 e1
  rintro w3 ⟨x, ya, yb⟩
  have P3 : Hid (∀ w', Ext w3 w' → Ky w' w.heap.size rs ∧ Ky w' (w.heap.size + 1) cs ∧ Ky w' g1 k0 ∧ Ky w' (g1 + 1) k1 ∧ Ky w' g2 k0 ∧ Ky w' (g2 + 1) k1 ∧ Ky w' g3 j0 ∧ Ky w' (g3 + 1) j1) := fun w' e => ⟨(P2.out w' (x.trans e)).1, (P2.out w' (x.trans e)).2.1, (P2.out w' (x.trans e)).2.2.1, (P2.out w' (x.trans e)).2.2.2.1, (P2.out w' (x.trans e)).2.2.2.2.1, (P2.out w' (x.trans e)).2.2.2.2.2, ya.ext e, yb.ext e⟩
  have E3 : Hid (Ext w w3) := E2.out.trans x
  clear x ya yb P2 E2
  have kk := Lib.hid (P3.out _ (Ext.refl _))
  go_wp2_with (first
    | (refine wpList_exec rfl (exec_load_row rfl rfl kk.out.1.1 rfl rfl (by rw [Srs]; rfl)) ?_; simp only [Act.put, List.setIfInBounds_toArray, List.set_cons_zero, List.set_cons_succ])
    | (refine wpList_exec rfl (exec_load_row rfl rfl kk.out.2.1.1 rfl rfl (by rw [Scs]; rfl)) ?_; simp only [Act.put, List.setIfInBounds_toArray, List.set_cons_zero, List.set_cons_succ]))
  refine (C4.out _ E3.out).mono ?_
  rintro e v ⟨rfl, e1⟩
  have a1 : Hid (((v.alloc (Obj.cells Z 25)).alloc (Obj.cells Z 25)).heap[v.heap.size]? = some (.cells Z 25 (0, 0))) := heap_alloc1 _ _ _
  have a2 : Hid ((((v.alloc (Obj.cells Z 25)).alloc (Obj.cells Z 25)).setRow v.heap.size (cellsOf j0).toArray).heap[v.heap.size + 1]? = some (.cells Z 25 (0, 0))) := (setRow_other _ _ _ _ (by omega)).trans (heap_alloc2 _ _ _)
  clear C4 kk
  go_upto_region 6 with (first
    | (refine wpList_store_row rfl 25 _ _ rfl v.heap.size (cellsOf j0).toArray rfl rfl 25 Z a1.out (by rw [Sj0]; rfl) (by rw [Sj0]; exact hz0) Oj0 ?_; simp only [Act.put, List.setIfInBounds_toArray, List.set_cons_zero, List.set_cons_succ])
    | (refine wpList_store_row rfl 25 _ _ rfl (v.heap.size + 1) (cellsOf j1).toArray rfl rfl 25 Z a2.out (by rw [Sj1]; rfl) (by rw [Sj1]; exact hz0) Oj1 ?_; simp only [Act.put, List.setIfInBounds_toArray, List.set_cons_zero, List.set_cons_succ]))
  obtain ⟨g4, hg⟩ : ∃ g, g = v.heap.size := ⟨_, rfl⟩
  refine wp_gen (fun W => Ext w3 W ∧ Ky W g4 j0 ∧ Ky W (g4 + 1) j1) ⟨e1.trans (below_setRow (below_setRow (((Ext.refl v).alloc _).alloc _) (Nat.le_refl _) _) (Nat.le_succ _) _), ⟨by rw [hg]; exact (setRow_other _ _ _ _ (by omega)).trans (setRow_heap _ _ _ _ _ _ a1.out), Lj0⟩, ⟨by rw [hg]; exact setRow_heap _ _ _ _ _ _ a2.out, Lj1⟩⟩ ?_
  rw [← hg]
  clear hg a1 a2 e1
  rintro w4 ⟨x, ya, yb⟩
  have P4 : Hid (∀ w', Ext w4 w' → Ky w' w.heap.size rs ∧ Ky w' (w.heap.size + 1) cs ∧ Ky w' g1 k0 ∧ Ky w' (g1 + 1) k1 ∧ Ky w' g2 k0 ∧ Ky w' (g2 + 1) k1 ∧ Ky w' g3 j0 ∧ Ky w' (g3 + 1) j1 ∧ Ky w' g4 j0 ∧ Ky w' (g4 + 1) j1) := fun w' e => ⟨(P3.out w' (x.trans e)).1, (P3.out w' (x.trans e)).2.1, (P3.out w' (x.trans e)).2.2.1, (P3.out w' (x.trans e)).2.2.2.1, (P3.out w' (x.trans e)).2.2.2.2.1, (P3.out w' (x.trans e)).2.2.2.2.2.1, (P3.out w' (x.trans e)).2.2.2.2.2.2.1, (P3.out w' (x.trans e)).2.2.2.2.2.2.2, ya.ext e, yb.ext e⟩
  have E4 : Hid (Ext w w4) := E3.out.trans x
  clear x ya yb P3 E3
  have kk := Lib.hid (P4.out _ (Ext.refl _))
  go_wp2_with (first
    | (refine wpList_exec rfl (exec_load_row rfl rfl kk.out.1.1 rfl rfl (by rw [Srs]; rfl)) ?_; simp only [Act.put, List.setIfInBounds_toArray, List.set_cons_zero, List.set_cons_succ])
    | (refine wpList_exec rfl (exec_load_row rfl rfl kk.out.2.1.1 rfl rfl (by rw [Scs]; rfl)) ?_; simp only [Act.put, List.setIfInBounds_toArray, List.set_cons_zero, List.set_cons_succ]))
  refine (C5.out _ E4.out).mono ?_
  rintro e v ⟨A5, c5, rfl, kl, hc1, hc2, e1, -⟩
  have a1 : Hid ((v.alloc (Obj.cells Z 25)).heap[v.heap.size]? = some (.cells Z 25 (0, 0))) := heap_alloc_new _ _
  have e2 : Ext v ((v.alloc (Obj.cells Z 25)).setRow v.heap.size (cellsOf la).toArray) := below_setRow ((Ext.refl v).alloc _) (Nat.le_refl _) _
  clear C5 kk hc1 hc2
  replace kl := Lib.hid kl
  go_upto_region 7 with (refine wpList_store_row rfl 25 _ _ rfl v.heap.size (cellsOf la).toArray rfl rfl 25 Z a1.out (by rw [Sla]; rfl) (by rw [Sla]; exact hz0) Ola ?_; simp only [Act.put, List.setIfInBounds_toArray, List.set_cons_zero, List.set_cons_succ])
  obtain ⟨g5, hg⟩ : ∃ g, g = v.heap.size := ⟨_, rfl⟩
  refine wp_gen (fun W => Ext w4 W ∧ Ky W g5 la ∧ Kl W A5 l.length l) ⟨e1.trans e2, ⟨by rw [hg]; exact setRow_heap _ _ _ _ _ _ a1.out, Lla⟩, kl.out.ext e2⟩ ?_
  rw [← hg]
  clear hg a1 e1 e2 kl
  rintro w5 ⟨x, ya, yb⟩
  have P5 : Hid (∀ w', Ext w5 w' → Ky w' w.heap.size rs ∧ Ky w' (w.heap.size + 1) cs ∧ Ky w' g1 k0 ∧ Ky w' (g1 + 1) k1 ∧ Ky w' g2 k0 ∧ Ky w' (g2 + 1) k1 ∧ Ky w' g3 j0 ∧ Ky w' (g3 + 1) j1 ∧ Ky w' g4 j0 ∧ Ky w' (g4 + 1) j1 ∧ Ky w' g5 la ∧ Kl w' A5 l.length l) := fun w' e => ⟨(P4.out w' (x.trans e)).1, (P4.out w' (x.trans e)).2.1, (P4.out w' (x.trans e)).2.2.1, (P4.out w' (x.trans e)).2.2.2.1, (P4.out w' (x.trans e)).2.2.2.2.1, (P4.out w' (x.trans e)).2.2.2.2.2.1, (P4.out w' (x.trans e)).2.2.2.2.2.2.1, (P4.out w' (x.trans e)).2.2.2.2.2.2.2.1, (P4.out w' (x.trans e)).2.2.2.2.2.2.2.2.1, (P4.out w' (x.trans e)).2.2.2.2.2.2.2.2.2, ya.ext e, yb.ext e⟩
  have E5 : Hid (Ext w w5) := E4.out.trans x
  clear x ya yb P4 E4
  have kk := Lib.hid (P5.out _ (Ext.refl _))
  go_wp2_with (first
    | (refine wpList_exec rfl (exec_load_row rfl rfl kk.out.1.1 rfl rfl (by rw [Srs]; rfl)) ?_; simp only [Act.put, List.setIfInBounds_toArray, List.set_cons_zero, List.set_cons_succ])
    | (refine wpList_exec rfl (exec_load_row rfl rfl kk.out.2.1.1 rfl rfl (by rw [Scs]; rfl)) ?_; simp only [Act.put, List.setIfInBounds_toArray, List.set_cons_zero, List.set_cons_succ]))
  refine (C6.out _ E5.out).mono ?_
  rintro e v ⟨A6, c6, rfl, kl, hc1, hc2, e1, -⟩
  have a1 : Hid ((v.alloc (Obj.cells Z 25)).heap[v.heap.size]? = some (.cells Z 25 (0, 0))) := heap_alloc_new _ _
  have e2 : Ext v ((v.alloc (Obj.cells Z 25)).setRow v.heap.size (cellsOf la).toArray) := below_setRow ((Ext.refl v).alloc _) (Nat.le_refl _) _
  clear C6 kk hc1 hc2
  replace kl := Lib.hid kl
  go_upto_region 8 with (refine wpList_store_row rfl 25 _ _ rfl v.heap.size (cellsOf la).toArray rfl rfl 25 Z a1.out (by rw [Sla]; rfl) (by rw [Sla]; exact hz0) Ola ?_; simp only [Act.put, List.setIfInBounds_toArray, List.set_cons_zero, List.set_cons_succ])
  obtain ⟨g6, hg⟩ : ∃ g, g = v.heap.size := ⟨_, rfl⟩
  refine wp_gen (fun W => Ext w5 W ∧ Ky W g6 la ∧ Kl W A6 l.length l) ⟨e1.trans e2, ⟨by rw [hg]; exact setRow_heap _ _ _ _ _ _ a1.out, Lla⟩, kl.out.ext e2⟩ ?_
  rw [← hg]
  clear hg a1 e1 e2 kl
  rintro w6 ⟨x, ya, yb⟩
  have P6 : Hid (∀ w', Ext w6 w' → Ky w' w.heap.size rs ∧ Ky w' (w.heap.size + 1) cs ∧ Ky w' g1 k0 ∧ Ky w' (g1 + 1) k1 ∧ Ky w' g2 k0 ∧ Ky w' (g2 + 1) k1 ∧ Ky w' g3 j0 ∧ Ky w' (g3 + 1) j1 ∧ Ky w' g4 j0 ∧ Ky w' (g4 + 1) j1 ∧ Ky w' g5 la ∧ Kl w' A5 l.length l ∧ Ky w' g6 la ∧ Kl w' A6 l.length l) := fun w' e => ⟨(P5.out w' (x.trans e)).1, (P5.out w' (x.trans e)).2.1, (P5.out w' (x.trans e)).2.2.1, (P5.out w' (x.trans e)).2.2.2.1, (P5.out w' (x.trans e)).2.2.2.2.1, (P5.out w' (x.trans e)).2.2.2.2.2.1, (P5.out w' (x.trans e)).2.2.2.2.2.2.1, (P5.out w' (x.trans e)).2.2.2.2.2.2.2.1, (P5.out w' (x.trans e)).2.2.2.2.2.2.2.2.1, (P5.out w' (x.trans e)).2.2.2.2.2.2.2.2.2.1, (P5.out w' (x.trans e)).2.2.2.2.2.2.2.2.2.2.1, (P5.out w' (x.trans e)).2.2.2.2.2.2.2.2.2.2.2, ya.ext e, yb.ext e⟩
  have E6 : Hid (Ext w w6) := E5.out.trans x
  clear x ya yb P5 E5
  have kk := P6.out _ (Ext.refl _)
  have SAME := Lib.hid (same10_calls (c := c5) (d := c6) kk.2.2.2.2.2.2.2.2.2.2.2.1 kk.2.2.2.2.2.2.2.2.2.2.2.2.2 (by omega))
  clear kk
  go_wp2_with fail
  refine SAME.out.mono ?_
  rintro e w7 ⟨rfl, x⟩
  have kk := Lib.hid (P6.out _ x)
  have E7 : Hid (Ext w w7) := E6.out.trans x
  clear P6 E6 SAME x
  go_wp2_with (first
    | (refine wpList_exec rfl (exec_load_row rfl rfl kk.out.2.2.1.1 rfl rfl (by rw [Sk0]; rfl)) ?_; simp only [Act.put, List.setIfInBounds_toArray, List.set_cons_zero, List.set_cons_succ])
    | (refine wpList_exec rfl (exec_load_row rfl rfl kk.out.2.2.2.1.1 rfl rfl (by rw [Sk1]; rfl)) ?_; simp only [Act.put, List.setIfInBounds_toArray, List.set_cons_zero, List.set_cons_succ])
    | (refine wpList_exec rfl (exec_load_row rfl rfl kk.out.2.2.2.2.1.1 rfl rfl (by rw [Sk0]; rfl)) ?_; simp only [Act.put, List.setIfInBounds_toArray, List.set_cons_zero, List.set_cons_succ])
    | (refine wpList_exec rfl (exec_load_row rfl rfl kk.out.2.2.2.2.2.1.1 rfl rfl (by rw [Sk1]; rfl)) ?_; simp only [Act.put, List.setIfInBounds_toArray, List.set_cons_zero, List.set_cons_succ])
    | (refine wpList_exec rfl (exec_load_row rfl rfl kk.out.2.2.2.2.2.2.1.1 rfl rfl (by rw [Sj0]; rfl)) ?_; simp only [Act.put, List.setIfInBounds_toArray, List.set_cons_zero, List.set_cons_succ])
    | (refine wpList_exec rfl (exec_load_row rfl rfl kk.out.2.2.2.2.2.2.2.1.1 rfl rfl (by rw [Sj1]; rfl)) ?_; simp only [Act.put, List.setIfInBounds_toArray, List.set_cons_zero, List.set_cons_succ])
    | (refine wpList_exec rfl (exec_load_row rfl rfl kk.out.2.2.2.2.2.2.2.2.1.1 rfl rfl (by rw [Sj0]; rfl)) ?_; simp only [Act.put, List.setIfInBounds_toArray, List.set_cons_zero, List.set_cons_succ])
    | (refine wpList_exec rfl (exec_load_row rfl rfl kk.out.2.2.2.2.2.2.2.2.2.1.1 rfl rfl (by rw [Sj1]; rfl)) ?_; simp only [Act.put, List.setIfInBounds_toArray, List.set_cons_zero, List.set_cons_succ])
    | (refine wpList_exec rfl (exec_load_row rfl rfl kk.out.2.2.2.2.2.2.2.2.2.2.1.1 rfl rfl (by rw [Sla]; rfl)) ?_; simp only [Act.put, List.setIfInBounds_toArray, List.set_cons_zero, List.set_cons_succ])
    | (refine wpList_exec rfl (exec_load_row rfl rfl kk.out.2.2.2.2.2.2.2.2.2.2.2.2.1.1 rfl rfl (by rw [Sla]; rfl)) ?_; simp only [Act.put, List.setIfInBounds_toArray, List.set_cons_zero, List.set_cons_succ])
    | (refine wpList_exec rfl (exec_eql_keyB (xs := k0) (ys := k0) (decide_eq_true rfl) Lk0 Lk0 rfl rfl rfl) ?_; simp only [Act.put, List.setIfInBounds_toArray, List.set_cons_zero, List.set_cons_succ])
    | (refine wpList_exec rfl (exec_eql_keyB (xs := k1) (ys := k1) (decide_eq_true rfl) Lk1 Lk1 rfl rfl rfl) ?_; simp only [Act.put, List.setIfInBounds_toArray, List.set_cons_zero, List.set_cons_succ])
    | (refine wpList_exec rfl (exec_eql_keyB (xs := j0) (ys := j0) (decide_eq_true rfl) Lj0 Lj0 rfl rfl rfl) ?_; simp only [Act.put, List.setIfInBounds_toArray, List.set_cons_zero, List.set_cons_succ])
    | (refine wpList_exec rfl (exec_eql_keyB (xs := j1) (ys := j1) (decide_eq_true rfl) Lj1 Lj1 rfl rfl rfl) ?_; simp only [Act.put, List.setIfInBounds_toArray, List.set_cons_zero, List.set_cons_succ])
    | (refine wpList_exec rfl (exec_eql_keyB (xs := la) (ys := la) (decide_eq_true rfl) Lla Lla rfl rfl rfl) ?_; simp only [Act.put, List.setIfInBounds_toArray, List.set_cons_zero, List.set_cons_succ]))
  go_ret
  exact ⟨rfl, E7.out⟩
end Go.Proofs.YtdiigbknfjceoaaDoor
