/-
  The document's Draw (layer 3).
-/
import Derived.Test.YtdiigbknfjceoaaDoorRefTag
namespace Go.Proofs.YtdiigbknfjceoaaDoor
open Go.ChangeShapes Go.WideShapes Go.ChangeAt Go.RowKit Go.Deep

set_option maxRecDepth 100000 in
set_option maxHeartbeats 1000000 in
theorem refDraw_calls {A : Option Addr} {m d : Nat} {ks bs : List UInt8} {w : World} (hk : ks.length = 32) (h : Bs w A m d bs) (hm : m ≤ 1000000) :
    Calls Tryd.prog 24 #[.agg (cellsOf ks).toArray, .slice A m d] w fun e w' => e = .returned (.agg (cellsOf (macL ks bs)).toArray) ∧ Ext w w' := by
  have hal : ∀ w, (zeroValue 25).run Tryd.prog w = .ok (.agg zeros32) w := fun _ => by kernel_rfl
  have HL : (cellsOf (macL ks bs)).toArray.size = 32 := by simp [cellsOf_len, macL_len]
  have H1 := cellsOf_one (macL ks bs)
  have KS : (cellsOf ks).toArray.size = 32 := by simp [cellsOf_len, hk]
  have CALL : Hid (∀ W, Ext w W → Calls Tryd.prog 46 #[.agg (cellsOf ks).toArray, .slice A m d] W fun e w' => e = .returned (.agg (cellsOf (macL ks bs)).toArray) ∧ Ext W w') := fun W e => refTag_calls hk (h.ext e) hm
  have hz0 := zeros32_size
  have kk : Hid (Ky ((w.alloc (Obj.cells (cellsOf ks).toArray 25)).alloc (Obj.cells zeros32 25)) w.heap.size ks) := ⟨heap_alloc1 _ _ _, hk⟩
  generalize zeros32 = Z at *
  generalize (cellsOf (macL ks bs)).toArray = D at *
  clear h
  go_enter Tryd.func24, Tryd.ntmps24
  go_wp2_with (refine wpList_load_row rfl 25 _ rfl w.heap.size rfl 25 (cellsOf ks).toArray (0, 0) _ kk.out.1 rfl rfl (by rw [KS]; rfl) ?_; simp only [Act.put, List.setIfInBounds_toArray, List.set_cons_zero, List.set_cons_succ])
  refine (CALL.out _ (((Ext.refl w).alloc _).alloc _)).mono ?_
  rintro e w1 ⟨rfl, e1⟩
  have r0 := Lib.hid ((e1.block (w.heap.size + 1) (by rw [size_alloc, size_alloc]; omega)).trans (heap_alloc2 w (Obj.cells (cellsOf ks).toArray 25) (Obj.cells Z 25)))
  have E1 : Hid (Ext w w1) := (((Ext.refl w).alloc _).alloc _).trans e1
  clear CALL kk e1
  go_wp2_with (refine wpList_store_row rfl 25 _ _ rfl (w.heap.size + 1) D rfl rfl 25 Z r0.out (by rw [HL]; rfl) (by rw [HL]; exact hz0) H1 ?_)
  (try simp only [Exit.inBlock, Exit.then])
  refine bodyPost_ret (results_cell_row rfl _ _ (w.heap.size + 1) 25 D (0, 0) _ rfl (setRow_heap _ _ _ _ _ _ r0.out) rfl rfl (by rw [HL]; rfl)) rfl ?_
  exact ⟨rfl, below_setRow E1.out (Nat.le_succ _) _⟩
end Go.Proofs.YtdiigbknfjceoaaDoor
