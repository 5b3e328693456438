import Derived.Test.YtadnmiedmcckkaaDoorRmult
import Derived.Test.YtadnmiedmcckkaaDoorPkE
/-
  palfreyref07.Base.
-/
namespace Go.Proofs.YtadnmiedmcckkaaDoor
open Go.ChangeShapes Go.WideShapes Go.ChangeAt Go.RowKit Go.Deep
set_option maxRecDepth 100000

set_option maxHeartbeats 2000000 in
theorem rbase_calls {ks : List UInt8} {w : World} (hk : ks.length = 32) :
    Calls Tryd.prog 17 #[.agg (cellsOf ks).toArray] w fun e w' => e = .returned (.agg (cellsOf (kL (multN ks 9))).toArray) ∧ Ext w w' := by
  have MU : Hid (∀ W, Calls Tryd.prog 15 #[.agg (cellsOf ks).toArray, .agg (cellsOf key9).toArray] W fun e w' => e = .returned (.agg (cellsOf (kL (multN ks 9))).toArray) ∧ Ext W w') := fun W => by
    have := rmult_calls (w := W) hk (show key9.length = 32 from rfl)
    rwa [ofV9] at this
  have L_rk := kL_len (multN ks 9)
  generalize kL (multN ks 9) = rk at *
  have S_rk : (cellsOf rk).toArray.size = 32 := by simp [cellsOf_len, L_rk]
  have O_rk := cellsOf_one rk
  have S_ks : (cellsOf ks).toArray.size = 32 := by simp [cellsOf_len, hk]
  have hb := Lib.hid built9
  generalize key9 = k9 at *
  have hal : ∀ w, (zeroValue 23).run Tryd.prog w = .ok (.agg (cellsOf (List.replicate 32 0)).toArray) w := fun w => by rw [zeros32_cells]; exact key_alloc w
  have L_zk : (List.replicate 32 (0 : UInt8)).length = 32 := rfl
  generalize List.replicate 32 (0 : UInt8) = zk at *
  have S_zk : (cellsOf zk).toArray.size = 32 := by simp [cellsOf_len, L_zk]
  have B0 : Hid (Ky ((w.alloc (Obj.cells (cellsOf ks).toArray 23)).alloc (Obj.cells (cellsOf zk).toArray 23)) w.heap.size ks ∧ Ky ((w.alloc (Obj.cells (cellsOf ks).toArray 23)).alloc (Obj.cells (cellsOf zk).toArray 23)) (w.heap.size + 1) zk ∧ Ext w ((w.alloc (Obj.cells (cellsOf ks).toArray 23)).alloc (Obj.cells (cellsOf zk).toArray 23))) := ⟨⟨heap_alloc1 _ _ _, hk⟩, ⟨heap_alloc2 _ _ _, L_zk⟩, ((Ext.refl w).alloc _).alloc _⟩
  go_enter Tryd.func17, Tryd.ntmps17
  go_wp2_with (first
    | (refine wpList_load_row rfl 23 _ rfl w.heap.size rfl 23 (cellsOf ks).toArray (0, 0) _ B0.out.1.1 rfl rfl (by rw [S_ks]; rfl) ?_; simp only [Act.put, List.setIfInBounds_toArray, List.set_cons_zero, List.set_cons_succ])
    | (refine wpList_build_as rfl _ _ rfl (cellsOf k9).toArray (by simp only [List.map_toArray, List.map_cons, List.map_nil]; exact hb.out) ?_; simp only [Act.put, List.setIfInBounds_toArray, List.set_cons_zero, List.set_cons_succ]))
  refine (MU.out _).mono ?_
  rintro e w1 ⟨rfl, e1⟩
  have kr := Lib.hid (B0.out.2.1.ext e1)
  have kx : Hid (Ext w w1) := B0.out.2.2.trans e1
  clear B0 MU e1
  go_wp2_with (refine wpList_store_row rfl 23 _ _ rfl (w.heap.size + 1) (cellsOf rk).toArray rfl rfl 23 _ kr.out.1 (by rw [S_rk]; rfl) (by rw [S_rk, S_zk]) O_rk ?_; simp only [Act.put, List.setIfInBounds_toArray, List.set_cons_zero, List.set_cons_succ])
  (try simp only [Exit.inBlock, Exit.then])
  refine bodyPost_ret (results_cell_row rfl _ _ (w.heap.size + 1) 23 (cellsOf rk).toArray (0, 0) _ rfl (setRow_heap _ _ _ _ _ _ kr.out.1) rfl rfl (by rw [S_rk]; rfl)) rfl ?_
  exact ⟨rfl, below_setRow kx.out (by omega) _⟩
end Go.Proofs.YtadnmiedmcckkaaDoor
