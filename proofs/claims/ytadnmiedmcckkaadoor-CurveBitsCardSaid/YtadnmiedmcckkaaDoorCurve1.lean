/-
  curve.one, curve.curveFactor.
-/
import Derived.Test.YtadnmiedmcckkaaDoorPair
import Derived.Test.YtadnmiedmcckkaaDoorLadN
namespace Go.Proofs.YtadnmiedmcckkaaDoor
open Go.ChangeShapes Go.WideShapes Go.ChangeAt Go.RowKit Go.Deep
set_option maxRecDepth 100000

def keyF : List UInt8 := [65, 219, 1] ++ List.replicate 29 0
def keyO : List UInt8 := [1] ++ List.replicate 31 0
def key9 : List UInt8 := [9] ++ List.replicate 31 0
theorem builtF : Tryd.prog.built 23 [(0, .int .u8 65), (1, .int .u8 219), (2, .int .u8 1)] = some (cellsOf keyF).toArray := by kernel_rfl
theorem builtO : Tryd.prog.built 23 [(0, .int .u8 1)] = some (cellsOf keyO).toArray := by kernel_rfl
theorem built9 : Tryd.prog.built 23 [(0, .int .u8 9)] = some (cellsOf key9).toArray := by kernel_rfl
theorem ofVF : ofV keyF = 121665 := by decide +kernel
theorem ofVO : ofV keyO = 1 := by decide +kernel
theorem ofV9 : ofV key9 = 9 := by decide +kernel

set_option maxHeartbeats 1000000 in
theorem one_calls {w : World} {tg : TypeId × Nat × Nat} (hG : Gp w tg) : Calls Tryd.prog 32 #[] w fun e w' => e = .returned (eV 1) ∧ Ext w w' := by
  have OF : Hid (∀ W, Ext w W → Calls Tryd.prog 30 #[.agg (cellsOf keyO).toArray] W fun e w' => e = .returned (eV 1) ∧ Ext W w') := fun W e => by
    have := of_calls (ks := keyO) rfl (hG.ext e)
    rwa [ofVO] at this
  clear hG
  unfold eV at *
  have RL := lbs_len 8 1
  generalize lbs 8 1 = rr at *
  have RS := wcells_size RL
  have OR := wcells_one rr
  have hal2 := elem_alloc
  have ZL : zw8.length = 8 := rfl
  generalize zw8 = zs at *
  have ZS := wcells_size ZL
  have hb := Lib.hid builtO
  generalize keyO = ks at *
  have B0 : Hid (Wr (w.alloc (Obj.cells (wcells zs).toArray 57)) w.heap.size 57 zs) := Wr.new _ _ _
  go_enter Tryd.func32, Tryd.ntmps32
  go_wp2_with (refine wpList_build_as rfl _ _ rfl (cellsOf ks).toArray (by simp only [List.map_toArray, List.map_cons, List.map_nil]; exact hb.out) ?_; simp only [Act.put, List.setIfInBounds_toArray, List.set_cons_zero, List.set_cons_succ])
  refine (OF.out _ ((Ext.refl w).alloc _)).mono ?_
  rintro e w1 ⟨rfl, e1⟩
  have kr := Lib.hid (B0.out.kept e1 B0.out.lt)
  have kx : Hid (Ext w w1) := ((Ext.refl w).alloc _).trans e1
  clear B0 OF e1
  go_wp2_with (refine wpList_store_row rfl 57 _ _ rfl w.heap.size (wcells rr).toArray rfl rfl 57 _ kr.out (by rw [RS]; rfl) (by rw [RS, ZS]) OR ?_; simp only [Act.put, List.setIfInBounds_toArray, List.set_cons_zero, List.set_cons_succ])
  (try simp only [Exit.inBlock, Exit.then])
  refine bodyPost_ret (results_cell_row rfl _ _ w.heap.size 57 (wcells rr).toArray (0, 0) _ rfl (setRow_heap _ _ _ _ _ _ kr.out) rfl rfl (by rw [RS]; rfl)) rfl ?_
  exact ⟨rfl, below_setRow kx.out (Nat.le_refl _) _⟩

set_option maxHeartbeats 1000000 in
theorem factor_calls {w : World} {tg : TypeId × Nat × Nat} (hG : Gp w tg) : Calls Tryd.prog 59 #[] w fun e w' => e = .returned (eV 121665) ∧ Ext w w' := by
  have OF : Hid (∀ W, Ext w W → Calls Tryd.prog 30 #[.agg (cellsOf keyF).toArray] W fun e w' => e = .returned (eV 121665) ∧ Ext W w') := fun W e => by
    have := of_calls (ks := keyF) rfl (hG.ext e)
    rwa [ofVF] at this
  clear hG
  unfold eV at *
  have RL := lbs_len 8 121665
  generalize lbs 8 121665 = rr at *
  have RS := wcells_size RL
  have OR := wcells_one rr
  have hal2 := elem_alloc
  have ZL : zw8.length = 8 := rfl
  generalize zw8 = zs at *
  have ZS := wcells_size ZL
  have hb := Lib.hid builtF
  generalize keyF = ks at *
  have B0 : Hid (Wr (w.alloc (Obj.cells (wcells zs).toArray 57)) w.heap.size 57 zs) := Wr.new _ _ _
  go_enter Tryd.func59, Tryd.ntmps59
  go_wp2_with (refine wpList_build_as rfl _ _ rfl (cellsOf ks).toArray (by simp only [List.map_toArray, List.map_cons, List.map_nil]; exact hb.out) ?_; simp only [Act.put, List.setIfInBounds_toArray, List.set_cons_zero, List.set_cons_succ])
  refine (OF.out _ ((Ext.refl w).alloc _)).mono ?_
  rintro e w1 ⟨rfl, e1⟩
  have kr := Lib.hid (B0.out.kept e1 B0.out.lt)
  have kx : Hid (Ext w w1) := ((Ext.refl w).alloc _).trans e1
  clear B0 OF e1
  go_wp2_with (refine wpList_store_row rfl 57 _ _ rfl w.heap.size (wcells rr).toArray rfl rfl 57 _ kr.out (by rw [RS]; rfl) (by rw [RS, ZS]) OR ?_; simp only [Act.put, List.setIfInBounds_toArray, List.set_cons_zero, List.set_cons_succ])
  (try simp only [Exit.inBlock, Exit.then])
  refine bodyPost_ret (results_cell_row rfl _ _ w.heap.size 57 (wcells rr).toArray (0, 0) _ rfl (setRow_heap _ _ _ _ _ _ kr.out) rfl rfl (by rw [RS]; rfl)) rfl ?_
  exact ⟨rfl, below_setRow kx.out (Nat.le_refl _) _⟩
end Go.Proofs.YtadnmiedmcckkaaDoor
