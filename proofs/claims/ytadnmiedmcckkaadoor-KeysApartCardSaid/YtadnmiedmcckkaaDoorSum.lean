/-
  blake.Sum.
-/
import Derived.Test.YtadnmiedmcckkaaDoorMac
namespace Go.Proofs.YtadnmiedmcckkaaDoor
open Go.ChangeShapes Go.WideShapes Go.ChangeAt Go.RowKit Go.Deep

set_option maxRecDepth 100000 in
set_option maxHeartbeats 1000000 in
theorem sum_calls {A : Option Addr} {m d : Nat} {bs : List UInt8} {w : World} (h : Bs w A m d bs) {tg : TypeId × Nat × Nat} (hG : Gl w tg) :
    Calls Tryd.prog 47 #[.slice A m d] w fun e w' => e = .returned (.agg (cellsOf (macL [] bs)).toArray) ∧ Ext w w' := by
  have hal : ∀ w, (zeroValue 23).run Tryd.prog w = .ok (.agg zeros32) w := fun _ => by kernel_rfl
  have HL : (cellsOf (macL [] bs)).toArray.size = 32 := by simp [cellsOf_len, macL_len]
  have H1 := cellsOf_one (macL [] bs)
  have CALL : Hid (Calls Tryd.prog 62 #[.slice none 0 0, .slice A m d] (w.alloc (Obj.cells zeros32 23)) fun e w' => e = .returned (.tuple #[.agg (cellsOf (macL [] bs)).toArray, .int .i64 0]) ∧ Ext (w.alloc (Obj.cells zeros32 23)) w') :=
    mac_calls (Bs.nil _) (h.ext ((Ext.refl w).alloc _)) (by omega) (hG.kept ((Ext.refl w).alloc _) hG.lt)
  clear hG
  have hz0 := zeros32_size
  generalize zeros32 = Z at *
  generalize (cellsOf (macL [] bs)).toArray = D at *
  go_enter Tryd.func47, Tryd.ntmps47
  go_wp2_with fail
  refine CALL.out.mono ?_
  rintro e w1 ⟨rfl, e1⟩
  have r0 := Lib.hid ((e1.block w.heap.size (by rw [size_alloc]; omega)).trans (heap_alloc_new w (Obj.cells Z 23)))
  have r1 : Hid (((w1.alloc (Obj.cells Z 23)).setRow w1.heap.size D).heap[w.heap.size]? = some (Obj.cells Z 23)) := (setRow_other _ _ _ _ (Nat.ne_of_lt (heap_lt r0.out))).trans (((Ext.refl w1).alloc _ |>.block _ (heap_lt r0.out)).trans r0.out)
  clear CALL
  go_wp2_with (first
    | refine wpList_store_row rfl 23 _ _ rfl w1.heap.size D rfl rfl 23 _ (by with_reducible exact heap_alloc_new _ _) (by rw [HL]; rfl) (by rw [HL]; exact hz0) H1 ?_
    | refine wpList_load_row rfl 23 _ rfl w1.heap.size rfl 23 D (0, 0) _ (by with_reducible exact setRow_heap _ _ _ _ _ _ (heap_alloc_new _ _)) rfl rfl (by rw [HL]; rfl) ?_
    | refine wpList_store_row rfl 23 _ _ rfl w.heap.size D rfl rfl 23 Z (by with_reducible exact r1.out) (by rw [HL]; rfl) (by rw [HL]; exact hz0) H1 ?_)
  (try simp only [Exit.inBlock, Exit.then])
  refine bodyPost_ret (results_cell_row rfl _ _ w.heap.size 23 D (0, 0) _ rfl (setRow_heap _ _ _ _ _ _ r1.out) rfl rfl (by rw [HL]; rfl)) rfl ?_
  exact ⟨rfl, below_setRow (below_setRow ((((Ext.refl w).alloc _).trans e1).alloc _) (Nat.le_of_lt (heap_lt r0.out)) _) (Nat.le_refl _) _⟩

end Go.Proofs.YtadnmiedmcckkaaDoor
