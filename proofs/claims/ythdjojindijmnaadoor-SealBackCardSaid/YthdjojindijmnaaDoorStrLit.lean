/-
  A literal of strings. No conditions.
-/
import Derived.Test.YthdjojindijmnaaDoorKeysK
import Derived.Test.YthdjojindijmnaaDoorConvS
namespace Go.Proofs.YthdjojindijmnaaDoor
open Go.ChangeShapes Go.WideShapes Go.ChangeAt Go.RowKit Go.Deep

theorem strL_eta (s : ByteArray) : strL s.data.toList = s := by cases s; simp [strL]
theorem str_lit {W : World} {t : TypeId} {l : List (List UInt8)} {n : Nat} (hn : l.length = n) : Ss (W.alloc (.cells (l.map fun x => Value.string (strL x)).toArray t)) (some ⟨W.heap.size, 0, none⟩) n l := by
  refine ⟨hn, fun _ => ⟨_, 0, rfl, by rw [size_alloc]; omega, fun j hj => ?_⟩⟩
  rw [cell_of_row _ _ _ _ _ (0, 0) (heap_alloc_new _ _)]
  simp [List.getD, show j < l.length by omega]

end Go.Proofs.YthdjojindijmnaaDoor
