/-
  Bytes that lie in memory of the call's own. No conditions.
-/
import Derived.Test.YteaoacinhdjkeaaOwn
namespace Go.Proofs.Yteaoacinhdjkeaa
open Go.ChangeShapes Go.WideShapes Go.ChangeAt Go.RowKit Go.Deep

/-- The call hands back bytes that lie in memory of its own. -/
def RetOwn (xs : List UInt8) (w : World) (e : Ending) (w' : World) : Prop := ∃ A n c, e = .returned (.slice A n c) ∧ Own w.heap.size w' A n c xs ∧ Ext w w'
end Go.Proofs.Yteaoacinhdjkeaa
