import Derived.Test.YtbnjmmefnjoofaaDoorPkO
/-
  What is known of the type of keys. No conditions.
-/
namespace Go.Proofs.YtbnjmmefnjoofaaDoor
open Go.ChangeShapes Go.WideShapes Go.ChangeAt Go.RowKit Go.Deep

theorem infoK : (Tryd.prog.info? 23).map (fun i => (i.zero, i.size, i.bytes)) = some (some (.agg zeros32), 32, 32) := by kernel_rfl
end Go.Proofs.YtbnjmmefnjoofaaDoor
