/-
  The key 1, 0, 0 .. No conditions.
-/
import Derived.Test.YthdjojindijmnaaDoorMid
namespace Go.Proofs.YthdjojindijmnaaDoor
open Go.ChangeShapes Go.WideShapes Go.ChangeAt Go.RowKit Go.Deep

def key1 : List UInt8 := 1 :: List.replicate 31 0
def key1C : Array Value := #[Value.int .u8 1, Value.int .u8 0, Value.int .u8 0, Value.int .u8 0, Value.int .u8 0, Value.int .u8 0, Value.int .u8 0, Value.int .u8 0, Value.int .u8 0, Value.int .u8 0, Value.int .u8 0, Value.int .u8 0, Value.int .u8 0, Value.int .u8 0, Value.int .u8 0, Value.int .u8 0, Value.int .u8 0, Value.int .u8 0, Value.int .u8 0, Value.int .u8 0, Value.int .u8 0, Value.int .u8 0, Value.int .u8 0, Value.int .u8 0, Value.int .u8 0, Value.int .u8 0, Value.int .u8 0, Value.int .u8 0, Value.int .u8 0, Value.int .u8 0, Value.int .u8 0, Value.int .u8 0]
theorem key1_cells : (cellsOf key1).toArray = key1C := by kernel_rfl
theorem key1_built : Tryd.prog.built 23 [(0, .int .u8 1)] = some (cellsOf key1).toArray := by kernel_rfl
end Go.Proofs.YthdjojindijmnaaDoor
