/-
  A stamp's cells. No conditions.
-/
import Derived.Test.YtmnohmhhmaeljaaDoorFillS
namespace Go.Proofs.YtmnohmhhmaeljaaDoor
open Go.ChangeShapes Go.WideShapes Go.ChangeAt Go.RowKit Go.Deep
set_option maxRecDepth 100000

/-- A stamp's cells. -/
def stC (ep f t tm : Int) (c g : List UInt8) : List Value := [.int .i64 ep, .int .i64 f, .int .i64 t, .int .i64 tm] ++ (cellsOf c ++ cellsOf g)
theorem stC_len {c g : List UInt8} (hc : c.length = 32) (hg : g.length = 32) (ep f t tm : Int) : (stC ep f t tm c g).length = 68 := by simp [stC, cellsOf_len, hc, hg]

theorem one_st {ep f t tm : Int} {c g : List UInt8} : ∀ v ∈ stC ep f t tm c g, v.oneCell' = true := fun v hv => by
  simp only [stC, List.mem_append, List.mem_cons, List.not_mem_nil, or_false] at hv
  rcases hv with (rfl | rfl | rfl | rfl) | h | h
  · rfl
  · rfl
  · rfl
  · rfl
  · exact one_mem _ v h
  · exact one_mem _ v h
end Go.Proofs.YtmnohmhhmaeljaaDoor
