/-
  blake's first words, and the variable that holds them.
-/
import Derived.Test.YthdjojindijmnaaDoorWo
namespace Go.Proofs.YthdjojindijmnaaDoor
open Go.ChangeShapes Go.WideShapes Go.ChangeAt Go.RowKit Go.Deep

def initL : List Nat := [0x6a09e667, 0xbb67ae85, 0x3c6ef372, 0xa54ff53a, 0x510e527f, 0x9b05688c, 0x1f83d9ab, 0x5be0cd19]
/-- The variable blake.initial holds the first words. -/
def Gl (w : World) (tg : TypeId × Nat × Nat) : Prop := w.heap[0]? = some (.cells (wcells initL).toArray tg.1 tg.2)
section
variable {w w' : World} {tg : TypeId × Nat × Nat}
theorem Gl.lt (h : Gl w tg) : 0 < w.heap.size := by
  rcases Nat.lt_or_ge 0 w.heap.size with h1 | h1
  · exact h1
  · unfold Gl at h; rw [Array.getElem?_eq_none h1] at h; cases h
theorem Gl.cell (h : Gl w tg) {i : Nat} (hi : i < initL.length) : w.cell? ⟨0, i, none⟩ = some (.int .u32 (wd initL i : Int)) := by
  rw [cell_of_row w 0 i _ tg.1 tg.2 h]
  simp [wcells, wd, List.getD, hi]
theorem Gl.kept {B : Nat} (h : Gl w tg) (he : Below B w w') (hB : 0 < B) : Gl w' tg := (he.block 0 hB).trans h
theorem Gl.ext (h : Gl w tg) (he : Ext w w') : Gl w' tg := h.kept he h.lt
end
end Go.Proofs.YthdjojindijmnaaDoor
