/-
  A slice of bytes beside a one-celled block that turns.
-/
import Derived.Test.YtbkmnmhfjgmoiaaDoorBase
import Derived.Test.YtbkmnmhfjgmoiaaDoorMid
import Derived.Test.YtbkmnmhfjgmoiaaDoorCells
import Derived.Test.YtbkmnmhfjgmoiaaDoorFillS
namespace Go.Proofs.YtbkmnmhfjgmoiaaDoor
open Go.ChangeShapes Go.WideShapes Go.ChangeAt Go.RowKit Go.Deep
set_option maxRecDepth 100000

theorem grown_setCell8 {w : World} {g o : Nat} {v : Value} : w.grownBy (w.setCell ⟨g, o, none⟩ v) (some g) := grown_setCells (w := w) (g := g) (o := o) (vs := [v])
theorem Bs.cell1 {w : World} {A : Option Addr} {n c g : Nat} {xs : List UInt8} {T : TypeId} {v u : Value} (h : Bs w A n c xs) (hg : Cb w g T [v]) (hv : ∀ k i, v ≠ .int k i) : Bs (w.setCell ⟨g, 0, none⟩ u) A n c xs := by
  refine ⟨h.1, h.2.1, h.2.2.1, fun h0 => ?_⟩
  obtain ⟨b, off, hA, hb, hc⟩ := h.2.2.2 h0
  have gr : w.grownBy (w.setCell ⟨g, 0, none⟩ u) (some g) := grown_setCell8
  have hne : b ≠ g := by
    intro q
    subst q
    have h1 := hc 0 h0
    rw [cell_of_row w b _ _ _ _ hg, List.getElem?_toArray] at h1
    match off, h1 with
    | 0, h1 => simp at h1; exact hv _ _ h1
    | k + 1, h1 => simp at h1
  have hq := gr.block b hb (fun q => hne (Option.some.inj q))
  refine ⟨b, off, hA, Nat.lt_of_lt_of_le hb gr.size, fun j hj => ?_⟩
  rw [← hc j hj]
  simp only [World.cell?, hq]
theorem Bs.grown {w w' : World} {A : Option Addr} {n c g : Nat} {xs : List UInt8} {T : TypeId} {v : Value} (h : Bs w A n c xs) (hg : Cb w g T [v]) (hv : ∀ k i, v ≠ .int k i) (gr : w.grownBy w' (some g)) : Bs w' A n c xs := by
  refine ⟨h.1, h.2.1, h.2.2.1, fun h0 => ?_⟩
  obtain ⟨b, off, hA, hb, hc⟩ := h.2.2.2 h0
  have hne : b ≠ g := by
    intro q
    subst q
    have h1 := hc 0 h0
    rw [cell_of_row w b _ _ _ _ hg, List.getElem?_toArray] at h1
    match off, h1 with
    | 0, h1 => simp at h1; exact hv _ _ h1
    | k + 1, h1 => simp at h1
  have hq := gr.block b hb (fun q => hne (Option.some.inj q))
  refine ⟨b, off, hA, Nat.lt_of_lt_of_le hb gr.size, fun j hj => ?_⟩
  rw [← hc j hj]
  simp only [World.cell?, hq]
end Go.Proofs.YtbkmnmhfjgmoiaaDoor
