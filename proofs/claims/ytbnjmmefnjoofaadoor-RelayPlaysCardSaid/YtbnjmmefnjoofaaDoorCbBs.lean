/-
  Bytes within a block. No conditions.
-/
import Derived.Test.YtbnjmmefnjoofaaDoorFillS
namespace Go.Proofs.YtbnjmmefnjoofaaDoor
open Go.ChangeShapes Go.WideShapes Go.ChangeAt Go.RowKit Go.Deep

/-- A part of a block that holds bytes reads as them. -/
theorem Cb.bs {w : World} {g : Nat} {T : TypeId} {L : List Value} (h : Cb w g T L) {p q : List Value} {xs : List UInt8} {off n : Nat} (hL : L = p ++ (cellsOf xs ++ q)) (hp : p.length = off) (hn : xs.length = n) (hm : n ≤ 1000000) : Bs w (some ⟨g, off, none⟩) n n xs :=
  ⟨hn, Nat.le_refl _, by unfold maxLen; omega, fun _ => ⟨g, off, rfl, h.lt, fun j hj => h.mid hL hp j _ (cellsOf_get (by omega))⟩⟩
end Go.Proofs.YtbnjmmefnjoofaaDoor
