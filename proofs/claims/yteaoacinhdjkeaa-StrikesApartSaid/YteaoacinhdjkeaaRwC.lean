import Derived.Test.YteaoacinhdjkeaaPkG
import Derived.Test.YteaoacinhdjkeaaSeq
/-
  Slices of slices of bytes (Rw).
-/
namespace Go.Proofs.Yteaoacinhdjkeaa
open Go.ChangeShapes Go.WideShapes Go.ChangeAt Go.RowKit Go.Deep

/-- The slice '.slice A n c' reads as the rows l. -/
def Rw (w : World) (A : Option Addr) (n c : Nat) (l : List (List UInt8)) : Prop :=
  l.length = n ∧ n ≤ c ∧ c ≤ maxLen ∧ (0 < n → ∃ b off, A = some ⟨b, off, none⟩ ∧ b < w.heap.size ∧ ∀ j, j < n → ∃ A' n' c', w.cell? ⟨b, off + j, none⟩ = some (.slice A' n' c') ∧ Bs w A' n' c' (l.getD j []))

section
variable {w w' : World} {A : Option Addr} {n c : Nat} {l : List (List UInt8)}
theorem Rw.len (h : Rw w A n c l) : l.length = n := h.1
theorem Rw.le (h : Rw w A n c l) : n ≤ c := h.2.1
theorem Rw.cap (h : Rw w A n c l) : c ≤ 9223372036854775807 := h.2.2.1
theorem Rw.nil (w : World) : Rw w none 0 0 [] := ⟨rfl, Nat.le_refl _, Nat.zero_le _, fun h => absurd h (by omega)⟩
theorem Rw.pos (h : Rw w A n c l) (hn : 0 < n) : ∃ b off, A = some ⟨b, off, none⟩ ∧ b < w.heap.size ∧ ∀ j, j < n → ∃ A' n' c', w.cell? ⟨b, off + j, none⟩ = some (.slice A' n' c') ∧ Bs w A' n' c' (l.getD j []) := h.2.2.2 hn
theorem Rw.ext (h : Rw w A n c l) (he : Ext w w') : Rw w' A n c l :=
  ⟨h.1, h.2.1, h.2.2.1, fun hn => by
    obtain ⟨b, off, e, hb, hc⟩ := h.2.2.2 hn
    refine ⟨b, off, e, Nat.lt_of_lt_of_le hb he.size, fun j hj => ?_⟩
    obtain ⟨A', n', c', h1, h2⟩ := hc j hj
    exact ⟨A', n', c', (he.cell hb).trans h1, h2.ext he⟩⟩
end

end Go.Proofs.Yteaoacinhdjkeaa
