/-
  Cells stored into the midst of a block whose cells are known. No conditions.
-/
import Derived.Test.YtbnjmmefnjoofaaDoorMid
import Derived.Deep.MidRow
import Derived.Deep.Upon
namespace Go.Proofs.YtbnjmmefnjoofaaDoor
open Go.ChangeShapes Go.WideShapes Go.ChangeAt Go.RowKit Go.Deep

theorem splice_cons {α : Type} (L : List α) (o : Nat) (v : α) (r : List α) (h : o < L.length) : splice (L.set o v) (o + 1) r = splice L o (v :: r) := by
  unfold splice
  rw [List.take_set, List.drop_set, if_pos (by omega)]
  have e : (L.take (o + 1)).set o v = L.take o ++ [v] := by
    apply List.ext_getElem?
    intro i
    rw [List.getElem?_set]
    by_cases hi : o = i
    · subst hi
      rw [if_pos rfl, if_pos (by simp; omega), List.getElem?_append_right (by rw [List.length_take]; omega), List.length_take]
      simp [show min o L.length = o by omega]
    · rw [if_neg hi]
      by_cases h2 : i < o
      · rw [List.getElem?_append_left (by simp; omega), List.getElem?_take, List.getElem?_take, if_pos (by omega), if_pos h2]
      · rw [List.getElem?_take, if_neg (by omega), List.getElem?_eq_none (by simp; omega)]
  rw [e, List.append_assoc, show o + 1 + r.length = o + (v :: r).length by simp; omega]
  rfl
theorem heap_setCells_row {g : Nat} {t : TypeId} {fr : Nat × Nat} : ∀ (vs : List Value) (o : Nat) (w : World) (A : List Value), w.heap[g]? = some (.cells A.toArray t fr) → o + vs.length ≤ A.length → (w.setCells g o vs).heap[g]? = some (.cells (splice A o vs).toArray t fr)
  | [], o, w, A, h, hl => by
    have : splice A o [] = A := by simp [splice]
    rw [this]; exact h
  | v :: r, o, w, A, h, hl => by
    have h1 : (w.setCell ⟨g, o, none⟩ v).heap[g]? = some (.cells (A.set o v).toArray t fr) := by
      simp [World.setCell, Array.getElem?_modify, h]
    have := heap_setCells_row r (o + 1) _ (A.set o v) h1 (by simp at hl ⊢; omega)
    rw [splice_cons A o v r (by simp at hl; omega)] at this
    exact this
theorem there_of_row {w : World} {g o n : Nat} {A : List Value} {t : TypeId} (h : w.heap[g]? = some (.cells A.toArray t (0, 0))) (hl : o + n ≤ A.length) : w.there g o n := fun j hj => by
  refine ⟨?_, frozen_of_row w g _ _ _ h⟩
  rw [cell_of_row w g _ _ _ _ h]
  simp
  omega
theorem grown_setCells {w : World} {g o : Nat} {vs : List Value} : w.grownBy (w.setCells g o vs) (some g) := by
  have hk := World.keptBut_setCells g (may := fun _ => True) vs o w (fun _ _ => trivial)
  refine ⟨hk.1, ?_, hk.2.1, ?_, fun i hi hne => World.heap_setCells_other w g o vs hi (fun e => hne (by rw [e]))⟩
  · clear hk
    induction vs generalizing o w with
    | nil => rfl
    | cons v r ih => exact (ih (o := o + 1) (w := w.setCell ⟨g, o, none⟩ v)).trans rfl
  · clear hk
    induction vs generalizing o w with
    | nil => exact Nat.le_refl _
    | cons v r ih => exact Nat.le_trans (by simp [World.setCell]) (ih (o := o + 1) (w := w.setCell ⟨g, o, none⟩ v))
theorem grown_trans' {a b c : World} {r : Option Nat} (h : a.grownBy b r) (k : b.grownBy c r) : a.grownBy c r :=
  ⟨k.os.trans h.os, k.tape.trans h.tape, k.output.trans h.output, Nat.le_trans h.size k.size, fun i hi hne => (k.block i (Nat.lt_of_lt_of_le hi h.size) hne).trans (h.block i hi hne)⟩
theorem below_grown {a b : World} {g : Nat} (hg : g < a.heap.size) (h : a.grownBy b (some g)) : Below g a b :=
  ⟨h.os, h.tape, h.output, h.size, fun i hi => h.block i (Nat.lt_trans hi hg) (fun q => by cases q; exact Nat.lt_irrefl _ hi)⟩
end Go.Proofs.YtbnjmmefnjoofaaDoor
