import Derived.Test.YteaoacinhdjkeaaPkH
/-
  Slices whose elements have several cells: read. No conditions.
-/
namespace Go.Proofs.Yteaoacinhdjkeaa
open Go.ChangeShapes Go.WideShapes Go.ChangeAt Go.RowKit Go.Deep
set_option maxRecDepth 100000

/-- The slice reads as elements with the cells of K, s each. -/
def Cs (w : World) (s : Nat) (A : Option Addr) (n c : Nat) (K : List (List Value)) : Prop :=
  (K.length = n ∧ (∀ x ∈ K, x.length = s)) ∧ (n ≤ c ∧ c ≤ maxLen) ∧ (0 < n → ∃ b off, A = some ⟨b, off, none⟩ ∧ b < w.heap.size ∧ ∀ q v, K.flatten[q]? = some v → w.cell? ⟨b, off + q, none⟩ = some v)
section
variable {w w' : World} {s : Nat} {A : Option Addr} {n c : Nat} {K : List (List Value)}
theorem Cs.ext (h : Cs w s A n c K) (e : Ext w w') : Cs w' s A n c K := ⟨h.1, h.2.1, fun h0 => by
  obtain ⟨b, off, hA, hb, hc⟩ := h.2.2 h0
  exact ⟨b, off, hA, Nat.lt_of_lt_of_le hb e.size, fun q v hq => (e.cell hb).trans (hc q v hq)⟩⟩
theorem flatten_len {α : Type} {s : Nat} : ∀ {L : List (List α)}, (∀ x ∈ L, x.length = s) → L.flatten.length = L.length * s
  | [], _ => by simp
  | x :: L, h => by
    rw [List.flatten_cons, List.length_append, h x (List.mem_cons_self ..), flatten_len fun y hy => h y (List.mem_cons_of_mem _ hy), List.length_cons, Nat.add_mul]
    omega
theorem OwnC.cs {B : Nat} {e : TypeId} (h : OwnC B w e s A n c K) : Cs w s A n c K := by
  refine ⟨⟨h.2.2, h.2.1⟩, h.cap, fun h0 => ?_⟩
  obtain ⟨b, hA, hb, _, hc⟩ := h.cells h0
  exact ⟨b, 0, hA, hb, fun q v hq => by rw [Nat.zero_add]; exact hc q v hq⟩
/-- Cell i of element j. -/
theorem Cs.at (h : Cs w s A n c K) {j : Nat} (hj : j < n) : ∃ b off, A = some ⟨b, off, none⟩ ∧ b < w.heap.size ∧ ∀ i v, (K.getD j [])[i]? = some v → w.cell? ⟨b, off + j * s + i, none⟩ = some v := by
  obtain ⟨b, off, hA, hb, hc⟩ := h.2.2 (by omega)
  refine ⟨b, off, hA, hb, fun i v hi => ?_⟩
  have hl : (K.getD j []).length = s := by
    have q : j < K.length := by rw [h.1.1]; exact hj
    rw [List.getD_eq_getElem?_getD, List.getElem?_eq_getElem q]
    exact h.1.2 _ (List.getElem_mem q)
  have his : i < s := by rw [← hl]; exact (List.getElem?_eq_some_iff.1 hi).1
  rw [Nat.add_assoc]
  exact hc _ _ ((flat_at h.1.2 (by rw [h.1.1]; exact hj) his).trans hi)
theorem Cs.take (h : Cs w s A n c K) {k : Nat} (hk : k ≤ n) : Cs w s A k c (K.take k) := by
  have h2 := h.2.1
  refine ⟨⟨by rw [List.length_take, h.1.1]; omega, fun x hx => h.1.2 x (List.mem_of_mem_take hx)⟩, ⟨by omega, h2.2⟩, fun h0 => ?_⟩
  obtain ⟨b, off, hA, hb, hc⟩ := h.2.2 (by omega)
  refine ⟨b, off, hA, hb, fun q v hq => hc q v ?_⟩
  have e : K.flatten = (K.take k).flatten ++ (K.drop k).flatten := by rw [← List.flatten_append, List.take_append_drop]
  rw [e, List.getElem?_append_left (List.getElem?_eq_some_iff.1 hq).1]
  exact hq
end
end Go.Proofs.Yteaoacinhdjkeaa
