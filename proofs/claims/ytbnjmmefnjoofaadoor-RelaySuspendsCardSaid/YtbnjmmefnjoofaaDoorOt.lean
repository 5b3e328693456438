import Derived.Test.YtbnjmmefnjoofaaDoorPkK
/-
  Worlds in which just some blocks turn. No conditions.
-/
namespace Go.Proofs.YtbnjmmefnjoofaaDoor
open Go.ChangeShapes Go.WideShapes Go.ChangeAt Go.RowKit Go.Deep

/-- Only blocks of p turn. -/
def Ot (p : Nat → Prop) (a b : World) : Prop := b.os = a.os ∧ b.tape = a.tape ∧ b.output = a.output ∧ a.heap.size ≤ b.heap.size ∧ ∀ i, i < a.heap.size → ¬ p i → b.heap[i]? = a.heap[i]?
section
variable {p q : Nat → Prop} {a b c : World}
theorem Ot.refl (p : Nat → Prop) (w : World) : Ot p w w := ⟨rfl, rfl, rfl, Nat.le_refl _, fun _ _ _ => rfl⟩
theorem Ot.trans (h : Ot p a b) (k : Ot p b c) : Ot p a c :=
  ⟨k.1.trans h.1, k.2.1.trans h.2.1, k.2.2.1.trans h.2.2.1, Nat.le_trans h.2.2.2.1 k.2.2.2.1, fun i hi hp => (k.2.2.2.2 i (Nat.lt_of_lt_of_le hi h.2.2.2.1) hp).trans (h.2.2.2.2 i hi hp)⟩
theorem Ot.mono (h : Ot p a b) (k : ∀ i, i < a.heap.size → p i → q i) : Ot q a b := ⟨h.1, h.2.1, h.2.2.1, h.2.2.2.1, fun i hi hn => h.2.2.2.2 i hi fun z => hn (k i hi z)⟩
theorem Ot.of_ext (h : Ext a b) : Ot p a b := ⟨h.os, h.tape, h.output, h.size, fun i hi _ => h.block i hi⟩
theorem Ot.of_two {g g' : Nat} (h : Two g g' a b) (h1 : p g) (h2 : p g') : Ot p a b := ⟨h.1, h.2.1, h.2.2.1, h.2.2.2.1, fun i hi hn => h.2.2.2.2 i hi (fun z => hn (z ▸ h1)) (fun z => hn (z ▸ h2))⟩
theorem Ot.of_grown {g : Nat} (h : a.grownBy b (some g)) (h1 : p g) : Ot p a b := ⟨h.os, h.tape, h.output, h.size, fun i hi hn => h.block i hi (fun z => hn (Option.some.inj z ▸ h1))⟩
theorem Ot.size (h : Ot p a b) : a.heap.size ≤ b.heap.size := h.2.2.2.1
theorem Ot.drew (h : Ot p a b) : Ot p a b.drew := h
theorem Ot.same {i : Nat} (h : Ot p a b) (hi : i < a.heap.size) (hp : ¬ p i) : b.heap[i]? = a.heap[i]? := h.2.2.2.2 i hi hp
theorem Ot.block {i : Nat} {o : Obj} (h : Ot p a b) (hi : a.heap[i]? = some o) (hp : ¬ p i) : b.heap[i]? = some o := (h.2.2.2.2 i (heap_lt hi) hp).trans hi
theorem Ot.ext {w0 : World} (h : Ext w0 a) (k : Ot p a b) (hp : ∀ i, p i → w0.heap.size ≤ i) : Ext w0 b :=
  Below.trans h ⟨k.1, k.2.1, k.2.2.1, k.2.2.2.1, fun i hi => k.2.2.2.2 i (Nat.lt_of_lt_of_le hi h.size) (fun z => by have := hp i z; omega)⟩
/-- What the call did to blocks that were new to it does not count. -/
theorem Ot.cell (w : World) {g : Nat} (o : Nat) (v : Value) (h : p g) : Ot p w (w.setCell ⟨g, o, none⟩ v) := ⟨rfl, rfl, rfl, by simp [World.setCell], fun i _ hn => Below.heap_setCell _ _ _ _ (fun z => hn (z ▸ h))⟩
theorem Ot.row (w : World) {g : Nat} (C : Array Value) (h : p g) : Ot p w (w.setRow g C) := ⟨rfl, rfl, rfl, by simp, fun i _ hn => setRow_other _ _ _ _ (fun z => hn (z ▸ h))⟩
theorem Ot.newRow (w : World) {g : Nat} {w2 : World} (h : Ot p w w2) (hg : w.heap.size ≤ g) (C : Array Value) : Ot p w (w2.setRow g C) := ⟨h.1, h.2.1, h.2.2.1, by simpa using h.2.2.2.1, fun i hi hn => (setRow_other _ _ _ _ (by omega)).trans (h.2.2.2.2 i hi hn)⟩
theorem Ot.newCell (w : World) {g : Nat} {w2 : World} (h : Ot p w w2) (hg : w.heap.size ≤ g) (o : Nat) (v : Value) : Ot p w (w2.setCell ⟨g, o, none⟩ v) := ⟨h.1, h.2.1, h.2.2.1, by simpa [World.setCell] using h.2.2.2.1, fun i hi hn => (Below.heap_setCell _ _ _ _ (fun z => by have z : i = g := z; omega)).trans (h.2.2.2.2 i hi hn)⟩
end
theorem cb_differ {w : World} {i j : Nat} {t t' : TypeId} {C D : List Value} (h : w.heap[i]? = some (.cells C.toArray t (0, 0))) (k : w.heap[j]? = some (.cells D.toArray t' (0, 0))) (ht : t ≠ t') : i ≠ j := by
  rintro rfl
  rw [h] at k
  injection k with k
  injection k with _ k
  exact ht k
end Go.Proofs.YtbnjmmefnjoofaaDoor
