/-
  Of what lay below a border just two blocks turn.
-/
import Derived.Test.YtonjialkfbbhpaaTwo
namespace Go.Proofs.Ytonjialkfbbhpaa
open Go.ChangeShapes Go.WideShapes Go.ChangeAt Go.RowKit Go.Deep

def Tw (B g b : Nat) (a c : World) : Prop := c.os = a.os ∧ c.tape = a.tape ∧ c.output = a.output ∧ a.heap.size ≤ c.heap.size ∧ ∀ i, i < B → i ≠ g → i ≠ b → c.heap[i]? = a.heap[i]?
theorem Tw.refl (B g b : Nat) (w : World) : Tw B g b w w := ⟨rfl, rfl, rfl, Nat.le_refl _, fun _ _ _ _ => rfl⟩
theorem Tw.trans {B g b : Nat} {x y z : World} (h : Tw B g b x y) (k : Tw B g b y z) : Tw B g b x z :=
  ⟨k.1.trans h.1, k.2.1.trans h.2.1, k.2.2.1.trans h.2.2.1, Nat.le_trans h.2.2.2.1 k.2.2.2.1, fun i hi h1 h2 => (k.2.2.2.2 i hi h1 h2).trans (h.2.2.2.2 i hi h1 h2)⟩
theorem Tw.of_two {B g b : Nat} {x y : World} (h : Two g b x y) (hB : B ≤ x.heap.size) : Tw B g b x y := ⟨h.1, h.2.1, h.2.2.1, h.2.2.2.1, fun i hi h1 h2 => h.2.2.2.2 i (Nat.lt_of_lt_of_le hi hB) h1 h2⟩
theorem Tw.of_ext {B g b : Nat} {x y : World} (h : Ext x y) (hB : B ≤ x.heap.size) : Tw B g b x y := ⟨h.os, h.tape, h.output, h.size, fun i hi _ _ => h.block i (Nat.lt_of_lt_of_le hi hB)⟩
theorem Tw.row {B g b r : Nat} (x : World) (C : Array Value) (hr : B ≤ r) : Tw B g b x (x.setRow r C) := ⟨rfl, rfl, rfl, by simp, fun i hi _ _ => setRow_other _ _ _ _ (by omega)⟩
theorem Tw.block {B g b i : Nat} {x y : World} (k : Tw B g b x y) {o : Obj} (h : x.heap[i]? = some o) (hi : i < B) (h1 : i ≠ g) (h2 : i ≠ b) : y.heap[i]? = some o := (k.2.2.2.2 i hi h1 h2).trans h
theorem Tw.ext {B g b : Nat} {w0 x y : World} (h : Ext w0 x) (k : Tw B g b x y) (hB : w0.heap.size ≤ B) (h1 : w0.heap.size ≤ g) (h2 : w0.heap.size ≤ b) : Ext w0 y :=
  Below.trans h ⟨k.1, k.2.1, k.2.2.1, k.2.2.2.1, fun i hi => k.2.2.2.2 i (Nat.lt_of_lt_of_le hi hB) (by omega) (by omega)⟩
/-- Just three blocks turn. -/
def Thr (g b r : Nat) (a c : World) : Prop := c.os = a.os ∧ c.tape = a.tape ∧ c.output = a.output ∧ a.heap.size ≤ c.heap.size ∧ ∀ i, i < a.heap.size → i ≠ g → i ≠ b → i ≠ r → c.heap[i]? = a.heap[i]?
theorem Thr.refl (g b r : Nat) (w : World) : Thr g b r w w := ⟨rfl, rfl, rfl, Nat.le_refl _, fun _ _ _ _ _ => rfl⟩
theorem Thr.trans {g b r : Nat} {x y z : World} (h : Thr g b r x y) (k : Thr g b r y z) : Thr g b r x z :=
  ⟨k.1.trans h.1, k.2.1.trans h.2.1, k.2.2.1.trans h.2.2.1, Nat.le_trans h.2.2.2.1 k.2.2.2.1, fun i hi h1 h2 h3 => (k.2.2.2.2 i (Nat.lt_of_lt_of_le hi h.2.2.2.1) h1 h2 h3).trans (h.2.2.2.2 i hi h1 h2 h3)⟩
theorem Thr.of_two {g b r : Nat} {x y : World} (h : Two g b x y) : Thr g b r x y := ⟨h.1, h.2.1, h.2.2.1, h.2.2.2.1, fun i hi h1 h2 _ => h.2.2.2.2 i hi h1 h2⟩
theorem Thr.of_grown {g b r : Nat} {x y : World} (h : x.grownBy y (some r)) : Thr g b r x y := ⟨h.os, h.tape, h.output, h.size, fun i hi _ _ h3 => h.block i hi (fun q => h3 (Option.some.inj q))⟩
theorem Thr.of_ext {g b r : Nat} {x y : World} (h : Ext x y) : Thr g b r x y := ⟨h.os, h.tape, h.output, h.size, fun i hi _ _ _ => h.block i hi⟩
theorem Thr.block {g b r i : Nat} {x y : World} (k : Thr g b r x y) {o : Obj} (h : x.heap[i]? = some o) (h1 : i ≠ g) (h2 : i ≠ b) (h3 : i ≠ r) : y.heap[i]? = some o := (k.2.2.2.2 i (heap_lt h) h1 h2 h3).trans h
theorem Thr.ext {g b r : Nat} {w0 x y : World} (h : Ext w0 x) (k : Thr g b r x y) (h1 : w0.heap.size ≤ g) (h2 : w0.heap.size ≤ b) (h3 : w0.heap.size ≤ r) : Ext w0 y :=
  Below.trans h ⟨k.1, k.2.1, k.2.2.1, k.2.2.2.1, fun i hi => k.2.2.2.2 i (Nat.lt_of_lt_of_le hi h.size) (by omega) (by omega) (by omega)⟩
theorem wp_partT {P : Program} {c : Code} {Q : Exit → Act → World → Prop} {a : Act} {A' : Nat → Act} {w : World} (F : Nat → World → Prop) (h : c.wp P (fun x a' w' => x = .normal ∧ ∃ g, a' = A' g ∧ F g w') a w) (k : ∀ W g, F g W → Q .normal (A' g) W) : c.wp P Q a w :=
  Code.wp_mono (fun _ _ _ q => by obtain ⟨rfl, g, rfl, q⟩ := q; exact k _ _ q) h
end Go.Proofs.Ytonjialkfbbhpaa
