import Derived.Test.YtbnjmmefnjoofaaDoorBk
import Derived.Test.YtbnjmmefnjoofaaDoorPkK
section
/-
  What a Take of any time does.
-/
namespace Go.Proofs.YtbnjmmefnjoofaaDoor
open Go.ChangeShapes Go.WideShapes Go.ChangeAt Go.RowKit Go.Deep

/-- What Take answers, and the time and the number behind it. -/
def bkTake (m v t k now : Int) : Int × Int × Int :=
  if 1000000 < now then (1, t, k) else if now < t then (5, t, k) else if bkAt m v t k now = 0 then (10, now, 0) else (0, now, bkAt m v t k now - 1)
theorem bkTake_ok {m v t k now : Int} (h : BkOk m v t k) : BkOk m v (bkTake m v t k now).2.1 (bkTake m v t k now).2.2 := by
  unfold bkTake
  by_cases q1 : 1000000 < now
  · rw [if_pos q1]; exact h
  · rw [if_neg q1]
    by_cases q2 : now < t
    · rw [if_pos q2]; exact h
    · rw [if_neg q2]
      have hb := bkAt_ok h (show t ≤ now by omega)
      have tk := took_ok h (show t ≤ now by omega) (by omega)
      by_cases q3 : bkAt m v t k now = 0
      · rw [if_pos q3]; exact tk.1
      · rw [if_neg q3]; exact tk.2 (by omega)
theorem take_any {g : Nat} {m v t k now er t' k' : Int} {w : World} (h : Bk w g m v t k) (hok : BkOk m v t k) (hn1 : -9223372036854775808 ≤ now) (hn2 : now ≤ 9223372036854775807) (ht : bkTake m v t k now = (er, t', k')) :
    Calls Tryd.prog 45 #[.pointer (some ⟨g, 0, none⟩), .int .i64 now] w fun e w' => e = .returned (.int .i64 er) ∧ Bk w' g m v t' k' ∧ w.grownBy w' (some g) := by
  unfold bkTake at ht
  by_cases q1 : 1000000 < now
  · rw [if_pos q1] at ht
    injection ht with e1 e2
    injection e2 with e2 e3
    subst e1 e2 e3
    exact (take_late h hn2 q1).mono fun e w' ⟨he, hw⟩ => by subst hw; exact ⟨he, h, World.grownBy.refl _ _⟩
  · rw [if_neg q1] at ht
    by_cases q2 : now < t
    · rw [if_pos q2] at ht
      injection ht with e1 e2
      injection e2 with e2 e3
      subst e1 e2 e3
      exact (take_old h hn1 hok.2.2.2.2.2.1 q2).mono fun e w' ⟨he, hw⟩ => by subst hw; exact ⟨he, h, World.grownBy.refl _ _⟩
    · rw [if_neg q2] at ht
      refine (take_calls h hok (by omega) (by omega)).mono fun e w' ⟨hg, hh⟩ => ?_
      rcases hh with ⟨q3, he, hb⟩ | ⟨q3, he, hb⟩
      · rw [if_pos q3] at ht
        injection ht with e1 e2
        injection e2 with e2 e3
        subst e1 e2 e3
        exact ⟨he, hb, hg⟩
      · rw [if_neg (by omega)] at ht
        injection ht with e1 e2
        injection e2 with e2 e3
        subst e1 e2 e3
        exact ⟨he, hb, hg⟩
end Go.Proofs.YtbnjmmefnjoofaaDoor
end

section
/-
  Of what lay below a border just two blocks turn.
-/
namespace Go.Proofs.YtbnjmmefnjoofaaDoor
open Go.ChangeShapes Go.WideShapes Go.ChangeAt Go.RowKit Go.Deep

def Tq (B g b : Nat) (a c : World) : Prop := c.os = a.os ∧ c.tape = a.tape ∧ c.output = a.output ∧ a.heap.size ≤ c.heap.size ∧ ∀ i, i < B → i ≠ g → i ≠ b → c.heap[i]? = a.heap[i]?
theorem Tq.refl (B g b : Nat) (w : World) : Tq B g b w w := ⟨rfl, rfl, rfl, Nat.le_refl _, fun _ _ _ _ => rfl⟩
theorem Tq.trans {B g b : Nat} {x y z : World} (h : Tq B g b x y) (k : Tq B g b y z) : Tq B g b x z :=
  ⟨k.1.trans h.1, k.2.1.trans h.2.1, k.2.2.1.trans h.2.2.1, Nat.le_trans h.2.2.2.1 k.2.2.2.1, fun i hi h1 h2 => (k.2.2.2.2 i hi h1 h2).trans (h.2.2.2.2 i hi h1 h2)⟩
theorem Tq.of_two {B g b : Nat} {x y : World} (h : Two g b x y) (hB : B ≤ x.heap.size) : Tq B g b x y := ⟨h.1, h.2.1, h.2.2.1, h.2.2.2.1, fun i hi h1 h2 => h.2.2.2.2 i (Nat.lt_of_lt_of_le hi hB) h1 h2⟩
theorem Tq.of_ext {B g b : Nat} {x y : World} (h : Ext x y) (hB : B ≤ x.heap.size) : Tq B g b x y := ⟨h.os, h.tape, h.output, h.size, fun i hi _ _ => h.block i (Nat.lt_of_lt_of_le hi hB)⟩
theorem Tq.row {B g b r : Nat} (x : World) (C : Array Value) (hr : B ≤ r) : Tq B g b x (x.setRow r C) := ⟨rfl, rfl, rfl, by simp, fun i hi _ _ => setRow_other _ _ _ _ (by omega)⟩
theorem Tq.block {B g b i : Nat} {x y : World} (k : Tq B g b x y) {o : Obj} (h : x.heap[i]? = some o) (hi : i < B) (h1 : i ≠ g) (h2 : i ≠ b) : y.heap[i]? = some o := (k.2.2.2.2 i hi h1 h2).trans h
theorem Tq.ext {B g b : Nat} {w0 x y : World} (h : Ext w0 x) (k : Tq B g b x y) (hB : w0.heap.size ≤ B) (h1 : w0.heap.size ≤ g) (h2 : w0.heap.size ≤ b) : Ext w0 y :=
  Below.trans h ⟨k.1, k.2.1, k.2.2.1, k.2.2.2.1, fun i hi => k.2.2.2.2 i (Nat.lt_of_lt_of_le hi hB) (by omega) (by omega)⟩
/-- Just three blocks turn. -/
def Thr (g b r : Nat) (a c : World) : Prop := c.os = a.os ∧ c.tape = a.tape ∧ c.output = a.output ∧ a.heap.size ≤ c.heap.size ∧ ∀ i, i < a.heap.size → i ≠ g → i ≠ b → i ≠ r → c.heap[i]? = a.heap[i]?
theorem Thr.refl (g b r : Nat) (w : World) : Thr g b r w w := ⟨rfl, rfl, rfl, Nat.le_refl _, fun _ _ _ _ _ => rfl⟩
theorem Thr.trans {g b r : Nat} {x y z : World} (h : Thr g b r x y) (k : Thr g b r y z) : Thr g b r x z :=
  ⟨k.1.trans h.1, k.2.1.trans h.2.1, k.2.2.1.trans h.2.2.1, Nat.le_trans h.2.2.2.1 k.2.2.2.1, fun i hi h1 h2 h3 => (k.2.2.2.2 i (Nat.lt_of_lt_of_le hi h.2.2.2.1) h1 h2 h3).trans (h.2.2.2.2 i hi h1 h2 h3)⟩
theorem Thr.of_two {g b r : Nat} {x y : World} (h : Two g b x y) : Thr g b r x y := ⟨h.1, h.2.1, h.2.2.1, h.2.2.2.1, fun i hi h1 h2 _ => h.2.2.2.2 i hi h1 h2⟩
theorem Thr.of_grown {g b r : Nat} {x y : World} (h : x.grownBy y (some r)) : Thr g b r x y := ⟨h.os, h.tape, h.output, h.size, fun i hi _ _ h3 => h.block i hi (fun q => h3 (Option.some.inj q))⟩
theorem Thr.of_ext {g b r : Nat} {x y : World} (h : Ext x y) : Thr g b r x y := ⟨h.os, h.tape, h.output, h.size, fun i hi _ _ _ => h.block i hi⟩
theorem Thr.block {g b r i : Nat} {x y : World} (k : Thr g b r x y) {o : Obj} (h : x.heap[i]? = some o) (h1 : i ≠ g) (h2 : i ≠ b) (h3 : i ≠ r) : y.heap[i]? = some o := (k.2.2.2.2 i (heap_lt h) h1 h2 h3).trans h
theorem Thr.ext {g b r : Nat} {w0 x y : World} (h : Ext w0 x) (k : Thr g b r x y) (h1 : w0.heap.size ≤ g) (h2 : w0.heap.size ≤ b) (h3 : w0.heap.size ≤ r) : Ext w0 y :=
  Below.trans h ⟨k.1, k.2.1, k.2.2.1, k.2.2.2.1, fun i hi => k.2.2.2.2 i (Nat.lt_of_lt_of_le hi h.size) (by omega) (by omega) (by omega)⟩
theorem wp_partT {P : Program} {c : Code} {Q : Exit → Act → World → Prop} {a : Act} {A' : Nat → Act} {w : World} (F : Nat → World → Prop) (h : c.wp P (fun x a' w' => x = .normal ∧ ∃ g, a' = A' g ∧ F g w') a w) (k : ∀ W g, F g W → Q .normal (A' g) W) : c.wp P Q a w :=
  Code.wp_mono (fun _ _ _ q => by obtain ⟨rfl, g, rfl, q⟩ := q; exact k _ _ q) h
end Go.Proofs.YtbnjmmefnjoofaaDoor
end
