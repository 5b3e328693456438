/-
  package blake: mixing words (mix), over a row of 16 words.
-/
import Derived.Test.YtdecfofjcpnilaaDoorSeqZ
namespace Go.Proofs.YtdecfofjcpnilaaDoor
open Go.ChangeShapes Go.WideShapes Go.ChangeAt Go.RowKit Go.Deep

/-- The word at place k. -/
def wd (vs : List Nat) (k : Nat) : Nat := vs.getD k 0
/-- Block g holds the words vs, and may be written. -/
def Arr (w : World) (g : Nat) (vs : List Nat) : Prop :=
  g < w.heap.size ∧ ∀ i, i < vs.length → w.cell? ⟨g, i, none⟩ = some (.int .u32 (wd vs i : Int)) ∧ w.frozen? ⟨g, i, none⟩ = false ∧ wd vs i < 4294967296

def add32 (a b : Nat) : Nat := (a + b) % 4294967296
/-- The word turned right by n bits. -/
def rotr (n x : Nat) : Nat := (x * 2 ^ (32 - n)) % 4294967296 ||| x / 2 ^ n

theorem add32_lt (a b : Nat) : add32 a b < 4294967296 := Nat.mod_lt _ (by omega)
theorem rotr_lt {n x : Nat} (h : x < 4294967296) : rotr n x < 4294967296 := by
  unfold rotr
  exact Nat.or_lt_two_pow (n := 32) (Nat.mod_lt _ (by omega)) (Nat.lt_of_le_of_lt (Nat.div_le_self _ _) h)
theorem wd_set {vs : List Nat} {k i x : Nat} (hk : k < vs.length) : wd (vs.set k x) i = if i = k then x else wd vs i := by
  unfold wd
  by_cases h : i = k
  · subst h; simp [List.getD, hk]
  · simp [List.getD, h, List.getElem?_set_ne (Ne.symm h)]

section
variable {w w' : World} {g : Nat} {vs : List Nat}
theorem Arr.ext (h : Arr w g vs) (he : Ext w w') : Arr w' g vs :=
  ⟨Nat.lt_of_lt_of_le h.1 he.size, fun i hi => ⟨(he.cell h.1).trans (h.2 i hi).1, (Below.frozen he (p := ⟨g, i, none⟩) h.1).trans (h.2 i hi).2.1, (h.2 i hi).2.2⟩⟩
theorem frozen_setCell (w : World) (p q : Addr) (u : Value) : (w.setCell p u).frozen? q = w.frozen? q := by
  simp only [World.frozen?, World.setCell, Array.getElem?_modify]
  by_cases h : p.block = q.block
  · rw [if_pos h]
    cases w.heap[q.block]? with
    | none => rfl
    | some o => cases o <;> rfl
  · rw [if_neg h]
theorem Arr.set {k x : Nat} (h : Arr w g vs) (hk : k < vs.length) (hx : x < 4294967296) : Arr (w.setCell ⟨g, k, none⟩ (.int .u32 (x : Int))) g (vs.set k x) := by
  refine ⟨by simpa [World.setCell] using h.1, fun i hi => ?_⟩
  rw [List.length_set] at hi
  obtain ⟨h1, h2, h3⟩ := h.2 i hi
  rw [wd_set hk, frozen_setCell]
  by_cases e : i = k
  · subst e
    simp only [if_true]
    exact ⟨World.cell?_setCell_same _ _ _ h1, h2, hx⟩
  · simp only [if_neg e]
    refine ⟨?_, h2, h3⟩
    rw [World.cell?_setCell_other _ _ _ _ (fun q => e (by injection q with _ q2 _; exact q2.symm))]
    exact h1
end
end Go.Proofs.YtdecfofjcpnilaaDoor
