/-
  package blake: mixing words (mix), over a row of 16 words.
-/
import Derived.Test.YtbnjmmefnjoofaaDoorSeqZ
namespace Go.Proofs.YtbnjmmefnjoofaaDoor
open Go.ChangeShapes Go.WideShapes Go.ChangeAt Go.RowKit Go.Deep

/-- The word at place k. -/
def wd (vs : List Nat) (k : Nat) : Nat := vs.getD k 0
/-- Block g holds the words vs, and may be written. -/
def Arr (w : World) (g : Nat) (vs : List Nat) : Prop :=
  g < w.heap.size ∧ ∀ i, i < vs.length → w.cell? ⟨g, i, none⟩ = some (.int .u32 (wd vs i : Int)) ∧ w.frozen? ⟨g, i, none⟩ = false ∧ wd vs i < 4294967296

def add32 (a b : Nat) : Nat := (a + b) % 4294967296
/-- The word turned right by n bits. -/
def rotr (n x : Nat) : Nat := (x * 2 ^ (32 - n)) % 4294967296 ||| x / 2 ^ n

theorem add32_lt (a b : Nat) : add32 a b < 4294967296 := Nat.mod_lt _ (by omega)
theorem rotr_lt {n x : Nat} (h : x < 4294967296) : rotr n x < 4294967296 := by
  unfold rotr
  exact Nat.or_lt_two_pow (n := 32) (Nat.mod_lt _ (by omega)) (Nat.lt_of_le_of_lt (Nat.div_le_self _ _) h)
theorem wd_set {vs : List Nat} {k i x : Nat} (hk : k < vs.length) : wd (vs.set k x) i = if i = k then x else wd vs i := by
  unfold wd
  by_cases h : i = k
  · subst h; simp [List.getD, hk]
  · simp [List.getD, h, List.getElem?_set_ne (Ne.symm h)]

section
variable {w w' : World} {g : Nat} {vs : List Nat}
theorem Arr.ext (h : Arr w g vs) (he : Ext w w') : Arr w' g vs :=
  ⟨Nat.lt_of_lt_of_le h.1 he.size, fun i hi => ⟨(he.cell h.1).trans (h.2 i hi).1, (Below.frozen he (p := ⟨g, i, none⟩) h.1).trans (h.2 i hi).2.1, (h.2 i hi).2.2⟩⟩
theorem frozen_setCell (w : World) (p q : Addr) (u : Value) : (w.setCell p u).frozen? q = w.frozen? q := by
  simp only [World.frozen?, World.setCell, Array.getElem?_modify]
  by_cases h : p.block = q.block
  · rw [if_pos h]
    cases w.heap[q.block]? with
    | none => rfl
    | some o => cases o <;> rfl
  · rw [if_neg h]
theorem Arr.set {k x : Nat} (h : Arr w g vs) (hk : k < vs.length) (hx : x < 4294967296) : Arr (w.setCell ⟨g, k, none⟩ (.int .u32 (x : Int))) g (vs.set k x) := by
  refine ⟨by simpa [World.setCell] using h.1, fun i hi => ?_⟩
  rw [List.length_set] at hi
  obtain ⟨h1, h2, h3⟩ := h.2 i hi
  rw [wd_set hk, frozen_setCell]
  by_cases e : i = k
  · subst e
    simp only [if_true]
    exact ⟨World.cell?_setCell_same _ _ _ h1, h2, hx⟩
  · simp only [if_neg e]
    refine ⟨?_, h2, h3⟩
    rw [World.cell?_setCell_other _ _ _ _ (fun q => e (by injection q with _ q2 _; exact q2.symm))]
    exact h1
end
theorem wp_gen {P : Program} {c : Code} {Q : Exit → Act → World → Prop} {a : Act} {W : World} (ψ : World → Prop) (h1 : ψ W) (h2 : ∀ w1, ψ w1 → Code.wp P c Q a w1) : Code.wp P c Q a W := h2 W h1
theorem u32_add {a b : Nat} : IntKind.u32.wrap ((a : Int) + (b : Int)) = (add32 a b : Int) := by
  rw [IntKind.wrap_u32]
  unfold add32
  omega
theorem add32_int {a b : Nat} : ((a : Int) + (b : Int)) % 4294967296 = (add32 a b : Int) := by
  unfold add32
  omega
theorem xor_lt32 {a b : Nat} (ha : a < 4294967296) (hb : b < 4294967296) : a ^^^ b < 4294967296 := Nat.xor_lt_two_pow (n := 32) ha hb
theorem gr_trans {a b c : World} {r : Option Nat} (h : a.grownBy b r) (k : b.grownBy c r) : a.grownBy c r :=
  ⟨k.os.trans h.os, k.tape.trans h.tape, k.output.trans h.output, Nat.le_trans h.size k.size, fun i hi hr => (k.block i (Nat.lt_of_lt_of_le hi h.size) hr).trans (h.block i hi hr)⟩
theorem gr_ext {a b : World} (h : Ext a b) (r : Option Nat) : a.grownBy b r := ⟨h.os, h.tape, h.output, h.size, fun i hi _ => h.block i hi⟩
theorem gr_set {a b : World} {g : Nat} (h : a.grownBy b (some g)) (i : Nat) (u : Value) : a.grownBy (b.setCell ⟨g, i, none⟩ u) (some g) :=
  ⟨h.os, h.tape, h.output, by simpa [World.setCell] using h.size, fun j hj hne => (Below.heap_setCell b ⟨g, i, none⟩ u j (fun e => hne (by rw [e]))).trans (h.block j hj hne)⟩
def Fct (w : World) (g i x : Nat) : Prop := w.cell? ⟨g, i, none⟩ = some (.int .u32 (x : Int)) ∧ w.frozen? ⟨g, i, none⟩ = false ∧ x < 4294967296
theorem Arr.fct {w : World} {g i : Nat} {vs : List Nat} (h : Arr w g vs) (hi : i < vs.length) : Fct w g i (wd vs i) := h.2 i hi
theorem grown_set {w w' : World} {g k : Nat} {v : Value} (h : w.grownBy w' (some g)) : w.grownBy ((w'.setCell ⟨g, k, none⟩ v).drew) (some g) := gr_trans (gr_set h k v) (gr_ext (Ext.refl _).drew _)
def putRot (n : Nat) (vs : List Nat) (d a : Nat) : List Nat := vs.set d (rotr n (wd vs d ^^^ wd vs a))
def putSum (vs : List Nat) (c d : Nat) : List Nat := vs.set c (add32 (wd vs c) (wd vs d))
theorem putRot_len (n : Nat) (vs : List Nat) (a b : Nat) : (putRot n vs a b).length = vs.length := by simp [putRot]
theorem putSum_len (vs : List Nat) (a b : Nat) : (putSum vs a b).length = vs.length := by simp [putSum]
end Go.Proofs.YtbnjmmefnjoofaaDoor
