/-
  How arguments read that are slices of elements of several cells. No conditions.
-/
import Derived.Test.YteognebhlehjlaaDoorArgsK
import Derived.Deep.Matrix
namespace Go.Proofs.YteognebhlehjlaaDoor
open Go.ChangeShapes Go.WideShapes Go.ChangeAt Go.RowKit Go.Deep

section
variable {H : Type} {enc : TypeId × Value → H} {W : World} {P : Program}
/-- The cells of an element are these. -/
def At (w : World) (b o : Nat) (cs : List Value) : Prop := ∀ i v, cs[i]? = some v → w.cell? ⟨b, o + i, none⟩ = some v
theorem slice_of_trod {t e : TypeId} {c : Nat} {a : Option Addr} {len cap : Nat} {d : DataW H} {p : List MemPlace} (ht : P.underlying t = some (.slice e)) (hc : P.cellsOf e = c) (c0 : 0 < c)
    (h : DataW.Trod enc P W 0 (fun _ => true) true t (.slice a len cap) d p) :
    len ≤ cap ∧ cap ≤ maxLen ∧ (0 < cap → ∃ b off, a = some ⟨b, off, none⟩ ∧ b < W.heap.size ∧ ∀ j, j < cap → ∃ cs, cs.length = c ∧ At W b (off + j * c) cs ∧ ∃ n y, DataW.trod enc P W 0 (fun _ => true) true n e cs = some y) := by
  obtain ⟨fuel, hf⟩ := h
  rcases open_slice ht hf with ⟨hcs, _⟩ | ⟨x, ln, cp, m, n, D, Pl, hcs, _, hl, hm, hmm, _, hr⟩
  · simp [Value.cells] at hcs
    obtain ⟨rfl, rfl, rfl⟩ := hcs
    exact ⟨Nat.le_refl _, Nat.zero_le _, fun h => absurd h (by omega)⟩
  · simp [Value.cells] at hcs
    obtain ⟨rfl, rfl, rfl⟩ := hcs
    simp only [if_true] at hmm
    subst hmm
    refine ⟨hl, hm, fun h0 => ?_⟩
    obtain ⟨b, off, spot⟩ := x
    obtain ⟨cs0, h1, _⟩ := hr 0 h0
    obtain ⟨_, l0, e0⟩ := World.cells?_some h1
    rw [hc] at l0 e0
    have q := e0 0 c0
    rw [List.getElem?_eq_getElem (by omega)] at q
    have hsp : spot = none := by
      have := World.cell?_spot q
      simpa [Addr.add] using this
    subst hsp
    have hplain : ∀ j, (⟨b, off, none⟩ : Addr).add j = ⟨b, off + j, none⟩ := fun j => by unfold Addr.add; split <;> simp_all
    have hplain2 : ∀ o j, (⟨b, o, none⟩ : Addr).add j = ⟨b, o + j, none⟩ := fun o j => by unfold Addr.add; split <;> simp_all
    refine ⟨b, off, rfl, ?_, fun j hj => ?_⟩
    · have := World.block_lt_of_cell? W _ q
      rw [hplain, hplain2] at this
      exact this
    · obtain ⟨cs, h2, h3⟩ := hr j hj
      obtain ⟨_, l, e⟩ := World.cells?_some h2
      rw [hc, hplain] at *
      refine ⟨cs, l, fun i v hv => ?_, n, _, h3⟩
      have hi : i < c := by rw [← l]; exact (List.getElem?_eq_some_iff.1 hv).1
      have := e i hi
      rw [hplain2] at this
      rw [this]; exact hv
end

/-- The slice reads as these keys. -/
def Kx (w : World) (A : Option Addr) (n : Nat) (l : List (List UInt8)) : Prop :=
  l.length = n ∧ (∀ x ∈ l, x.length = 32) ∧ (0 < n → ∃ b off, A = some ⟨b, off, none⟩ ∧ b < w.heap.size ∧ ∀ j, j < n → At w b (off + j * 32) (cellsOf (l.getD j [])))
theorem keys_of_trod {H : Type} {enc : TypeId × Value → H} {W : World} {P : Program} {t e u : TypeId} {a : Option Addr} {len cap : Nat} {d : DataW H} {p : List MemPlace} (ht : P.underlying t = some (.slice e)) (he : P.underlying e = some (.array 32 u)) (hu : P.underlying u = some (.int .u8)) (hc : P.cellsOf e = 32) (hcu : P.cellsOf u = 1)
    (h : DataW.Trod enc P W 0 (fun _ => true) true t (.slice a len cap) d p) : ∃ l, Kx W a len l ∧ len ≤ cap ∧ cap ≤ maxLen := by
  obtain ⟨h1, h2, h3⟩ := slice_of_trod ht hc (by decide) h
  by_cases h0 : 0 < cap
  · obtain ⟨b, off, rfl, hb, hj⟩ := h3 h0
    have hk : ∀ j, j < cap → ∃ xs : List UInt8, xs.length = 32 ∧ At W b (off + j * 32) (cellsOf xs) := fun j h => by
      obtain ⟨cs, _, hat, n, y, hy⟩ := hj j h
      obtain ⟨xs, rfl, hl⟩ := bytes_of_trod he hu hcu hc hy
      exact ⟨xs, hl, hat⟩
    refine ⟨(List.range len).map fun j => if h : j < cap then (hk j h).choose else [], ⟨by simp, fun x hx => ?_, fun _ => ⟨b, off, rfl, hb, fun j hjl => ?_⟩⟩, h1, h2⟩
    · obtain ⟨j, hjm, rfl⟩ := List.mem_map.1 hx
      have : j < cap := by have := List.mem_range.1 hjm; omega
      rw [dif_pos this]
      exact (hk j this).choose_spec.1
    · have hjc : j < cap := by omega
      have e : ((List.range len).map fun j => if h : j < cap then (hk j h).choose else []).getD j [] = (hk j hjc).choose := by simp [List.getD, hjl, hjc]
      rw [e]
      exact (hk j hjc).choose_spec.2
  · obtain rfl : len = 0 := by omega
    exact ⟨[], ⟨rfl, fun x hx => by simp at hx, fun h => absurd h (by omega)⟩, h1, h2⟩
theorem Kx.ext {w w' : World} {A : Option Addr} {n : Nat} {l : List (List UInt8)} (h : Kx w A n l) (e : Ext w w') : Kx w' A n l :=
  ⟨h.1, h.2.1, fun h0 => by
    obtain ⟨b, off, rfl, hb, hj⟩ := h.2.2 h0
    exact ⟨b, off, rfl, Nat.lt_of_lt_of_le hb e.size, fun j hjn i v hv => (e.cell hb).trans (hj j hjn i v hv)⟩⟩
end Go.Proofs.YteognebhlehjlaaDoor
