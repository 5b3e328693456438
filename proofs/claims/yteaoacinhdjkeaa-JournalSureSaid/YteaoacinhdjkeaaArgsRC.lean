/-
  How an argument reads that is a slice of slices of bytes. No conditions.
-/
import Derived.Test.YteaoacinhdjkeaaRwC
import Derived.Deep.Matrix
namespace Go.Proofs.Yteaoacinhdjkeaa
open Go.ChangeShapes Go.WideShapes Go.ChangeAt Go.RowKit Go.Deep

section
variable {H : Type} {enc : TypeId × Value → H} {W : World} {P : Program}
theorem rw_of_trod {t e q : TypeId} {a : Option Addr} {len cap : Nat} {d : DataW H} {p : List MemPlace} (ht : P.underlying t = some (.slice e)) (he : P.underlying e = some (.slice q)) (hq : P.underlying q = some (.int .u8)) (ce : P.cellsOf e = 1) (cq : P.cellsOf q = 1)
    (h : DataW.Trod enc P W 0 (fun _ => true) true t (.slice a len cap) d p) : ∃ l, Rw W a len cap l := by
  obtain ⟨fuel, hf⟩ := h
  rcases open_int_rows ht he hq ce cq hf with ⟨hcs, _⟩ | ⟨x, ln, cp, A, L, C, Z, hcs, _, hl, hm, _, hr⟩
  · simp [Value.cells] at hcs
    obtain ⟨rfl, rfl, rfl⟩ := hcs
    exact ⟨[], Rw.nil W⟩
  · simp [Value.cells] at hcs
    obtain ⟨rfl, rfl, rfl⟩ := hcs
    have each : ∀ r, r < cap → ∃ xs, Bs W (A r) (L r) (C r) xs := fun r hr' => by
      obtain ⟨_, h1, h2, h3, h4, h5, h6⟩ := hr r hr'
      cases hA : A r with
      | none =>
        have hC := h5 hA
        rw [hC] at h1
        rw [hC, show L r = 0 by omega]
        exact ⟨[], Bs.nil W⟩
      | some a' =>
        have := h6 a' hA
        exact bs_of_row (zs := Z r) (.inr ⟨a', rfl, h1, h2, h3, fun i hi => this.2 i (by omega), h4⟩)
    refine ⟨(List.range len).map fun r => if h : r < cap then (each r h).choose else [], by simp, hl, hm, fun h0 => ?_⟩
    obtain ⟨b, off, spot⟩ := x
    have hsp : spot = none := by
      have := World.cell?_spot (hr 0 (by omega)).1
      simpa [Addr.add] using this
    subst hsp
    have hplain : ∀ j, (⟨b, off, none⟩ : Addr).add j = ⟨b, off + j, none⟩ := fun j => by unfold Addr.add; split <;> simp_all
    refine ⟨b, off, rfl, ?_, fun j hj => ?_⟩
    · have := World.block_lt_of_cell? W _ (hr 0 (by omega)).1
      rw [hplain] at this
      exact this
    · have hj' : j < cap := by omega
      refine ⟨A j, L j, C j, by rw [← hplain]; exact (hr j hj').1, ?_⟩
      have : ((List.range len).map fun r => if h : r < cap then (each r h).choose else []).getD j [] = (each j hj').choose := by simp [List.getD, hj, hj']
      rw [this]
      exact (each j hj').choose_spec
end
end Go.Proofs.Yteaoacinhdjkeaa
