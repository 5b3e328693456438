import Derived.Test.YteaoacinhdjkeaaBase
import Derived.Deep.Grids
section
/-
  A slice that reads as a list of numbers ('Is'). No conditions.
-/
namespace Go.Proofs.Yteaoacinhdjkeaa
open Go.ChangeShapes Go.WideShapes Go.ChangeAt Go.RowKit Go.Deep

/-- The number at place k. -/
def nat_at (zs : List Int) (k : Nat) : Int := zs.getD k 0
/-- The slice '.slice A n c' reads as the numbers zs. -/
def Is (w : World) (A : Option Addr) (n c : Nat) (zs : List Int) : Prop :=
  zs.length = n ∧ n ≤ c ∧ c ≤ maxLen ∧ (0 < n → ∃ b off, A = some ⟨b, off, none⟩ ∧ b < w.heap.size ∧ ∀ j, j < n → w.cell? ⟨b, off + j, none⟩ = some (.int .i64 (nat_at zs j)) ∧ -9223372036854775808 ≤ nat_at zs j ∧ nat_at zs j ≤ 9223372036854775807)
section
variable {w w' : World} {A : Option Addr} {n c : Nat} {zs : List Int}
theorem Is.len (h : Is w A n c zs) : zs.length = n := h.1
theorem Is.le (h : Is w A n c zs) : n ≤ c := h.2.1
theorem Is.cap (h : Is w A n c zs) : c ≤ 9223372036854775807 := h.2.2.1
theorem Is.nil (w : World) : Is w none 0 0 [] := ⟨rfl, Nat.le_refl _, Nat.zero_le _, fun h => absurd h (by omega)⟩
theorem Is.pos (h : Is w A n c zs) (hn : 0 < n) : ∃ b off, A = some ⟨b, off, none⟩ ∧ b < w.heap.size ∧ ∀ j, j < n → w.cell? ⟨b, off + j, none⟩ = some (.int .i64 (nat_at zs j)) ∧ -9223372036854775808 ≤ nat_at zs j ∧ nat_at zs j ≤ 9223372036854775807 := h.2.2.2 hn
theorem Is.ext (h : Is w A n c zs) (he : Ext w w') : Is w' A n c zs :=
  ⟨h.1, h.2.1, h.2.2.1, fun hn => by
    obtain ⟨b, off, e, hb, hc⟩ := h.2.2.2 hn
    exact ⟨b, off, e, Nat.lt_of_lt_of_le hb he.size, fun j hj => ⟨(he.cell hb).trans (hc j hj).1, (hc j hj).2⟩⟩⟩
end

section
variable {H : Type} {enc : TypeId × Value → H} {W : World} {P : Program}
theorem ints_of_trod {t e : TypeId} {a : Option Addr} {len cap : Nat} {d : DataW H} {p : List MemPlace} (ht : P.underlying t = some (.slice e)) (he : P.underlying e = some (.int .i64)) (hc : P.cellsOf e = 1)
    (h : DataW.Trod enc P W 0 (fun _ => true) true t (.slice a len cap) d p) : ∃ zs, Is W a len cap zs := by
  obtain ⟨fuel, hf⟩ := h
  rcases open_ints ht he hc hf with ⟨hcs, _⟩ | ⟨x, l, c, zs, hcs, _, hl, hm, hz, _, hcell, hwz⟩
  · simp [Value.cells] at hcs
    obtain ⟨rfl, rfl, rfl⟩ := hcs
    exact ⟨[], Is.nil W⟩
  · simp [Value.cells] at hcs
    obtain ⟨rfl, rfl, rfl⟩ := hcs
    have hz' : zs.length = cap := by simpa using hz
    refine ⟨zs.take len, by simp; omega, hl, hm, fun h0 => ?_⟩
    obtain ⟨b, off, rfl, hcl⟩ := ints_at hcell (by omega)
    refine ⟨b, off, rfl, ?_, fun j hj => ?_⟩
    · have := hcl 0 (by omega)
      exact World.block_lt_of_cell? W _ this
    · have hj' : j < zs.length := by omega
      have hb : -9223372036854775808 ≤ zs[j] ∧ zs[j] ≤ 9223372036854775807 := by simpa [Lit.wf, IntKind.min, IntKind.max, IntKind.signed, IntKind.bits] using hwz _ (List.getElem_mem hj')
      have e : nat_at (zs.take len) j = zs[j] := by simp [nat_at, List.getD, hj', hj]
      rw [e]
      refine ⟨?_, hb⟩
      rw [hcl j hj']
      simp [List.getD, hj']
end
end Go.Proofs.Yteaoacinhdjkeaa
end

section
/-
  A slice that reads as bools. No conditions.
-/
namespace Go.Proofs.Yteaoacinhdjkeaa
open Go.ChangeShapes Go.WideShapes Go.ChangeAt Go.RowKit Go.Deep

/-- The slice '.slice A n c' reads as the bools f 0, f 1 .. -/
def Bls (w : World) (A : Option Addr) (n c : Nat) (f : Nat → Bool) : Prop :=
  n ≤ c ∧ c ≤ maxLen ∧ (0 < n → ∃ b off, A = some ⟨b, off, none⟩ ∧ b < w.heap.size ∧ ∀ j, j < n → w.cell? ⟨b, off + j, none⟩ = some (.bool (f j)))
theorem Bls.ext {w w' : World} {A : Option Addr} {n c : Nat} {f : Nat → Bool} (h : Bls w A n c f) (he : Ext w w') : Bls w' A n c f :=
  ⟨h.1, h.2.1, fun hn => by
    obtain ⟨b, off, e, hb, hc⟩ := h.2.2 hn
    exact ⟨b, off, e, Nat.lt_of_lt_of_le hb he.size, fun j hj => (he.cell hb).trans (hc j hj)⟩⟩
section
variable {H : Type} {enc : TypeId × Value → H} {W : World} {P : Program}
theorem bools_of_trod {t e : TypeId} {a : Option Addr} {len cap : Nat} {d : DataW H} {p : List MemPlace} (ht : P.underlying t = some (.slice e)) (he : P.underlying e = some .bool) (hc : P.cellsOf e = 1)
    (h : DataW.Trod enc P W 0 (fun _ => true) true t (.slice a len cap) d p) : ∃ f, Bls W a len cap f := by
  obtain ⟨fuel, hf⟩ := h
  rcases open_bools ht he hc hf with ⟨hcs, _⟩ | ⟨x, l, c, B, hcs, _, hl, hm, _, hcell⟩
  · simp [Value.cells] at hcs
    obtain ⟨rfl, rfl, rfl⟩ := hcs
    exact ⟨fun _ => false, Nat.le_refl _, Nat.zero_le _, fun h => absurd h (by omega)⟩
  · simp [Value.cells] at hcs
    obtain ⟨rfl, rfl, rfl⟩ := hcs
    refine ⟨B, hl, hm, fun h0 => ?_⟩
    obtain ⟨b, off, spot⟩ := x
    have g0 := hcell 0 (by omega)
    have hspot : spot = none := by simpa [Addr.add] using World.cell?_spot g0
    subst hspot
    have ad : ∀ j, (⟨b, off, none⟩ : Addr).add j = ⟨b, off + j, none⟩ := fun j => by unfold Addr.add; split <;> simp_all
    refine ⟨b, off, rfl, ?_, fun j hj => ?_⟩
    · rw [ad] at g0
      exact World.block_lt_of_cell? W _ g0
    · have := hcell j (by omega)
      rwa [ad] at this
end
end Go.Proofs.Yteaoacinhdjkeaa
end
