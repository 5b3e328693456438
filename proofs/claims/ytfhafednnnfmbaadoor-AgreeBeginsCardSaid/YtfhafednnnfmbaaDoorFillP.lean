import Derived.Test.YtfhafednnnfmbaaDoorPkT
/-
  A struct that is laid of all its parts has their cells, one behind the other. No conditions.
-/
namespace Go.Proofs.YtfhafednnnfmbaaDoor
open Go.ChangeShapes Go.WideShapes Go.ChangeAt Go.RowKit Go.Deep

def partsV : Nat → List Value → List (Nat × Value)
  | _, [] => []
  | i, v :: r => (i, v) :: partsV (i + 1) r
def flatV : List Value → List Value
  | [] => []
  | v :: r => v.cells.toList ++ flatV r
def LayV (pl : Nat → Option (Nat × Nat)) : Nat → Nat → List Value → Prop
  | _, _, [] => True
  | i, off, v :: r => pl i = some (off, v.cells.size) ∧ LayV pl (i + 1) (off + v.cells.size) r
theorem fill_lay {pl : Nat → Option (Nat × Nat)} : ∀ (vs : List Value) (i off : Nat) (Z : Array Value), LayV pl i off vs → off + (flatV vs).length ≤ Z.size →
    ∃ r, Instr.fill pl Z (partsV i vs) = some r ∧ r.size = Z.size ∧ ∀ k, r[k]? = if off ≤ k ∧ k < off + (flatV vs).length then (flatV vs)[k - off]? else Z[k]?
  | [], i, off, Z, _, _ => ⟨Z, rfl, rfl, fun k => by rw [if_neg (by show ¬ (off ≤ k ∧ k < off + 0); omega)]⟩
  | v :: r, i, off, Z, ⟨h1, h2⟩, hz => by
    have hlen : (flatV (v :: r)).length = v.cells.size + (flatV r).length := by simp [flatV]
    obtain ⟨g1, g2⟩ := Great.foldl_set off v.cells.toList 0 Z
    rw [← fold_cells] at g1 g2
    obtain ⟨r', hr, hs, hk⟩ := fill_lay r (i + 1) (off + v.cells.size) _ h2 (by rw [g1]; omega)
    refine ⟨r', ?_, hs.trans g1, fun k => ?_⟩
    · show Instr.fill pl Z ((i, v) :: partsV (i + 1) r) = _
      unfold Instr.fill
      simp only [h1]
      rw [if_neg (by simp; omega)]
      exact hr
    · rw [hk k, g2 k, hlen]
      simp only [Nat.add_zero, Nat.zero_le, true_and, Array.length_toList, Nat.sub_zero]
      by_cases a : off ≤ k ∧ k < off + v.cells.size
      · rw [if_neg (by omega), if_pos (by omega), if_pos (by omega)]
        show _ = (v.cells.toList ++ flatV r)[k - off]?
        rw [List.getElem?_append_left (by simp; omega)]
      · by_cases b : off + v.cells.size ≤ k ∧ k < off + v.cells.size + (flatV r).length
        · rw [if_pos b, if_pos (by omega)]
          show _ = (v.cells.toList ++ flatV r)[k - off]?
          rw [List.getElem?_append_right (by simp; omega)]
          congr 1
          simp; omega
        · rw [if_neg b, if_neg (by omega), if_neg (by omega)]
theorem fill_struct {pl : Nat → Option (Nat × Nat)} {vs : List Value} {Z : Array Value} (h : LayV pl 0 0 vs) (hz : (flatV vs).length = Z.size) : Instr.fill pl Z (partsV 0 vs) = some (flatV vs).toArray := by
  obtain ⟨r, hr, hs, hk⟩ := fill_lay vs 0 0 Z h (by omega)
  rw [hr]
  congr 1
  apply Array.ext_getElem?
  intro k
  rw [hk k, Nat.zero_add, Nat.sub_zero]
  by_cases a : k < (flatV vs).length
  · rw [if_pos ⟨Nat.zero_le _, a⟩]; simp
  · rw [if_neg (fun q => a q.2), Array.getElem?_eq_none (by omega), Array.getElem?_eq_none (by simp; omega)]
end Go.Proofs.YtfhafednnnfmbaaDoor
