/-
  A struct of two parts is laid of its parts. No conditions.
-/
import Derived.Test.YtbnjmmefnjoofaaDoorRowOps
import Derived.Great.FillDense
namespace Go.Proofs.YtbnjmmefnjoofaaDoor
open Go.ChangeShapes Go.WideShapes Go.ChangeAt Go.RowKit Go.Deep

theorem fold_cells (off : Nat) (v : Array Value) (cs : Array Value) : v.zipIdx.foldl (fun cs (c, j) => cs.setIfInBounds (off + j) c) cs = (v.toList.zipIdx 0).foldl (fun cs (x : Value × Nat) => cs.setIfInBounds (off + x.2) x.1) cs := by
  rw [← Array.foldl_toList, Array.toList_zipIdx]
theorem fill_two {p q : Nat} {K L Z : Array Value} (pl : Nat → Option (Nat × Nat)) (h0 : pl 0 = some (0, p)) (h1 : pl 1 = some (p, q)) (hK : K.size = p) (hL : L.size = q) (hZ : Z.size = p + q) : Instr.fill pl Z [(0, .agg K), (1, .agg L)] = some (K ++ L) := by
  have c0 : (Value.agg K).cells = K := rfl
  have c1 : (Value.agg L).cells = L := rfl
  obtain ⟨g1, g2⟩ := Great.foldl_set 0 K.toList 0 Z
  obtain ⟨g3, g4⟩ := Great.foldl_set p L.toList 0 ((K.toList.zipIdx 0).foldl (fun cs (x : Value × Nat) => cs.setIfInBounds (0 + x.2) x.1) Z)
  unfold Instr.fill
  simp only [h0, c0, hK]
  rw [if_neg (by simp; omega)]
  unfold Instr.fill
  simp only [h1, c1, hL]
  rw [if_neg (by rw [fold_cells, g1]; simp; omega)]
  unfold Instr.fill
  rw [fold_cells, fold_cells]
  congr 1
  apply Array.ext_getElem?
  intro k
  rw [g4 k, g2 k, g1]
  simp only [Nat.add_zero, Nat.zero_add, Nat.zero_le, true_and, Array.length_toList, hK, hL, hZ, Nat.sub_zero]
  by_cases a : k < p
  · rw [if_neg (by omega), if_pos ⟨a, by omega⟩, Array.getElem?_append_left (by omega)]
    simp
  · by_cases b : k < p + q
    · rw [if_pos ⟨by omega, b, b⟩, Array.getElem?_append_right (by omega), hK]
      simp
    · rw [if_neg (by omega), if_neg (by omega), Array.getElem?_eq_none (by omega), Array.getElem?_eq_none (by rw [Array.size_append]; omega)]
end Go.Proofs.YtbnjmmefnjoofaaDoor
