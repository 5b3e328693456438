/-
  A pair of points that is laid of three of its parts. No conditions.
-/
import Derived.Test.YtadnmiedmcckkaaDoorStep7
namespace Go.Proofs.YtadnmiedmcckkaaDoor
open Go.ChangeShapes Go.WideShapes Go.ChangeAt Go.RowKit Go.Deep
set_option maxRecDepth 100000

theorem fill_gap3 {pl : Nat → Option (Nat × Nat)} (q0 : pl 0 = some (0, 8)) (q1 : pl 1 = some (8, 8)) (q3 : pl 3 = some (24, 8)) {K L M Z : Array Value} (s1 : K.size = 8) (s2 : L.size = 8) (s4 : M.size = 8) (sz : Z.size = 32) :
    ∃ r, Instr.fill pl Z [(0, .agg K), (1, .agg L), (3, .agg M)] = some r ∧ r.size = 32 ∧ ∀ k, r[k]? = if 24 ≤ k ∧ k < 32 then M[k - 24]? else if 8 ≤ k ∧ k < 16 then L[k - 8]? else if k < 8 then K[k]? else Z[k]? := by
  have c1 : (Value.agg K).cells = K := rfl
  have c2 : (Value.agg L).cells = L := rfl
  have c4 : (Value.agg M).cells = M := rfl
  obtain ⟨g1, g2⟩ := Great.foldl_set 0 K.toList 0 Z
  obtain ⟨g3, g4⟩ := Great.foldl_set 8 L.toList 0 ((K.toList.zipIdx 0).foldl (fun cs (x : Value × Nat) => cs.setIfInBounds (0 + x.2) x.1) Z)
  obtain ⟨g5, g6⟩ := Great.foldl_set 24 M.toList 0 ((L.toList.zipIdx 0).foldl (fun cs (x : Value × Nat) => cs.setIfInBounds (8 + x.2) x.1) ((K.toList.zipIdx 0).foldl (fun cs (x : Value × Nat) => cs.setIfInBounds (0 + x.2) x.1) Z))
  rw [← fold_cells, ← fold_cells, ← fold_cells] at g5 g6
  rw [← fold_cells, ← fold_cells] at g3 g4
  rw [← fold_cells] at g1 g2
  refine ⟨_, ?_, g5.trans (g3.trans (g1.trans sz)), fun k => ?_⟩
  · unfold Instr.fill
    simp only [q0, c1, s1]
    rw [if_neg (by rw [sz]; simp)]
    unfold Instr.fill
    simp only [q1, c2, s2]
    rw [if_neg (by rw [g1, sz]; simp)]
    unfold Instr.fill
    simp only [q3, c4, s4]
    rw [if_neg (by rw [g3, g1, sz]; simp)]
    rfl
  · rw [g6 k, g4 k, g2 k, g3, g1, sz]
    simp only [Nat.add_zero, Nat.zero_add, Nat.zero_le, true_and, Array.length_toList, s1, s2, s4, Nat.sub_zero]
    by_cases k1 : 24 ≤ k ∧ k < 32
    · rw [if_pos ⟨k1.1, by omega, by omega⟩, if_pos k1]; simp
    · rw [if_neg (by omega), if_neg k1]
      by_cases k2 : 8 ≤ k ∧ k < 16
      · rw [if_pos ⟨k2.1, by omega, by omega⟩, if_pos k2]; simp
      · rw [if_neg (by omega), if_neg k2]
        by_cases k3 : k < 8
        · rw [if_pos ⟨by omega, by omega⟩, if_pos k3]; simp
        · rw [if_neg (by omega), if_neg k3]
theorem built_pr3 {a b d : List Nat} (la : a.length = 8) (lb : b.length = 8) (ld : d.length = 8) : Tryd.prog.built 62 [(0, .agg (wcells a).toArray), (1, .agg (wcells b).toArray), (3, .agg (wcells d).toArray)] = some (prC a b zw8 d).toArray := by
  have hb : ∃ pl : Nat → Option (Nat × Nat), (pl 0 = some (0, 8) ∧ pl 1 = some (8, 8) ∧ pl 2 = some (16, 8) ∧ pl 3 = some (24, 8)) ∧ ∀ ps, Tryd.prog.built 62 ps = Instr.fill pl (prC zw8 zw8 zw8 zw8).toArray ps := ⟨(#[(0, 8), (8, 8), (16, 8), (24, 8)][·]?), ⟨rfl, rfl, rfl, rfl⟩, fun ps => by kernel_rfl⟩
  obtain ⟨pl, ⟨q0, q1, q2, q3⟩, hp⟩ := hb
  have lz : zw8.length = 8 := rfl
  generalize zw8 = zs at *
  obtain ⟨r, hr, hs, hk⟩ := fill_gap3 (Z := (prC zs zs zs zs).toArray) q0 q1 q3 (wcells_size la) (wcells_size lb) (wcells_size ld) (prC_len ⟨lz, lz, lz, lz⟩)
  rw [hp, hr]
  congr 1
  apply Array.ext_getElem?
  intro k
  rw [hk k]
  have e1 : (prC a b zs d).length = 32 := prC_len ⟨la, lb, lz, ld⟩
  have e2 : (prC zs zs zs zs).length = 32 := prC_len ⟨lz, lz, lz, lz⟩
  simp only [List.getElem?_toArray]
  by_cases k1 : k < 8
  · rw [if_neg (by omega), if_neg (by omega), if_pos k1, prC, List.getElem?_append_left (by rw [wc8' la]; omega)]
  · by_cases k2 : k < 16
    · rw [if_neg (by omega), if_pos (by omega), prC, List.getElem?_append_right (by rw [wc8' la]; omega), wc8' la, List.getElem?_append_left (by rw [wc8' lb]; omega)]
    · by_cases k3 : k < 24
      · rw [if_neg (by omega), if_neg (by omega), if_neg (by omega), prC, prC, List.getElem?_append_right (by rw [wc8' lz]; omega), wc8' lz, List.getElem?_append_right (by rw [wc8' lz]; omega), wc8' lz, List.getElem?_append_left (by rw [wc8' lz]; omega),
          List.getElem?_append_right (by rw [wc8' la]; omega), wc8' la, List.getElem?_append_right (by rw [wc8' lb]; omega), wc8' lb, List.getElem?_append_left (by rw [wc8' lz]; omega)]
      · by_cases k4 : k < 32
        · rw [if_pos (by omega), prC, List.getElem?_append_right (by rw [wc8' la]; omega), wc8' la, List.getElem?_append_right (by rw [wc8' lb]; omega), wc8' lb, List.getElem?_append_right (by rw [wc8' lz]; omega), wc8' lz]
          congr 1
        · rw [if_neg (by omega), if_neg (by omega), if_neg (by omega), List.getElem?_eq_none (by omega), List.getElem?_eq_none (by omega)]
end Go.Proofs.YtadnmiedmcckkaaDoor
