/-
  A bit of a key is turned.
-/
import Derived.Test.YtojgmgghlkpfoaaKeyEq
namespace Go.Proofs.Ytojgmgghlkpfoaa
open Go.ChangeShapes Go.WideShapes Go.ChangeAt Go.RowKit Go.Deep

theorem UInt8.xor_ne {x : Nat} {k : Nat} (hk : k < 8) (hx : x < 256) : x ^^^ 2 ^ k ≠ x := by
  intro h
  have : x ^^^ (x ^^^ 2 ^ k) = x ^^^ x := by rw [h]
  rw [← Nat.xor_assoc, Nat.xor_self, Nat.zero_xor] at this
  have := Nat.pos_of_ne_zero (n := 2 ^ k) (by have := Nat.two_pow_pos k; omega)
  omega

/-- A bit of a byte is turned. -/
def flip (xs : List UInt8) (j k : Nat) : List UInt8 := xs.set j (UInt8.ofNat (bt xs j ^^^ 2 ^ k))
theorem flip_len (xs : List UInt8) (j k : Nat) : (flip xs j k).length = xs.length := by simp [flip]
theorem flip_lt {xs : List UInt8} {j k : Nat} (hk : k < 8) : bt xs j ^^^ 2 ^ k < 256 := Nat.xor_lt_two_pow (n := 8) (bt_lt _ _) (Nat.pow_lt_pow_right (by omega) hk)
theorem bt_set {xs : List UInt8} {j i x : Nat} (hj : j < xs.length) (hx : x < 256) : bt (xs.set j (UInt8.ofNat x)) i = if i = j then x else bt xs i := by
  unfold bt
  by_cases h : i = j
  · subst h
    simp [List.getD, hj]
    omega
  · simp [List.getD, h, List.getElem?_set_ne (Ne.symm h)]
theorem flip_ne {xs : List UInt8} {j k : Nat} (hj : j < xs.length) (hk : k < 8) : ¬ xs = flip xs j k := fun h => by
  have h1 : bt xs j = bt (flip xs j k) j := by rw [← h]
  unfold flip at h1
  rw [bt_set hj (flip_lt hk), if_pos rfl] at h1
  exact UInt8.xor_ne hk (bt_lt _ _) h1.symm
theorem Ky.flip {w : World} {g j k : Nat} {xs : List UInt8} (h : Ky w g xs) (hj : j < 32) (hk : k < 8) : Ky (w.setCell ⟨g, j, none⟩ (.int .u8 ((bt xs j ^^^ 2 ^ k : Nat) : Int))) g (flip xs j k) := by
  refine ⟨?_, by rw [flip_len]; exact h.2⟩
  rw [setCell_eq_setRow w g j _ _ (0, 0) _ h.1, setRow_heap w g _ _ _ _ h.1]
  congr 2
  have hl := h.2
  apply Array.ext'
  rw [Array.toList_setIfInBounds]
  apply List.ext_getElem?
  intro i
  simp only [List.getElem?_set, cellsOf_len]
  by_cases hi : i < 32
  · rw [cellsOf_get (xs := Go.Proofs.Ytojgmgghlkpfoaa.flip xs j k) (by rw [flip_len]; omega)]
    unfold Go.Proofs.Ytojgmgghlkpfoaa.flip
    rw [bt_set (by omega) (flip_lt hk)]
    by_cases e : j = i
    · subst e; simp [show j < xs.length by omega]
    · rw [if_neg e, if_neg (Ne.symm e)]
      have := cellsOf_get (xs := xs) (j := i) (by omega)
      simpa using this
  · have h1 : (cellsOf xs)[i]? = none := List.getElem?_eq_none (by rw [cellsOf_len]; omega)
    have h2 : (cellsOf (Go.Proofs.Ytojgmgghlkpfoaa.flip xs j k))[i]? = none := List.getElem?_eq_none (by rw [cellsOf_len, flip_len]; omega)
    rw [if_neg (by omega)]
    simp only [h2]
    simpa using h1
theorem flip_int {xs : List UInt8} {j k : Nat} (hk : k < 8) : bits .xor .u8 (bt xs j : Int) (IntKind.u8.wrap (2 ^ k)) = ((bt xs j ^^^ 2 ^ k : Nat) : Int) := by
  have h1 : 2 ^ k < 256 := Nat.pow_lt_pow_right (a := 2) (by omega) hk
  have h2 : IntKind.u8.wrap (2 ^ k) = ((2 ^ k : Nat) : Int) := by
    rw [IntKind.wrap_u8, show ((2 : Int) ^ k) = ((2 ^ k : Nat) : Int) by simp]
    generalize 2 ^ k = x at *
    omega
  rw [h2, u8_xor_nat _ _ (bt_lt _ _) h1]
end Go.Proofs.Ytojgmgghlkpfoaa
