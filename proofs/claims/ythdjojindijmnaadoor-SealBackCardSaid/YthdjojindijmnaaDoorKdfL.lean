/-
  Layer 3 in closed form: the bytes of a key for a purpose. No conditions.
-/
import Derived.Test.YthdjojindijmnaaDoorArrs
namespace Go.Proofs.YthdjojindijmnaaDoor

/-- The i-th block of a key for a purpose (from 1 on). -/
def blkL (ks ps : List UInt8) : Nat → List UInt8
  | 0 => []
  | i + 1 => macL ks (blkL ks ps i ++ ps ++ [UInt8.ofNat (i + 1)])
/-- The first i blocks. -/
def outL (ks ps : List UInt8) : Nat → List UInt8
  | 0 => []
  | i + 1 => outL ks ps i ++ blkL ks ps (i + 1)
theorem blkL_len (ks ps : List UInt8) (i : Nat) : (blkL ks ps (i + 1)).length = 32 := by rw [blkL, macL_len]
theorem outL_len (ks ps : List UInt8) : ∀ i, (outL ks ps i).length = 32 * i
  | 0 => rfl
  | i + 1 => by rw [outL, List.length_append, outL_len ks ps i, blkL_len]; omega
/-- So many bytes. -/
def spreadL (ks ps : List UInt8) (m : Nat) : List UInt8 := (outL ks ps ((m + 31) / 32)).take m
theorem spreadL_len (ks ps : List UInt8) (m : Nat) : (spreadL ks ps m).length = m := by
  unfold spreadL
  rw [List.length_take, outL_len]; omega
theorem outL_take (ks ps : List UInt8) {n i : Nat} (h : n ≤ 32 * i) : ∀ d, (outL ks ps (i + d)).take n = (outL ks ps i).take n
  | 0 => rfl
  | d + 1 => by
    rw [← Nat.add_assoc, outL, List.take_append_of_le_length (by rw [outL_len]; omega), outL_take ks ps h d]
theorem spreadL_take (ks ps : List UInt8) {n m : Nat} (h : n ≤ m) : (spreadL ks ps m).take n = spreadL ks ps n := by
  unfold spreadL
  rw [List.take_take, Nat.min_eq_left h]
  have h1 : (m + 31) / 32 = (n + 31) / 32 + ((m + 31) / 32 - (n + 31) / 32) := by omega
  rw [h1, outL_take ks ps (by omega)]
theorem spreadL_32 (ks ps : List UInt8) : spreadL ks ps 32 = macL ks (ps ++ [1]) := by
  unfold spreadL
  rw [show (32 + 31) / 32 = 0 + 1 from rfl, outL, outL, blkL, blkL]
  simp only [List.nil_append, Nat.zero_add]
  rw [List.take_of_length_le (by rw [macL_len]; omega)]
  rfl
/-- A key's key for a purpose. -/
def keyL (ks ps : List UInt8) : List UInt8 := macL ks (ps ++ [1])
theorem keyL_len (ks ps : List UInt8) : (keyL ks ps).length = 32 := macL_len _ _
end Go.Proofs.YthdjojindijmnaaDoor
