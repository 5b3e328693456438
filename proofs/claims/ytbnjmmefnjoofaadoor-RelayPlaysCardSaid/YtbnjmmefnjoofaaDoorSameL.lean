/-
  Whether two rows of bytes are the same: the reckoning alone. No conditions.
-/
import Derived.Test.YtbnjmmefnjoofaaDoorBase
namespace Go.Proofs.YtbnjmmefnjoofaaDoor
open Go.ChangeShapes Go.WideShapes Go.ChangeAt Go.RowKit Go.Deep

/-- What the differences of the first k bytes come to. -/
def differ (xs ys : List UInt8) : Nat → Nat
  | 0 => 0
  | k + 1 => differ xs ys k ||| (bt xs k ^^^ bt ys k)

theorem differ_lt (xs ys : List UInt8) : ∀ k, differ xs ys k < 256
  | 0 => by simp [differ]
  | k + 1 => by
    have h := differ_lt xs ys k
    have h1 : bt xs k < 2 ^ 8 := bt_lt xs k
    have h2 : bt ys k < 2 ^ 8 := bt_lt ys k
    exact Nat.or_lt_two_pow (n := 8) h (Nat.xor_lt_two_pow h1 h2)

theorem xor_zero {a b : Nat} (h : a ^^^ b = 0) : a = b := by
  have : a ^^^ b ^^^ b = 0 ^^^ b := by rw [h]
  simpa [Nat.xor_assoc] using this

theorem differ_zero (xs ys : List UInt8) : ∀ k, (differ xs ys k = 0 ↔ ∀ j, j < k → xs.getD j 0 = ys.getD j 0)
  | 0 => by simp [differ]
  | k + 1 => by
    have ih := differ_zero xs ys k
    rw [differ, Nat.or_eq_zero_iff, ih]
    constructor
    · rintro ⟨h1, h2⟩ j hj
      rcases Nat.lt_or_ge j k with h | h
      · exact h1 j h
      · obtain rfl : j = k := by omega
        exact UInt8.toNat_inj.1 (xor_zero h2)
    · intro h
      exact ⟨fun j hj => h j (by omega), by unfold bt; rw [h k (by omega)]; simp⟩

theorem same_iff {xs ys : List UInt8} (h : xs.length = ys.length) : (xs = ys ↔ ∀ j, j < xs.length → xs.getD j 0 = ys.getD j 0) := by
  constructor
  · rintro rfl _ _; rfl
  · intro hh
    refine List.ext_getElem h fun j h1 h2 => ?_
    have := hh j h1
    simpa [List.getD, h1, h2] using this

theorem u8_differ (xs ys : List UInt8) (k : Nat) : bits .or .u8 (differ xs ys k : Int) (bits .xor .u8 (bt xs k : Int) (bt ys k : Int)) = (differ xs ys (k + 1) : Int) := by
  have h := differ_lt xs ys k
  have h1 : bt xs k < 2 ^ 8 := bt_lt xs k
  have h2 : bt ys k < 2 ^ 8 := bt_lt ys k
  rw [u8_xor_nat _ _ h1 h2, u8_or_nat _ _ h (Nat.xor_lt_two_pow (n := 8) h1 h2)]
  rfl
end Go.Proofs.YtbnjmmefnjoofaaDoor
