/-
  A number times its Inv is 1.
-/
import Derived.Test.YtadnmiedmcckkaaDoorPratt
import Derived.Test.YtadnmiedmcckkaaDoorFldInv
namespace Go.Proofs.YtadnmiedmcckkaaDoor
open Go.ChangeShapes Go.WideShapes Go.ChangeAt Go.RowKit Go.Deep

/-- The exponent behind m bits. -/
def eA : Nat → Nat
  | 0 => 0
  | m + 1 => if m = 252 ∨ m = 250 then eA m + eA m else eA m + eA m + 1
theorem iA_pow (x : Nat) : ∀ m, iA x m = x ^ eA m % P25
  | 0 => by rw [iA, eA, Nat.pow_zero]; decide +kernel
  | m + 1 => by
    rw [iA, eA, iA_pow x m]
    split
    · rw [Nat.pow_add, ← Nat.mul_mod]
    · rw [Nat.pow_succ, Nat.pow_add, ← Nat.mul_mod, Nat.mod_mul_mod]
theorem eA_end : eA 255 = P25 - 2 := by decide +kernel
theorem P25_eq : P25 = 57896044618658097711785492504343953926634992332820282019728792003956564819949 := by decide +kernel
theorem rootP25 : Go.Pratt.Root P25 2 := by rw [P25_eq]; exact Go.Pratt.rootP
theorem invF_zero : invF 0 = 0 := by
  rw [invF, iA_pow, eA_end]
  rw [Nat.zero_pow (by decide +kernel)]
  exact Nat.zero_mod _
theorem mul_invF {x : Nat} (h0 : x ≠ 0) (hx : x < P25) : x * invF x % P25 = 1 := by
  rw [invF, iA_pow, eA_end, Nat.mul_mod_mod, Nat.mul_comm, ← Nat.pow_succ]
  have := rootP25.fermat (by omega) hx
  rwa [show (P25 - 2).succ = P25 - 1 by rw [P25_eq]]
theorem invF_ne {x : Nat} (h0 : x ≠ 0) (hx : x < P25) : invF x ≠ 0 := fun e => by
  have := mul_invF h0 hx
  rw [e] at this
  simp at this
theorem invF_invF {x : Nat} (hx : x < P25) : invF (invF x) = x := by
  by_cases h0 : x = 0
  · rw [h0, invF_zero, invF_zero]
  · have h1 := mul_invF h0 hx
    have h2 := mul_invF (invF_ne h0 hx) (invF_lt x)
    have l := invF_lt (invF x)
    generalize invF (invF x) = z at *
    generalize invF x = y at *
    have e : x * y * z = x * (y * z) := Nat.mul_assoc _ _ _
    have e1 : x * y * z % P25 = z := by rw [Nat.mul_mod, h1, Nat.one_mul, Nat.mod_mod, Nat.mod_eq_of_lt l]
    have e2 : x * (y * z) % P25 = x := by rw [Nat.mul_mod, h2, Nat.mul_one, Nat.mod_mod, Nat.mod_eq_of_lt hx]
    rw [e, e2] at e1
    exact e1.symm
end Go.Proofs.YtadnmiedmcckkaaDoor
