/-
  Numbers as bytes, and back: plain mathematics.
-/
import Derived.Test.YteaoacinhdjkeaaLowB
namespace Go.Proofs.Yteaoacinhdjkeaa
open Go.ChangeShapes Go.WideShapes Go.ChangeAt Go.RowKit Go.Deep

def numN (xs : List UInt8) (k : Nat) : Nat := ofLowL (xs.take k).reverse
theorem ofLowL_lowL : ∀ (m n : Nat), ofLowL (lowL n m) = n % 256 ^ m
  | 0, n => by simp [lowL, ofLowL, Nat.mod_one]
  | m + 1, n => by
    have h : lowL n (m + 1) = UInt8.ofNat n :: lowL (n / 256) m := by
      unfold lowL
      rw [List.range_succ_eq_map, List.map_cons, List.map_map]
      congr 1
      · simp
      · apply List.map_congr_left
        intro k _
        simp only [Function.comp, Nat.succ_eq_add_one]
        rw [Nat.pow_succ, Nat.mul_comm, Nat.div_div_eq_div_mul]
    have hp : 256 ^ (m + 1) = 256 * 256 ^ m := (Nat.pow_succ 256 m).trans (Nat.mul_comm _ _)
    rw [h, ofLowL, ofLowL_lowL m (n / 256), UInt8.toNat_ofNat', hp, Nat.mod_mul]
theorem lowL_ofLowL : ∀ (xs : List UInt8), lowL (ofLowL xs) xs.length = xs
  | [] => rfl
  | x :: r => by
    have h : ∀ n m, lowL n (m + 1) = UInt8.ofNat n :: lowL (n / 256) m := fun n m => by
      unfold lowL
      rw [List.range_succ_eq_map, List.map_cons, List.map_map]
      congr 1
      · simp
      · apply List.map_congr_left
        intro k _
        simp only [Function.comp, Nat.succ_eq_add_one]
        rw [Nat.pow_succ, Nat.mul_comm, Nat.div_div_eq_div_mul]
    have hx := x.toNat_lt
    rw [List.length_cons, h]
    have e1 : ofLowL (x :: r) = x.toNat + 256 * ofLowL r := rfl
    rw [e1, show (x.toNat + 256 * ofLowL r) / 256 = ofLowL r by omega, lowL_ofLowL r]
    congr 1
    apply UInt8.toNat_inj.1
    rw [UInt8.toNat_ofNat']
    omega
theorem numN_high {n m : Nat} {r : List UInt8} (hn : n < 256 ^ m) : numN ((lowL n m).reverse ++ r) m = n := by
  unfold numN
  rw [List.take_left' (by rw [List.length_reverse, lowL_len]), List.reverse_reverse, ofLowL_lowL, Nat.mod_eq_of_lt hn]
theorem high_numN {xs : List UInt8} {m : Nat} (h : m ≤ xs.length) : (lowL (numN xs m) m).reverse = xs.take m := by
  unfold numN
  have hl : (xs.take m).reverse.length = m := by rw [List.length_reverse, List.length_take]; omega
  have := lowL_ofLowL (xs.take m).reverse
  rw [hl] at this
  rw [this, List.reverse_reverse]
end Go.Proofs.Yteaoacinhdjkeaa
