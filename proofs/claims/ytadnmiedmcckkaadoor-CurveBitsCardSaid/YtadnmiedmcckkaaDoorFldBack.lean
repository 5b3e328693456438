/-
  A number's bytes are those of the number. No conditions.
-/
import Derived.Test.YtadnmiedmcckkaaDoorFldOf
namespace Go.Proofs.YtadnmiedmcckkaaDoor

theorem bt_kL_div {x k : Nat} (h : k < 32) : bt (kL x) k = x / 256 ^ k % 256 := by
  rw [bt_kL h]
  have e : 256 ^ k = 4294967296 ^ (k / 4) * 256 ^ (k % 4) := by
    rw [← pow_four]
    congr 1
    omega
  rw [e, ← Nat.div_div_eq_div_mul]
  unfold lb
  generalize x / 4294967296 ^ (k / 4) = X
  have : k % 4 = 0 ∨ k % 4 = 1 ∨ k % 4 = 2 ∨ k % 4 = 3 := by omega
  rcases this with h | h | h | h <;> rw [h] <;> simp only [Nat.pow_zero, Nat.pow_succ, Nat.one_mul, Nat.div_one] <;> omega
theorem ofN_kL (x : Nat) : ∀ i, i ≤ 32 → ofN (kL x) i = x % 256 ^ i
  | 0, _ => by rw [ofN, Nat.pow_zero, Nat.mod_one]
  | i + 1, h => by
    rw [ofN, ofN_kL x i (by omega), bt_kL_div (by omega), Nat.pow_succ, Nat.mod_mul, Nat.mul_comm (256 ^ i)]
theorem ofV_kL {x : Nat} (h : x < P25) : ofV (kL x) = x := by
  have hH : x < H8 := Nat.lt_trans h (by decide +kernel)
  have hM : x < 256 ^ 32 := Nat.lt_trans hH (by decide +kernel)
  unfold ofV
  rw [ofN_kL x 32 (Nat.le_refl _), Nat.mod_eq_of_lt hM, Nat.mod_eq_of_lt hH, Nat.mod_eq_of_lt h]
end Go.Proofs.YtadnmiedmcckkaaDoor
