import Derived.Test.YtfhafednnnfmbaaDoorPkS
import Derived.Test.YtfhafednnnfmbaaDoorPkR
import Derived.Test.YtfhafednnnfmbaaDoorFldProd
import Derived.Laws.BitsAllLaws
/-
  field.folded.
-/
namespace Go.Proofs.YtfhafednnnfmbaaDoor
open Go.ChangeShapes Go.WideShapes Go.ChangeAt Go.RowKit Go.Deep
set_option maxRecDepth 100000

def M8 : Nat := 4294967296 ^ 8
theorem M8_eq : M8 = 38 + P25 * 2 := by decide +kernel
theorem M8_pos : 0 < M8 := by decide +kernel
theorem red38 (n : Nat) : (n % M8 + 38 * (n / M8)) % P25 = n % P25 := by
  have key : ∀ q r : Nat, M8 * q + r = (r + 38 * q) + P25 * (2 * q) := fun q r => by
    rw [M8_eq, Nat.add_mul, Nat.mul_assoc P25 2 q]
    generalize P25 * (2 * q) = s
    omega
  have e := (Nat.div_add_mod n M8).symm.trans (key _ _)
  have h := congrArg (fun t => t % P25) e
  simp only [Nat.add_mul_mod_self_left] at h
  exact h.symm
def H8 : Nat := 57896044618658097711785492504343953926634992332820282019728792003956564819968
theorem H8_eq : H8 = 19 + P25 := by decide +kernel
theorem red19 (n : Nat) : (n % H8 + 19 * (n / H8)) % P25 = n % P25 := by
  have key : ∀ q r : Nat, H8 * q + r = (r + 19 * q) + P25 * q := fun q r => by
    rw [H8_eq, Nat.add_mul]
    generalize P25 * q = s
    omega
  have e := (Nat.div_add_mod n H8).symm.trans (key _ _)
  have h := congrArg (fun t => t % P25) e
  simp only [Nat.add_mul_mod_self_left] at h
  exact h.symm
def fA (z : Nat) : Nat := z % M8 + 38 * (z / M8)
def fB (z : Nat) : Nat := z % H8 + 19 * (z / H8)
theorem fold_mod (z : Nat) : fB (fA (fA (fA z))) % P25 = z % P25 := by
  unfold fB
  rw [red19]
  unfold fA
  rw [red38, red38, red38]
theorem fA_one {z : Nat} (hz : z < M8 * M8) : fA z < 39 * M8 := by
  unfold fA
  have h1 := Nat.mod_lt z M8_pos
  have h2 : z / M8 < M8 := Nat.div_lt_of_lt_mul hz
  generalize z / M8 = q at *
  generalize z % M8 = r at *
  omega
theorem fA_two {z : Nat} (hz : z < 39 * M8) : fA z < M8 + 1444 + 1 ∧ z / M8 ≤ 38 := by
  have h2 : z / M8 ≤ 38 := by
    have : z / M8 < 39 := Nat.div_lt_of_lt_mul (by rw [Nat.mul_comm]; exact hz)
    omega
  unfold fA
  have h1 := Nat.mod_lt z M8_pos
  generalize z / M8 = q at *
  generalize z % M8 = r at *
  omega
theorem fA_three {z : Nat} (hz : z < M8 + 1445) : fA z < M8 ∧ z / M8 ≤ 1 := by
  have hM : 100000 < M8 := by decide +kernel
  unfold fA
  by_cases q : z < M8
  · rw [Nat.mod_eq_of_lt q, Nat.div_eq_of_lt q]; omega
  · have e1 : z / M8 = 1 := by
      rw [show z = (z - M8) + M8 by omega, Nat.add_div_right _ M8_pos, Nat.div_eq_of_lt (by omega)]
    have e2 : z % M8 = z - M8 := by
      rw [Nat.mod_eq_sub_mod (by omega), Nat.mod_eq_of_lt (by omega)]
    rw [e1, e2]; omega
theorem fB_lt {z : Nat} (hz : z < M8) : fB z < 2 * P25 := by
  have hM : M8 = 2 * H8 := by decide +kernel
  have hP : H8 + 19 < 2 * P25 := by decide +kernel
  have hH : 0 < H8 := by decide +kernel
  unfold fB
  have h1 := Nat.mod_lt z hH
  have h2 : z / H8 < 2 := Nat.div_lt_of_lt_mul (by rw [Nat.mul_comm, ← hM]; exact hz)
  generalize z / H8 = q at *
  generalize z % H8 = r at *
  omega
/-- What is carried where 38 times the upper limbs are added to the lower ones. -/
def cM (x y : Nat) : Nat → Nat
  | 0 => 0
  | i + 1 => (lb x i + 38 * lb y i + cM x y i) / 4294967296
theorem cM_le (x y : Nat) : ∀ i, cM x y i ≤ 38
  | 0 => Nat.zero_le _
  | i + 1 => by have := cM_le x y i; have h1 := lb_lt x i; have h2 := lb_lt y i; rw [cM]; omega
theorem mul_div (x y : Nat) : ∀ i, (x + 38 * y) / 4294967296 ^ i = x / 4294967296 ^ i + 38 * (y / 4294967296 ^ i) + cM x y i
  | 0 => by simp [cM]
  | i + 1 => by
    rw [div_step, mul_div x y i, div_step x, div_step y, cM]
    unfold lb
    generalize x / 4294967296 ^ i = X
    generalize y / 4294967296 ^ i = Y
    generalize cM x y i = c
    omega
theorem lb_mul (x y i : Nat) : lb (x + 38 * y) i = (lb x i + 38 * lb y i + cM x y i) % 4294967296 := by
  unfold lb
  rw [mul_div]
  generalize x / 4294967296 ^ i = X
  generalize y / 4294967296 ^ i = Y
  generalize cM x y i = c
  omega
theorem lb_low {z i : Nat} (h : i < 8) : lb (z % M8) i = lb z i := by
  have h1 := congrArg (fun l => wd l i) (lbs_mod 8 z)
  simp only [wd_lbs h] at h1
  exact h1
theorem lb_high (z i : Nat) : lb (z / M8) i = lb z (i + 8) := by
  unfold lb M8
  rw [Nat.div_div_eq_div_mul, ← Nat.pow_add, Nat.add_comm 8 i]
theorem cM_eight {z : Nat} (hz : z < M8 * M8) : cM (z % M8) (z / M8) 8 = fA z / M8 := by
  have h := mul_div (z % M8) (z / M8) 8
  have h1 : (z % M8) / 4294967296 ^ 8 = 0 := Nat.div_eq_of_lt (Nat.mod_lt z M8_pos)
  have h2 : (z / M8) / 4294967296 ^ 8 = 0 := Nat.div_eq_of_lt (Nat.div_lt_of_lt_mul hz)
  rw [h1, h2] at h
  unfold fA M8 at *
  omega
theorem top_bit {z : Nat} (hz : z < M8) : lb z 7 / 2147483648 = z / H8 ∧ (lbs 8 z).set 7 (lb z 7 % 2147483648) = lbs 8 (z % H8) := by
  have e0 : lb z 7 = z / 4294967296 ^ 7 := by
    unfold lb
    exact Nat.mod_eq_of_lt (Nat.div_lt_of_lt_mul (by rw [← Nat.pow_succ]; exact hz))
  have eH : H8 = 4294967296 ^ 7 * 2147483648 := by decide +kernel
  refine ⟨by rw [e0, Nat.div_div_eq_div_mul, ← eH], ?_⟩
  refine words_lbs (by rw [List.length_set, lbs_len]) fun j hj => ?_
  rw [wd_putN (by rw [lbs_len]; omega)]
  by_cases q : j = 7
  · rw [if_pos q, q, e0]
    unfold lb
    rw [eH, Nat.mod_mul_right_div_self]
    exact (Nat.mod_eq_of_lt (Nat.lt_trans (Nat.mod_lt _ (by decide)) (by decide))).symm
  · rw [if_neg q, wd_lbs hj]
    have h6 : j + (7 - j) = 7 := by omega
    unfold lb
    have e1 : H8 = 4294967296 ^ j * (4294967296 * (4294967296 ^ (7 - j - 1) * 2147483648)) := by
      rw [eH, ← Nat.mul_assoc 4294967296, ← Nat.pow_succ', ← Nat.mul_assoc, ← Nat.pow_add]
      congr 2
      omega
    rw [e1, Nat.mod_mul_right_div_self, Nat.mod_mul_right_mod]
end Go.Proofs.YtfhafednnnfmbaaDoor
