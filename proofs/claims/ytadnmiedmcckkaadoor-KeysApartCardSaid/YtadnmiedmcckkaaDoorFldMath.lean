/-
  Numbers as limbs of 32 bits: sums, differences, products. No conditions.
-/
import Derived.Test.YtadnmiedmcckkaaDoorWords
namespace Go.Proofs.YtadnmiedmcckkaaDoor

/-- The i-th limb of a number. -/
def lb (x i : Nat) : Nat := x / 4294967296 ^ i % 4294967296
def lbs (n x : Nat) : List Nat := (List.range n).map (lb x)
theorem lb_lt (x i : Nat) : lb x i < 4294967296 := Nat.mod_lt _ (by decide)
theorem lbs_len (n x : Nat) : (lbs n x).length = n := by simp [lbs]
theorem wd_lbs {n x i : Nat} (h : i < n) : wd (lbs n x) i = lb x i := by simp [wd, lbs, List.getD, h]
theorem div_step (x i : Nat) : x / 4294967296 ^ (i + 1) = x / 4294967296 ^ i / 4294967296 := by rw [Nat.pow_succ, Nat.div_div_eq_div_mul]
/-- What is carried into the i-th limb of a sum. -/
def cA (x y : Nat) : Nat → Nat
  | 0 => 0
  | i + 1 => (lb x i + lb y i + cA x y i) / 4294967296
theorem cA_le (x y : Nat) : ∀ i, cA x y i ≤ 1
  | 0 => Nat.zero_le _
  | i + 1 => by have := cA_le x y i; have h1 := lb_lt x i; have h2 := lb_lt y i; rw [cA]; omega
theorem add_div (x y : Nat) : ∀ i, (x + y) / 4294967296 ^ i = x / 4294967296 ^ i + y / 4294967296 ^ i + cA x y i
  | 0 => by simp [cA]
  | i + 1 => by
    rw [div_step, add_div x y i, div_step x, div_step y, cA]
    unfold lb
    generalize x / 4294967296 ^ i = X
    generalize y / 4294967296 ^ i = Y
    generalize cA x y i = c
    omega
theorem lb_add (x y i : Nat) : lb (x + y) i = (lb x i + lb y i + cA x y i) % 4294967296 := by
  unfold lb
  rw [add_div]
  generalize x / 4294967296 ^ i = X
  generalize y / 4294967296 ^ i = Y
  generalize cA x y i = c
  omega
/-- What is borrowed from the i-th limb of a difference. -/
def bS (x y : Nat) : Nat → Nat
  | 0 => 0
  | i + 1 => if lb x i < lb y i + bS x y i then 1 else 0
theorem bS_le (x y : Nat) : ∀ i, bS x y i ≤ 1
  | 0 => Nat.zero_le _
  | i + 1 => by rw [bS]; split <;> omega
theorem sub_div {x y : Nat} (hy : y < 4294967296 ^ 8) : ∀ k i, i + k = 8 → (x + 4294967296 ^ 8 - y) / 4294967296 ^ i + y / 4294967296 ^ i + bS x y i = x / 4294967296 ^ i + 4294967296 ^ k
  | k, 0, h => by
    obtain rfl : k = 8 := by omega
    simp only [Nat.pow_zero, Nat.div_one, bS]
    generalize 4294967296 ^ 8 = M at *
    omega
  | k, i + 1, h => by
    have ih := sub_div (x := x) hy (k + 1) i (by omega)
    have hb := bS_le x y i
    rw [show (4294967296 : Nat) ^ (k + 1) = 4294967296 ^ k * 4294967296 from Nat.pow_succ _ _] at ih
    rw [div_step, div_step x, div_step y, bS]
    unfold lb
    generalize (x + 4294967296 ^ 8 - y) / 4294967296 ^ i = D at *
    generalize x / 4294967296 ^ i = X at *
    generalize y / 4294967296 ^ i = Y at *
    generalize bS x y i = b at *
    obtain ⟨M, hM⟩ : ∃ M, M = 4294967296 ^ k := ⟨_, rfl⟩
    rw [← hM] at ih ⊢
    clear hM hy
    split <;> omega
theorem lb_sub {x y : Nat} (hy : y < 4294967296 ^ 8) {i : Nat} (hi : i < 8) : lb (x + 4294967296 ^ 8 - y) i = (lb x i + 4294967296 - lb y i - bS x y i) % 4294967296 := by
  have h := sub_div (x := x) hy (8 - i) i (by omega)
  have hb := bS_le x y i
  obtain ⟨k, hk⟩ : ∃ k, 8 - i = k + 1 := ⟨8 - i - 1, by omega⟩
  rw [hk, show (4294967296 : Nat) ^ (k + 1) = 4294967296 ^ k * 4294967296 from Nat.pow_succ _ _] at h
  unfold lb
  generalize (x + 4294967296 ^ 8 - y) / 4294967296 ^ i = D at *
  generalize x / 4294967296 ^ i = X at *
  generalize y / 4294967296 ^ i = Y at *
  generalize bS x y i = b at *
  obtain ⟨M, hM⟩ : ∃ M, M = 4294967296 ^ k := ⟨_, rfl⟩
  rw [← hM] at h
  clear hM hy
  omega
theorem bS_eight {x y : Nat} (hx : x < 4294967296 ^ 8) (hy : y < 4294967296 ^ 8) : bS x y 8 = if x < y then 1 else 0 := by
  have h := sub_div (x := x) hy 0 8 rfl
  have hb := bS_le x y 8
  rw [Nat.div_eq_of_lt hx, Nat.div_eq_of_lt hy, Nat.pow_zero] at h
  by_cases q : x < y
  · rw [if_pos q]
    rw [Nat.div_eq_of_lt (show x + 4294967296 ^ 8 - y < 4294967296 ^ 8 by omega)] at h
    omega
  · rw [if_neg q]
    have : (x + 4294967296 ^ 8 - y) / 4294967296 ^ 8 = 1 := by
      generalize hM : 4294967296 ^ 8 = M at *
      have : 0 < M := by omega
      rw [show x + M - y = (x - y) + M by omega, Nat.add_div_right _ this, Nat.div_eq_of_lt (by omega)]
    omega
/-- What limbs come to. -/
def valL : List Nat → Nat
  | [] => 0
  | d :: ds => d + 4294967296 * valL ds
theorem lb_valL : ∀ (vs : List Nat), (∀ i, i < vs.length → wd vs i < 4294967296) → ∀ i, lb (valL vs) i = wd vs i
  | [], _, i => by simp [lb, valL, wd]
  | d :: ds, h, 0 => by
    have := h 0 (by simp)
    simp only [wd, List.getD, List.getElem?_cons_zero, Option.getD_some] at this
    simp [lb, valL, wd]; omega
  | d :: ds, h, i + 1 => by
    have h0 := h 0 (by simp)
    simp only [wd, List.getD, List.getElem?_cons_zero, Option.getD_some] at h0
    have ih := lb_valL ds (fun j hj => by
      have := h (j + 1) (by simp; omega)
      simpa [wd, List.getD] using this) i
    rw [show wd (d :: ds) (i + 1) = wd ds i by simp [wd, List.getD], ← ih]
    unfold lb
    rw [valL, Nat.pow_succ', ← Nat.div_div_eq_div_mul, show (d + 4294967296 * valL ds) / 4294967296 = valL ds by omega]
theorem lbs_valL {vs : List Nat} {n : Nat} (hl : vs.length = n) (h : ∀ i, i < n → wd vs i < 4294967296) : vs = lbs n (valL vs) := by
  subst hl
  refine List.ext_getElem (by rw [lbs_len]) fun i h1 h2 => ?_
  have := lb_valL vs h i
  simp [wd, List.getD, h1] at this
  simp [lbs, this]
theorem valL_set : ∀ {vs : List Nat} {k z : Nat}, k < vs.length → valL (vs.set k z) + wd vs k * 4294967296 ^ k = valL vs + z * 4294967296 ^ k
  | [], k, z, h => absurd h (by simp)
  | d :: ds, 0, z, _ => by simp [valL, wd, List.getD]; omega
  | d :: ds, k + 1, z, h => by
    have ih := valL_set (vs := ds) (k := k) (z := z) (by simpa using h)
    rw [show wd (d :: ds) (k + 1) = wd ds k by simp [wd, List.getD], List.set_cons_succ, valL, valL, Nat.pow_succ]
    have e1 : wd ds k * (4294967296 ^ k * 4294967296) = 4294967296 * (wd ds k * 4294967296 ^ k) := by rw [← Nat.mul_assoc, Nat.mul_comm]
    have e2 : z * (4294967296 ^ k * 4294967296) = 4294967296 * (z * 4294967296 ^ k) := by rw [← Nat.mul_assoc, Nat.mul_comm]
    rw [e1, e2]
    generalize wd ds k * 4294967296 ^ k = a at *
    generalize z * 4294967296 ^ k = b at *
    omega
theorem mod_step (x i : Nat) : x % 4294967296 ^ (i + 1) = x % 4294967296 ^ i + lb x i * 4294967296 ^ i := by
  unfold lb
  rw [Nat.pow_succ, Nat.mod_mul]
  rw [Nat.mul_comm (4294967296 ^ i)]
theorem valL_snoc : ∀ (vs : List Nat) (z : Nat), valL (vs ++ [z]) = valL vs + z * 4294967296 ^ vs.length
  | [], z => by simp [valL]
  | d :: ds, z => by
    rw [List.cons_append, valL, valL_snoc ds z, valL, List.length_cons, Nat.pow_succ]
    have e2 : z * (4294967296 ^ ds.length * 4294967296) = 4294967296 * (z * 4294967296 ^ ds.length) := by rw [← Nat.mul_assoc, Nat.mul_comm]
    rw [e2, Nat.mul_add, Nat.add_assoc]
theorem lbs_snoc (n x : Nat) : lbs (n + 1) x = lbs n x ++ [lb x n] := by simp [lbs, List.range_succ]
theorem valL_lbs (x : Nat) : ∀ n, valL (lbs n x) = x % 4294967296 ^ n
  | 0 => by rw [Nat.pow_zero, Nat.mod_one]; rfl
  | n + 1 => by rw [lbs_snoc, valL_snoc, valL_lbs x n, lbs_len, mod_step]
theorem lbs_add_big (n x : Nat) : lbs n (x + 4294967296 ^ n) = lbs n x := by
  have h := lbs_valL (vs := lbs n (x + 4294967296 ^ n)) (lbs_len _ _) (fun i hi => by rw [wd_lbs hi]; exact lb_lt _ _)
  have h' := lbs_valL (vs := lbs n x) (lbs_len _ _) (fun i hi => by rw [wd_lbs hi]; exact lb_lt _ _)
  rw [h, h', valL_lbs, valL_lbs, Nat.add_mod_right]
theorem lbs_mod (n x : Nat) : lbs n (x % 4294967296 ^ n) = lbs n x := by
  have h := lbs_valL (vs := lbs n (x % 4294967296 ^ n)) (lbs_len _ _) (fun i hi => by rw [wd_lbs hi]; exact lb_lt _ _)
  have h' := lbs_valL (vs := lbs n x) (lbs_len _ _) (fun i hi => by rw [wd_lbs hi]; exact lb_lt _ _)
  rw [h, h', valL_lbs, valL_lbs, Nat.mod_mod]
end Go.Proofs.YtadnmiedmcckkaaDoor
