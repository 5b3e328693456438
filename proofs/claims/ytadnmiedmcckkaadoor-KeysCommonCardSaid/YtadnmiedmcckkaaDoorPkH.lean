import Derived.Test.YtadnmiedmcckkaaDoorFldOf
import Derived.Test.YtadnmiedmcckkaaDoorPkI
import Derived.Test.YtadnmiedmcckkaaDoorRfCarry
section
/-
  A number's bytes are those of the number. No conditions.
-/
namespace Go.Proofs.YtadnmiedmcckkaaDoor

theorem bt_kL_div {x k : Nat} (h : k < 32) : bt (kL x) k = x / 256 ^ k % 256 := by
  rw [bt_kL h]
  have e : 256 ^ k = 4294967296 ^ (k / 4) * 256 ^ (k % 4) := by
    rw [← pow_four]
    congr 1
    omega
  rw [e, ← Nat.div_div_eq_div_mul]
  unfold lb
  generalize x / 4294967296 ^ (k / 4) = X
  have : k % 4 = 0 ∨ k % 4 = 1 ∨ k % 4 = 2 ∨ k % 4 = 3 := by omega
  rcases this with h | h | h | h <;> rw [h] <;> simp only [Nat.pow_zero, Nat.pow_succ, Nat.one_mul, Nat.div_one] <;> omega
theorem ofN_kL (x : Nat) : ∀ i, i ≤ 32 → ofN (kL x) i = x % 256 ^ i
  | 0, _ => by rw [ofN, Nat.pow_zero, Nat.mod_one]
  | i + 1, h => by
    rw [ofN, ofN_kL x i (by omega), bt_kL_div (by omega), Nat.pow_succ, Nat.mod_mul, Nat.mul_comm (256 ^ i)]
theorem ofV_kL {x : Nat} (h : x < P25) : ofV (kL x) = x := by
  have hH : x < H8 := Nat.lt_trans h (by decide +kernel)
  have hM : x < 256 ^ 32 := Nat.lt_trans hH (by decide +kernel)
  unfold ofV
  rw [ofN_kL x 32 (Nat.le_refl _), Nat.mod_eq_of_lt hM, Nat.mod_eq_of_lt hH, Nat.mod_eq_of_lt h]
end Go.Proofs.YtadnmiedmcckkaaDoor
end

section
/-
  For palfreyref06.Key: the prime is taken off digit by digit; the bytes of a number. No conditions.
-/
namespace Go.Proofs.YtadnmiedmcckkaaDoor
open Go.ChangeShapes Go.WideShapes Go.ChangeAt Go.RowKit Go.Deep

/-- What is owed by the digits below. -/
def bK (v : Nat) : Nat → Nat
  | 0 => 0
  | i + 1 => 1 - (dg v i + 65536 - dg P25 i - bK v i) / 65536
theorem bK_le (v : Nat) : ∀ i, bK v i ≤ 1
  | 0 => Nat.zero_le _
  | i + 1 => by rw [bK]; omega
theorem dg_step (x i : Nat) : x / 65536 ^ (i + 1) = x / 65536 ^ i / 65536 := by rw [Nat.pow_succ, Nat.div_div_eq_div_mul]
theorem key_div {v : Nat} (h : P25 ≤ v) : ∀ i, (v - P25) / 65536 ^ i + P25 / 65536 ^ i + bK v i = v / 65536 ^ i
  | 0 => by rw [Nat.pow_zero, Nat.div_one, Nat.div_one, Nat.div_one, bK]; omega
  | i + 1 => by
    have ih := key_div h i
    have hb := bK_le v i
    rw [dg_step, dg_step P25, dg_step v, bK]
    unfold dg
    generalize (v - P25) / 65536 ^ i = D at *
    generalize P25 / 65536 ^ i = P at *
    generalize v / 65536 ^ i = V at *
    generalize bK v i = b at *
    omega
theorem key_dg {v : Nat} (h : P25 ≤ v) (i : Nat) : dg (v - P25) i = (dg v i + 65536 - dg P25 i - bK v i) % 65536 := by
  have ih := key_div h i
  have hb := bK_le v i
  unfold dg
  generalize (v - P25) / 65536 ^ i = D at *
  generalize P25 / 65536 ^ i = P at *
  generalize v / 65536 ^ i = V at *
  generalize bK v i = b at *
  omega
/-- carried leaves a number's own digits. -/
theorem dgs_dig (x : Nat) : Dig (dgs 16 x) := ⟨dgs_len 16 x, fun i hi => by rw [wd_dgs hi]; have := dg_lt x i; omega⟩
theorem cN_dgs {x : Nat} (h : x < B16) : cN (dgs 16 x) = x := by
  unfold cN
  rw [pV_dgs 16 x 16 (Nat.le_refl _), B16_eq, Nat.mod_eq_of_lt h, rr_id h, rr_id h]
/-- The bytes of a digit. -/
theorem key_low {x i : Nat} (hi : i < 16) : bt (kL x) (2 * i) = dg x i % 256 := by
  rw [bt_kL_div (by omega), dg, show (256 : Nat) ^ (2 * i) = 65536 ^ i by rw [Nat.pow_mul]]
  generalize x / 65536 ^ i = X
  omega
theorem key_high {x i : Nat} (hi : i < 16) : bt (kL x) (2 * i + 1) = dg x i / 256 := by
  rw [bt_kL_div (by omega), dg, show (256 : Nat) ^ (2 * i + 1) = 65536 ^ i * 256 by rw [Nat.pow_succ, Nat.pow_mul], ← Nat.div_div_eq_div_mul]
  generalize x / 65536 ^ i = X
  omega
theorem mod_once {v x : Nat} (h : P25 ≤ v) (hm : v % P25 = x % P25) : (v - P25) % P25 = x % P25 := by
  rw [← hm, Nat.mod_eq_sub_mod h]
/-- What a block of digits comes to. -/
def mW (w : World) (g : Nat) : Nat := match w.heap[g]? with
  | some (.cells cs _ _) => pV (cs.toList.map fun v => match v with | .int _ z => z.toNat | _ => 0) 16
  | _ => 0
theorem mW_ur {w : World} {g : Nat} {t : TypeId} {vs : List Nat} (h : Ur w g t vs) : mW w g = pV vs 16 := by
  unfold mW
  unfold Ur at h
  rw [h]
  simp [ucells, List.map_map, Function.comp_def]
theorem mW_dgs {w : World} {g : Nat} {t : TypeId} {v : Nat} (h : Ur w g t (dgs 16 v)) (hv : v < B16) : mW w g = v := by
  rw [mW_ur h, pV_dgs 16 v 16 (Nat.le_refl _), B16_eq, Nat.mod_eq_of_lt hv]
end Go.Proofs.YtadnmiedmcckkaaDoor
end
