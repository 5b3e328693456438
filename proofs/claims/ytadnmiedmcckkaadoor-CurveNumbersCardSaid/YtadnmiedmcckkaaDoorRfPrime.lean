/-
  palfreyref06.prime.
-/
import Derived.Test.YtadnmiedmcckkaaDoorRfMath
namespace Go.Proofs.YtadnmiedmcckkaaDoor
open Go.ChangeShapes Go.WideShapes Go.ChangeAt Go.RowKit Go.Deep
set_option maxRecDepth 100000

/-- The prime's digits. -/
def pd (i : Nat) : Nat := if i = 0 then 65517 else if i = 15 then 32767 else 65535
theorem pd_dg : ∀ i, i < 16 → pd i = dg P25 i := by decide +kernel
theorem pd_lt (i : Nat) : pd i < 65536 := by unfold pd; split <;> (try split) <;> omega
theorem prime_calls {i : Nat} {w : World} : Calls Tryd.prog 45 #[.int .i64 (i : Int)] w fun e w' => e = .returned (.int .u64 (pd i : Int)) ∧ Ext w w' := by
  by_cases h0 : i = 0
  · have b0 : ((i : Int) == 0) = true := by simpa using h0
    have hp : Hid (pd i = 65517) := if_pos h0
    clear h0
    go_enter Tryd.func45, Tryd.ntmps45
    go_wp2_with fail
    go_ret
    exact ⟨by rw [hp.out]; rfl, Ext.refl _⟩
  · have b0 : ((i : Int) == 0) = false := by simpa using h0
    by_cases h15 : i = 15
    · have b1 : ((i : Int) == 15) = true := by rw [h15]; rfl
      have hp : Hid (pd i = 32767) := (if_neg h0).trans (if_pos h15)
      clear h0 h15
      go_enter Tryd.func45, Tryd.ntmps45
      go_wp2_with fail
      go_ret
      exact ⟨by rw [hp.out]; rfl, Ext.refl _⟩
    · have b1 : ((i : Int) == 15) = false := by
        have : ¬ (i : Int) = 15 := by omega
        simpa using this
      have hp : Hid (pd i = 65535) := (if_neg h0).trans (if_neg h15)
      clear h0 h15
      go_enter Tryd.func45, Tryd.ntmps45
      go_wp2_with fail
      go_ret
      exact ⟨by rw [hp.out]; rfl, Ext.refl _⟩

theorem div_up (v i : Nat) : v / 65536 ^ i = 65536 * (v / 65536 ^ (i + 1)) + dg v i := by
  rw [dg, show (65536 : Nat) ^ (i + 1) = 65536 ^ i * 65536 from Nat.pow_succ _ _, ← Nat.div_div_eq_div_mul]
  omega
/-- Where the digits above are the same, a digit tells. -/
theorem tell_digit {v p i : Nat} (h : v / 65536 ^ (i + 1) = p / 65536 ^ (i + 1)) (hd : dg v i ≠ dg p i) : decide (dg p i < dg v i) = decide (p ≤ v) := by
  have h1 := div_up v i
  have h2 := div_up p i
  rw [h] at h1
  by_cases q : dg p i < dg v i
  · rw [decide_eq_true q]
    refine (decide_eq_true ?_).symm
    rcases Nat.lt_or_ge v p with r | r
    · have := Nat.div_le_div_right (c := 65536 ^ i) (Nat.le_of_lt r)
      omega
    · exact r
  · rw [decide_eq_false q]
    refine (decide_eq_false fun r => ?_).symm
    have := Nat.div_le_div_right (c := 65536 ^ i) r
    omega
theorem same_digit {v p i : Nat} (h : v / 65536 ^ (i + 1) = p / 65536 ^ (i + 1)) (hd : dg v i = dg p i) : v / 65536 ^ i = p / 65536 ^ i := by
  rw [div_up v i, div_up p i, h, hd]
end Go.Proofs.YtadnmiedmcckkaaDoor
