/-
  bits.RotateLeft32 by -16, -12, -8, -7.
-/
import Derived.Test.YtmnohmhhmaeljaaDoorMix
namespace Go.Proofs.YtmnohmhhmaeljaaDoor
open Go.ChangeShapes Go.WideShapes Go.ChangeAt Go.RowKit Go.Deep

theorem rotr_int {n x : Nat} (hn : n ≤ 32) (hx : x < 4294967296) : bits .or .u32 ((x : Int) * 2 ^ (32 - n) % 4294967296) ((x : Int) / 2 ^ n) = (rotr n x : Int) := by
  have h1 : (x : Int) * 2 ^ (32 - n) % 4294967296 = ((x * 2 ^ (32 - n) % 4294967296 : Nat) : Int) := by simp
  have h2 : (x : Int) / 2 ^ n = ((x / 2 ^ n : Nat) : Int) := by simp
  rw [h1, h2, u32_or_nat _ _ (Nat.mod_lt _ (by omega)) (Nat.lt_of_le_of_lt (Nat.div_le_self _ _) hx)]
  rfl

set_option maxHeartbeats 1000000 in
theorem rot_calls {n x : Nat} {k : Int} {w : World} (hx : x < 4294967296) (hk : bits .and .u64 (IntKind.u64.wrap k) 31 = ((32 - n : Nat) : Int)) (h1 : 1 ≤ n) (h2 : n ≤ 31) :
    Calls Tryd.prog 138 #[.int .u32 (x : Int), .int .i64 k] w fun e w' => e = .returned (.int .u32 (rotr n x : Int)) ∧ w' = w := by
  have hs : ∃ s : Nat, 32 - n = s ∧ s ≤ 31 ∧ n = 32 - s := ⟨32 - n, rfl, by omega, by omega⟩
  obtain ⟨s, e1, e2, e3⟩ := hs
  have hf := Lib.hid (rotr_int (n := n) (by omega) hx)
  rw [e1] at hk hf
  have hd : IntKind.u64.wrap (32 - (s : Int)) = (n : Int) := by rw [IntWalk.u64_in _ (by omega)]; omega
  go_enter Tryd.func138, Tryd.ntmps138
  go_wp2_with fail
  go_ret
  refine ⟨congrArg (fun v => Ending.returned (Value.int .u32 v)) (Eq.trans ?_ hf.out), rfl⟩
  rw [e3]
theorem rot16 {x : Nat} {w : World} (hx : x < 4294967296) :
    Calls Tryd.prog 138 #[.int .u32 (x : Int), .int .i64 (-16)] w fun e w' => e = .returned (.int .u32 (rotr 16 x : Int)) ∧ w' = w := rot_calls hx (by decide) (by omega) (by omega)
theorem rot12 {x : Nat} {w : World} (hx : x < 4294967296) :
    Calls Tryd.prog 138 #[.int .u32 (x : Int), .int .i64 (-12)] w fun e w' => e = .returned (.int .u32 (rotr 12 x : Int)) ∧ w' = w := rot_calls hx (by decide) (by omega) (by omega)
theorem rot8 {x : Nat} {w : World} (hx : x < 4294967296) :
    Calls Tryd.prog 138 #[.int .u32 (x : Int), .int .i64 (-8)] w fun e w' => e = .returned (.int .u32 (rotr 8 x : Int)) ∧ w' = w := rot_calls hx (by decide) (by omega) (by omega)
theorem rot7 {x : Nat} {w : World} (hx : x < 4294967296) :
    Calls Tryd.prog 138 #[.int .u32 (x : Int), .int .i64 (-7)] w fun e w' => e = .returned (.int .u32 (rotr 7 x : Int)) ∧ w' = w := rot_calls hx (by decide) (by omega) (by omega)
theorem rotl16 {x : Nat} {w : World} (hx : x < 4294967296) :
    Calls Tryd.prog 138 #[.int .u32 (x : Int), .int .i64 16] w fun e w' => e = .returned (.int .u32 (rotr 16 x : Int)) ∧ w' = w := rot_calls hx (by decide) (by omega) (by omega)
theorem rotl12 {x : Nat} {w : World} (hx : x < 4294967296) :
    Calls Tryd.prog 138 #[.int .u32 (x : Int), .int .i64 12] w fun e w' => e = .returned (.int .u32 (rotr 20 x : Int)) ∧ w' = w := rot_calls hx (by decide) (by omega) (by omega)
theorem rotl8 {x : Nat} {w : World} (hx : x < 4294967296) :
    Calls Tryd.prog 138 #[.int .u32 (x : Int), .int .i64 8] w fun e w' => e = .returned (.int .u32 (rotr 24 x : Int)) ∧ w' = w := rot_calls hx (by decide) (by omega) (by omega)
theorem rotl7 {x : Nat} {w : World} (hx : x < 4294967296) :
    Calls Tryd.prog 138 #[.int .u32 (x : Int), .int .i64 7] w fun e w' => e = .returned (.int .u32 (rotr 25 x : Int)) ∧ w' = w := rot_calls hx (by decide) (by omega) (by omega)
end Go.Proofs.YtmnohmhhmaeljaaDoor
