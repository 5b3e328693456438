/-
  The document's OfHigh.
-/
import Derived.Test.YtojgmgghlkpfoaaOfHighB
namespace Go.Proofs.Ytojgmgghlkpfoaa
open Go.ChangeShapes Go.WideShapes Go.ChangeAt Go.RowKit Go.Deep

/-- The number of bytes, the highest first, one by one. -/
def ofHighAt (xs : List UInt8) : Nat → Nat
  | 0 => 0
  | k + 1 => ofHighAt xs k * 256 + bt xs k
theorem ofHighAt_lt (xs : List UInt8) : ∀ k, ofHighAt xs k < 256 ^ k
  | 0 => by simp [ofHighAt]
  | k + 1 => by
    have := ofHighAt_lt xs k
    have := bt_lt xs k
    rw [ofHighAt, Nat.pow_succ]
    omega
theorem ofHighAt_eq {xs : List UInt8} : ∀ {k : Nat}, k ≤ xs.length → ofHighAt xs k = ofLowL (xs.take k).reverse
  | 0, _ => by simp [ofHighAt, ofLowL]
  | k + 1, h => by
    rw [ofHighAt, ofHighAt_eq (by omega), List.take_succ_eq_append_getElem (by omega), List.reverse_append]
    simp [ofLowL, bt, List.getD, show k < xs.length by omega]
    omega

set_option maxHeartbeats 400000 in
theorem refOfHigh_calls {A : Option Addr} {n c : Nat} {m : Nat} {xs : List UInt8} {w : World} (h : Bs w A n c xs) (hm8 : m ≤ 8) (hmn : m ≤ n) (hM : m = n ∨ m = 8) :
    Calls Try.prog 46 #[.slice A n c] w fun e w' => e = .returned (.int .u64 (ofLowL (xs.take m).reverse : Int)) ∧ w' = w := by
  have h1 := h.le
  have h2 := h.cap
  have hf : Hid (ofHighAt xs m = ofLowL (xs.take m).reverse) := ofHighAt_eq (by rw [h.len]; exact hmn)
  go_enter Try.func46, Try.ntmps46
  go_wp2
  go_loop [3, 4] (fun x i => ∃ k : Nat, k ≤ m ∧ i = .int .i64 k ∧ x = .int .u64 (ofHighAt xs k : Int)) (fun _ i => m - (intOf i).toNat)
  case atStart => exact ⟨0, Nat.zero_le _, rfl, rfl⟩
  case round =>
    obtain ⟨k, hk, rfl, rfl⟩ := hrel
    by_cases hlt : k < m
    · obtain ⟨b, off, rfl, hb, hc⟩ := h.pos (by omega)
      have g1 := hc k (by omega)
      have hbt := bt_lt xs k
      have hlt2 : ofHighAt xs k < 72057594037927936 := Nat.lt_of_lt_of_le (ofHighAt_lt xs k) (Nat.pow_le_pow_right (by omega) (show k ≤ 7 by omega))
      have hsucc : Hid ((ofHighAt xs (k + 1) : Int) = (ofHighAt xs k : Int) * 256 + (bt xs k : Int)) := by unfold Hid; rw [ofHighAt]; omega
      have t1 : (k : Int) < 8 := by omega
      have t2 : (k : Int) < (n : Int) := by omega
      clear hc hM
      go_wp2
      go_round
      case rel => exact ⟨k + 1, by omega, by go_num, congrArg (Value.int .u64) hsucc.out.symm⟩
      case measure => simp [intOf]; omega
    · obtain rfl : k = m := by omega
      rcases hM with rfl | rfl
      · go_wp2
        go_ret
        exact ⟨ret_int (by rw [hf.out]), rfl⟩
      · by_cases q : 8 < n
        · go_wp2
          go_ret
          exact ⟨ret_int (by rw [hf.out]), rfl⟩
        · obtain rfl : n = 8 := by omega
          go_wp2
          go_ret
          exact ⟨ret_int (by rw [hf.out]), rfl⟩
end Go.Proofs.Ytojgmgghlkpfoaa
