/-
  octets.Low and OfLow alone (for seats that have no High).
-/
import Derived.Test.YtbnjmmefnjoofaaDoorSameL
import Derived.RegionTactic
namespace Go.Proofs.YtbnjmmefnjoofaaDoor
open Go.ChangeShapes Go.WideShapes Go.ChangeAt Go.RowKit Go.Deep

def lowL (n m : Nat) : List UInt8 := (List.range m).map fun i => UInt8.ofNat (n / 256 ^ i)
theorem lowL_len (n m : Nat) : (lowL n m).length = m := by simp [lowL]
theorem bt_lowL {n m k : Nat} (hk : k < m) : bt (lowL n m) k = n / 256 ^ k % 256 := by
  unfold bt lowL
  simp [List.getD, hk]

/-- What is left of the number when k bytes are told. -/
def lowAt (n k : Nat) : Nat := n / 256 ^ k
theorem lowAt_succ (n k : Nat) : lowAt n k / 256 = lowAt n (k + 1) := by unfold lowAt; rw [Nat.div_div_eq_div_mul, Nat.pow_succ]
theorem lowAt_le (n k : Nat) : lowAt n k ≤ n := Nat.div_le_self _ _

theorem lowAt_int (n k : Nat) : (lowAt n k : Int) / 256 = (lowAt n (k + 1) : Int) := by rw [← lowAt_succ]; omega
theorem lowAt_byte (n k : Nat) : (lowAt n k : Int) % 256 = ((n / 256 ^ k % 256 : Nat) : Int) := by
  show (lowAt n k : Int) % 256 = ((lowAt n k % 256 : Nat) : Int)
  omega

set_option maxHeartbeats 400000 in
theorem low_calls {n m : Nat} {many : Int} {w : World} (hn : n < 18446744073709551616) (h1 : 0 ≤ many) (h2 : many ≤ 9223372036854775807) (hm8 : m ≤ 8) (hM : (if (8 : Int) < many then 8 else many) = (m : Int)) :
    Calls Tryd.prog 66 #[.int .u64 (n : Int), .int .i64 many] w (RetBs (lowL n m) w) := by
  have hmk := make8 m (by omega)
  have hz : lowAt n 0 = n := by simp [lowAt]
  go_enter Tryd.func66, Tryd.ntmps66
  go_wp2
  clear hmk hM
  go_loopw [0, 13] (fun x i wr => ∃ k : Nat, k ≤ m ∧ i = .int .i64 k ∧ x = .int .u64 (lowAt n k : Int) ∧ Fill w wr m k (fun j => n / 256 ^ j % 256)) (fun _ i _ => m - (intOf i).toNat)
  case atStart => exact ⟨0, Nat.zero_le _, rfl, by rw [hz], Fill.start _ _ _⟩
  case round =>
    obtain ⟨k, hk, rfl, rfl, hf⟩ := hrel
    clear hz
    by_cases hlt : k < m
    · have g3 := hf.cell hlt
      have g4 := hf.frozen k
      have hle := Nat.lt_of_le_of_lt (lowAt_le n k) hn
      go_wp2
      go_roundw
      case rel =>
        exact ⟨k + 1, by omega, by go_num, congrArg (Value.int .u64) (lowAt_int n k), hf.step (lowAt_byte n k)⟩
      case measure => simp [intOf]; omega
    · obtain rfl : k = m := by omega
      go_wp2
      go_ret
      exact ⟨_, _, _, rfl, hf.done (lowL_len n k) (by omega) (fun j hj => (bt_lowL hj).symm), hf.1⟩

/-- The number of bytes, the lowest first. -/
def ofLowL : List UInt8 → Nat
  | [] => 0
  | x :: xs => x.toNat + 256 * ofLowL xs
theorem ofLowL_lt : ∀ xs : List UInt8, ofLowL xs < 256 ^ xs.length
  | [] => by simp [ofLowL]
  | x :: xs => by
    have h := ofLowL_lt xs
    have hx : x.toNat < 256 := x.toNat_lt
    simp only [ofLowL, List.length_cons, Nat.pow_succ]
    omega
theorem ofLowL_append : ∀ (xs : List UInt8) (y : UInt8), ofLowL (xs ++ [y]) = ofLowL xs + 256 ^ xs.length * y.toNat
  | [], y => by simp [ofLowL]
  | x :: xs, y => by
    rw [List.cons_append, ofLowL, ofLowL_append xs y, ofLowL, List.length_cons, Nat.pow_succ, Nat.mul_add, Nat.mul_comm (256 ^ xs.length) 256, Nat.mul_assoc, Nat.add_assoc]
/-- The number of the first k bytes. -/
def ofLowAt (xs : List UInt8) (k : Nat) : Nat := ofLowL (xs.take k)
theorem ofLowAt_succ {xs : List UInt8} {k : Nat} (h : k < xs.length) : ofLowAt xs (k + 1) = ofLowAt xs k + 256 ^ k * bt xs k := by
  unfold ofLowAt
  rw [List.take_succ_eq_append_getElem h, ofLowL_append, List.length_take, Nat.min_eq_left (by omega)]
  simp [bt, List.getD, h]
theorem ofLowAt_lt {xs : List UInt8} {k : Nat} (h : k ≤ xs.length) : ofLowAt xs k < 256 ^ k := by
  have := ofLowL_lt (xs.take k)
  rwa [List.length_take, Nat.min_eq_left h] at this

theorem ofLow_bits {xs : List UInt8} {k : Nat} (h : k < xs.length) (hk : k < 8) :
    bits .or .u64 (ofLowAt xs k : Int) (IntKind.u64.wrap ((bt xs k : Int) * 2 ^ (8 * k))) = (ofLowAt xs (k + 1) : Int) := by
  have h1 := ofLowAt_lt (xs := xs) (k := k) (by omega)
  have hb := bt_lt xs k
  have hp : (256 : Nat) ^ k = 2 ^ (8 * k) := by rw [Nat.pow_mul]
  have hpk : (2 : Nat) ^ (8 * k) ≤ 2 ^ 56 := Nat.pow_le_pow_right (by omega) (by omega)
  have hlt : bt xs k * 2 ^ (8 * k) < 18446744073709551616 := by
    have : bt xs k * 2 ^ (8 * k) ≤ 255 * 2 ^ 56 := Nat.mul_le_mul (by omega) hpk
    omega
  have hc : ((bt xs k : Int) * 2 ^ (8 * k)) = ((bt xs k * 2 ^ (8 * k) : Nat) : Int) := by push_cast; rfl
  rw [hc, IntWalk.u64_in _ (by omega), ofLowAt_succ h, hp]
  rw [hp] at h1
  generalize ofLowAt xs k = y at *
  have hy : y < 18446744073709551616 := by omega
  rw [u64_or_nat _ _ hy hlt, Nat.or_comm, nat_join (8 * k) _ _ (Nat.mul_mod_left _ _) h1, Nat.mul_comm, Nat.add_comm]

set_option maxHeartbeats 400000 in
theorem ofLow_calls {A : Option Addr} {n c : Nat} {m : Nat} {xs : List UInt8} {w : World} (h : Bs w A n c xs) (hm8 : m ≤ 8) (hmn : m ≤ n) (hM : (if (8 : Int) < (n : Int) then 8 else (n : Int)) = (m : Int)) :
    Calls Tryd.prog 99 #[.slice A n c] w fun e w' => e = .returned (.int .u64 (ofLowL (xs.take m) : Int)) ∧ w' = w := by
  have h1 := h.le
  have h2 := h.cap
  go_enter Tryd.func99, Tryd.ntmps99
  go_wp2
  clear hM
  go_loop [3, 8] (fun x i => ∃ k : Nat, k ≤ m ∧ i = .int .i64 k ∧ x = .int .u64 (ofLowAt xs k : Int)) (fun _ i => m - (intOf i).toNat)
  case atStart => exact ⟨0, Nat.zero_le _, rfl, rfl⟩
  case round =>
    obtain ⟨k, hk, rfl, rfl⟩ := hrel
    by_cases hlt : k < m
    · obtain ⟨b, off, rfl, hb, hc⟩ := h.pos (by omega)
      have g1 := hc k (by omega)
      have hbt := bt_lt xs k
      clear hc
      go_wp2
      go_round
      case rel =>
        exact ⟨k + 1, by omega, by go_num, congrArg (Value.int .u64) (ofLow_bits (by rw [h.len]; omega) (by omega))⟩
      case measure => simp [intOf]; omega
    · obtain rfl : k = m := by omega
      go_wp2
      go_ret
      exact ⟨rfl, rfl⟩
end Go.Proofs.YtbnjmmefnjoofaaDoor
