/-
  The document's OfLow.
-/
import Derived.Test.YthdjojindijmnaaOwn
import Derived.Test.YthdjojindijmnaaLowB
namespace Go.Proofs.Ythdjojindijmnaa
open Go.ChangeShapes Go.WideShapes Go.ChangeAt Go.RowKit Go.Deep

theorem ofLowL_drop {xs : List UInt8} {k : Nat} (h : k < xs.length) : ofLowL (xs.drop k) = bt xs k + 256 * ofLowL (xs.drop (k + 1)) := by
  rw [List.drop_eq_getElem_cons h, ofLowL]
  simp [bt, List.getD, h]
def ofLowFrom (xs : List UInt8) (m k : Nat) : Nat := ofLowL ((xs.take m).drop k)
theorem ofLowFrom_step {xs : List UInt8} {m k : Nat} (hk : k < m) (hm : m ≤ xs.length) : ofLowFrom xs m k = bt xs k + 256 * ofLowFrom xs m (k + 1) := by
  unfold ofLowFrom
  rw [ofLowL_drop (by rw [List.length_take]; omega), bt_take hk]
theorem ofLowFrom_lt {xs : List UInt8} {m k : Nat} (hm : m ≤ xs.length) (h8 : m ≤ 8) (hk : 1 ≤ k) : ofLowFrom xs m k < 72057594037927936 := by
  unfold ofLowFrom
  refine Nat.lt_of_lt_of_le (ofLowL_lt _) (Nat.pow_le_pow_right (by omega) (show _ ≤ 7 from ?_))
  rw [List.length_drop, List.length_take]
  omega

set_option maxHeartbeats 400000 in
theorem refOfLow_calls {A : Option Addr} {n c : Nat} {m : Nat} {xs : List UInt8} {w : World} (h : Bs w A n c xs) (hm8 : m ≤ 8) (hmn : m ≤ n) (hM : (if (8 : Int) < (n : Int) then 8 else (n : Int)) = (m : Int)) :
    Calls Try.prog 13 #[.slice A n c] w fun e w' => e = .returned (.int .u64 (ofLowL (xs.take m) : Int)) ∧ w' = w := by
  have h1 := h.le
  have h2 := h.cap
  have hz : ofLowFrom xs m m = 0 := by unfold ofLowFrom; rw [List.drop_of_length_le (by rw [List.length_take]; omega)]; rfl
  have hz' := Lib.hid hz
  clear hz
  go_enter Try.func13, Try.ntmps13
  go_wp2
  clear hM
  go_loop [3, 4] (fun x i => ∃ k : Nat, k ≤ m ∧ i = .int .i64 ((k : Int) - 1) ∧ x = .int .u64 (ofLowFrom xs m k : Int)) (fun _ i => (intOf i + 1).toNat)
  case atStart => exact ⟨m, Nat.le_refl _, rfl, by rw [hz'.out]; rfl⟩
  case round =>
    obtain ⟨k, hk, rfl, rfl⟩ := hrel
    rcases Nat.eq_zero_or_pos k with rfl | hpos
    · go_wp2
      go_ret
      exact ⟨ret_int (by unfold ofLowFrom; rw [List.drop_zero]), rfl⟩
    · obtain ⟨j, rfl⟩ : ∃ j, k = j + 1 := ⟨k - 1, by omega⟩
      obtain ⟨b, off, rfl, hb, hc⟩ := h.pos (by omega)
      have g1 := hc j (by omega)
      have hbt := bt_lt xs j
      have hlt2 := ofLowFrom_lt (xs := xs) (m := m) (k := j + 1) (by rw [h.len]; omega) hm8 (by omega)
      have hst : Hid ((ofLowFrom xs m (j + 1) : Int) * 256 + (bt xs j : Int) = (ofLowFrom xs m j : Int)) := by
        unfold Hid
        rw [ofLowFrom_step (show j < m by omega) (by rw [h.len]; omega)]
        omega
      clear hc
      go_wp2
      exact ⟨⟨j, by omega, rfl, congrArg (Value.int .u64) hst.out⟩, by simp [intOf]⟩
end Go.Proofs.Ythdjojindijmnaa
