/-
  octets.Same tells whether two rows of bytes are the same.
-/
import Derived.Test.YtdecfofjcpnilaaDoorBase
namespace Go.Proofs.YtdecfofjcpnilaaDoor
open Go.ChangeShapes Go.WideShapes Go.ChangeAt Go.RowKit Go.Deep

/-- What the differences of the first k bytes come to. -/
def differ (xs ys : List UInt8) : Nat → Nat
  | 0 => 0
  | k + 1 => differ xs ys k ||| (bt xs k ^^^ bt ys k)

theorem differ_lt (xs ys : List UInt8) : ∀ k, differ xs ys k < 256
  | 0 => by simp [differ]
  | k + 1 => by
    have h := differ_lt xs ys k
    have h1 : bt xs k < 2 ^ 8 := bt_lt xs k
    have h2 : bt ys k < 2 ^ 8 := bt_lt ys k
    exact Nat.or_lt_two_pow (n := 8) h (Nat.xor_lt_two_pow h1 h2)

theorem xor_zero {a b : Nat} (h : a ^^^ b = 0) : a = b := by
  have : a ^^^ b ^^^ b = 0 ^^^ b := by rw [h]
  simpa [Nat.xor_assoc] using this

theorem differ_zero (xs ys : List UInt8) : ∀ k, (differ xs ys k = 0 ↔ ∀ j, j < k → xs.getD j 0 = ys.getD j 0)
  | 0 => by simp [differ]
  | k + 1 => by
    have ih := differ_zero xs ys k
    rw [differ, Nat.or_eq_zero_iff, ih]
    constructor
    · rintro ⟨h1, h2⟩ j hj
      rcases Nat.lt_or_ge j k with h | h
      · exact h1 j h
      · obtain rfl : j = k := by omega
        exact UInt8.toNat_inj.1 (xor_zero h2)
    · intro h
      exact ⟨fun j hj => h j (by omega), by unfold bt; rw [h k (by omega)]; simp⟩

theorem same_iff {xs ys : List UInt8} (h : xs.length = ys.length) : (xs = ys ↔ ∀ j, j < xs.length → xs.getD j 0 = ys.getD j 0) := by
  constructor
  · rintro rfl _ _; rfl
  · intro hh
    refine List.ext_getElem h fun j h1 h2 => ?_
    have := hh j h1
    simpa [List.getD, h1, h2] using this

theorem u8_differ (xs ys : List UInt8) (k : Nat) : bits .or .u8 (differ xs ys k : Int) (bits .xor .u8 (bt xs k : Int) (bt ys k : Int)) = (differ xs ys (k + 1) : Int) := by
  have h := differ_lt xs ys k
  have h1 : bt xs k < 2 ^ 8 := bt_lt xs k
  have h2 : bt ys k < 2 ^ 8 := bt_lt ys k
  rw [u8_xor_nat _ _ h1 h2, u8_or_nat _ _ h (Nat.xor_lt_two_pow (n := 8) h1 h2)]
  rfl

set_option maxHeartbeats 400000 in
theorem same_calls {A A' : Option Addr} {n c n' c' : Nat} {xs ys : List UInt8} {w : World} (h : Bs w A n c xs) (h' : Bs w A' n' c' ys) :
    Calls Tryd.prog 19 #[.slice A n c, .slice A' n' c'] w fun e w' => e = .returned (.bool (decide (xs = ys))) ∧ ∃ k, w' = w.drewN k := by
  have h1 := h.le
  have h2 := h.cap
  have h3 := h'.le
  have h4 := h'.cap
  by_cases hn : n = n'
  · subst hn
    have hl : xs.length = ys.length := h.len.trans h'.len.symm
    have hs : Hid (((differ xs ys n : Int) == 0) = decide (xs = ys)) := by
      unfold Hid
      rw [Bool.eq_iff_iff, decide_eq_true_iff, beq_iff_eq, Int.natCast_eq_zero, differ_zero, same_iff hl, h.len]
    have hl' := Lib.hid hl
    clear hl
    go_enter Tryd.func19, Tryd.ntmps19
    go_wp2
    go_loopw [5, 14] (fun d i wr => ∃ k m : Nat, k ≤ n ∧ i = .int .i64 k ∧ d = .int .u8 (differ xs ys k) ∧ wr = w.drewN m) (fun _ i _ => n - (intOf i).toNat)
    case atStart => exact ⟨0, 0, Nat.zero_le _, rfl, rfl, rfl⟩
    case round =>
      obtain ⟨k, m, hk, rfl, rfl, rfl⟩ := hrel
      by_cases hlt : k < n
      · obtain ⟨b, off, rfl, hb, hc⟩ := h.pos (by omega)
        obtain ⟨b', off', rfl, hb', hc'⟩ := h'.pos (by omega)
        have g1 := hc k hlt
        have g2 := hc' k hlt
        have hu := Lib.hid (u8_differ xs ys k)
        clear hc hc'
        go_wp2
        go_quiet (fail)
        go_wp2
        go_roundw
        case rel => exact ⟨k + 1, _, by omega, by go_num, by rw [← hu.out], rfl⟩
        case measure => simp [intOf]; omega
      · obtain rfl : k = n := by omega
        go_wp2
        go_ret
        exact ⟨ret_bool hs.out, m, rfl⟩
  · have hb : ((n : Int) != (n' : Int)) = true := by rw [bne_iff_ne]; omega
    go_enter Tryd.func19, Tryd.ntmps19
    go_wp2
    go_ret
    refine ⟨?_, 0, rfl⟩
    have : xs ≠ ys := fun e => hn (by rw [← h.len, ← h'.len, e])
    simp [this]

theorem same_ext {A A' : Option Addr} {n c n' c' : Nat} {xs ys : List UInt8} {w : World} {r : Bool} (h : Bs w A n c xs) (h' : Bs w A' n' c' ys) (hr : decide (xs = ys) = r) :
    Calls Tryd.prog 19 #[.slice A n c, .slice A' n' c'] w fun e w' => e = .returned (.bool r) ∧ Ext w w' :=
  (same_calls h h').mono fun _ _ ⟨he, k, hk⟩ => ⟨by rw [he, hr], by rw [hk]; exact (Ext.refl w).drewN k⟩
end Go.Proofs.YtdecfofjcpnilaaDoor
