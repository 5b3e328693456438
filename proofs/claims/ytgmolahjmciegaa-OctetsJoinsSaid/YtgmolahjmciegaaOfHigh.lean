/-
  octets.OfHigh: the number of bytes, the highest first; and what the statements ask first: that a small thing works ('awake').
-/
import Derived.Test.YtgmolahjmciegaaLow
namespace Go.Proofs.Ytgmolahjmciegaa
open Go.ChangeShapes Go.WideShapes Go.ChangeAt Go.RowKit Go.Deep

set_option maxHeartbeats 400000 in
theorem ofHigh_calls {A : Option Addr} {n c : Nat} {m : Nat} {xs : List UInt8} {w : World} (h : Bs w A n c xs) (hm8 : m ≤ 8) (hmn : m ≤ n) (hM : (if (8 : Int) < (n : Int) then 8 else (n : Int)) = (m : Int)) :
    Calls Try.prog 16 #[.slice A n c] w fun e w' => e = .returned (.int .u64 (ofLowL (xs.take m).reverse : Int)) ∧ Ext w w' := by
  have h1 := h.le
  have h2 := h.cap
  go_enter Try.func16, Try.ntmps16
  go_wp2_with fail
  refine (reversed_calls (h.take hmn) (by omega)).mono ?_
  rintro e w1 ⟨A1, k, c1, rfl, hb, he⟩
  have hk : k = m := by have := hb.len; rw [List.length_reverse, List.length_take, h.len] at this; omega
  have hk' := Lib.hid hk
  clear hk hM
  go_wp2_with fail
  refine (ofLow_calls (m := m) hb hm8 (by rw [hk'.out]; omega) (by rw [hk'.out, if_neg (by omega)])).mono ?_
  rintro e w2 ⟨rfl, rfl⟩
  go_wp2_with fail
  go_ret
  refine ⟨ret_int ?_, he⟩
  rw [List.take_of_length_le (by rw [hb.len, hk'.out]; omega)]

/-- A literal row of bytes. -/
theorem Bs.lit (w : World) (t : TypeId) (xs : List UInt8) (cs : Array Value) (hcs : cs = (xs.map fun x => Value.int .u8 (x.toNat : Int)).toArray) (n : Nat) (hn : xs.length = n) (hm : n ≤ 1000000) :
    Bs (w.alloc (.cells cs t)) (some ⟨w.heap.size, 0, none⟩) n n xs := by
  subst hcs
  have hr := World.rowIs_alloc w (xs.map fun x => Value.int .u8 (x.toNat : Int)).toArray t (fun i => .int .u8 (bt xs i : Int)) (fun i hi => by
    have hi' : i < xs.length := by simpa using hi
    simp [bt, List.getD, hi'])
  refine ⟨hn, Nat.le_refl _, by unfold maxLen; omega, fun _ => ⟨w.heap.size, 0, rfl, by simp, fun j hj => ?_⟩⟩
  rw [Nat.zero_add]
  exact hr.cell (by simp; omega)

set_option maxHeartbeats 400000 in
theorem awake_calls (w : World) : Calls Try.prog 9 #[] w fun e w' => e = .returned (.bool true) ∧ Ext w w' := by
  go_enter Try.func9, Try.ntmps9
  go_wp2_with fail
  refine (low_calls (n := 258) (many := 3) (m := 3) (by omega) (by omega) (by omega) (by omega) (by omega)).mono ?_
  rintro e w1 ⟨A, n, c, rfl, hb, he⟩
  obtain rfl : n = 3 := by rw [← hb.len, lowL_len]
  obtain ⟨b, off, rfl, hlt, hc⟩ := hb.pos (by omega)
  have c0 : w1.cell? ⟨b, off, none⟩ = some (.int .u8 2) := by simpa [bt_lowL] using hc 0 (by omega)
  have c1 : w1.cell? ⟨b, off + 1, none⟩ = some (.int .u8 1) := by simpa [bt_lowL] using hc 1 (by omega)
  have hle := hb.le
  have hcap := hb.cap
  clear hc
  go_wp2_with fail
  refine (same_ext (r := true) (hb.ext ((Ext.refl _).alloc _)) (Bs.lit w1 _ [2, 1, 0] _ rfl 3 rfl (by omega)) (by decide)).mono ?_
  rintro e w2 ⟨rfl, he2⟩
  go_wp2_with fail
  refine (ofHigh_calls (m := 2) (Bs.lit w2 _ [1, 0] _ rfl 2 rfl (by omega)) (by omega) (by omega) (by omega)).mono ?_
  rintro e w3 ⟨rfl, he3⟩
  go_wp2_with fail
  go_ret
  exact ⟨rfl, ((((Ext.trans he ((Ext.refl _).alloc _)).trans he2).alloc _).trans he3)⟩

theorem lowL_succ (n m : Nat) : lowL n (m + 1) = UInt8.ofNat n :: lowL (n / 256) m := by
  unfold lowL
  rw [List.range_succ_eq_map]
  simp [Nat.pow_succ, Nat.div_div_eq_div_mul, Nat.mul_comm]
theorem ofLowL_lowL : ∀ (m n : Nat), ofLowL (lowL n m) = n % 256 ^ m
  | 0, n => by simp [lowL, ofLowL, Nat.mod_one]
  | m + 1, n => by
    rw [lowL_succ, ofLowL, ofLowL_lowL m, Nat.pow_succ, Nat.mul_comm (256 ^ m) 256, Nat.mod_mul]
    simp

theorem ofLow_low {A : Option Addr} {n c m z : Nat} {r : Int} {w : World} (h : Bs w A n c (lowL z m)) (hm : m ≤ 8) (hr : ((z % 256 ^ m : Nat) : Int) = r) :
    Calls Try.prog 14 #[.slice A n c] w fun e w' => e = .returned (.int .u64 r) ∧ w' = w := by
  have hl := h.len
  rw [lowL_len] at hl
  subst hl
  refine (ofLow_calls (m := m) h hm (by omega) (by rw [if_neg (by omega)])).mono fun e w' ⟨he, hw⟩ => ⟨?_, hw⟩
  rw [he, List.take_of_length_le (by rw [lowL_len]; omega), ofLowL_lowL]
  exact ret_int hr
theorem ofHigh_high {A : Option Addr} {n c m z : Nat} {r : Int} {w : World} (h : Bs w A n c (lowL z m).reverse) (hm : m ≤ 8) (hr : ((z % 256 ^ m : Nat) : Int) = r) :
    Calls Try.prog 16 #[.slice A n c] w fun e w' => e = .returned (.int .u64 r) ∧ Ext w w' := by
  have hl := h.len
  rw [List.length_reverse, lowL_len] at hl
  subst hl
  refine (ofHigh_calls (m := m) h hm (by omega) (by rw [if_neg (by omega)])).mono fun e w' ⟨he, hw⟩ => ⟨?_, hw⟩
  rw [he, List.take_of_length_le (by rw [List.length_reverse, lowL_len]; omega), List.reverse_reverse, ofLowL_lowL]
  exact ret_int hr
end Go.Proofs.Ytgmolahjmciegaa
