/-
  OctetsTwice: turned twice bytes are as they were; a number's bytes are read as it was, either way.
-/
import Derived.Test.YtgmolahjmciegaaOfHigh
import Derived.Deep.RegionHeld3
namespace Go.Proofs.Ytgmolahjmciegaa
open Go.ChangeShapes Go.WideShapes Go.ChangeAt Go.RowKit Go.Deep

theorem xorL_xorL : ∀ {xs ys : List UInt8}, xs.length = ys.length → xorL (xorL xs ys) ys = xs
  | [], [], _ => rfl
  | x :: xs, y :: ys, h => by
    have ih := xorL_xorL (xs := xs) (ys := ys) (by simpa using h)
    simp only [xorL, List.zipWith_cons_cons] at *
    rw [ih, UInt8.xor_assoc, UInt8.xor_self, UInt8.xor_zero]

set_option maxHeartbeats 1000000 in
theorem twice_calls {A A' : Option Addr} {n c n' c' : Nat} {xs ys : List UInt8} {z : Nat} {w : World} (h : Bs w A n c xs) (h' : Bs w A' n' c' ys) (hz : z < 18446744073709551616) :
    Calls Try.prog 7 #[.slice A n c, .slice A' n' c', .int .u64 (z : Int)] w fun e w' => e = .returned (.bool true) ∧ Ext w w' := by
  have h1 := h.le
  have h2 := h.cap
  have h3 := h'.le
  have h4 := h'.cap
  by_cases q1 : 500 < n
  · go_enter Try.func7, Try.ntmps7
    go_wp2_with fail
    refine (awake_calls _).mono ?_
    rintro e w1 ⟨rfl, he1⟩
    go_wp2_with fail
    go_ret
    exact ⟨rfl, he1⟩
  by_cases q2 : 500 < n'
  · go_enter Try.func7, Try.ntmps7
    go_wp2_with fail
    refine (awake_calls _).mono ?_
    rintro e w1 ⟨rfl, he1⟩
    go_wp2_with fail
    go_ret
    exact ⟨rfl, he1⟩
  obtain ⟨m, hM, hm1, hm2⟩ : ∃ m : Nat, (if n' < n then (n' : Int) else (n : Int)) = (m : Int) ∧ m ≤ n ∧ m ≤ n' := by
    by_cases hq : n' < n
    · exact ⟨n', by rw [if_pos (by omega)], by omega, by omega⟩
    · exact ⟨n, by rw [if_neg (by omega)], by omega, by omega⟩
  have q1' : decide ((500 : Int) < (n : Int)) = false := by simp; omega
  have q2' : decide ((500 : Int) < (n' : Int)) = false := by simp; omega
  have m1 : m ≤ c := by omega
  have m2 : m ≤ c' := by omega
  go_enter Try.func7, Try.ntmps7
  go_wp2_with fail
  refine (awake_calls _).mono ?_
  rintro e w1 ⟨rfl, he1⟩
  go_wp2_with fail
  go_region_with (go_at_call 10; refine (xor_calls ((h.ext he1.drew).take hm1) ((h'.ext he1.drew).take hm2) (by omega)).mono ?_; rintro e w2 ⟨A2, n2, c2, rfl, hb2, he2⟩)
  clear hM
  have hn2 : n2 = m := by have := hb2.len; rw [xorL_len (by simp [h.len, h'.len]; omega), List.length_take, h.len] at this; omega
  subst hn2
  go_wp2_with fail
  refine (xor_calls hb2 (((h'.ext he1.drew).take hm2).ext he2) (by omega)).mono ?_
  rintro e w3 ⟨A3, n3, c3, rfl, hb3, he3⟩
  go_wp2_with fail
  have hx : xorL (xorL (List.take n2 xs) (List.take n2 ys)) (List.take n2 ys) = List.take n2 xs := xorL_xorL (by simp [h.len, h'.len]; omega)
  rw [hx] at hb3
  clear hx
  have keep : ∀ w', Ext w3 w' → Sem.run Try.prog (convert 22 9 (.slice A3 n3 c3)) w' = .ok (.string (strL (xs.take n2))) w' ∧ Sem.run Try.prog (convert 22 9 (.slice A n2 c)) w' = .ok (.string (strL (xs.take n2))) w' ∧ Ext w3 w' :=
    fun w' hE => ⟨conv_bs (hb3.ext hE), conv_bs (((h.ext he1.drew).take hm1).ext ((he2.trans he3).trans hE)), hE⟩
  have KEEP := Lib.hid keep
  clear keep
  have z8 : ((z % 256 ^ 8 : Nat) : Int) = (z : Int) := by omega
  have z2 : ((z % 256 ^ 2 : Nat) : Int) = (z : Int).tmod 65536 := by rw [Int.tmod_eq_emod_of_nonneg (by omega)]; omega
  have Z8 := Lib.hid z8
  have Z2 := Lib.hid z2
  clear z8 z2
  go_region_held3 (fun w' => Sem.run Try.prog (convert 22 9 (.slice A3 n3 c3)) w' = .ok (.string (strL (xs.take n2))) w' ∧ Sem.run Try.prog (convert 22 9 (.slice A n2 c)) w' = .ok (.string (strL (xs.take n2))) w' ∧ Ext w3 w')
    (first
      | exact KEEP.out _ (Ext.refl _).drew
      | (obtain ⟨_, _, hE⟩ := ‹_ ∧ _ ∧ Ext w3 _›; first | exact KEEP.out _ hE | exact KEEP.out _ (hE.trans (by assumption))))
    (first
    | (go_at_call 18; refine (low_calls (m := 8) hz (by omega) (by omega) (by omega) (by omega)).mono ?_; rintro e w4 ⟨A4, n4, c4, rfl, hb4, he4⟩)
    | (go_at_call 14; refine (ofLow_low hb4 (by omega) Z8.out).mono ?_; rintro e w5 ⟨rfl, rfl⟩)
    | (go_at_call_of 20 (Value.int .i64 8); refine (high_calls (m := 8) hz (by omega) (by omega) (by omega) (by omega)).mono ?_; rintro e w6 ⟨A6, n6, c6, rfl, hb6, he6⟩)
    | (go_at_call_of 16 A6; refine (ofHigh_high hb6 (by omega) Z8.out).mono ?_; rintro e w7 ⟨rfl, he7⟩)
    | (go_at_call_of 20 (Value.int .i64 2); refine (high_calls (m := 2) hz (by omega) (by omega) (by omega) (by omega)).mono ?_; rintro e w8 ⟨A8, n8, c8, rfl, hb8, he8⟩)
    | (go_at_call_of 16 A8; refine (ofHigh_high hb8 (by omega) Z2.out).mono ?_; rintro e w9 ⟨rfl, he9⟩))
  go_wp2_with fail
  go_ret
  obtain ⟨_, _, hE⟩ := ‹_ ∧ _ ∧ Ext w3 _›
  exact ⟨ret_bool (by simp), (((he1.drew.trans he2).trans he3).trans hE)⟩
end Go.Proofs.Ytgmolahjmciegaa
