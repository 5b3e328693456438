/-
  chacha.doubleRound, chacha.word.
-/
import Derived.Test.YthdjojindijmnaaDoorQu
import Derived.Test.YthdjojindijmnaaDoorWords
import Derived.Test.YthdjojindijmnaaDoorLowB
namespace Go.Proofs.YthdjojindijmnaaDoor
open Go.ChangeShapes Go.WideShapes Go.ChangeAt Go.RowKit Go.Deep

def drL (vs : List Nat) : List Nat := quL (quL (quL (quL (quL (quL (quL (quL vs 0 4 8 12) 1 5 9 13) 2 6 10 14) 3 7 11 15) 0 5 10 15) 1 6 11 12) 2 7 8 13) 3 4 9 14
theorem drL_len (vs : List Nat) : (drL vs).length = vs.length := by simp [drL, quL_len]

set_option maxHeartbeats 1000000 in
theorem dr_calls {g : Nat} {vs : List Nat} {w : World} (h : Arr w g vs) (hl : vs.length = 16) :
    Calls Tryd.prog 70 #[.pointer (some ⟨g, 0, none⟩)] w fun e w' => e = .returned (.tuple #[]) ∧ Arr w' g (drL vs) ∧ w.grownBy w' (some g) := by
  have A0 := Lib.hid h
  have L0 := hl
  have G0 : Hid (w.grownBy w (some g)) := gr_ext (Ext.refl _) _
  clear h
  go_enter Tryd.func70, Tryd.ntmps70
  go_wp2_with fail
  refine (qu_calls A0.out L0 (a := 0) (b := 4) (c := 8) (d := 12) (by omega) (by omega) (by omega) (by omega)).mono ?_
  rintro e w1 ⟨rfl, A1, G1⟩
  replace A1 := Lib.hid A1
  replace G1 := Lib.hid (gr_trans G0.out G1)
  have L1 := (quL_len vs 0 4 8 12).trans L0
  generalize HV1 : quL vs 0 4 8 12 = v1 at A1 L1
  replace HV1 := Lib.hid HV1
  go_wp2_with fail
  refine (qu_calls A1.out L1 (a := 1) (b := 5) (c := 9) (d := 13) (by omega) (by omega) (by omega) (by omega)).mono ?_
  rintro e w2 ⟨rfl, A2, G2⟩
  replace A2 := Lib.hid A2
  replace G2 := Lib.hid (gr_trans G1.out G2)
  have L2 := (quL_len v1 1 5 9 13).trans L1
  generalize HV2 : quL v1 1 5 9 13 = v2 at A2 L2
  replace HV2 := Lib.hid HV2
  go_wp2_with fail
  refine (qu_calls A2.out L2 (a := 2) (b := 6) (c := 10) (d := 14) (by omega) (by omega) (by omega) (by omega)).mono ?_
  rintro e w3 ⟨rfl, A3, G3⟩
  replace A3 := Lib.hid A3
  replace G3 := Lib.hid (gr_trans G2.out G3)
  have L3 := (quL_len v2 2 6 10 14).trans L2
  generalize HV3 : quL v2 2 6 10 14 = v3 at A3 L3
  replace HV3 := Lib.hid HV3
  go_wp2_with fail
  refine (qu_calls A3.out L3 (a := 3) (b := 7) (c := 11) (d := 15) (by omega) (by omega) (by omega) (by omega)).mono ?_
  rintro e w4 ⟨rfl, A4, G4⟩
  replace A4 := Lib.hid A4
  replace G4 := Lib.hid (gr_trans G3.out G4)
  have L4 := (quL_len v3 3 7 11 15).trans L3
  generalize HV4 : quL v3 3 7 11 15 = v4 at A4 L4
  replace HV4 := Lib.hid HV4
  go_wp2_with fail
  refine (qu_calls A4.out L4 (a := 0) (b := 5) (c := 10) (d := 15) (by omega) (by omega) (by omega) (by omega)).mono ?_
  rintro e w5 ⟨rfl, A5, G5⟩
  replace A5 := Lib.hid A5
  replace G5 := Lib.hid (gr_trans G4.out G5)
  have L5 := (quL_len v4 0 5 10 15).trans L4
  generalize HV5 : quL v4 0 5 10 15 = v5 at A5 L5
  replace HV5 := Lib.hid HV5
  go_wp2_with fail
  refine (qu_calls A5.out L5 (a := 1) (b := 6) (c := 11) (d := 12) (by omega) (by omega) (by omega) (by omega)).mono ?_
  rintro e w6 ⟨rfl, A6, G6⟩
  replace A6 := Lib.hid A6
  replace G6 := Lib.hid (gr_trans G5.out G6)
  have L6 := (quL_len v5 1 6 11 12).trans L5
  generalize HV6 : quL v5 1 6 11 12 = v6 at A6 L6
  replace HV6 := Lib.hid HV6
  go_wp2_with fail
  refine (qu_calls A6.out L6 (a := 2) (b := 7) (c := 8) (d := 13) (by omega) (by omega) (by omega) (by omega)).mono ?_
  rintro e w7 ⟨rfl, A7, G7⟩
  replace A7 := Lib.hid A7
  replace G7 := Lib.hid (gr_trans G6.out G7)
  have L7 := (quL_len v6 2 7 8 13).trans L6
  generalize HV7 : quL v6 2 7 8 13 = v7 at A7 L7
  replace HV7 := Lib.hid HV7
  go_wp2_with fail
  refine (qu_calls A7.out L7 (a := 3) (b := 4) (c := 9) (d := 14) (by omega) (by omega) (by omega) (by omega)).mono ?_
  rintro e w8 ⟨rfl, A8, G8⟩
  replace A8 := Lib.hid A8
  replace G8 := Lib.hid (gr_trans G7.out G8)
  have L8 := (quL_len v7 3 4 9 14).trans L7
  generalize HV8 : quL v7 3 4 9 14 = v8 at A8 L8
  replace HV8 := Lib.hid HV8
  go_wp2_with fail
  go_end0
  refine ⟨rfl, ?_, G8.out⟩
  have : drL vs = v8 := by unfold drL; rw [HV1.out, HV2.out, HV3.out, HV4.out, HV5.out, HV6.out, HV7.out, HV8.out]
  rw [this]
  exact A8.out

/-- The words of bytes. -/
def wordAt4 (xs : List UInt8) : Nat := ofLowL (xs.take 4)
theorem ofLow4_lt {xs : List UInt8} (h : xs.length = 4) : ofLowL xs < 4294967296 := by
  have := ofLowL_lt xs
  rw [h] at this
  exact this
set_option maxHeartbeats 400000 in
theorem word_calls {A : Option Addr} {c : Nat} {xs : List UInt8} {w : World} (h : Bs w A 4 c xs) :
    Calls Tryd.prog 75 #[.slice A 4 c] w fun e w' => e = .returned (.int .u32 (ofLowL xs : Int)) ∧ w' = w := by
  have hl := h.len
  have HC := Lib.hid (ofLow_calls (m := 4) h (by omega) (by omega) (by decide))
  have hx : xs.take 4 = xs := List.take_of_length_le (by omega)
  rw [hx] at HC
  have hb := ofLow4_lt hl
  have hcv : IntKind.u32.wrap (ofLowL xs : Int) = (ofLowL xs : Int) := by rw [IntKind.wrap_u32]; omega
  go_enter Tryd.func75, Tryd.ntmps75
  go_wp2_with fail
  refine HC.out.mono ?_
  rintro e w1 ⟨rfl, rfl⟩
  go_wp2_with fail
  go_ret
  exact ⟨rfl, rfl⟩
end Go.Proofs.YthdjojindijmnaaDoor
