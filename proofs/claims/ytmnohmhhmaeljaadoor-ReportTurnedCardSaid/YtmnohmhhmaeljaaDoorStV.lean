/-
  Layer 16: the tests of numbers and of stamps, the program's and the document's.
-/
import Derived.Test.YtmnohmhhmaeljaaDoorStC
import Derived.Test.YtmnohmhhmaeljaaDoorEvC
namespace Go.Proofs.YtmnohmhhmaeljaaDoor
open Go.ChangeShapes Go.WideShapes Go.ChangeAt Go.RowKit Go.Deep
set_option maxRecDepth 100000

/-- May a stamp be? -/
def okS (ep f t tm : Int) : Bool := ((upB ep 1000000 && upB tm 1000000) && upB f 7) && upB t 7
theorem isTime_calls {w : World} {z : Int} : Calls Tryd.prog 85 #[.int .i64 z] w fun e w' => e = .returned (.bool (upB z 1000000)) ∧ Ext w w' := by
  by_cases h1 : 0 ≤ z
  · have d1 : decide (0 ≤ z) = true := decide_eq_true h1
    by_cases h2 : z ≤ 1000000
    · have d2 : decide (z ≤ 1000000) = true := decide_eq_true h2
      have d3 : decide (z < 1000001) = true := decide_eq_true (by omega)
      have hb : Hid (upB z 1000000 = true) := by unfold Hid upB; rw [decide_eq_true h1, d2]; rfl
      go_enter Tryd.func85, Tryd.ntmps85
      go_wp2_with fail
      go_ret
      exact ⟨by rw [hb.out]; rfl, Ext.refl _⟩
    · have d2 : decide (z ≤ 1000000) = false := decide_eq_false h2
      have d3 : decide (z < 1000001) = false := decide_eq_false (by omega)
      have hb : Hid (upB z 1000000 = false) := by unfold Hid upB; rw [decide_eq_true h1, d2]; rfl
      go_enter Tryd.func85, Tryd.ntmps85
      go_wp2_with fail
      go_ret
      exact ⟨by rw [hb.out]; rfl, Ext.refl _⟩
  · have d1 : decide (0 ≤ z) = false := decide_eq_false h1
    have hb : Hid (upB z 1000000 = false) := by unfold Hid upB; rw [decide_eq_false h1]; rfl
    go_enter Tryd.func85, Tryd.ntmps85
    go_wp2_with fail
    go_ret
    exact ⟨by rw [hb.out]; rfl, Ext.refl _⟩
theorem isAccount_calls {w : World} {z : Int} : Calls Tryd.prog 118 #[.int .i64 z] w fun e w' => e = .returned (.bool (upB z 7)) ∧ Ext w w' := by
  by_cases h1 : 0 ≤ z
  · have d1 : decide (0 ≤ z) = true := decide_eq_true h1
    by_cases h2 : z ≤ 7
    · have d2 : decide (z ≤ 7) = true := decide_eq_true h2
      have d3 : decide (z < 8) = true := decide_eq_true (by omega)
      have hb : Hid (upB z 7 = true) := by unfold Hid upB; rw [decide_eq_true h1, d2]; rfl
      go_enter Tryd.func118, Tryd.ntmps118
      go_wp2_with fail
      go_ret
      exact ⟨by rw [hb.out]; rfl, Ext.refl _⟩
    · have d2 : decide (z ≤ 7) = false := decide_eq_false h2
      have d3 : decide (z < 8) = false := decide_eq_false (by omega)
      have hb : Hid (upB z 7 = false) := by unfold Hid upB; rw [decide_eq_true h1, d2]; rfl
      go_enter Tryd.func118, Tryd.ntmps118
      go_wp2_with fail
      go_ret
      exact ⟨by rw [hb.out]; rfl, Ext.refl _⟩
  · have d1 : decide (0 ≤ z) = false := decide_eq_false h1
    have hb : Hid (upB z 7 = false) := by unfold Hid upB; rw [decide_eq_false h1]; rfl
    go_enter Tryd.func118, Tryd.ntmps118
    go_wp2_with fail
    go_ret
    exact ⟨by rw [hb.out]; rfl, Ext.refl _⟩
theorem rTime_calls {w : World} {z : Int} : Calls Tryd.prog 92 #[.int .i64 z] w fun e w' => e = .returned (.bool (upB z 1000000)) ∧ Ext w w' := by
  by_cases h1 : 0 ≤ z
  · have d1 : decide (0 ≤ z) = true := decide_eq_true h1
    by_cases h2 : z ≤ 1000000
    · have d2 : decide (z ≤ 1000000) = true := decide_eq_true h2
      have d3 : decide (z < 1000001) = true := decide_eq_true (by omega)
      have hb : Hid (upB z 1000000 = true) := by unfold Hid upB; rw [decide_eq_true h1, d2]; rfl
      go_enter Tryd.func92, Tryd.ntmps92
      go_wp2_with fail
      go_ret
      exact ⟨by rw [hb.out]; rfl, Ext.refl _⟩
    · have d2 : decide (z ≤ 1000000) = false := decide_eq_false h2
      have d3 : decide (z < 1000001) = false := decide_eq_false (by omega)
      have hb : Hid (upB z 1000000 = false) := by unfold Hid upB; rw [decide_eq_true h1, d2]; rfl
      go_enter Tryd.func92, Tryd.ntmps92
      go_wp2_with fail
      go_ret
      exact ⟨by rw [hb.out]; rfl, Ext.refl _⟩
  · have d1 : decide (0 ≤ z) = false := decide_eq_false h1
    have hb : Hid (upB z 1000000 = false) := by unfold Hid upB; rw [decide_eq_false h1]; rfl
    go_enter Tryd.func92, Tryd.ntmps92
    go_wp2_with fail
    go_ret
    exact ⟨by rw [hb.out]; rfl, Ext.refl _⟩
theorem raccount_calls {w : World} {z : Int} : Calls Tryd.prog 100 #[.int .i64 z] w fun e w' => e = .returned (.bool (upB z 7)) ∧ Ext w w' := by
  by_cases h1 : 0 ≤ z
  · have d1 : decide (0 ≤ z) = true := decide_eq_true h1
    by_cases h2 : z ≤ 7
    · have d2 : decide (z ≤ 7) = true := decide_eq_true h2
      have d3 : decide (z < 8) = true := decide_eq_true (by omega)
      have hb : Hid (upB z 7 = true) := by unfold Hid upB; rw [decide_eq_true h1, d2]; rfl
      go_enter Tryd.func100, Tryd.ntmps100
      go_wp2_with fail
      go_ret
      exact ⟨by rw [hb.out]; rfl, Ext.refl _⟩
    · have d2 : decide (z ≤ 7) = false := decide_eq_false h2
      have d3 : decide (z < 8) = false := decide_eq_false (by omega)
      have hb : Hid (upB z 7 = false) := by unfold Hid upB; rw [decide_eq_true h1, d2]; rfl
      go_enter Tryd.func100, Tryd.ntmps100
      go_wp2_with fail
      go_ret
      exact ⟨by rw [hb.out]; rfl, Ext.refl _⟩
  · have d1 : decide (0 ≤ z) = false := decide_eq_false h1
    have hb : Hid (upB z 7 = false) := by unfold Hid upB; rw [decide_eq_false h1]; rfl
    go_enter Tryd.func100, Tryd.ntmps100
    go_wp2_with fail
    go_ret
    exact ⟨by rw [hb.out]; rfl, Ext.refl _⟩
set_option maxHeartbeats 2000000 in
theorem valid16_calls {w : World} {ep f t tm : Int} {cm tg : List UInt8} : Calls Tryd.prog 84 #[.agg (stC ep f t tm cm tg).toArray] w fun e w' => e = .returned (.bool (okS ep f t tm)) ∧ Ext w w' := by
  have TI : Hid (∀ (W : World) (z : Int), Calls Tryd.prog 85 #[.int .i64 z] W fun e w' => e = .returned (.bool (upB z 1000000)) ∧ Ext W w') := fun W z => isTime_calls
  have AC : Hid (∀ (W : World) (z : Int), Calls Tryd.prog 118 #[.int .i64 z] W fun e w' => e = .returned (.bool (upB z 7)) ∧ Ext W w') := fun W z => isAccount_calls
  have c0 : Hid ((stC ep f t tm cm tg)[0]? = some (.int .i64 ep)) := rfl
  have c1 : Hid ((stC ep f t tm cm tg)[1]? = some (.int .i64 f)) := rfl
  have c2 : Hid ((stC ep f t tm cm tg)[2]? = some (.int .i64 t)) := rfl
  have c3 : Hid ((stC ep f t tm cm tg)[3]? = some (.int .i64 tm)) := rfl
  have hR : Hid (okS ep f t tm = (((upB ep 1000000 && upB tm 1000000) && upB f 7) && upB t 7)) := rfl
  generalize okS ep f t tm = ok at *
  generalize stC ep f t tm cm tg = st at *
  have B0 : Hid (Cb (w.alloc (Obj.cells st.toArray 26)) w.heap.size 26 st ∧ Ext w (w.alloc (Obj.cells st.toArray 26))) := ⟨Cb.new _ _ _, (Ext.refl w).alloc _⟩
  go_enter Tryd.func84, Tryd.ntmps84
  go_upto_region 1 with fail
  refine wp_gen (fun W => Cb W w.heap.size 26 st ∧ Ext w W) B0.out ?_
  clear B0
  rintro w0 ⟨k0, x0⟩
  have b0 := k0.cell c0.out
  replace k0 := Lib.hid k0
  replace x0 := Lib.hid x0
  go_wp2_with fail
  refine (TI.out _ _).mono ?_
  rintro e w1 ⟨rfl, e1⟩
  have k1 := Lib.hid (k0.out.ext e1)
  have b1 := k1.out.cell c3.out
  have x1 := Lib.hid (x0.out.trans e1)
  clear b0 k0 x0 e1
  rcases h1 : upB ep 1000000 with _ | _
  · have hR2 : Hid (ok = false) := by unfold Hid; rw [hR.out, h1]; rfl
    clear b1 hR h1
    go_wp2_with fail
    go_ret
    exact ⟨by rw [hR2.out]; rfl, x1.out⟩
  replace h1 := Lib.hid h1
  go_wp2_with fail
  refine (TI.out _ _).mono ?_
  rintro e w2 ⟨rfl, e2⟩
  have k2 := Lib.hid (k1.out.ext e2)
  have b2 := k2.out.cell c1.out
  have x2 := Lib.hid (x1.out.trans e2)
  clear b1 k1 x1 e2
  rcases h2 : upB tm 1000000 with _ | _
  · have hR2 : Hid (ok = false) := by unfold Hid; rw [hR.out, h1.out, h2]; rfl
    clear b2 hR h1 h2
    go_wp2_with fail
    go_ret
    exact ⟨by rw [hR2.out]; rfl, x2.out⟩
  replace h2 := Lib.hid h2
  go_wp2_with fail
  refine (AC.out _ _).mono ?_
  rintro e w3 ⟨rfl, e3⟩
  have k3 := Lib.hid (k2.out.ext e3)
  have b3 := k3.out.cell c2.out
  have x3 := Lib.hid (x2.out.trans e3)
  clear b2 k2 x2 e3
  rcases h3 : upB f 7 with _ | _
  · have hR2 : Hid (ok = false) := by unfold Hid; rw [hR.out, h1.out, h2.out, h3]; rfl
    clear b3 hR h1 h2 h3
    go_wp2_with fail
    go_ret
    exact ⟨by rw [hR2.out]; rfl, x3.out⟩
  have hR2 : Hid (upB t 7 = ok) := by unfold Hid; rw [hR.out, h1.out, h2.out, h3]; rfl
  clear hR h1 h2 h3
  go_wp2_with fail
  refine (AC.out _ _).mono ?_
  rintro e w4 ⟨rfl, e4⟩
  have x4 := Lib.hid (x3.out.trans e4)
  rw [hR2.out]
  clear b3 k3 x3 e4 hR2
  go_wp2_with fail
  go_ret
  exact ⟨rfl, x4.out⟩
set_option maxHeartbeats 2000000 in
theorem right16_calls {w : World} {ep f t tm : Int} {cm tg : List UInt8} : Calls Tryd.prog 93 #[.agg (stC ep f t tm cm tg).toArray] w fun e w' => e = .returned (.bool (okS ep f t tm)) ∧ Ext w w' := by
  have TI : Hid (∀ (W : World) (z : Int), Calls Tryd.prog 92 #[.int .i64 z] W fun e w' => e = .returned (.bool (upB z 1000000)) ∧ Ext W w') := fun W z => rTime_calls
  have AC : Hid (∀ (W : World) (z : Int), Calls Tryd.prog 100 #[.int .i64 z] W fun e w' => e = .returned (.bool (upB z 7)) ∧ Ext W w') := fun W z => raccount_calls
  have c0 : Hid ((stC ep f t tm cm tg)[0]? = some (.int .i64 ep)) := rfl
  have c1 : Hid ((stC ep f t tm cm tg)[1]? = some (.int .i64 f)) := rfl
  have c2 : Hid ((stC ep f t tm cm tg)[2]? = some (.int .i64 t)) := rfl
  have c3 : Hid ((stC ep f t tm cm tg)[3]? = some (.int .i64 tm)) := rfl
  have hR : Hid (okS ep f t tm = (((upB ep 1000000 && upB tm 1000000) && upB f 7) && upB t 7)) := rfl
  generalize okS ep f t tm = ok at *
  generalize stC ep f t tm cm tg = st at *
  have B0 : Hid (Cb (w.alloc (Obj.cells st.toArray 26)) w.heap.size 26 st ∧ Ext w (w.alloc (Obj.cells st.toArray 26))) := ⟨Cb.new _ _ _, (Ext.refl w).alloc _⟩
  go_enter Tryd.func93, Tryd.ntmps93
  go_upto_region 1 with fail
  refine wp_gen (fun W => Cb W w.heap.size 26 st ∧ Ext w W) B0.out ?_
  clear B0
  rintro w0 ⟨k0, x0⟩
  have b0 := k0.cell c0.out
  replace k0 := Lib.hid k0
  replace x0 := Lib.hid x0
  go_wp2_with fail
  refine (TI.out _ _).mono ?_
  rintro e w1 ⟨rfl, e1⟩
  have k1 := Lib.hid (k0.out.ext e1)
  have b1 := k1.out.cell c3.out
  have x1 := Lib.hid (x0.out.trans e1)
  clear b0 k0 x0 e1
  rcases h1 : upB ep 1000000 with _ | _
  · have hR2 : Hid (ok = false) := by unfold Hid; rw [hR.out, h1]; rfl
    clear b1 hR h1
    go_wp2_with fail
    go_ret
    exact ⟨by rw [hR2.out]; rfl, x1.out⟩
  replace h1 := Lib.hid h1
  go_wp2_with fail
  refine (TI.out _ _).mono ?_
  rintro e w2 ⟨rfl, e2⟩
  have k2 := Lib.hid (k1.out.ext e2)
  have b2 := k2.out.cell c1.out
  have x2 := Lib.hid (x1.out.trans e2)
  clear b1 k1 x1 e2
  rcases h2 : upB tm 1000000 with _ | _
  · have hR2 : Hid (ok = false) := by unfold Hid; rw [hR.out, h1.out, h2]; rfl
    clear b2 hR h1 h2
    go_wp2_with fail
    go_ret
    exact ⟨by rw [hR2.out]; rfl, x2.out⟩
  replace h2 := Lib.hid h2
  go_wp2_with fail
  refine (AC.out _ _).mono ?_
  rintro e w3 ⟨rfl, e3⟩
  have k3 := Lib.hid (k2.out.ext e3)
  have b3 := k3.out.cell c2.out
  have x3 := Lib.hid (x2.out.trans e3)
  clear b2 k2 x2 e3
  rcases h3 : upB f 7 with _ | _
  · have hR2 : Hid (ok = false) := by unfold Hid; rw [hR.out, h1.out, h2.out, h3]; rfl
    clear b3 hR h1 h2 h3
    go_wp2_with fail
    go_ret
    exact ⟨by rw [hR2.out]; rfl, x3.out⟩
  have hR2 : Hid (upB t 7 = ok) := by unfold Hid; rw [hR.out, h1.out, h2.out, h3]; rfl
  clear hR h1 h2 h3
  go_wp2_with fail
  refine (AC.out _ _).mono ?_
  rintro e w4 ⟨rfl, e4⟩
  have x4 := Lib.hid (x3.out.trans e4)
  rw [hR2.out]
  clear b3 k3 x3 e4 hR2
  go_wp2_with fail
  go_ret
  exact ⟨rfl, x4.out⟩
end Go.Proofs.YtmnohmhhmaeljaaDoor
