/-
  head.upTo and head.validHead.
-/
import Derived.Test.YtbnjmmefnjoofaaDoorFillS
import Derived.Test.YtbnjmmefnjoofaaDoorMid
import Derived.Test.YtbnjmmefnjoofaaDoorEvC
namespace Go.Proofs.YtbnjmmefnjoofaaDoor
open Go.ChangeShapes Go.WideShapes Go.ChangeAt Go.RowKit Go.Deep
set_option maxRecDepth 100000

theorem upTo_calls {w : World} {z m : Int} : Calls Tryd.prog 86 #[.int .i64 z, .int .i64 m] w fun e w' => e = .returned (.bool (upB z m)) ∧ Ext w w' := by
  by_cases h1 : 0 ≤ z
  · have d1 : decide (z ≥ 0) = true := decide_eq_true h1
    by_cases h2 : z ≤ m
    · have d2 : decide (z ≤ m) = true := decide_eq_true h2
      have hb : Hid (upB z m = true) := by unfold Hid upB; rw [decide_eq_true h1, d2]; rfl
      go_enter Tryd.func86, Tryd.ntmps86
      go_wp2_with fail
      go_ret
      exact ⟨by rw [hb.out]; rfl, Ext.refl _⟩
    · have d2 : decide (z ≤ m) = false := decide_eq_false h2
      have hb : Hid (upB z m = false) := by unfold Hid upB; rw [decide_eq_true h1, d2]; rfl
      go_enter Tryd.func86, Tryd.ntmps86
      go_wp2_with fail
      go_ret
      exact ⟨by rw [hb.out]; rfl, Ext.refl _⟩
  · have d1 : decide (z ≥ 0) = false := decide_eq_false h1
    have hb : Hid (upB z m = false) := by unfold Hid upB; rw [decide_eq_false h1]; rfl
    go_enter Tryd.func86, Tryd.ntmps86
    go_wp2_with fail
    go_ret
    exact ⟨by rw [hb.out]; rfl, Ext.refl _⟩
def okH (p n : Int) : Bool := upB p 1000000 && upB n 1000000
set_option maxHeartbeats 1000000 in
theorem validHead_calls {w : World} {pk : List UInt8} {p n : Int} (lp : pk.length = 32) : Calls Tryd.prog 87 #[.agg (hdC pk p n).toArray] w fun e w' => e = .returned (.bool (okH p n)) ∧ Ext w w' := by
  have UP : Hid (∀ (W : World) (z : Int), Calls Tryd.prog 86 #[.int .i64 z, .int .i64 1000000] W fun e w' => e = .returned (.bool (upB z 1000000)) ∧ Ext W w') := fun W z => upTo_calls
  have c32 : Hid ((hdC pk p n)[32]? = some (.int .i64 p)) := by unfold Hid hdC; rw [List.getElem?_append_right (by rw [cellsOf_len, lp]; omega)]; simp [cellsOf_len, lp]
  have c33 : Hid ((hdC pk p n)[33]? = some (.int .i64 n)) := by unfold Hid hdC; rw [List.getElem?_append_right (by rw [cellsOf_len, lp]; omega)]; simp [cellsOf_len, lp]
  have hR : Hid (okH p n = (upB p 1000000 && upB n 1000000)) := rfl
  generalize okH p n = ok at *
  generalize hdC pk p n = hd at *
  have B0 : Hid (Cb (w.alloc (Obj.cells hd.toArray 34)) w.heap.size 34 hd ∧ Ext w (w.alloc (Obj.cells hd.toArray 34))) := ⟨Cb.new _ _ _, (Ext.refl w).alloc _⟩
  go_enter Tryd.func87, Tryd.ntmps87
  go_upto_region 1 with fail
  refine wp_gen (fun W => Cb W w.heap.size 34 hd ∧ Ext w W) B0.out ?_
  clear B0
  rintro w0 ⟨k0, x0⟩
  have b0 := k0.cell c32.out
  replace k0 := Lib.hid k0
  replace x0 := Lib.hid x0
  go_wp2_with fail
  refine (UP.out _ _).mono ?_
  rintro e w1 ⟨rfl, e1⟩
  have b1 := (k0.out.ext e1).cell c33.out
  have x1 := Lib.hid (x0.out.trans e1)
  clear b0 k0 x0 e1
  by_cases hp : upB p 1000000 = true
  · rw [hp] at hR ⊢
    go_wp2_with fail
    refine (UP.out _ _).mono ?_
    rintro e w2 ⟨rfl, e2⟩
    have x2 := Lib.hid (x1.out.trans e2)
    have hR2 : Hid (upB n 1000000 = ok) := by unfold Hid; rw [hR.out]; rfl
    rw [hR2.out]
    clear b1 x1 e2 hR
    go_wp2_with fail
    go_ret
    exact ⟨rfl, x2.out⟩
  · rw [Bool.not_eq_true] at hp
    have hR2 : Hid (ok = false) := by unfold Hid; rw [hR.out, hp]; rfl
    rw [hp]
    clear b1 hR
    go_wp2_with fail
    go_ret
    exact ⟨by rw [hR2.out]; rfl, x1.out⟩
end Go.Proofs.YtbnjmmefnjoofaaDoor
