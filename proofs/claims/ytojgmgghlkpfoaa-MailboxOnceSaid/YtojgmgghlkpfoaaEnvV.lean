/-
  head.validEnvelope; an envelope's cells.
-/
import Derived.Test.YtojgmgghlkpfoaaHeadB
namespace Go.Proofs.Ytojgmgghlkpfoaa
open Go.ChangeShapes Go.WideShapes Go.ChangeAt Go.RowKit Go.Deep
set_option maxRecDepth 100000

/-- the cells of an envelope -/
def evC (f t : Int) (cm pk : List UInt8) (p n : Int) (A : Option Addr) (m c : Nat) : List Value := [.int .i64 f, .int .i64 t] ++ (cellsOf cm ++ (hdC pk p n ++ [.slice A m c]))
theorem evC_len {cm pk : List UInt8} (hc : cm.length = 32) (hk : pk.length = 32) (f t p n : Int) (A : Option Addr) (m c : Nat) : (evC f t cm pk p n A m c).length = 69 := by simp [evC, hdC_len hk, cellsOf_len, hc]
def okE (f t p n : Int) (m : Nat) : Bool := upB f 7 && (upB t 7 && (okH p n && decide ((m : Int) ≤ 600)))
theorem ev_cells {cm pk : List UInt8} (hc : cm.length = 32) (hk : pk.length = 32) (f t p n : Int) (A : Option Addr) (m c : Nat) :
    (evC f t cm pk p n A m c)[0]? = some (.int .i64 f) ∧ (evC f t cm pk p n A m c)[1]? = some (.int .i64 t) ∧ (evC f t cm pk p n A m c)[68]? = some (.slice A m c) ∧
    evC f t cm pk p n A m c = ([.int .i64 f, .int .i64 t] ++ cellsOf cm) ++ (hdC pk p n ++ [.slice A m c]) ∧ evC f t cm pk p n A m c = [.int .i64 f, .int .i64 t] ++ (cellsOf cm ++ (hdC pk p n ++ [.slice A m c])) := by
  refine ⟨rfl, rfl, ?_, by simp [evC], rfl⟩
  unfold evC
  rw [List.getElem?_append_right (by simp), List.getElem?_append_right (by simp [cellsOf_len, hc]), List.getElem?_append_right (by simp [cellsOf_len, hc, hdC_len hk])]
  simp [cellsOf_len, hc, hdC_len hk]
set_option maxHeartbeats 4000000 in
theorem validEnvelope_calls {w : World} {f t p n : Int} {cm pk : List UInt8} {A : Option Addr} {m c : Nat} (hc : cm.length = 32) (hk : pk.length = 32) (hm : m ≤ 9223372036854775807) : Calls Try.prog 40 #[.agg (evC f t cm pk p n A m c).toArray] w fun e w' => e = .returned (.bool (okE f t p n m)) ∧ Ext w w' := by
  have UP : Hid (∀ (W : World) (z : Int), Calls Try.prog 49 #[.int .i64 z, .int .i64 7] W fun e w' => e = .returned (.bool (upB z 7)) ∧ Ext W w') := fun W z => upTo_calls
  have VH := Lib.hid (fun (W : World) => validHead_calls (w := W) (p := p) (n := n) hk)
  obtain ⟨c0, c1, c68, ch, c5⟩ := ev_cells hc hk f t p n A m c
  clear c5
  replace c0 := Lib.hid c0
  replace c1 := Lib.hid c1
  replace c68 := Lib.hid c68
  replace ch := Lib.hid (fun _ : Unit => ch)
  have hR : Hid (okE f t p n m = (upB f 7 && (upB t 7 && (okH p n && decide ((m : Int) ≤ 600))))) := rfl
  have L_h := hdC_len hk p n
  have l2 : ([Value.int .i64 f, .int .i64 t] ++ cellsOf cm).length = 34 := by simp [cellsOf_len, hc]
  generalize okE f t p n m = ok at *
  generalize evC f t cm pk p n A m c = ev at *
  generalize hdC pk p n = hd at *
  have H34 : Hid (∀ (W : World) (g : Nat) T, Cb W g T ev → ∀ j v, hd[j]? = some v → W.cell? ⟨g, 34 + j, none⟩ = some v) := fun W g T k => k.mid (ch.out ()) l2
  clear ch
  have B0 : Hid (Cb (w.alloc (Obj.cells ev.toArray 35)) w.heap.size 35 ev ∧ Ext w (w.alloc (Obj.cells ev.toArray 35))) := ⟨Cb.new _ _ _, (Ext.refl w).alloc _⟩
  go_enter Try.func40, Try.ntmps40
  go_upto_region 1 with fail
  refine wp_gen (fun W => Cb W w.heap.size 35 ev ∧ Ext w W) B0.out ?_
  clear B0
  rintro w0 ⟨k0, x0⟩
  have b0 := k0.cell c0.out
  replace k0 := Lib.hid k0
  replace x0 := Lib.hid x0
  go_wp2_with fail
  refine (UP.out _ _).mono ?_
  rintro e w1 ⟨rfl, e1⟩
  have k1 := Lib.hid (k0.out.ext e1)
  have b1 := k1.out.cell c1.out
  have x1 := Lib.hid (x0.out.trans e1)
  clear b0 k0 x0 e1
  rcases hf : upB f 7 with _ | _
  · have hR2 : Hid (ok = false) := by unfold Hid; rw [hR.out, hf]; rfl
    clear b1 hR hf
    go_wp2_with fail
    go_ret
    exact ⟨by rw [hR2.out]; rfl, x1.out⟩
  replace hf := Lib.hid hf
  go_wp2_with fail
  refine (UP.out _ _).mono ?_
  rintro e w2 ⟨rfl, e2⟩
  have k2 := Lib.hid (k1.out.ext e2)
  have b2 := Lib.hid (H34.out _ _ _ k2.out)
  have x2 := Lib.hid (x1.out.trans e2)
  clear b1 k1 x1 e2
  rcases ht : upB t 7 with _ | _
  · have hR2 : Hid (ok = false) := by unfold Hid; rw [hR.out, ht, hf.out]; rfl
    clear b2 hR ht hf
    go_wp2_with fail
    go_ret
    exact ⟨by rw [hR2.out]; rfl, x2.out⟩
  replace ht := Lib.hid ht
  go_wp2_with (refine wpList_load_mid rfl (g := w.heap.size) (off := 34) (ys := hd) rfl rfl b2.out rfl rfl (by rw [L_h]; rfl) ?_; simp only [Act.put, List.setIfInBounds_toArray, List.set_cons_zero, List.set_cons_succ])
  refine (VH.out _).mono ?_
  rintro e w3 ⟨rfl, e3⟩
  have k3 := Lib.hid (k2.out.ext e3)
  have b3 := k3.out.cell c68.out
  have x3 := Lib.hid (x2.out.trans e3)
  clear b2 k2 x2 e3
  rcases ho : okH p n with _ | _
  · have hR2 : Hid (ok = false) := by unfold Hid; rw [hR.out, ht.out, hf.out, ho]; rfl
    clear b3 hR ht hf ho
    go_wp2_with fail
    go_ret
    exact ⟨by rw [hR2.out]; rfl, x3.out⟩
  have hR2 : Hid (ok = decide ((m : Int) ≤ 600)) := by unfold Hid; rw [hR.out, ht.out, hf.out, ho]; rfl
  clear hR ht hf ho
  go_wp2_with fail
  go_ret
  exact ⟨by rw [hR2.out]; rfl, x3.out⟩
end Go.Proofs.Ytojgmgghlkpfoaa
