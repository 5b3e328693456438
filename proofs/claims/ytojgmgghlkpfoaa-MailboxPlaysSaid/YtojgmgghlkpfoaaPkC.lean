import Derived.Test.YtojgmgghlkpfoaaPkE
import Derived.Test.YtojgmgghlkpfoaaPkI
section
/-
  Reading: a number where the bytes end too early.
-/
namespace Go.Proofs.Ytojgmgghlkpfoaa
open Go.ChangeShapes Go.WideShapes Go.ChangeAt Go.RowKit Go.Deep
set_option maxRecDepth 100000

theorem number_short {w : World} {g n c k : Nat} {A : Option Addr} (h : Cb w g 73 [.slice A n c]) (hk : n < k) (hm : k ≤ 4) :
    Calls Try.prog 43 #[.pointer (some ⟨g, 0, none⟩), .int .i64 (k : Int)] w fun e w' => e = .panicked [faultE 3] ∧ Ext w w' := by
  have TK := Lib.hid (take_short h hk (by omega))
  clear h
  go_enter Try.func43, Try.ntmps43
  go_wp2_with fail
  refine TK.out.mono ?_
  rintro e w1 ⟨rfl, e1⟩
  exact ⟨rfl, rfl, e1⟩
end Go.Proofs.Ytojgmgghlkpfoaa
end

section
/-
  head.Envelope, of an envelope that is not valid.
-/
namespace Go.Proofs.Ytojgmgghlkpfoaa
open Go.ChangeShapes Go.WideShapes Go.ChangeAt Go.RowKit Go.Deep
set_option maxRecDepth 100000

set_option maxHeartbeats 2000000 in
theorem envelope_bad {w : World} {f t p n : Int} {cm pk : List UInt8} {A : Option Addr} {m c : Nat} (hc : cm.length = 32) (hk : pk.length = 32) (hm : m ≤ 9223372036854775807) (hb : okE f t p n m = false) : Calls Try.prog 17 #[.agg (evC f t cm pk p n A m c).toArray] w fun e w' => e = .returned (.tuple #[.slice none 0 0, .int .i64 1]) ∧ Ext w w' := by
  have VE := Lib.hid (fun (W : World) => validEnvelope_calls (w := W) (f := f) (t := t) (p := p) (n := n) (A := A) (m := m) (c := c) hc hk hm)
  rw [hb] at VE
  have L_ev := evC_len hc hk f t p n A m c
  generalize evC f t cm pk p n A m c = ev at *
  have S_ev : ev.toArray.size = 69 := by rw [List.size_toArray, L_ev]
  have B0 : Hid (Cb (w.alloc (Obj.cells ev.toArray 35)) w.heap.size 35 ev ∧ Ext w (w.alloc (Obj.cells ev.toArray 35))) := ⟨Cb.new _ _ _, (Ext.refl w).alloc _⟩
  clear hb
  go_enter Try.func17, Try.ntmps17
  go_upto_region 1 with fail
  refine wp_gen (fun W => Cb W w.heap.size 35 ev ∧ Ext w W) B0.out ?_
  clear B0
  rintro w0 ⟨k0, x0⟩
  replace k0 := Lib.hid k0
  replace x0 := Lib.hid x0
  go_wp2_with (refine wpList_load_row rfl 35 _ rfl w.heap.size rfl 35 ev.toArray (0, 0) _ k0.out rfl rfl (by rw [S_ev]; rfl) ?_; simp only [Act.put, List.setIfInBounds_toArray, List.set_cons_zero, List.set_cons_succ])
  refine (VE.out _).mono ?_
  rintro e w1 ⟨rfl, e1⟩
  go_wp2_with fail
  go_ret2
  exact ⟨rfl, x0.out.trans e1⟩
end Go.Proofs.Ytojgmgghlkpfoaa
end
