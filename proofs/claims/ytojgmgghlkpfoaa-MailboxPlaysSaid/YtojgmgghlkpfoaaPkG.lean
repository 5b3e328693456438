import Derived.Test.YtojgmgghlkpfoaaPkI
import Derived.Test.YtojgmgghlkpfoaaPkJ
section
/-
  palfreyref12.Right and RightEnvelope.
-/
namespace Go.Proofs.Ytojgmgghlkpfoaa
open Go.ChangeShapes Go.WideShapes Go.ChangeAt Go.RowKit Go.Deep
set_option maxRecDepth 100000

set_option maxHeartbeats 4000000 in
theorem right_calls {w : World} {pk : List UInt8} {p n : Int} (lp : pk.length = 32) : Calls Try.prog 32 #[.agg (hdC pk p n).toArray] w fun e w' => e = .returned (.bool (okH p n)) ∧ Ext w w' := by
  have c32 : Hid ((hdC pk p n)[32]? = some (.int .i64 p)) := by unfold Hid hdC; rw [List.getElem?_append_right (by rw [cellsOf_len, lp]; omega)]; simp [cellsOf_len, lp]
  have c33 : Hid ((hdC pk p n)[33]? = some (.int .i64 n)) := by unfold Hid hdC; rw [List.getElem?_append_right (by rw [cellsOf_len, lp]; omega)]; simp [cellsOf_len, lp]
  generalize hdC pk p n = hd at *
  have B0 : Hid (Cb (w.alloc (Obj.cells hd.toArray 25)) w.heap.size 25 hd ∧ Ext w (w.alloc (Obj.cells hd.toArray 25))) := ⟨Cb.new _ _ _, (Ext.refl w).alloc _⟩
  go_enter Try.func32, Try.ntmps32
  go_upto_region 1 with fail
  refine wp_gen (fun W => Cb W w.heap.size 25 hd ∧ Ext w W) B0.out ?_
  clear B0
  rintro w0 ⟨k0, x0⟩
  have b0 := k0.cell c32.out
  have b1 := k0.cell c33.out
  clear k0
  replace x0 := Lib.hid x0
  rcases d1 : decide (p ≥ 0) with _ | _
  · skip
    have hb : Hid (okH p n = false) := by unfold Hid okH upB; rw [show decide (0 ≤ p) = decide (p ≥ 0) from rfl, show decide (0 ≤ n) = decide (n ≥ 0) from rfl]; simp only [d1, Bool.and_false, Bool.false_and]
    go_wp2_with fail
    go_ret
    exact ⟨by rw [hb.out]; rfl, x0.out⟩
  · skip
    rcases d2 : decide (p ≤ 1000000) with _ | _
    · skip
      have hb : Hid (okH p n = false) := by unfold Hid okH upB; rw [show decide (0 ≤ p) = decide (p ≥ 0) from rfl, show decide (0 ≤ n) = decide (n ≥ 0) from rfl]; simp only [d1, d2, Bool.and_false, Bool.false_and]
      go_wp2_with fail
      go_ret
      exact ⟨by rw [hb.out]; rfl, x0.out⟩
    · skip
      rcases d3 : decide (n ≥ 0) with _ | _
      · skip
        have hb : Hid (okH p n = false) := by unfold Hid okH upB; rw [show decide (0 ≤ p) = decide (p ≥ 0) from rfl, show decide (0 ≤ n) = decide (n ≥ 0) from rfl]; simp only [d1, d2, d3, Bool.and_false, Bool.false_and]
        go_wp2_with fail
        go_ret
        exact ⟨by rw [hb.out]; rfl, x0.out⟩
      · skip
        rcases d4 : decide (n ≤ 1000000) with _ | _
        · skip
          have hb : Hid (okH p n = false) := by unfold Hid okH upB; rw [show decide (0 ≤ p) = decide (p ≥ 0) from rfl, show decide (0 ≤ n) = decide (n ≥ 0) from rfl]; simp only [d1, d2, d3, d4, Bool.and_false, Bool.false_and]
          go_wp2_with fail
          go_ret
          exact ⟨by rw [hb.out]; rfl, x0.out⟩
        · skip
          have hb : Hid (okH p n = true) := by unfold Hid okH upB; rw [show decide (0 ≤ p) = decide (p ≥ 0) from rfl, show decide (0 ≤ n) = decide (n ≥ 0) from rfl]; rw [d1, d2, d3, d4]; rfl
          go_wp2_with fail
          go_ret
          exact ⟨by rw [hb.out]; rfl, x0.out⟩
set_option maxHeartbeats 8000000 in
theorem rightEnvelope_calls {w : World} {f t p n : Int} {cm pk : List UInt8} {A : Option Addr} {m c : Nat} (hc : cm.length = 32) (hk : pk.length = 32) (hm : m ≤ 9223372036854775807) : Calls Try.prog 41 #[.agg (evC f t cm pk p n A m c).toArray] w fun e w' => e = .returned (.bool (okE f t p n m)) ∧ Ext w w' := by
  have RH := Lib.hid (fun (W : World) => right_calls (w := W) (p := p) (n := n) hk)
  obtain ⟨c0, c1, c68, ch, c5⟩ := ev_cells hc hk f t p n A m c
  clear c5
  replace c0 := Lib.hid c0
  replace c1 := Lib.hid c1
  replace c68 := Lib.hid c68
  replace ch := Lib.hid (fun _ : Unit => ch)
  have OKE : Hid (∀ a b, okH p n = a → decide ((m : Int) ≤ 600) = b → okE f t p n m = ((decide (f ≥ 0) && decide (f ≤ 7)) && ((decide (t ≥ 0) && decide (t ≤ 7)) && (a && b)))) := fun a b h1 h2 => by unfold okE upB; rw [h1, h2]
  have L_h := hdC_len hk p n
  have l2 : ([Value.int .i64 f, .int .i64 t] ++ cellsOf cm).length = 34 := by simp [cellsOf_len, hc]
  generalize evC f t cm pk p n A m c = ev at *
  generalize hdC pk p n = hd at *
  have H34 : Hid (∀ (W : World) (g : Nat) T, Cb W g T ev → ∀ j v, hd[j]? = some v → W.cell? ⟨g, 34 + j, none⟩ = some v) := fun W g T k => k.mid (ch.out ()) l2
  clear ch
  have B0 : Hid (Cb (w.alloc (Obj.cells ev.toArray 35)) w.heap.size 35 ev ∧ Ext w (w.alloc (Obj.cells ev.toArray 35))) := ⟨Cb.new _ _ _, (Ext.refl w).alloc _⟩
  go_enter Try.func41, Try.ntmps41
  go_upto_region 1 with fail
  refine wp_gen (fun W => Cb W w.heap.size 35 ev ∧ Ext w W) B0.out ?_
  clear B0
  rintro w0 ⟨k0, x0⟩
  have b0 := k0.cell c0.out
  have b1 := k0.cell c1.out
  have b2 := Lib.hid (H34.out _ _ _ k0)
  replace k0 := Lib.hid k0
  replace x0 := Lib.hid x0
  rcases d1 : decide (f ≥ 0) with _ | _
  · skip
    have hb : Hid (okE f t p n m = false) := by unfold Hid; rw [OKE.out _ _ rfl rfl]; simp only [d1, Bool.and_false, Bool.false_and]
    go_wp2_with fail
    go_ret
    exact ⟨by rw [hb.out]; rfl, x0.out⟩
  · skip
    rcases d2 : decide (f ≤ 7) with _ | _
    · skip
      have hb : Hid (okE f t p n m = false) := by unfold Hid; rw [OKE.out _ _ rfl rfl]; simp only [d1, d2, Bool.and_false, Bool.false_and]
      go_wp2_with fail
      go_ret
      exact ⟨by rw [hb.out]; rfl, x0.out⟩
    · skip
      rcases d3 : decide (t ≥ 0) with _ | _
      · skip
        have hb : Hid (okE f t p n m = false) := by unfold Hid; rw [OKE.out _ _ rfl rfl]; simp only [d1, d2, d3, Bool.and_false, Bool.false_and]
        go_wp2_with fail
        go_ret
        exact ⟨by rw [hb.out]; rfl, x0.out⟩
      · skip
        rcases d4 : decide (t ≤ 7) with _ | _
        · skip
          have hb : Hid (okE f t p n m = false) := by unfold Hid; rw [OKE.out _ _ rfl rfl]; simp only [d1, d2, d3, d4, Bool.and_false, Bool.false_and]
          go_wp2_with fail
          go_ret
          exact ⟨by rw [hb.out]; rfl, x0.out⟩
        · skip
          have hb : Hid (∀ a b, okH p n = a → decide ((m : Int) ≤ 600) = b → okE f t p n m = (a && b)) := fun a b h1 h2 => by rw [OKE.out _ _ h1 h2, d1, d2, d3, d4]; rfl
          clear OKE
          obtain ⟨r, hr⟩ : ∃ r, r = okH p n := ⟨_, rfl⟩
          rw [← hr] at RH
          replace hr := Lib.hid (fun _ : Unit => hr)
          go_wp2_with (refine wpList_load_mid rfl (g := w.heap.size) (off := 34) (ys := hd) rfl rfl b2.out rfl rfl (by rw [L_h]; rfl) ?_; simp only [Act.put, List.setIfInBounds_toArray, List.set_cons_zero, List.set_cons_succ])
          refine (RH.out _).mono ?_
          rintro e w3 ⟨rfl, e3⟩
          have b3 := (k0.out.ext e3).cell c68.out
          have x3 := Lib.hid (x0.out.trans e3)
          clear b0 b1 b2 k0 x0 e3
          rcases r with _ | _
          · go_wp2_with fail
            go_ret
            exact ⟨by rw [hb.out _ _ (hr.out ()).symm rfl]; rfl, x3.out⟩
          · rcases dm : decide ((m : Int) ≤ 600) with _ | _
            · go_wp2_with fail
              go_ret
              exact ⟨by rw [hb.out _ _ (hr.out ()).symm dm]; rfl, x3.out⟩
            · go_wp2_with fail
              go_ret
              exact ⟨by rw [hb.out _ _ (hr.out ()).symm dm]; rfl, x3.out⟩
end Go.Proofs.Ytojgmgghlkpfoaa
end

section
/-
  octets.OfHigh: the number of bytes, the highest first (where the program holds neither Xor nor the law of layer 1).
-/
namespace Go.Proofs.Ytojgmgghlkpfoaa
open Go.ChangeShapes Go.WideShapes Go.ChangeAt Go.RowKit Go.Deep

set_option maxHeartbeats 400000 in
theorem ofHigh_calls {A : Option Addr} {n c : Nat} {m : Nat} {xs : List UInt8} {w : World} (h : Bs w A n c xs) (hm8 : m ≤ 8) (hmn : m ≤ n) (hM : (if (8 : Int) < (n : Int) then 8 else (n : Int)) = (m : Int)) :
    Calls Try.prog 52 #[.slice A n c] w fun e w' => e = .returned (.int .u64 (ofLowL (xs.take m).reverse : Int)) ∧ Ext w w' := by
  have h1 := h.le
  have h2 := h.cap
  go_enter Try.func52, Try.ntmps52
  go_wp2_with fail
  refine (reversed_calls (h.take hmn) (by omega)).mono ?_
  rintro e w1 ⟨A1, k, c1, rfl, hb, he⟩
  have hk : k = m := by have := hb.len; rw [List.length_reverse, List.length_take, h.len] at this; omega
  have hk' := Lib.hid hk
  clear hk hM
  go_wp2_with fail
  refine (ofLow_calls (m := m) hb hm8 (by rw [hk'.out]; omega) (by rw [hk'.out, if_neg (by omega)])).mono ?_
  rintro e w2 ⟨rfl, rfl⟩
  go_wp2_with fail
  go_ret
  refine ⟨ret_int ?_, he⟩
  rw [List.take_of_length_le (by rw [hb.len, hk'.out]; omega)]

end Go.Proofs.Ytojgmgghlkpfoaa
end

section
/-
  The document's OfHigh.
-/
namespace Go.Proofs.Ytojgmgghlkpfoaa
open Go.ChangeShapes Go.WideShapes Go.ChangeAt Go.RowKit Go.Deep

/-- The number of bytes, the highest first, one by one. -/
def ofHighAt (xs : List UInt8) : Nat → Nat
  | 0 => 0
  | k + 1 => ofHighAt xs k * 256 + bt xs k
theorem ofHighAt_lt (xs : List UInt8) : ∀ k, ofHighAt xs k < 256 ^ k
  | 0 => by simp [ofHighAt]
  | k + 1 => by
    have := ofHighAt_lt xs k
    have := bt_lt xs k
    rw [ofHighAt, Nat.pow_succ]
    omega
theorem ofHighAt_eq {xs : List UInt8} : ∀ {k : Nat}, k ≤ xs.length → ofHighAt xs k = ofLowL (xs.take k).reverse
  | 0, _ => by simp [ofHighAt, ofLowL]
  | k + 1, h => by
    rw [ofHighAt, ofHighAt_eq (by omega), List.take_succ_eq_append_getElem (by omega), List.reverse_append]
    simp [ofLowL, bt, List.getD, show k < xs.length by omega]
    omega

set_option maxHeartbeats 400000 in
theorem refOfHigh_calls {A : Option Addr} {n c : Nat} {m : Nat} {xs : List UInt8} {w : World} (h : Bs w A n c xs) (hm8 : m ≤ 8) (hmn : m ≤ n) (hM : m = n ∨ m = 8) :
    Calls Try.prog 46 #[.slice A n c] w fun e w' => e = .returned (.int .u64 (ofLowL (xs.take m).reverse : Int)) ∧ w' = w := by
  have h1 := h.le
  have h2 := h.cap
  have hf : Hid (ofHighAt xs m = ofLowL (xs.take m).reverse) := ofHighAt_eq (by rw [h.len]; exact hmn)
  go_enter Try.func46, Try.ntmps46
  go_wp2
  go_loop [3, 4] (fun x i => ∃ k : Nat, k ≤ m ∧ i = .int .i64 k ∧ x = .int .u64 (ofHighAt xs k : Int)) (fun _ i => m - (intOf i).toNat)
  case atStart => exact ⟨0, Nat.zero_le _, rfl, rfl⟩
  case round =>
    obtain ⟨k, hk, rfl, rfl⟩ := hrel
    by_cases hlt : k < m
    · obtain ⟨b, off, rfl, hb, hc⟩ := h.pos (by omega)
      have g1 := hc k (by omega)
      have hbt := bt_lt xs k
      have hlt2 : ofHighAt xs k < 72057594037927936 := Nat.lt_of_lt_of_le (ofHighAt_lt xs k) (Nat.pow_le_pow_right (by omega) (show k ≤ 7 by omega))
      have hsucc : Hid ((ofHighAt xs (k + 1) : Int) = (ofHighAt xs k : Int) * 256 + (bt xs k : Int)) := by unfold Hid; rw [ofHighAt]; omega
      have t1 : (k : Int) < 8 := by omega
      have t2 : (k : Int) < (n : Int) := by omega
      clear hc hM
      go_wp2
      go_round
      case rel => exact ⟨k + 1, by omega, by go_num, congrArg (Value.int .u64) hsucc.out.symm⟩
      case measure => simp [intOf]; omega
    · obtain rfl : k = m := by omega
      rcases hM with rfl | rfl
      · go_wp2
        go_ret
        exact ⟨ret_int (by rw [hf.out]), rfl⟩
      · by_cases q : 8 < n
        · go_wp2
          go_ret
          exact ⟨ret_int (by rw [hf.out]), rfl⟩
        · obtain rfl : n = 8 := by omega
          go_wp2
          go_ret
          exact ⟨ret_int (by rw [hf.out]), rfl⟩
end Go.Proofs.Ytojgmgghlkpfoaa
end
