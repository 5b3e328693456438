import Derived.Test.YtbnjmmefnjoofaaDoorPkL
import Derived.Test.YtbnjmmefnjoofaaDoorPkM
section
/-
  head.Envelope, of an envelope that is not valid.
-/
namespace Go.Proofs.YtbnjmmefnjoofaaDoor
open Go.ChangeShapes Go.WideShapes Go.ChangeAt Go.RowKit Go.Deep
set_option maxRecDepth 100000

set_option maxHeartbeats 2000000 in
theorem envelope_bad {w : World} {f t p n : Int} {cm pk : List UInt8} {A : Option Addr} {m c : Nat} (hc : cm.length = 32) (hk : pk.length = 32) (hm : m ≤ 9223372036854775807) (hb : okE f t p n m = false) : Calls Tryd.prog 42 #[.agg (evC f t cm pk p n A m c).toArray] w fun e w' => e = .returned (.tuple #[.slice none 0 0, .int .i64 1]) ∧ Ext w w' := by
  have VE := Lib.hid (fun (W : World) => validEnvelope_calls (w := W) (f := f) (t := t) (p := p) (n := n) (A := A) (m := m) (c := c) hc hk hm)
  rw [hb] at VE
  have L_ev := evC_len hc hk f t p n A m c
  generalize evC f t cm pk p n A m c = ev at *
  have S_ev : ev.toArray.size = 69 := by rw [List.size_toArray, L_ev]
  have B0 : Hid (Cb (w.alloc (Obj.cells ev.toArray 37)) w.heap.size 37 ev ∧ Ext w (w.alloc (Obj.cells ev.toArray 37))) := ⟨Cb.new _ _ _, (Ext.refl w).alloc _⟩
  clear hb
  go_enter Tryd.func42, Tryd.ntmps42
  go_upto_region 1 with fail
  refine wp_gen (fun W => Cb W w.heap.size 37 ev ∧ Ext w W) B0.out ?_
  clear B0
  rintro w0 ⟨k0, x0⟩
  replace k0 := Lib.hid k0
  replace x0 := Lib.hid x0
  go_wp2_with (refine wpList_load_row rfl 37 _ rfl w.heap.size rfl 37 ev.toArray (0, 0) _ k0.out rfl rfl (by rw [S_ev]; rfl) ?_; go_frame)
  refine (VE.out _).mono ?_
  rintro e w1 ⟨rfl, e1⟩
  go_wp2_with fail
  go_ret2
  exact ⟨rfl, x0.out.trans e1⟩
end Go.Proofs.YtbnjmmefnjoofaaDoor
end

section
/-
  palfreyref12.Right and RightEnvelope.
-/
namespace Go.Proofs.YtbnjmmefnjoofaaDoor
open Go.ChangeShapes Go.WideShapes Go.ChangeAt Go.RowKit Go.Deep
set_option maxRecDepth 100000

set_option maxHeartbeats 4000000 in
theorem right_calls {w : World} {pk : List UInt8} {p n : Int} (lp : pk.length = 32) : Calls Tryd.prog 94 #[.agg (hdC pk p n).toArray] w fun e w' => e = .returned (.bool (okH p n)) ∧ Ext w w' := by
  have c32 : Hid ((hdC pk p n)[32]? = some (.int .i64 p)) := by unfold Hid hdC; rw [List.getElem?_append_right (by rw [cellsOf_len, lp]; omega)]; simp [cellsOf_len, lp]
  have c33 : Hid ((hdC pk p n)[33]? = some (.int .i64 n)) := by unfold Hid hdC; rw [List.getElem?_append_right (by rw [cellsOf_len, lp]; omega)]; simp [cellsOf_len, lp]
  generalize hdC pk p n = hd at *
  have B0 : Hid (Cb (w.alloc (Obj.cells hd.toArray 34)) w.heap.size 34 hd ∧ Ext w (w.alloc (Obj.cells hd.toArray 34))) := ⟨Cb.new _ _ _, (Ext.refl w).alloc _⟩
  go_enter Tryd.func94, Tryd.ntmps94
  go_upto_region 1 with fail
  refine wp_gen (fun W => Cb W w.heap.size 34 hd ∧ Ext w W) B0.out ?_
  clear B0
  rintro w0 ⟨k0, x0⟩
  have b0 := k0.cell c32.out
  have b1 := k0.cell c33.out
  clear k0
  replace x0 := Lib.hid x0
  rcases d1 : decide (p ≥ 0) with _ | _
  · skip
    have hb : Hid (okH p n = false) := by unfold Hid okH upB; rw [show decide (0 ≤ p) = decide (p ≥ 0) from rfl, show decide (0 ≤ n) = decide (n ≥ 0) from rfl]; simp only [d1, Bool.and_false, Bool.false_and]
    go_wp2_with fail
    go_ret
    exact ⟨by rw [hb.out]; rfl, x0.out⟩
  · skip
    rcases d2 : decide (p ≤ 1000000) with _ | _
    · skip
      have hb : Hid (okH p n = false) := by unfold Hid okH upB; rw [show decide (0 ≤ p) = decide (p ≥ 0) from rfl, show decide (0 ≤ n) = decide (n ≥ 0) from rfl]; simp only [d1, d2, Bool.and_false, Bool.false_and]
      go_wp2_with fail
      go_ret
      exact ⟨by rw [hb.out]; rfl, x0.out⟩
    · skip
      rcases d3 : decide (n ≥ 0) with _ | _
      · skip
        have hb : Hid (okH p n = false) := by unfold Hid okH upB; rw [show decide (0 ≤ p) = decide (p ≥ 0) from rfl, show decide (0 ≤ n) = decide (n ≥ 0) from rfl]; simp only [d1, d2, d3, Bool.and_false, Bool.false_and]
        go_wp2_with fail
        go_ret
        exact ⟨by rw [hb.out]; rfl, x0.out⟩
      · skip
        rcases d4 : decide (n ≤ 1000000) with _ | _
        · skip
          have hb : Hid (okH p n = false) := by unfold Hid okH upB; rw [show decide (0 ≤ p) = decide (p ≥ 0) from rfl, show decide (0 ≤ n) = decide (n ≥ 0) from rfl]; simp only [d1, d2, d3, d4, Bool.and_false, Bool.false_and]
          go_wp2_with fail
          go_ret
          exact ⟨by rw [hb.out]; rfl, x0.out⟩
        · skip
          have hb : Hid (okH p n = true) := by unfold Hid okH upB; rw [show decide (0 ≤ p) = decide (p ≥ 0) from rfl, show decide (0 ≤ n) = decide (n ≥ 0) from rfl]; rw [d1, d2, d3, d4]; rfl
          go_wp2_with fail
          go_ret
          exact ⟨by rw [hb.out]; rfl, x0.out⟩
set_option maxHeartbeats 8000000 in
theorem rightEnvelope_calls {w : World} {f t p n : Int} {cm pk : List UInt8} {A : Option Addr} {m c : Nat} (hc : cm.length = 32) (hk : pk.length = 32) (hm : m ≤ 9223372036854775807) : Calls Tryd.prog 78 #[.agg (evC f t cm pk p n A m c).toArray] w fun e w' => e = .returned (.bool (okE f t p n m)) ∧ Ext w w' := by
  have RH := Lib.hid (fun (W : World) => right_calls (w := W) (p := p) (n := n) hk)
  obtain ⟨c0, c1, c68, ch, c5⟩ := ev_cells hc hk f t p n A m c
  clear c5
  replace c0 := Lib.hid c0
  replace c1 := Lib.hid c1
  replace c68 := Lib.hid c68
  replace ch := Lib.hid (fun _ : Unit => ch)
  have OKE : Hid (∀ a b, okH p n = a → decide ((m : Int) ≤ 600) = b → okE f t p n m = ((decide (f ≥ 0) && decide (f ≤ 7)) && ((decide (t ≥ 0) && decide (t ≤ 7)) && (a && b)))) := fun a b h1 h2 => by unfold okE upB; rw [h1, h2]
  have L_h := hdC_len hk p n
  have l2 : ([Value.int .i64 f, .int .i64 t] ++ cellsOf cm).length = 34 := by simp [cellsOf_len, hc]
  generalize evC f t cm pk p n A m c = ev at *
  generalize hdC pk p n = hd at *
  have H34 : Hid (∀ (W : World) (g : Nat) T, Cb W g T ev → ∀ j v, hd[j]? = some v → W.cell? ⟨g, 34 + j, none⟩ = some v) := fun W g T k => k.mid (ch.out ()) l2
  clear ch
  have B0 : Hid (Cb (w.alloc (Obj.cells ev.toArray 37)) w.heap.size 37 ev ∧ Ext w (w.alloc (Obj.cells ev.toArray 37))) := ⟨Cb.new _ _ _, (Ext.refl w).alloc _⟩
  go_enter Tryd.func78, Tryd.ntmps78
  go_upto_region 1 with fail
  refine wp_gen (fun W => Cb W w.heap.size 37 ev ∧ Ext w W) B0.out ?_
  clear B0
  rintro w0 ⟨k0, x0⟩
  have b0 := k0.cell c0.out
  have b1 := k0.cell c1.out
  have b2 := Lib.hid (H34.out _ _ _ k0)
  replace k0 := Lib.hid k0
  replace x0 := Lib.hid x0
  rcases d1 : decide (f ≥ 0) with _ | _
  · skip
    have hb : Hid (okE f t p n m = false) := by unfold Hid; rw [OKE.out _ _ rfl rfl]; simp only [d1, Bool.and_false, Bool.false_and]
    go_wp2_with fail
    go_ret
    exact ⟨by rw [hb.out]; rfl, x0.out⟩
  · skip
    rcases d2 : decide (f ≤ 7) with _ | _
    · skip
      have hb : Hid (okE f t p n m = false) := by unfold Hid; rw [OKE.out _ _ rfl rfl]; simp only [d1, d2, Bool.and_false, Bool.false_and]
      go_wp2_with fail
      go_ret
      exact ⟨by rw [hb.out]; rfl, x0.out⟩
    · skip
      rcases d3 : decide (t ≥ 0) with _ | _
      · skip
        have hb : Hid (okE f t p n m = false) := by unfold Hid; rw [OKE.out _ _ rfl rfl]; simp only [d1, d2, d3, Bool.and_false, Bool.false_and]
        go_wp2_with fail
        go_ret
        exact ⟨by rw [hb.out]; rfl, x0.out⟩
      · skip
        rcases d4 : decide (t ≤ 7) with _ | _
        · skip
          have hb : Hid (okE f t p n m = false) := by unfold Hid; rw [OKE.out _ _ rfl rfl]; simp only [d1, d2, d3, d4, Bool.and_false, Bool.false_and]
          go_wp2_with fail
          go_ret
          exact ⟨by rw [hb.out]; rfl, x0.out⟩
        · skip
          have hb : Hid (∀ a b, okH p n = a → decide ((m : Int) ≤ 600) = b → okE f t p n m = (a && b)) := fun a b h1 h2 => by rw [OKE.out _ _ h1 h2, d1, d2, d3, d4]; rfl
          clear OKE
          obtain ⟨r, hr⟩ : ∃ r, r = okH p n := ⟨_, rfl⟩
          rw [← hr] at RH
          replace hr := Lib.hid (fun _ : Unit => hr)
          go_wp2_with (refine wpList_load_mid rfl (g := w.heap.size) (off := 34) (ys := hd) rfl rfl b2.out rfl rfl (by rw [L_h]; rfl) ?_; go_frame)
          refine (RH.out _).mono ?_
          rintro e w3 ⟨rfl, e3⟩
          have b3 := (k0.out.ext e3).cell c68.out
          have x3 := Lib.hid (x0.out.trans e3)
          clear b0 b1 b2 k0 x0 e3
          rcases r with _ | _
          · go_wp2_with fail
            go_ret
            exact ⟨by rw [hb.out _ _ (hr.out ()).symm rfl]; rfl, x3.out⟩
          · rcases dm : decide ((m : Int) ≤ 600) with _ | _
            · go_wp2_with fail
              go_ret
              exact ⟨by rw [hb.out _ _ (hr.out ()).symm dm]; rfl, x3.out⟩
            · go_wp2_with fail
              go_ret
              exact ⟨by rw [hb.out _ _ (hr.out ()).symm dm]; rfl, x3.out⟩
end Go.Proofs.YtbnjmmefnjoofaaDoor
end

section
/-
  A literal of one byte. No conditions.
-/
namespace Go.Proofs.YtbnjmmefnjoofaaDoor
open Go.ChangeShapes Go.WideShapes Go.ChangeAt Go.RowKit Go.Deep

theorem Bs.lit8 (w : World) (t : TypeId) (xs : List UInt8) (cs : Array Value) (hcs : cs = (xs.map fun x => Value.int .u8 (x.toNat : Int)).toArray) (n : Nat) (hn : xs.length = n) (hm : n ≤ 1000000) :
    Bs (w.alloc (.cells cs t)) (some ⟨w.heap.size, 0, none⟩) n n xs := by
  subst hcs
  have hr := World.rowIs_alloc w (xs.map fun x => Value.int .u8 (x.toNat : Int)).toArray t (fun i => .int .u8 (bt xs i : Int)) (fun i hi => by
    have hi' : i < xs.length := by simpa using hi
    simp [bt, List.getD, hi'])
  refine ⟨hn, Nat.le_refl _, by unfold maxLen; omega, fun _ => ⟨w.heap.size, 0, rfl, by simp, fun j hj => ?_⟩⟩
  rw [Nat.zero_add]
  exact hr.cell (by simp; omega)
theorem Bs.one8 (w : World) (t : TypeId) (x : UInt8) (v : Int) (hv : v = (x.toNat : Int)) : Bs (w.alloc (.cells #[.int .u8 v] t)) (some ⟨w.heap.size, 0, none⟩) 1 1 [x] :=
  Bs.lit8 w t [x] _ (by rw [hv]; rfl) 1 rfl (by omega)
end Go.Proofs.YtbnjmmefnjoofaaDoor
end

section
/-
  The document's High.
-/
namespace Go.Proofs.YtbnjmmefnjoofaaDoor
open Go.ChangeShapes Go.WideShapes Go.ChangeAt Go.RowKit Go.Deep

theorem lowL_snoc (n k : Nat) : lowL n (k + 1) = lowL n k ++ [UInt8.ofNat (n / 256 ^ k)] := by
  unfold lowL
  rw [List.range_succ, List.map_append]
  rfl
theorem lowAt_u8 (n k : Nat) : (lowAt n k : Int) % 256 = ((UInt8.ofNat (n / 256 ^ k)).toNat : Int) := by
  rw [lowAt_byte, UInt8.toNat_ofNat']

theorem Own.one8 (w : World) (B : Nat) (hB : B ≤ w.heap.size) (x : UInt8) (v : Int) (hv : v = (x.toNat : Int)) : Own B (w.alloc (.cells #[.int .u8 v] 5)) (some ⟨w.heap.size, 0, none⟩) 1 1 [x] := by
  subst hv
  exact World.ownsRow_lit (e := 5) (size := 1) w #[.int .u8 (x.toNat : Int)] 1 hB (by unfold maxLen; omega) rfl

set_option maxHeartbeats 1000000 in
theorem refHigh_calls {n m : Nat} {many : Int} {w : World} (hn : n < 18446744073709551616) (h1 : 0 ≤ many) (h2 : many ≤ 9223372036854775807) (hm8 : m ≤ 8) (hM : (if (8 : Int) < many then 8 else many) = (m : Int)) :
    Calls Tryd.prog 80 #[.int .u64 (n : Int), .int .i64 many] w (RetBs (lowL n m).reverse w) := by
  have hz : lowAt n 0 = n := by simp [lowAt]
  have hM' : m = many ∨ (m = 8 ∧ 8 < many) := by
    by_cases q : (8 : Int) < many
    · rw [if_pos q] at hM; right; omega
    · rw [if_neg q] at hM; left; omega
  clear hM
  go_enter Tryd.func80, Tryd.ntmps80
  go_wp2
  go_loopw [0, 5, 6] (fun x v i wr => ∃ (k cc : Nat) (D : Option Addr), k ≤ m ∧ i = .int .i64 k ∧ x = .int .u64 (lowAt n k : Int) ∧ v = .slice D k cc ∧ Bs wr D k cc (lowL n k).reverse ∧ Ext w wr) (fun _ _ i _ => m - (intOf i).toNat)
  case atStart => exact ⟨0, 0, none, Nat.zero_le _, rfl, by rw [hz], rfl, Bs.nil _, Ext.refl _⟩
  case round =>
    obtain ⟨k, cc, D, hk, rfl, rfl, rfl, ho, hE⟩ := hrel
    clear hz
    by_cases hlt : k < m
    · have t1 : (k : Int) < 8 := by omega
      have t2 : (k : Int) < many := by omega
      have hle := Nat.lt_of_le_of_lt (lowAt_le n k) hn
      have hsz := hE.size
      have hv := Lib.hid (lowAt_u8 n k)
      clear hM'
      go_wp2_with (at_builtin; refine wpList_append_bs rfl (B := w.heap.size) rfl rfl rfl (Own.one8 wr w.heap.size hsz (UInt8.ofNat (n / 256 ^ k)) _ hv.out) (ho.ext ((Ext.refl _).alloc _)) (by omega) (by simp; omega) ?_; intro D' cc' w2 ho2 hg2 hbl)
      go_roundw
      case rel => exact ⟨k + 1, cc', D', by omega, by go_num, congrArg (Value.int .u64) (lowAt_int n k), by rw [Nat.add_comm], by rw [lowL_snoc, List.reverse_append, Nat.add_comm k 1]; exact ho2.bs, (hE.alloc _).trans' hbl⟩
      case measure => simp [intOf]; omega
    · obtain rfl : k = m := by omega
      rcases hM' with hM' | ⟨rfl, hM'⟩
      · subst hM'
        go_wp2
        go_ret
        exact ⟨_, _, _, rfl, ho, hE⟩
      · go_wp2
        go_ret
        exact ⟨_, _, _, rfl, ho, hE⟩
end Go.Proofs.YtbnjmmefnjoofaaDoor
end

section
/-
  palfreyref12.Bytes.
-/
namespace Go.Proofs.YtbnjmmefnjoofaaDoor
open Go.ChangeShapes Go.WideShapes Go.ChangeAt Go.RowKit Go.Deep
set_option maxRecDepth 100000

set_option maxHeartbeats 2000000 in
theorem refBytes_bad {w : World} {pk : List UInt8} {p n : Int} (lp : pk.length = 32) (hb : okH p n = false) : Calls Tryd.prog 79 #[.agg (hdC pk p n).toArray] w fun e w' => e = .returned (.tuple #[.slice none 0 0, .int .i64 1]) ∧ Ext w w' := by
  have VH := Lib.hid (fun (W : World) => right_calls (w := W) (p := p) (n := n) lp)
  rw [hb] at VH
  have L_hd := hdC_len lp p n
  generalize hdC pk p n = hd at *
  have S_hd : hd.toArray.size = 34 := by rw [List.size_toArray, L_hd]
  have B0 : Hid (Cb (w.alloc (Obj.cells hd.toArray 34)) w.heap.size 34 hd ∧ Ext w (w.alloc (Obj.cells hd.toArray 34))) := ⟨Cb.new _ _ _, (Ext.refl w).alloc _⟩
  go_enter Tryd.func79, Tryd.ntmps79
  go_upto_region 1 with fail
  refine wp_gen (fun W => Cb W w.heap.size 34 hd ∧ Ext w W) B0.out ?_
  clear B0
  rintro w0 ⟨k0, x0⟩
  replace k0 := Lib.hid k0
  replace x0 := Lib.hid x0
  go_wp2_with (refine wpList_load_row rfl 34 _ rfl w.heap.size rfl 34 hd.toArray (0, 0) _ k0.out rfl rfl (by rw [S_hd]; rfl) ?_; go_frame)
  refine (VH.out _).mono ?_
  rintro e w1 ⟨rfl, e1⟩
  go_wp2_with fail
  go_ret2
  exact ⟨rfl, x0.out.trans e1⟩
set_option maxHeartbeats 4000000 in
theorem refBytes_ok {w : World} {pk : List UInt8} {p n : Nat} (lp : pk.length = 32) (hp : p ≤ 1000000) (hn : n ≤ 1000000) : Calls Tryd.prog 79 #[.agg (hdC pk (p : Int) (n : Int)).toArray] w (RetBsE (headL pk p n) 0 w) := by
  have hb : okH (p : Int) (n : Int) = true := by
    unfold okH upB
    rw [decide_eq_true (show (0 : Int) ≤ (p : Int) by omega), decide_eq_true (show (p : Int) ≤ 1000000 by omega), decide_eq_true (show (0 : Int) ≤ (n : Int) by omega), decide_eq_true (show (n : Int) ≤ 1000000 by omega)]
    rfl
  have VH := Lib.hid (fun (W : World) => right_calls (w := W) (p := (p : Int)) (n := (n : Int)) lp)
  rw [hb] at VH
  have HP : Hid (∀ W, Calls Tryd.prog 80 #[.int .u64 (p : Int), .int .i64 4] W (RetBs (high4 p) W)) := fun W => refHigh_calls (by omega) (by omega) (by omega) (by omega) rfl
  have HN : Hid (∀ W, Calls Tryd.prog 80 #[.int .u64 (n : Int), .int .i64 4] W (RetBs (high4 n) W)) := fun W => refHigh_calls (by omega) (by omega) (by omega) (by omega) rfl
  have u1 : IntKind.u64.wrap (p : Int) = (p : Int) := IntWalk.u64_in _ (by omega)
  have u2 : IntKind.u64.wrap (n : Int) = (n : Int) := IntWalk.u64_in _ (by omega)
  obtain ⟨c0, c32, c33⟩ := hd_cells lp (p : Int) (n : Int)
  have L_hd := hdC_len lp (p : Int) (n : Int)
  have hR : Hid ((pk ++ high4 p) ++ high4 n = headL pk p n) := rfl
  replace c0 := Lib.hid (fun _ : Unit => c0)
  replace c32 := Lib.hid c32
  replace c33 := Lib.hid c33
  generalize headL pk p n = hl at *
  generalize hdC pk (p : Int) (n : Int) = hd at *
  have lP := high4_len p
  have lN := high4_len n
  generalize high4 p = hp4 at *
  generalize high4 n = hn4 at *
  clear hb hp hn
  have S_hd : hd.toArray.size = 34 := by rw [List.size_toArray, L_hd]
  obtain ⟨r, hr⟩ : ∃ r, r = w.heap.size := ⟨_, rfl⟩
  have B0 : Hid (Cb (w.alloc (Obj.cells hd.toArray 34)) r 34 hd ∧ Ext w (w.alloc (Obj.cells hd.toArray 34))) := by rw [hr]; exact ⟨Cb.new _ _ _, (Ext.refl w).alloc _⟩
  go_enter Tryd.func79, Tryd.ntmps79
  go_upto_region 1 with fail
  refine wp_gen (fun W => Cb W r 34 hd ∧ Ext w W) B0.out ?_
  rw [← hr]
  have wr : w.heap.size ≤ r := Nat.le_of_eq hr.symm
  clear B0
  replace hr := Lib.hid hr
  rintro w0 ⟨k0, x0⟩
  replace k0 := Lib.hid k0
  replace x0 := Lib.hid x0
  go_wp2_with (refine wpList_load_row rfl 34 _ rfl r rfl 34 hd.toArray (0, 0) _ k0.out rfl rfl (by rw [S_hd]; rfl) ?_; go_frame)
  refine (VH.out _).mono ?_
  rintro e w1 ⟨rfl, e1⟩
  have k1 := Lib.hid (k0.out.ext e1)
  have x1 := Lib.hid (x0.out.trans e1)
  have r1 : r + 1 ≤ w1.heap.size := (k0.out.ext e1).lt
  have b1 := Lib.hid (k1.out.bs (c0.out ()) rfl lp (by omega))
  clear k0 x0 e1 VH
  go_upto_region 4 with (at_builtin; (with_reducible refine wpList_append_bs rfl (B := r + 1) (s := .tmp 8) (x := .tmp 10) rfl rfl rfl (Own.empty w1 _ r1) (b1.out.ext ((Ext.refl _).alloc _)) (by omega) (by simp; omega) ?_); intro A2 c2 w2 o2 g2 b2; simp only [Nat.zero_add, List.nil_append] at o2 ⊢; replace o2 := Lib.hid o2; clear g2; replace b2 : Hid (Below (r + 1) w1 w2) := Below.trans (((Ext.refl w1).alloc _).mono r1) b2; go_frame)
  refine wp_gen (fun W => Own (r + 1) W A2 32 c2 pk ∧ Cb W r 34 hd ∧ Ext w W) ⟨o2.out, k1.out.kept b2.out (by omega), Below.trans x1.out (b2.out.mono (by omega))⟩ ?_
  clear o2 b2 b1 k1 x1 r1
  rintro w3 ⟨o3, k3, x3⟩
  have b3 := k3.cell c32.out
  replace o3 := Lib.hid o3
  replace k3 := Lib.hid k3
  replace x3 := Lib.hid x3
  go_wp2_with fail
  refine (HP.out _).mono ?_
  rintro e w4 ⟨A4, n4, c4, rfl, b4, e4⟩
  obtain rfl : n4 = 4 := by rw [← b4.len, lP]
  have o4 := Lib.hid (o3.out.ext e4)
  have k4 := Lib.hid (k3.out.ext e4)
  have x4 := Lib.hid (x3.out.trans e4)
  have r4 : r + 1 ≤ w4.heap.size := (k3.out.ext e4).lt
  replace b4 := Lib.hid b4
  clear b3 o3 k3 x3 e4 HP
  go_upto_region 5 with (at_builtin; (with_reducible refine wpList_append_bs rfl (B := r + 1) (s := .tmp 12) (x := .tmp 16) rfl rfl rfl o4.out b4.out (by omega) r4 ?_); intro A5 c5 w5 o5 g5 b5; replace o5 := Lib.hid o5; clear g5; replace b5 := Lib.hid b5; go_frame)
  refine wp_gen (fun W => Own (r + 1) W A5 (32 + 4) c5 (pk ++ hp4) ∧ Cb W r 34 hd ∧ Ext w W) ⟨o5.out, k4.out.kept b5.out (by omega), Below.trans x4.out (b5.out.mono (by omega))⟩ ?_
  clear o5 b5 o4 b4 k4 x4 r4
  rintro w6 ⟨o6, k6, x6⟩
  have b6 := k6.cell c33.out
  replace o6 := Lib.hid o6
  replace k6 := Lib.hid k6
  replace x6 := Lib.hid x6
  go_wp2_with fail
  refine (HN.out _).mono ?_
  rintro e w7 ⟨A7, n7, c7, rfl, b7, e7⟩
  obtain rfl : n7 = 4 := by rw [← b7.len, lN]
  have o7 := Lib.hid (o6.out.ext e7)
  have x7 := Lib.hid (x6.out.trans e7)
  have r7 : r + 1 ≤ w7.heap.size := (k6.out.ext e7).lt
  replace b7 := Lib.hid b7
  clear b6 o6 k6 x6 e7 HN
  go_wp2_with (at_builtin; (with_reducible refine wpList_append_bs rfl (B := r + 1) (s := .tmp 18) (x := .tmp 22) rfl rfl rfl o7.out b7.out (by omega) r7 ?_); intro A8 c8 w8 o8 g8 b8; replace o8 := Lib.hid o8; clear g8; replace b8 := Lib.hid b8; go_frame)
  go_ret2
  exact ⟨A8, _, c8, rfl, by rw [← hR.out]; exact o8.out.bs, Below.trans x7.out (b8.out.mono (by omega))⟩
end Go.Proofs.YtbnjmmefnjoofaaDoor
end
