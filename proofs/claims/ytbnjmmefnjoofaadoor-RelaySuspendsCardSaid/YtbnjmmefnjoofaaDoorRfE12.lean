import Derived.Test.YtbnjmmefnjoofaaDoorPkJ
import Derived.Test.YtbnjmmefnjoofaaDoorEnvB
import Derived.Test.YtbnjmmefnjoofaaDoorSeq
/-
  palfreyref12.Envelope.
-/
namespace Go.Proofs.YtbnjmmefnjoofaaDoor
open Go.ChangeShapes Go.WideShapes Go.ChangeAt Go.RowKit Go.Deep
set_option maxRecDepth 100000

set_option maxHeartbeats 2000000 in
theorem refEnvelope_bad {w : World} {f t p n : Int} {cm pk : List UInt8} {A : Option Addr} {m c : Nat} (hc : cm.length = 32) (hk : pk.length = 32) (hm : m ≤ 9223372036854775807) (hb : okE f t p n m = false) : Calls Tryd.prog 56 #[.agg (evC f t cm pk p n A m c).toArray] w fun e w' => e = .returned (.tuple #[.slice none 0 0, .int .i64 1]) ∧ Ext w w' := by
  have VE := Lib.hid (fun (W : World) => rightEnvelope_calls (w := W) (f := f) (t := t) (p := p) (n := n) (A := A) (m := m) (c := c) hc hk hm)
  rw [hb] at VE
  have L_ev := evC_len hc hk f t p n A m c
  generalize evC f t cm pk p n A m c = ev at *
  have S_ev : ev.toArray.size = 69 := by rw [List.size_toArray, L_ev]
  have B0 : Hid (Cb (w.alloc (Obj.cells ev.toArray 37)) w.heap.size 37 ev ∧ Ext w (w.alloc (Obj.cells ev.toArray 37))) := ⟨Cb.new _ _ _, (Ext.refl w).alloc _⟩
  clear hb
  go_enter Tryd.func56, Tryd.ntmps56
  go_upto_region 1 with fail
  refine wp_gen (fun W => Cb W w.heap.size 37 ev ∧ Ext w W) B0.out ?_
  clear B0
  rintro w0 ⟨k0, x0⟩
  replace k0 := Lib.hid k0
  replace x0 := Lib.hid x0
  go_wp2_with (refine wpList_load_row rfl 37 _ rfl w.heap.size rfl 37 ev.toArray (0, 0) _ k0.out rfl rfl (by rw [S_ev]; rfl) ?_; go_frame)
  refine (VE.out _).mono ?_
  rintro e w1 ⟨rfl, e1⟩
  go_wp2_with fail
  go_ret2
  exact ⟨rfl, x0.out.trans e1⟩
set_option maxHeartbeats 8000000 in
theorem refEnvelope_ok {w : World} {x y : UInt8} {cm pk body : List UInt8} {p n : Nat} {A : Option Addr} {m c : Nat} (hc : cm.length = 32) (hk : pk.length = 32) (hx : x.toNat ≤ 7) (hy : y.toNat ≤ 7) (hp : p ≤ 1000000) (hn : n ≤ 1000000) (hb : Bs w A m c body) (hm : m ≤ 600) :
    Calls Tryd.prog 56 #[.agg (evC (x.toNat : Int) (y.toNat : Int) cm pk (p : Int) (n : Int) A m c).toArray] w (RetBsE (envL x y cm pk p n body) 0 w) := by
  have hok : okE (x.toNat : Int) (y.toNat : Int) (p : Int) (n : Int) m = true := by
    unfold okE okH upB
    simp only [Bool.and_eq_true, decide_eq_true_eq]
    omega
  have VE := Lib.hid (fun (W : World) => rightEnvelope_calls (w := W) (f := (x.toNat : Int)) (t := (y.toNat : Int)) (p := (p : Int)) (n := (n : Int)) (A := A) (m := m) (c := c) hc hk (by omega))
  rw [hok] at VE
  have HB := Lib.hid (fun (W : World) => refBytes_ok (w := W) hk hp hn)
  have lm := hb.len
  have H2 : Hid (∀ W, Calls Tryd.prog 80 #[.int .u64 (m : Int), .int .i64 2] W (RetBs (high2 m) W)) := fun W => refHigh_calls (by omega) (by omega) (by omega) (by omega) rfl
  have u1 : IntKind.u8.wrap (x.toNat : Int) = (x.toNat : Int) := IntWalk.u8_in _ (by omega)
  have u2 : IntKind.u8.wrap (y.toNat : Int) = (y.toNat : Int) := IntWalk.u8_in _ (by omega)
  have u3 : IntKind.u64.wrap (m : Int) = (m : Int) := IntWalk.u64_in _ (by omega)
  obtain ⟨c0, c1, c68, ch, c5⟩ := ev_cells hc hk (x.toNat : Int) (y.toNat : Int) (p : Int) (n : Int) A m c
  replace c0 := Lib.hid c0
  replace c1 := Lib.hid c1
  replace c68 := Lib.hid c68
  have H34 : Hid (∀ (W : World) (g : Nat) T, Cb W g T (evC (x.toNat : Int) (y.toNat : Int) cm pk (p : Int) (n : Int) A m c) → ∀ j v, (hdC pk (p : Int) (n : Int))[j]? = some v → W.cell? ⟨g, 34 + j, none⟩ = some v) := fun W g T k => k.mid ch (by simp [cellsOf_len, hc])
  have HC : Hid (∀ (W : World) (g : Nat) T, Cb W g T (evC (x.toNat : Int) (y.toNat : Int) cm pk (p : Int) (n : Int) A m c) → Bs W (some ⟨g, 2, none⟩) 32 32 cm) := fun W g T k => k.bs c5 rfl hc (by omega)
  clear c5 ch
  have hR : Hid (((([x, y] ++ cm) ++ headL pk p n) ++ high2 m) ++ body = envL x y cm pk p n body) := by unfold Hid envL; rw [lm]
  have L_h := hdC_len hk (p : Int) (n : Int)
  have L_ev := evC_len hc hk (x.toNat : Int) (y.toNat : Int) (p : Int) (n : Int) A m c
  have OL := Lib.hid (fun (W : World) (B : Nat) (h : B ≤ W.heap.size) => Own.lit2 W B x y h)
  have l_hl := headL_len hk p n
  have l_h2 := high2_len m
  generalize headL pk p n = hl at *
  generalize hdC pk (p : Int) (n : Int) = hd at *
  generalize evC (x.toNat : Int) (y.toNat : Int) cm pk (p : Int) (n : Int) A m c = ev at *
  generalize envL x y cm pk p n body = rr at *
  generalize high2 m = h2 at *
  have lxy : ([x, y] : List UInt8).length = 2 := rfl
  generalize [x, y] = xy at *
  have S_ev : ev.toArray.size = 69 := by rw [List.size_toArray, L_ev]
  replace hb := Lib.hid hb
  have BX : Hid (∀ s, Ext w s → Bs s A m c body) := fun s e => hb.out.ext e
  clear hok hp hn hb
  obtain ⟨r, hr⟩ : ∃ r, r = w.heap.size := ⟨_, rfl⟩
  have B0 : Hid (Cb (w.alloc (Obj.cells ev.toArray 37)) r 37 ev ∧ Ext w (w.alloc (Obj.cells ev.toArray 37))) := by rw [hr]; exact ⟨Cb.new _ _ _, (Ext.refl w).alloc _⟩
  go_enter Tryd.func56, Tryd.ntmps56
  go_upto_region 1 with fail
  refine wp_gen (fun W => Cb W r 37 ev ∧ Ext w W) B0.out ?_
  rw [← hr]
  have wr : w.heap.size ≤ r := Nat.le_of_eq hr.symm
  clear B0
  replace hr := Lib.hid hr
  rintro w0 ⟨k0, x0⟩
  replace k0 := Lib.hid k0
  replace x0 := Lib.hid x0
  go_wp2_with (refine wpList_load_row rfl 37 _ rfl r rfl 37 ev.toArray (0, 0) _ k0.out rfl rfl (by rw [S_ev]; rfl) ?_; go_frame)
  refine (VE.out _).mono ?_
  rintro e w1 ⟨rfl, e1⟩
  have k1 := k0.out.ext e1
  have x1 := x0.out.trans e1
  have f0 := k1.cell c0.out
  have f1 := k1.cell c1.out
  have r1 : r + 1 ≤ w1.heap.size := k1.lt
  have cb1 := HC.out _ _ _ k1
  have EQ : Hid (∀ s, Below (r + 1) w1 s → Cb s r 37 ev ∧ Ext w s ∧ r + 1 ≤ s.heap.size) := fun s e => ⟨k1.kept e (by omega), x1.trans' (e.mono (by omega)), Nat.le_trans r1 e.size⟩
  have W1D : Below (r + 1) w1 w1.drew := (Below.refl _ _).drew
  clear k0 x0 e1 VE k1 x1
  go_wp2_with fail
  refine qgB (r + 1) [0, 1, 2, 3, 4, 5, 7, 8, 6, 9, 10] [6, 9] ?_
  repeat ((first | refine qR _ (fun w' e => And.intro (((W1D.trans e).cell (p := ⟨r, 0, none⟩) (Nat.lt_succ_self r)).trans f0) (((W1D.trans e).cell (p := ⟨r, 1, none⟩) (Nat.lt_succ_self r)).trans f1)) ?_ | refine qS ?_); go_frame)
  have W0 : Hid (Below (r + 1) w1 w1.drew) := W1D
  have r2 : r + 1 ≤ w1.drew.heap.size := r1
  have cb2 := Lib.hid (cb1.ext (Ext.drew (Ext.refl w1)))
  clear W1D f0 f1 cb1
  generalize w1.drew = W at *
  have OL1 := Lib.hid (OL.out W (r + 1) r2)
  clear OL
  refine qD fun K hK => ?_
  go_simp
  refine hK.out _ _ ((Below.refl _ _).alloc r2 _) ?_
  clear hK K
  try go_frame
  have o3 : Hid (Own (r + 1) (W.alloc (.cells #[.int .u8 (x.toNat : Int), .int .u8 (y.toNat : Int)] 5)) (some ⟨W.heap.size, 0, none⟩) 2 2 xy) := OL1
  have x3 : Hid (Below (r + 1) w1 (W.alloc (.cells #[.int .u8 (x.toNat : Int), .int .u8 (y.toNat : Int)] 5))) := W0.out.alloc r2 _
  have cb3 : Hid (Bs (W.alloc (.cells #[.int .u8 (x.toNat : Int), .int .u8 (y.toNat : Int)] 5)) (some ⟨r, 2, none⟩) 32 32 cm) := cb2.out.ext ((Ext.refl _).alloc _)
  have r3 : r + 1 ≤ (W.alloc (.cells #[.int .u8 (x.toNat : Int), .int .u8 (y.toNat : Int)] 5)).heap.size := Nat.le_trans r1 x3.out.size
  repeat ((first | refine qR0 ?_ | refine qS ?_); go_frame)
  refine qD fun K hK => ?_
  refine wp_append_bs rfl rfl rfl o3.out cb3.out (by omega) r3 ?_
  intro A4 c4 w4 o4 g4 b4
  refine hK.out _ _ b4 ?_
  clear hK K
  try go_frame
  have x4 : Hid (Below (r + 1) w1 w4) := x3.out.trans b4
  replace o4 := Lib.hid o4
  clear g4 b4 o3 x3 cb3 r3 OL1 W0 cb2 u1 u2
  repeat ((first | refine qR0 ?_ | refine qS ?_); go_frame)
  refine seq_done ?_
  refine gen_q (fun W => Own (r + 1) W A4 (2 + 32) c4 (xy ++ cm) ∧ Below (r + 1) w1 W) ⟨o4.out, x4.out⟩ ?_
  clear o4 x4 r2
  rintro w5 ⟨o5, x5⟩
  obtain ⟨k5, y5, r5⟩ := EQ.out _ x5
  have h5 := Lib.hid (H34.out _ _ _ k5)
  replace k5 := Lib.hid k5
  replace o5 := Lib.hid o5
  replace x5 := Lib.hid x5
  clear y5
  go_wp2_with (refine wpList_load_mid rfl (g := r) (off := 34) (ys := hd) rfl rfl h5.out rfl rfl (by rw [L_h]; rfl) ?_; go_frame)
  refine (HB.out _).mono ?_
  rintro e w2 ⟨A2, n2, d2, rfl, b2, e2⟩
  obtain rfl : n2 = 40 := by rw [← b2.len, l_hl]
  have o6 := Lib.hid (o5.out.ext e2)
  have x6 : Hid (Below (r + 1) w1 w2) := x5.out.trans (e2.mono r5)
  have r6 := (EQ.out _ x6.out).2.2
  replace b2 := Lib.hid b2
  clear h5 k5 o5 x5 e2 HB
  go_upto_region 6 with (at_builtin; (with_reducible refine wpList_append_bs rfl (B := r + 1) (s := .tmp 26) (x := .tmp 27) rfl rfl rfl o6.out b2.out (by omega) r6 ?_); intro A6 c6 w6 o6_ g6 b6; replace o6_ := Lib.hid o6_; clear g6; replace b6 := Lib.hid b6; go_frame)
  refine wp_gen (fun W => Own (r + 1) W A6 (2 + 32 + 40) c6 ((xy ++ cm) ++ hl) ∧ Below (r + 1) w1 W) ⟨o6_.out, x6.out.trans b6.out⟩ ?_
  clear o6_ b6 x6 o6 b2 r6 r5
  rintro w7 ⟨o7, x7⟩
  obtain ⟨k7, _, _⟩ := EQ.out _ x7
  have f7 := k7.cell c68.out
  clear k7
  replace o7 := Lib.hid o7
  replace x7 := Lib.hid x7
  go_wp2_with fail
  refine (H2.out _).mono ?_
  rintro e w8 ⟨A8, n8, c8, rfl, b8, e8⟩
  obtain rfl : n8 = 2 := by rw [← b8.len, l_h2]
  have o8 := Lib.hid (o7.out.ext e8)
  have x8 : Hid (Below (r + 1) w1 w8) := x7.out.trans (e8.mono (EQ.out _ x7.out).2.2)
  have r8 := (EQ.out _ x8.out).2.2
  replace b8 := Lib.hid b8
  clear o7 x7 e8 f7 H2
  go_upto_region 7 with (at_builtin; (with_reducible refine wpList_append_bs rfl (B := r + 1) (s := .tmp 29) (x := .tmp 34) rfl rfl rfl o8.out b8.out (by omega) r8 ?_); intro A9 c9 w9 o9 g9 b9; replace o9 := Lib.hid o9; clear g9; replace b9 := Lib.hid b9; go_frame)
  refine wp_gen (fun W => Own (r + 1) W A9 (2 + 32 + 40 + 2) c9 (((xy ++ cm) ++ hl) ++ h2) ∧ Below (r + 1) w1 W) ⟨o9.out, x8.out.trans b9.out⟩ ?_
  clear o9 b9 x8 o8 b8 r8
  rintro v1 ⟨o1, y1⟩
  obtain ⟨kv, xv, rv⟩ := EQ.out _ y1
  have fv := kv.cell c68.out
  have bv := Lib.hid (BX.out _ xv)
  clear kv xv
  replace o1 := Lib.hid o1
  replace y1 := Lib.hid y1
  go_wp2_with (at_builtin; (with_reducible refine wpList_append_bs rfl (B := r + 1) (s := .tmp 36) (x := .tmp 38) rfl rfl rfl o1.out bv.out (by omega) rv ?_); intro A5 c5 v2 o2 g2 b2; replace o2 := Lib.hid o2; clear g2; replace b2 := Lib.hid b2; go_frame)
  go_ret2
  exact ⟨A5, _, c5, rfl, by rw [← hR.out]; exact o2.out.bs, (EQ.out _ (y1.out.trans b2.out)).2.1⟩
end Go.Proofs.YtbnjmmefnjoofaaDoor
