import Derived.Test.YtbnjmmefnjoofaaDoorPkL
/-
  head.Envelope, of an envelope that is valid.
-/
namespace Go.Proofs.YtbnjmmefnjoofaaDoor
open Go.ChangeShapes Go.WideShapes Go.ChangeAt Go.RowKit Go.Deep
set_option maxRecDepth 100000

def high2 (n : Nat) : List UInt8 := (lowL n 2).reverse
theorem high2_len (n : Nat) : (high2 n).length = 2 := by rw [high2, List.length_reverse, lowL_len]
def envL (x y : UInt8) (cm pk : List UInt8) (p n : Nat) (body : List UInt8) : List UInt8 := ((([x, y] ++ cm) ++ headL pk p n) ++ high2 body.length) ++ body
theorem envL_len {x y : UInt8} {cm pk : List UInt8} (hc : cm.length = 32) (hk : pk.length = 32) (p n : Nat) (body : List UInt8) : (envL x y cm pk p n body).length = 76 + body.length := by
  simp [envL, hc, headL_len hk, high2_len]
  omega
theorem Own.lit2 (w : World) (B : Nat) (x y : UInt8) (hB : B ≤ w.heap.size) : Own B (w.alloc (.cells #[.int .u8 (x.toNat : Int), .int .u8 (y.toNat : Int)] 5)) (some ⟨w.heap.size, 0, none⟩) 2 2 [x, y] :=
  World.ownsRow_lit (e := 5) (size := 1) w #[.int .u8 (x.toNat : Int), .int .u8 (y.toNat : Int)] 2 hB (by unfold maxLen; omega) rfl
set_option maxHeartbeats 8000000 in
theorem envelope_ok {w : World} {x y : UInt8} {cm pk body : List UInt8} {p n : Nat} {A : Option Addr} {m c : Nat} (hc : cm.length = 32) (hk : pk.length = 32) (hx : x.toNat ≤ 7) (hy : y.toNat ≤ 7) (hp : p ≤ 1000000) (hn : n ≤ 1000000) (hb : Bs w A m c body) (hm : m ≤ 600) :
    Calls Tryd.prog 42 #[.agg (evC (x.toNat : Int) (y.toNat : Int) cm pk (p : Int) (n : Int) A m c).toArray] w (RetBsE (envL x y cm pk p n body) 0 w) := by
  have hok : okE (x.toNat : Int) (y.toNat : Int) (p : Int) (n : Int) m = true := by
    unfold okE okH upB
    simp only [Bool.and_eq_true, decide_eq_true_eq]
    omega
  have VE := Lib.hid (fun (W : World) => validEnvelope_calls (w := W) (f := (x.toNat : Int)) (t := (y.toNat : Int)) (p := (p : Int)) (n := (n : Int)) (A := A) (m := m) (c := c) hc hk (by omega))
  rw [hok] at VE
  have HB := Lib.hid (fun (W : World) => headBytes_ok (w := W) hk hp hn)
  have lm := hb.len
  have H2 : Hid (∀ W, Calls Tryd.prog 41 #[.int .u64 (m : Int), .int .i64 2] W (RetBs (high2 m) W)) := fun W => high_calls (by omega) (by omega) (by omega) (by omega) rfl
  have u1 : IntKind.u8.wrap (x.toNat : Int) = (x.toNat : Int) := IntWalk.u8_in _ (by omega)
  have u2 : IntKind.u8.wrap (y.toNat : Int) = (y.toNat : Int) := IntWalk.u8_in _ (by omega)
  have u3 : IntKind.u64.wrap (m : Int) = (m : Int) := IntWalk.u64_in _ (by omega)
  obtain ⟨c0, c1, c68, ch, c5⟩ := ev_cells hc hk (x.toNat : Int) (y.toNat : Int) (p : Int) (n : Int) A m c
  replace c0 := Lib.hid c0
  replace c1 := Lib.hid c1
  replace c68 := Lib.hid c68
  have H34 : Hid (∀ (W : World) (g : Nat) T, Cb W g T (evC (x.toNat : Int) (y.toNat : Int) cm pk (p : Int) (n : Int) A m c) → ∀ j v, (hdC pk (p : Int) (n : Int))[j]? = some v → W.cell? ⟨g, 34 + j, none⟩ = some v) := fun W g T k => k.mid ch (by simp [cellsOf_len, hc])
  have HC : Hid (∀ (W : World) (g : Nat) T, Cb W g T (evC (x.toNat : Int) (y.toNat : Int) cm pk (p : Int) (n : Int) A m c) → Bs W (some ⟨g, 2, none⟩) 32 32 cm) := fun W g T k => k.bs c5 rfl hc (by omega)
  clear c5 ch
  have hR : Hid (((([x, y] ++ cm) ++ headL pk p n) ++ high2 m) ++ body = envL x y cm pk p n body) := by unfold Hid envL; rw [lm]
  have L_h := hdC_len hk (p : Int) (n : Int)
  have L_ev := evC_len hc hk (x.toNat : Int) (y.toNat : Int) (p : Int) (n : Int) A m c
  have OL := Lib.hid (fun (W : World) (B : Nat) (h : B ≤ W.heap.size) => Own.lit2 W B x y h)
  have l_hl := headL_len hk p n
  have l_h2 := high2_len m
  generalize headL pk p n = hl at *
  generalize hdC pk (p : Int) (n : Int) = hd at *
  generalize evC (x.toNat : Int) (y.toNat : Int) cm pk (p : Int) (n : Int) A m c = ev at *
  generalize envL x y cm pk p n body = rr at *
  generalize high2 m = h2 at *
  have lxy : ([x, y] : List UInt8).length = 2 := rfl
  generalize [x, y] = xy at *
  have S_ev : ev.toArray.size = 69 := by rw [List.size_toArray, L_ev]
  replace hb := Lib.hid hb
  have BX : Hid (∀ s, Ext w s → Bs s A m c body) := fun s e => hb.out.ext e
  clear hok hp hn hb
  obtain ⟨r, hr⟩ : ∃ r, r = w.heap.size := ⟨_, rfl⟩
  have B0 : Hid (Cb (w.alloc (Obj.cells ev.toArray 37)) r 37 ev ∧ Ext w (w.alloc (Obj.cells ev.toArray 37))) := by rw [hr]; exact ⟨Cb.new _ _ _, (Ext.refl w).alloc _⟩
  go_enter Tryd.func42, Tryd.ntmps42
  go_upto_region 1 with fail
  refine wp_gen (fun W => Cb W r 37 ev ∧ Ext w W) B0.out ?_
  rw [← hr]
  have wr : w.heap.size ≤ r := Nat.le_of_eq hr.symm
  clear B0
  replace hr := Lib.hid hr
  rintro w0 ⟨k0, x0⟩
  replace k0 := Lib.hid k0
  replace x0 := Lib.hid x0
  go_wp2_with (refine wpList_load_row rfl 37 _ rfl r rfl 37 ev.toArray (0, 0) _ k0.out rfl rfl (by rw [S_ev]; rfl) ?_; go_frame)
  refine (VE.out _).mono ?_
  rintro e w1 ⟨rfl, e1⟩
  have k1 := Lib.hid (k0.out.ext e1)
  have x1 := Lib.hid (x0.out.trans e1)
  have q1 := Lib.hid (H34.out _ _ _ k1.out)
  clear k0 x0 e1 VE
  go_wp2_with (refine wpList_load_mid rfl (g := r) (off := 34) (ys := hd) rfl rfl q1.out rfl rfl (by rw [L_h]; rfl) ?_; go_frame)
  refine (HB.out _).mono ?_
  rintro e w2 ⟨A2, n2, d2, rfl, b2, e2⟩
  obtain rfl : n2 = 40 := by rw [← b2.len, l_hl]
  have k2 := k1.out.ext e2
  have x2 := x1.out.trans e2
  have f0 := k2.cell c0.out
  have f1 := k2.cell c1.out
  have Q2 : Hid (∀ s, Ext w2 s → Bs s A2 40 d2 hl ∧ Cb s r 37 ev ∧ Ext w s) := fun s e => ⟨b2.ext e, k2.ext e, x2.trans e⟩
  obtain ⟨g3, hg3⟩ : ∃ g, g = w2.heap.size := ⟨_, rfl⟩
  have z2 : Hid (Own g3 (w2.alloc (.cells #[.int .u8 (x.toNat : Int), .int .u8 (y.toNat : Int)] 5)) (some ⟨g3, 0, none⟩) 2 2 xy ∧ Below g3 w2 (w2.alloc (.cells #[.int .u8 (x.toNat : Int), .int .u8 (y.toNat : Int)] 5))) := by
    rw [hg3]
    exact ⟨OL.out w2 _ (Nat.le_refl _), (Ext.refl _).alloc _⟩
  have EQ : Hid (∀ s, Below g3 w2 s → Bs s A2 40 d2 hl ∧ Cb s r 37 ev ∧ Ext w s ∧ g3 ≤ s.heap.size) := fun s e => by
    rw [hg3] at e ⊢
    obtain ⟨q1, q2, q3⟩ := Q2.out s e
    exact ⟨q1, q2, q3, e.size⟩
  replace hg3 := Lib.hid hg3
  clear k1 x1 q1 e2 HB k2 x2 OL b2 Q2
  go_upto_region 5 with fail
  rw [← hg3.out]
  refine wp_gen (fun W => Own g3 W (some ⟨g3, 0, none⟩) 2 2 xy ∧ Below g3 w2 W) z2.out ?_
  clear z2 f0 f1 u1 u2 hg3
  rintro w3 ⟨o3, x3⟩
  obtain ⟨b3, k3, _, r3⟩ := EQ.out _ x3
  have cb3 := Lib.hid (HC.out _ _ _ k3)
  replace o3 := Lib.hid o3
  replace x3 := Lib.hid x3
  clear b3 k3
  go_upto_region 6 with (at_builtin; (with_reducible refine wpList_append_bs rfl (B := g3) (s := .tmp 23) (x := .tmp 25) rfl rfl rfl o3.out cb3.out (by omega) r3 ?_); intro A4 c4 w4 o4 g4 b4; replace o4 := Lib.hid o4; clear g4; replace b4 := Lib.hid b4; go_frame)
  refine wp_gen (fun W => Own g3 W A4 (2 + 32) c4 (xy ++ cm) ∧ Below g3 w2 W) ⟨o4.out, x3.out.trans b4.out⟩ ?_
  clear o4 b4 x3 o3 cb3 r3
  rintro w5 ⟨o5, x5⟩
  obtain ⟨b5, _, _, r5⟩ := EQ.out _ x5
  replace b5 := Lib.hid b5
  replace o5 := Lib.hid o5
  replace x5 := Lib.hid x5
  go_upto_region 7 with (at_builtin; (with_reducible refine wpList_append_bs rfl (B := g3) (s := .tmp 27) (x := .tmp 28) rfl rfl rfl o5.out b5.out (by omega) r5 ?_); intro A6 c6 w6 o6 g6 b6; replace o6 := Lib.hid o6; clear g6; replace b6 := Lib.hid b6; go_frame)
  refine wp_gen (fun W => Own g3 W A6 (2 + 32 + 40) c6 ((xy ++ cm) ++ hl) ∧ Below g3 w2 W) ⟨o6.out, x5.out.trans b6.out⟩ ?_
  clear o6 b6 x5 o5 b5 r5
  rintro w7 ⟨o7, x7⟩
  obtain ⟨_, k7, _, _⟩ := EQ.out _ x7
  have f7 := k7.cell c68.out
  clear k7
  replace o7 := Lib.hid o7
  replace x7 := Lib.hid x7
  go_wp2_with fail
  refine (H2.out _).mono ?_
  rintro e w8 ⟨A8, n8, c8, rfl, b8, e8⟩
  obtain rfl : n8 = 2 := by rw [← b8.len, l_h2]
  have o8 := Lib.hid (o7.out.ext e8)
  have x8 : Hid (Below g3 w2 w8) := x7.out.trans (e8.mono (EQ.out _ x7.out).2.2.2)
  have r8 := (EQ.out _ x8.out).2.2.2
  replace b8 := Lib.hid b8
  clear o7 x7 e8 f7 H2
  go_upto_region 8 with (at_builtin; (with_reducible refine wpList_append_bs rfl (B := g3) (s := .tmp 30) (x := .tmp 35) rfl rfl rfl o8.out b8.out (by omega) r8 ?_); intro A9 c9 w9 o9 g9 b9; replace o9 := Lib.hid o9; clear g9; replace b9 := Lib.hid b9; go_frame)
  refine wp_gen (fun W => Own g3 W A9 (2 + 32 + 40 + 2) c9 (((xy ++ cm) ++ hl) ++ h2) ∧ Below g3 w2 W) ⟨o9.out, x8.out.trans b9.out⟩ ?_
  clear o9 b9 x8 o8 b8 r8
  rintro v1 ⟨o1, y1⟩
  obtain ⟨_, kv, xv, rv⟩ := EQ.out _ y1
  have fv := kv.cell c68.out
  have bv := Lib.hid (BX.out _ xv)
  clear kv xv
  replace o1 := Lib.hid o1
  replace y1 := Lib.hid y1
  go_wp2_with (at_builtin; (with_reducible refine wpList_append_bs rfl (B := g3) (s := .tmp 37) (x := .tmp 39) rfl rfl rfl o1.out bv.out (by omega) rv ?_); intro A5 c5 v2 o2 g2 b2; replace o2 := Lib.hid o2; clear g2; replace b2 := Lib.hid b2; go_frame)
  go_ret2
  exact ⟨A5, _, c5, rfl, by rw [← hR.out]; exact o2.out.bs, (EQ.out _ (y1.out.trans b2.out)).2.2.1⟩
end Go.Proofs.YtbnjmmefnjoofaaDoor
