import Derived.Test.YtbkmnmhfjgmoiaaDoorPkF
import Derived.Test.YtbkmnmhfjgmoiaaDoorL16Makes
import Derived.Test.YtbkmnmhfjgmoiaaDoorKeyEq
/-
  palfreylaw16.StampEpochs (written by gen16p.py).
-/
namespace Go.Proofs.YtbkmnmhfjgmoiaaDoor
open Go.ChangeShapes Go.WideShapes Go.ChangeAt Go.RowKit Go.Deep Go.Maps
set_option maxRecDepth 100000

theorem ep_facts {root : List UInt8} {n f t k : Nat} {cm : List UInt8} (hn : 1 ≤ n) (lc : cm.length = 32) (hf : f ≤ 7) (ht : t ≤ 7) (hk : k ≤ 1000000) :
    mkS root n (f : Int) (t : Int) cm (k : Int) = ⟨((k / n : Nat) : Int), f, t, k, cm, tagL16 root (k / n) f t k cm⟩ ∧ mkE (f : Int) (t : Int) (k : Int) = 0 ∧
    chkE root n ⟨((k / n : Nat) : Int), f, t, k, cm, tagL16 root (k / n) f t k cm⟩ (k : Int) = 0 ∧
    bytesE ⟨((k / n : Nat) : Int), f, t, k, cm, tagL16 root (k / n) f t k cm⟩ = 0 ∧ (bytesS ⟨((k / n : Nat) : Int), f, t, k, cm, tagL16 root (k / n) f t k cm⟩).length = 74 := by
  have up : ∀ (a b : Nat), a ≤ b → upB (a : Int) (b : Int) = true := fun a b h => by unfold upB; simp; omega
  have hd : k / n ≤ 1000000 := Nat.le_trans (Nat.div_le_self _ _) (by omega)
  have hm : mkOk (f : Int) (t : Int) (k : Int) = true := by
    unfold mkOk
    rw [show (1000000 : Int) = ((1000000 : Nat) : Int) from rfl, show (7 : Int) = ((7 : Nat) : Int) from rfl, up _ _ hk, up _ _ hf, up _ _ ht]; rfl
  have hv : (Sm.valid ⟨((k / n : Nat) : Int), f, t, k, cm, tagL16 root (k / n) f t k cm⟩) = true := by
    unfold Sm.valid okS
    rw [show (1000000 : Int) = ((1000000 : Nat) : Int) from rfl, show (7 : Int) = ((7 : Nat) : Int) from rfl, up _ _ hk, up _ _ hf, up _ _ ht, up _ _ hd]; rfl
  have hv2 : (Sm.valid ⟨((k / n : Nat) : Int), f, t, k, cm, tagL16 root (k / n) f t k cm⟩ && upB (k : Int) 1000000) = true := by
    rw [hv, show (1000000 : Int) = ((1000000 : Nat) : Int) from rfl, up _ _ hk]; rfl
  obtain ⟨_, M1⟩ := mk_facts (root := root) (ticks := n) (f := (f : Int)) (t := (t : Int)) (cm := cm) (now := (k : Int))
  obtain ⟨e1, e2⟩ := M1 hm
  obtain ⟨_, _, _, C⟩ := chk_facts (root := root) (ticks := n) (s := ⟨((k / n : Nat) : Int), f, t, k, cm, tagL16 root (k / n) f t k cm⟩) (now := (k : Int))
  refine ⟨e1, e2, ?_, by unfold bytesE; rw [hv]; rfl, bytesS_len ⟨lc, tagL16_len _ _ _ _ _ _⟩ hv⟩
  rw [C hv2 rfl rfl, if_neg (by dsimp only; omega)]
set_option maxHeartbeats 16000000 in
theorem epochs16_calls {w : World} {root : List UInt8} (lr : root.length = 32) {y z : Int} {f t pp nn : Int} {cm pk : List UInt8} {A : Option Addr} {m c : Nat} (lc : cm.length = 32) (lk : pk.length = 32) {tg : TypeId × Nat × Nat} (hG : Gl w tg) :
    Calls Tryd.prog 7 #[.agg (cellsOf root).toArray, .agg (evC f t cm pk pp nn A m c).toArray, .agg #[.int .i64 y, .int .i64 z]] w fun e w' => e = .returned (.bool true) ∧ Ext w w' := by
  have AW : Hid (∀ W : World, Ext w W → Calls Tryd.prog 8 #[] W fun e w' => e = .returned (.bool true) ∧ Ext W w') := fun W x => awake16_calls (hG.kept x hG.lt)
  have L_ev := evC_len lc lk f t pp nn A m c
  have PS := Lib.hid (fun (W : World) (g b q n : Nat) (h : SR W g b q root n []) (h1 : 1 ≤ n) (h2 : n ≤ 1000000) (hg : Gl W tg) => stamp16_calls h (Nat.zero_le _) h1 h2 (f := f) (t := t) (pp := pp) (nn := nn) (now := z) (A := A) (m := m) (c := c) lc lk hg)
  have e0 : Hid ((evC f t cm pk pp nn A m c)[0]? = some (.int .i64 f)) := rfl
  have e1 : Hid ((evC f t cm pk pp nn A m c)[1]? = some (.int .i64 t)) := rfl
  have ec := Lib.hid (fun _ : Unit => (ev_cells lc lk f t pp nn A m c).2.2.2.2)
  generalize evC f t cm pk pp nn A m c = ev at *
  have S_ev : ev.toArray.size = 69 := by rw [List.size_toArray, L_ev]
  have S_r : (cellsOf root).toArray.size = 32 := by simp [cellsOf_len, lr]
  have C_cm : (cellsOf cm).length = 32 := by rw [cellsOf_len, lc]
  obtain ⟨r, hr⟩ : ∃ r, r = w.heap.size := ⟨_, rfl⟩
  have B0 : Hid (Cb (((w.alloc (.cells (cellsOf root).toArray 23)).alloc (.cells ev.toArray 29)).alloc (.cells #[.int .i64 y, .int .i64 z] 24)) r 23 (cellsOf root) ∧ Cb (((w.alloc (.cells (cellsOf root).toArray 23)).alloc (.cells ev.toArray 29)).alloc (.cells #[.int .i64 y, .int .i64 z] 24)) (r + 1) 29 ev ∧ Cb (((w.alloc (.cells (cellsOf root).toArray 23)).alloc (.cells ev.toArray 29)).alloc (.cells #[.int .i64 y, .int .i64 z] 24)) (r + 1 + 1) 24 [.int .i64 y, .int .i64 z] ∧ Ext w (((w.alloc (.cells (cellsOf root).toArray 23)).alloc (.cells ev.toArray 29)).alloc (.cells #[.int .i64 y, .int .i64 z] 24))) := by
    rw [hr]
    exact ⟨heap_alloc30 _ _ _ _, heap_alloc31 _ _ _ _, heap_alloc32 _ _ _ _, (((Ext.refl w).alloc _).alloc _).alloc _⟩
  replace hG : Hid (∀ W, Ext w W → Gl W tg) := fun W x => hG.kept x hG.lt
  go_enter Tryd.func7, Tryd.ntmps7
  go_upto_region 1 with fail
  refine wp_gen (fun W => Cb W r 23 (cellsOf root) ∧ Cb W (r + 1) 29 ev ∧ Cb W (r + 1 + 1) 24 [.int .i64 y, .int .i64 z] ∧ Ext w W) B0.out ?_
  rw [← hr]
  have wr : w.heap.size ≤ r := Nat.le_of_eq hr.symm
  clear B0
  replace hr := Lib.hid hr
  rintro w0 ⟨k0, k1, k2, x0⟩
  have P0 : Hid (∀ s, Ext w0 s → Cb s r 23 (cellsOf root) ∧ Cb s (r + 1) 29 ev ∧ Cb s (r + 1 + 1) 24 [.int .i64 y, .int .i64 z] ∧ Ext w s) := fun s x => ⟨k0.ext x, k1.ext x, k2.ext x, x0.trans x⟩
  have A0 := Lib.hid (AW.out w0 x0)
  have hz : r + 1 + 1 < w0.heap.size := k2.lt
  clear AW k0 k1 k2 x0
  go_upto_region 1 with fail
  go_wp2_with fail
  refine A0.out.mono ?_
  rintro e w1 ⟨rfl, x1⟩
  obtain ⟨k0, k1, k2, xw⟩ := P0.out w1 x1
  have c0 := k2.cell (j := 0) (v := .int .i64 y) rfl
  have c1 := k2.cell (j := 1) (v := .int .i64 z) rfl
  have d0 := k1.cell e0.out
  have d1 := k1.cell e1.out
  replace k0 := Lib.hid k0
  replace x1 := Lib.hid x1
  have F0 := Lib.hid xw
  clear A0 k1 k2
  by_cases h0 : y < 1
  · have u0 : decide (y < 1) = true := decide_eq_true h0
    clear P0 PS hG xw k0 x1 ec e0 e1
    go_wp2_with fail
    go_ret
    exact ⟨rfl, F0.out⟩
  have u0 : decide (y < 1) = false := decide_eq_false h0
  by_cases h1 : (1000000 : Int) < y
  · have u1 : decide ((1000000 : Int) < y) = true := decide_eq_true h1
    clear P0 PS hG xw k0 x1 ec e0 e1
    go_wp2_with fail
    go_ret
    exact ⟨rfl, F0.out⟩
  have u1 : decide ((1000000 : Int) < y) = false := decide_eq_false h1
  by_cases h2 : z < 0
  · have u2 : decide (z < 0) = true := decide_eq_true h2
    clear P0 PS hG xw k0 x1 ec e0 e1
    go_wp2_with fail
    go_ret
    exact ⟨rfl, F0.out⟩
  have u2 : decide (z < 0) = false := decide_eq_false h2
  by_cases h3 : (1000000 : Int) < z
  · have u3 : decide ((1000000 : Int) < z) = true := decide_eq_true h3
    clear P0 PS hG xw k0 x1 ec e0 e1
    go_wp2_with fail
    go_ret
    exact ⟨rfl, F0.out⟩
  have u3 : decide ((1000000 : Int) < z) = false := decide_eq_false h3
  by_cases h4 : f < 0
  · have u4 : decide (f < 0) = true := decide_eq_true h4
    clear P0 PS hG xw k0 x1 ec e0 e1
    go_wp2_with fail
    go_ret
    exact ⟨rfl, F0.out⟩
  have u4 : decide (f < 0) = false := decide_eq_false h4
  by_cases h5 : (7 : Int) < f
  · have u5 : decide ((7 : Int) < f) = true := decide_eq_true h5
    clear P0 PS hG xw k0 x1 ec e0 e1
    go_wp2_with fail
    go_ret
    exact ⟨rfl, F0.out⟩
  have u5 : decide ((7 : Int) < f) = false := decide_eq_false h5
  by_cases h6 : t < 0
  · have u6 : decide (t < 0) = true := decide_eq_true h6
    clear P0 PS hG xw k0 x1 ec e0 e1
    go_wp2_with fail
    go_ret
    exact ⟨rfl, F0.out⟩
  have u6 : decide (t < 0) = false := decide_eq_false h6
  by_cases h7 : (7 : Int) < t
  · have u7 : decide ((7 : Int) < t) = true := decide_eq_true h7
    clear P0 PS hG xw k0 x1 ec e0 e1
    go_wp2_with fail
    go_ret
    exact ⟨rfl, F0.out⟩
  have u7 : decide ((7 : Int) < t) = false := decide_eq_false h7
  clear F0
  obtain ⟨n, rfl, n1, n6⟩ : ∃ n : Nat, y = (n : Int) ∧ 1 ≤ n ∧ n ≤ 1000000 := ⟨y.toNat, by omega, by omega, by omega⟩
  obtain ⟨k, rfl, hk⟩ : ∃ n : Nat, z = (n : Int) ∧ n ≤ 1000000 := ⟨z.toNat, by omega, by omega⟩
  obtain ⟨f, rfl, hf⟩ : ∃ n : Nat, f = (n : Int) ∧ n ≤ 7 := ⟨f.toNat, by omega, by omega⟩
  obtain ⟨t, rfl, ht⟩ : ∃ n : Nat, t = (n : Int) ∧ n ≤ 7 := ⟨t.toNat, by omega, by omega⟩
  clear h0 h1 h2 h3 h4 h5 h6 h7
  obtain ⟨W1, W2, W3, W4, W5⟩ := ep_facts (root := root) (cm := cm) n1 lc hf ht hk
  have N1 : Hid (∀ W : World, Calls Tryd.prog 9 #[.agg (cellsOf root).toArray, .int .i64 (n : Int)] W fun e w' => ∃ (g b q : Nat), e = .returned (.tuple #[.pointer (some ⟨g, 0, none⟩), .int .i64 0]) ∧ (W.heap.size ≤ g ∧ W.heap.size ≤ b ∧ W.heap.size ≤ q) ∧ SR w' g b q root n [] ∧ Ext W w') := fun W => snew16_ok lr n1 n6
  have PN := Lib.hid (fun W g b q (h : SR W g b q root n []) (hg : Gl W tg) => PS.out W g b q n h n1 n6 hg)
  rw [W1, W2] at PN
  have L_t := tagL16_len root (k / n) f t k cm
  clear W1 W2 PS e0 e1 hf ht
  have CK := Lib.hid (fun (W : World) (g b q : Nat) (EE : List (Value × Value)) (h : SR W g b q root n EE) (hE : EE.length ≤ 1000000) (hg : Gl W tg) => check16_calls h hE n1 n6 (s := ⟨((k / n : Nat) : Int), f, t, k, cm, tagL16 root (k / n) f t k cm⟩) ⟨lc, L_t⟩ (now := (k : Int)) hg)
  rw [W3] at CK
  have BY := Lib.hid (fun (W : World) => bytes16_calls (w := W) (s := ⟨((k / n : Nat) : Int), f, t, k, cm, tagL16 root (k / n) f t k cm⟩) ⟨lc, L_t⟩)
  rw [W4] at BY
  generalize bytesS ⟨((k / n : Nat) : Int), f, t, k, cm, tagL16 root (k / n) f t k cm⟩ = bs at *
  clear W3 W4
  generalize tagL16 root (k / n) f t k cm = tgv at *
  obtain ⟨ep, hep⟩ : ∃ ep, ep = k / n := ⟨_, rfl⟩
  rw [← hep] at PN CK BY
  have ep6 : ep ≤ 1000000 := by rw [hep]; exact Nat.le_trans (Nat.div_le_self _ _) (by omega)
  have dq : Int.tdiv (k : Int) (n : Int) = (ep : Int) := by rw [Int.tdiv_eq_ediv_of_nonneg (by omega), hep]; rfl
  have dq2 : (k : Int) / (n : Int) = (ep : Int) := by rw [hep]; rfl
  have dwr : IntKind.i64.wrap (ep : Int) = (ep : Int) := IntWalk.i64_in _ (by omega)
  have tne : ¬ (n : Int) = 0 := by omega
  have tne3 : ¬ n = 0 := by omega
  have tne2 : ((n : Int) == 0) = false := beq_eq_false_iff_ne.2 (by omega)
  clear hep
  obtain ⟨SC, hSC⟩ : ∃ x, x = Sm.C ⟨(ep : Int), (f : Int), (t : Int), (k : Int), cm, tgv⟩ := ⟨_, rfl⟩
  rw [← hSC] at PN CK BY
  have hS : SC = stC ep f t k cm tgv := hSC
  have HL : Hid (∃ ep f t tm cm tg, SC = stC ep f t tm cm tg ∧ cm.length = 32 ∧ tg.length = 32) := Lib.hid ⟨_, _, _, _, _, _, hS, lc, L_t⟩
  have L_S : SC.length = 68 := by rw [hS]; exact stC_len lc L_t _ _ _ _
  have O_S : SC.toArray.all (·.oneCell') = true := by rw [hS]; exact one_cells one_st
  have S_S : SC.toArray.size = 68 := by rw [List.size_toArray, L_S]
  have cS0 : Hid (SC[0]? = some (.int .i64 (ep : Int))) := by rw [hS]; exact Lib.hid rfl
  clear hS hSC L_S
  have hal := stamp_alloc16
  have L_Z := Sm.C_len zSm_ok
  generalize zSm.C = ZS at *
  have S_Z : ZS.toArray.size = 68 := by rw [List.size_toArray, L_Z]
  clear L_Z L_t
  have DQ : Hid (Int.tdiv (k : Int) (n : Int) = (ep : Int) ∧ (k : Int) / (n : Int) = (ep : Int)) := And.intro dq dq2
  clear dq dq2 dwr tne tne2 tne3
  go_wp2_with (first | ((with_reducible refine wpList_load_rowW (o := ⟨some 59, _, _, _, _, _⟩) ?_ 23 _ rfl r ?_ 23 (cellsOf root).toArray (0, 0) _ ?_ Tryd.underlying23 ?_ ?_ ?_); (· rfl); (· rfl); (· exact k0.out); (· rfl); (· rw [S_r]; rfl); simp only [Act.put, List.setIfInBounds_toArray, List.set_cons_zero, List.set_cons_succ]))
  refine (N1.out _).mono ?_
  rintro e w2 ⟨g, b, q, rfl, ⟨_, hb1, _⟩, s2, x2⟩
  obtain ⟨j0, _, j2, _⟩ := P0.out w2 (x1.out.trans x2)
  replace c0 := j2.cell (j := 0) (v := .int .i64 (n : Int)) rfl
  have z1 : w0.heap.size ≤ w1.heap.size := x1.out.size
  have x02 := Lib.hid (x1.out.trans x2)
  have bl2 := s2.mp.lt
  replace j0 := Lib.hid j0
  replace s2 := Lib.hid s2
  clear j2 x1 x2 k0 c1 d0 d1 xw
  go_wp2_with (first | ((with_reducible refine wpList_load_rowW (o := ⟨some 66, _, _, _, _, _⟩) ?_ 23 _ rfl r ?_ 23 (cellsOf root).toArray (0, 0) _ ?_ Tryd.underlying23 ?_ ?_ ?_); (· rfl); (· rfl); (· exact j0.out); (· rfl); (· rw [S_r]; rfl); simp only [Act.put, List.setIfInBounds_toArray, List.set_cons_zero, List.set_cons_succ]))
  refine (N1.out _).mono ?_
  rintro e w3 ⟨g', b', q', rfl, ⟨hg2, hb2, hq2⟩, s3, x3⟩
  have s2' := Lib.hid (s2.out.ext x3)
  have x03 := Lib.hid (x02.out.trans x3)
  obtain ⟨_, j1, j2, xw3⟩ := P0.out w3 x03.out
  replace c1 := j2.cell (j := 1) (v := .int .i64 (k : Int)) rfl
  have G3 := hG.out w3 xw3
  have P3 := Lib.hid (PN.out w3 g b q s2'.out G3)
  have GE : Hid (∀ s, w3.grownBy s (some b) → Gl s tg) := fun s x => G3.grown s2'.out.mp x
  replace j1 := Lib.hid j1
  replace s3 := Lib.hid s3
  clear N1 j0 j2 c0 x02 x3 hG G3 xw3 s2 s2'
  go_wp2_with (first | ((with_reducible refine wpList_load_rowW (o := ⟨some 88, _, _, _, _, _⟩) ?_ 29 _ rfl (r + 1) ?_ 29 ev.toArray (0, 0) _ ?_ Tryd.underlying29 ?_ ?_ ?_); (· rfl); (· rfl); (· exact j1.out); (· rfl); (· rw [S_ev]; rfl); simp only [Act.put, List.setIfInBounds_toArray, List.set_cons_zero, List.set_cons_succ]))
  refine P3.out.mono ?_
  rintro e w4 ⟨rfl, _, gr4⟩
  have OB : Hid (∀ u s, Ext w0 u → u.grownBy s (some b) → Ext w0 s) := fun u s x y => Below.trans x ⟨y.os, y.tape, y.output, y.size, fun i hi => y.block i (Nat.lt_of_lt_of_le hi x.size) (fun z => by have := Option.some.inj z; omega)⟩
  have OB2 : Hid (∀ u s, Ext w0 u → u.grownBy s (some b') → Ext w0 s) := fun u s x y => Below.trans x ⟨y.os, y.tape, y.output, y.size, fun i hi => y.block i (Nat.lt_of_lt_of_le hi x.size) (fun z => by have := Option.some.inj z; have := bl2; omega)⟩
  have x4 := Lib.hid (OB.out _ _ x03.out gr4)
  have t4 := Lib.hid (s3.out.stay (gr4.block _ s3.out.cb.lt (fun z => by have := Option.some.inj z; omega)) (gr4.block _ (heap_lt s3.out.kr.1) (fun z => by have := Option.some.inj z; omega)) (gr4.block _ s3.out.mp.lt (fun z => by have := Option.some.inj z; omega)))
  have G4 := Lib.hid (GE.out w4 gr4)
  have B4 : Hid (Cb ((w4.alloc (.cells ZS.toArray 36)).setRow w4.heap.size SC.toArray) w4.heap.size 36 SC ∧ Ext w4 ((w4.alloc (.cells ZS.toArray 36)).setRow w4.heap.size SC.toArray)) := ⟨Cb.set (Cb.new _ _ _), Ext.newRow _ _ _⟩
  have bl4 := t4.out.mp.lt
  have z04 : w0.heap.size ≤ w4.heap.size := x4.out.size
  clear P3 GE s3 x03 gr4 c1 j1 OB
  go_upto_region 9 with (refine wpList_store_row rfl 36 _ _ rfl w4.heap.size SC.toArray rfl rfl 36 ZS.toArray (heap_alloc_new _ _) (by rw [S_S]; rfl) (by rw [S_S, S_Z]) O_S ?_; simp only [Act.put])
  refine wp_gen (fun W => Cb W w4.heap.size 36 SC ∧ Ext w4 W) B4.out ?_
  generalize w4.heap.size = g12 at *
  clear B4
  rintro w5 ⟨k12, x5⟩
  have y5 := Lib.hid (x4.out.trans x5)
  obtain ⟨_, j1, j2, _⟩ := P0.out w5 y5.out
  have c1 := j2.cell (j := 1) (v := .int .i64 (k : Int)) rfl
  have t5 := t4.out.ext x5
  have G5 := G4.out.kept x5 G4.out.lt
  have P5 := Lib.hid (PN.out w5 g' b' q' t5 G5)
  have GE : Hid (∀ s, w5.grownBy s (some b') → Gl s tg) := fun s x => G5.grown t5.mp x
  replace j1 := Lib.hid j1
  replace k12 := Lib.hid k12
  clear PN t4 G4 x4 x5 j2 t5 G5
  go_wp2_with (first | ((with_reducible refine wpList_load_rowW (o := ⟨some 96, _, _, _, _, _⟩) ?_ 29 _ rfl (r + 1) ?_ 29 ev.toArray (0, 0) _ ?_ Tryd.underlying29 ?_ ?_ ?_); (· rfl); (· rfl); (· exact j1.out); (· rfl); (· rw [S_ev]; rfl); simp only [Act.put, List.setIfInBounds_toArray, List.set_cons_zero, List.set_cons_succ]))
  refine P5.out.mono ?_
  rintro e w6 ⟨rfl, ⟨E6, s6, e6⟩, gr6⟩
  have e6' : E6.length ≤ 1 := e6
  have x6 := Lib.hid (OB2.out _ _ y5.out gr6)
  have k6 : Cb w6 g12 36 SC := (gr6.block _ k12.out.lt (fun z => by have := Option.some.inj z; omega)).trans k12.out
  have B6 : Hid (Cb ((w6.alloc (.cells ZS.toArray 36)).setRow w6.heap.size SC.toArray) g12 36 SC ∧ Cb ((w6.alloc (.cells ZS.toArray 36)).setRow w6.heap.size SC.toArray) w6.heap.size 36 SC ∧ Ext w6 ((w6.alloc (.cells ZS.toArray 36)).setRow w6.heap.size SC.toArray)) := ⟨k6.ext (Ext.newRow _ _ _), Cb.set (Cb.new _ _ _), Ext.newRow _ _ _⟩
  have gl6 : g12 < w6.heap.size := k6.lt
  replace s6 := Lib.hid s6
  replace gr6 := Lib.hid gr6
  clear P5 y5 k12 c1 j1 e6 k6
  go_upto_region 10 with (refine wpList_store_row rfl 36 _ _ rfl w6.heap.size SC.toArray rfl rfl 36 ZS.toArray (heap_alloc_new _ _) (by rw [S_S]; rfl) (by rw [S_S, S_Z]) O_S ?_; simp only [Act.put])
  refine wp_gen (fun W => Cb W g12 36 SC ∧ Cb W w6.heap.size 36 SC ∧ Ext w6 W) B6.out ?_
  generalize w6.heap.size = g14 at *
  clear B6
  rintro w7 ⟨k12, k14, x7⟩
  replace k12 := Lib.hid k12
  go_wp2_with (first | ((with_reducible refine wpList_load_rowW (o := ⟨some 103, _, _, _, _, _⟩) ?_ 36 _ rfl g12 ?_ 36 SC.toArray (0, 0) _ ?_ Tryd.underlying36 ?_ ?_ ?_); (· rfl); (· rfl); (· exact k12.out); (· rfl); (· rw [S_S]; rfl); simp only [Act.put, List.setIfInBounds_toArray, List.set_cons_zero, List.set_cons_succ]))
  refine (BY.out w7).mono ?_
  rintro e w8 ⟨A8, n8, c8, rfl, o8, x8⟩
  obtain rfl : n8 = 74 := by rw [← o8.len, W5]
  have x68 := x7.trans x8
  have y8 := x6.out.trans x68
  have s8 := s6.out.ext x68
  have G8 := GE.out w8 (grown_trans' gr6.out (grown_ofE16 x68))
  have l12 := k12.out.ext x8
  have l14 := k14.ext x8
  have F8 : Hid (∀ s, w8.drew.grownBy s (some b') → Cb s g12 36 SC ∧ Cb s g14 36 SC ∧ Ext w0 s) := fun s x => ⟨(x.block _ l12.lt (fun z => by have := Option.some.inj z; omega)).trans l12, (x.block _ l14.lt (fun z => by have := Option.some.inj z; omega)).trans l14, OB2.out _ _ y8.drew x⟩
  have C8 : Hid (∀ s, w8.drew.grownBy s (some b') → s.cell? ⟨g12, 0, none⟩ = some (.int .i64 (ep : Int)) ∧ s.cell? ⟨r + 1 + 1, 0, none⟩ = some (.int .i64 (n : Int)) ∧ s.cell? ⟨r + 1 + 1, 1, none⟩ = some (.int .i64 (k : Int))) := fun s x => by
    obtain ⟨p1, p2, p3⟩ := F8.out s x
    obtain ⟨_, _, p4, _⟩ := P0.out s p3
    exact ⟨p1.cell cS0.out, p4.cell rfl, p4.cell rfl⟩
  have K8 := Lib.hid (CK.out w8.drew g' b' q' E6 (s8.ext (Ext.refl w8).drew) (by omega) (G8.kept (Ext.refl w8).drew G8.lt))
  have dq : Int.tdiv (k : Int) (n : Int) = (ep : Int) := DQ.out.1
  have dq2 : (k : Int) / (n : Int) = (ep : Int) := DQ.out.2
  have dwr : IntKind.i64.wrap (ep : Int) = (ep : Int) := IntWalk.i64_in _ (by omega)
  have tne : ¬ (n : Int) = 0 := by omega
  have tne3 : ¬ n = 0 := by omega
  have tne2 : ((n : Int) == 0) = false := beq_eq_false_iff_ne.2 (by omega)
  have ee : ((ep : Int) == (ep : Int)) = true := by simp
  clear k12 k14 x7 x8 x68 y8 s8 G8 l12 l14 s6 gr6 x6 BY CK GE OB2 o8
  go_upto_region 11 with fail
  refine wp_region_seq (R := fun a b => a.grownBy b (some b')) (fun w => World.grownBy.refl w _) (fun _ _ _ => gr_trans) [0, 1, 2, 3, 4, 5, 6, 7, 8, 9, 10, 11, 12, 13, 14, 15, 16, 17, 18, 19, 20, 21, 22, 23, 24, 25, 26, 27, 28, 29, 30, 31, 32, 33, 34, 35, 36, 37, 38, 39, 40, 41] [29] [(0, 108, 256), (1, 109, 324518553658426726783156020576256), (2, 110, 649037107316853453566312041168896), (6, 111, 1947111321950560360698936123457536), (10, 112, 3245185536584267267831560205762560), (18, 113, 5192296858534827628530496329220096), (32, 114, 10384593717069655257060992658505728), (96, 115, 31153781151208965771182977975320576), (160, 116, 51922968585348276285304963292200960), (288, 117, 83076749736557242056487941267521536), (512, 118, 166153499473114484112975882535051264), (512, 119, 166153499473114484112975882535075840), (3584, 120, 1163074496311801388790831177745301504), (4608, 121, 1495381495258030357016782942815387648), (8704, 122, 2658455991569831745807614120560689152), (16384, 123, 5316911983139663491615228241121386496), (49152, 124, 15950735949418990474845684723364134912), (16384, 125, 5316911983139663491615228241121378368), (147456, 126, 47852207848256971424537054170092404736), (16384, 127, 5316911983139663491615228241121378368), (540672, 128, 175458095443608895223302531957005484032), (1327104, 129, 430669870634312742820833487530831642624), (2179072, 130, 707149293757575244384825356069143314432), (4210688, 131, 1366446379666893517345113657968194224128), (8404992, 132, 2722258935367507707706996859454145691648), (16777216, 133, 5444517870735015415413993718908291385344), (16777216, 134, 5444517870735015415413993718908291391488), (16777216, 135, 5444517870735015415413993718908291383360), (150994944, 136, 49000660836615138738725943470174622449664), (385875968, 137, 125223911026905354554521855534890701815808), (553648128, 138, 179669089734255508708661792723973615648768), (1090519040, 139, 353893661597776002001909591729038939914240), (2684354560, 140, 696898287454081973172991196020261297061888), (4294967296, 141, 1393796574908163946345982392040522594385920), (12884901888, 142, 4181389724724491839037947176121567782371328), (21474836480, 143, 6968982874540819731729911960202612970618880), (38654705664, 144, 11150372599265311570767859136324180752990208), (68719476736, 145, 22300745198530623141535718272648361506111488), (206158430208, 146, 66902235595591869424607154817945084517941248), (343597383680, 147, 111503725992653115707678591363241807529902080), (618475290624, 148, 200706706786775608273821464453835253553823744), (2199023255551, 7, 356811923176489970264571492362373784095686656)] (by kernel_rfl) (by kernel_rfl) (by kernel_rfl) rfl (by kernel_rfl) (by kernel_rfl) (fun _ _ d _ _ h => by cases d <;> exact h) ?_
  repeat (first | (refine seq_read _ (fun w' e => C8.out w' e) _ (v := ?_) rfl rfl (by rfl) ?_ ?_; rotate_left; (· intro w' hF; go_simp; (try with_reducible rfl)); simp only [Act.put, List.setIfInBounds_toArray, List.set_cons_zero, List.set_cons_succ]) | (refine seq_skip _ rfl rfl (by rfl) ?_; simp only [Act.put, List.setIfInBounds_toArray, List.set_cons_zero, List.set_cons_succ]))
  refine seq_read (fun w' => w'.heap[g12]? = some (.cells SC.toArray 36 (0, 0))) (fun w' e => (F8.out w' e).1) _ (v := .agg SC.toArray) rfl rfl (by rfl) (fun w' hF => exec_load_row rfl rfl hF rfl rfl (by rw [S_S]; rfl)) ?_
  simp only [Act.put, List.setIfInBounds_toArray, List.set_cons_zero, List.set_cons_succ]
  refine seq_read (fun w' => w'.heap[g14]? = some (.cells SC.toArray 36 (0, 0))) (fun w' e => (F8.out w' e).2.1) _ (v := .agg SC.toArray) rfl rfl (by rfl) (fun w' hF => exec_load_row rfl rfl hF rfl rfl (by rw [S_S]; rfl)) ?_
  simp only [Act.put, List.setIfInBounds_toArray, List.set_cons_zero, List.set_cons_succ]
  refine seq_read (fun _ => True) (fun _ _ => trivial) _ (v := .bool true) rfl rfl (by rfl) (fun w' _ => exec_eql_stamp HL.out rfl rfl rfl) ?_
  simp only [Act.put, List.setIfInBounds_toArray, List.set_cons_zero, List.set_cons_succ]
  repeat (first | (refine seq_read _ (fun w' e => C8.out w' e) _ (v := ?_) rfl rfl (by rfl) ?_ ?_; rotate_left; (· intro w' hF; go_simp; (try with_reducible rfl)); simp only [Act.put, List.setIfInBounds_toArray, List.set_cons_zero, List.set_cons_succ]) | (refine seq_skip _ rfl rfl (by rfl) ?_; simp only [Act.put, List.setIfInBounds_toArray, List.set_cons_zero, List.set_cons_succ]))
  refine seq_read (fun w' => w'.heap[g12]? = some (.cells SC.toArray 36 (0, 0))) (fun w' e => (F8.out w' e).1) _ (v := .agg SC.toArray) rfl rfl (by rfl) (fun w' hF => exec_load_row rfl rfl hF rfl rfl (by rw [S_S]; rfl)) ?_
  simp only [Act.put, List.setIfInBounds_toArray, List.set_cons_zero, List.set_cons_succ]
  repeat (first | (refine seq_read _ (fun w' e => C8.out w' e) _ (v := ?_) rfl rfl (by rfl) ?_ ?_; rotate_left; (· intro w' hF; go_simp; (try with_reducible rfl)); simp only [Act.put, List.setIfInBounds_toArray, List.set_cons_zero, List.set_cons_succ]) | (refine seq_skip _ rfl rfl (by rfl) ?_; simp only [Act.put, List.setIfInBounds_toArray, List.set_cons_zero, List.set_cons_succ]))
  generalize w8.drew = V at *
  refine seq_do _ rfl rfl (by rfl) (fun K hK => ?_)
  go_simp
  refine K8.out.mono ?_
  rintro e w9 ⟨rfl, _, gr9⟩
  refine hK.out _ _ gr9 ?_
  clear hK K
  try simp only [Act.put, List.setIfInBounds_toArray, List.set_cons_zero, List.set_cons_succ]
  have FF : Hid (Ext w w9) := Lib.hid (P0.out w9 (F8.out w9 gr9).2.2).2.2.2
  clear K8 gr9 F8 C8 P0
  repeat (first | (refine seq_read (fun _ => True) (fun _ _ => trivial) _ (v := ?_) rfl rfl (by rfl) ?_ ?_; rotate_left; (· intro w' hF; go_simp; (try with_reducible rfl)); simp only [Act.put, List.setIfInBounds_toArray, List.set_cons_zero, List.set_cons_succ]) | (refine seq_skip _ rfl rfl (by rfl) ?_; simp only [Act.put, List.setIfInBounds_toArray, List.set_cons_zero, List.set_cons_succ]))
  refine seq_done ?_
  go_wp2_with fail
  go_ret
  exact ⟨rfl, FF.out⟩
end Go.Proofs.YtbkmnmhfjgmoiaaDoor
