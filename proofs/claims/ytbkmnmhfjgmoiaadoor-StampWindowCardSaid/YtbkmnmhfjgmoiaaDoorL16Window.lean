import Derived.Test.YtbkmnmhfjgmoiaaDoorPkF
import Derived.Test.YtbkmnmhfjgmoiaaDoorL16Makes
import Derived.Test.YtbkmnmhfjgmoiaaDoorPkD
import Derived.Test.YtbkmnmhfjgmoiaaDoorKeyEq
import Derived.Test.YtbkmnmhfjgmoiaaDoorCutB
/-
  palfreylaw16.StampWindow (written by gen16w.py).
-/
namespace Go.Proofs.YtbkmnmhfjgmoiaaDoor
open Go.ChangeShapes Go.WideShapes Go.ChangeAt Go.RowKit Go.Deep Go.Maps
set_option maxRecDepth 100000

theorem cells_flip16 {xs : List UInt8} {j k : Nat} (hj : j < xs.length) (hk : k < 8) : (cellsOf xs).set j (.int .u8 ((bt xs j ^^^ 2 ^ k : Nat) : Int)) = cellsOf (flip xs j k) := by
  apply List.ext_getElem?
  intro i
  simp only [List.getElem?_set, cellsOf_len]
  by_cases hi : i < xs.length
  · rw [cellsOf_get (xs := Go.Proofs.YtbkmnmhfjgmoiaaDoor.flip xs j k) (by rw [flip_len]; omega)]
    unfold Go.Proofs.YtbkmnmhfjgmoiaaDoor.flip
    rw [bt_set (by omega) (flip_lt hk)]
    by_cases e : j = i
    · subst e; simp [show j < xs.length by omega]
    · rw [if_neg e, if_neg (Ne.symm e)]
      have := cellsOf_get (xs := xs) (j := i) (by omega)
      simpa using this
  · have h1 : (cellsOf xs)[i]? = none := List.getElem?_eq_none (by rw [cellsOf_len]; omega)
    have h2 : (cellsOf (Go.Proofs.YtbkmnmhfjgmoiaaDoor.flip xs j k))[i]? = none := List.getElem?_eq_none (by rw [cellsOf_len, flip_len]; omega)
    rw [if_neg (by omega)]
    simp only [h2]
    simpa using h1
theorem st_flip {ep f t tm : Int} {cm tg : List UInt8} (lc : cm.length = 32) (lg : tg.length = 32) {i : Nat} (hi : i < 32) : (stC ep f t tm cm tg).set (36 + i) (.int .u8 ((bt tg i ^^^ 2 ^ 0 : Nat) : Int)) = stC ep f t tm cm (flip tg i 0) := by
  obtain ⟨_, h1, h2⟩ := st_parts (ep := ep) (f := f) (t := t) (tm := tm) (tg := tg) lc
  obtain ⟨_, h3, _⟩ := st_parts (ep := ep) (f := f) (t := t) (tm := tm) (tg := flip tg i 0) lc
  rw [h1, h3, List.set_append_right _ _ (by rw [h2]; omega), h2, Nat.add_sub_cancel_left, List.append_nil, List.append_nil, cells_flip16 (by omega) (by omega)]
theorem Cb.setAt {w : World} {g : Nat} {T : TypeId} {L : List Value} {j : Nat} {v : Value} (h : Cb w g T L) (hj : j < L.length) : Cb (w.setCell ⟨g, j, none⟩ v) g T (L.set j v) := by
  have := heap_setCells_row [v] j w L h (by simp; omega)
  have e2 : splice L j [v] = L.set j v := by
    have q := splice_cons L j v [] hj
    rw [← q]
    simp [splice]
  rw [e2] at this
  exact this
theorem win_facts {root : List UInt8} {n f t k j : Nat} {cm : List UInt8} (n1 : 1 ≤ n) (hf : f ≤ 7) (ht : t ≤ 7) (hk : k ≤ 900000) (hj : j ≤ 1000000) :
    mkS root n (f : Int) (t : Int) cm (k : Int) = ⟨((k / n : Nat) : Int), f, t, k, cm, tagL16 root (k / n) f t k cm⟩ ∧ mkE (f : Int) (t : Int) (k : Int) = 0 ∧
    chkE root n ⟨((k / n : Nat) : Int), f, t, k, cm, tagL16 root (k / n) f t k cm⟩ (j : Int) = (if (j : Int) < (k : Int) ∨ (k : Int) + 50 < (j : Int) then 5 else 0) ∧
    ∀ i, i < 32 → chkE root n ⟨((k / n : Nat) : Int), f, t, k, cm, flip (tagL16 root (k / n) f t k cm) i 0⟩ (j : Int) = 4 := by
  have up : ∀ (a b : Nat), a ≤ b → upB (a : Int) (b : Int) = true := fun a b h => by unfold upB; simp; omega
  have hd : k / n ≤ 1000000 := Nat.le_trans (Nat.div_le_self _ _) (by omega)
  have hm : mkOk (f : Int) (t : Int) (k : Int) = true := by
    unfold mkOk
    rw [show (1000000 : Int) = ((1000000 : Nat) : Int) from rfl, show (7 : Int) = ((7 : Nat) : Int) from rfl, up _ _ (show k ≤ 1000000 by omega), up _ _ hf, up _ _ ht]; rfl
  have hv : ∀ tg : List UInt8, (Sm.valid ⟨((k / n : Nat) : Int), f, t, k, cm, tg⟩ && upB (j : Int) 1000000) = true := fun tg => by
    unfold Sm.valid okS
    rw [show (1000000 : Int) = ((1000000 : Nat) : Int) from rfl, show (7 : Int) = ((7 : Nat) : Int) from rfl, up _ _ (show k ≤ 1000000 by omega), up _ _ hf, up _ _ ht, up _ _ hd, up _ _ hj]; rfl
  obtain ⟨_, M1⟩ := mk_facts (root := root) (ticks := n) (f := (f : Int)) (t := (t : Int)) (cm := cm) (now := (k : Int))
  obtain ⟨e1, e2⟩ := M1 hm
  refine ⟨e1, e2, ?_, fun i hi => ?_⟩
  · obtain ⟨_, _, _, C⟩ := chk_facts (root := root) (ticks := n) (s := ⟨((k / n : Nat) : Int), f, t, k, cm, tagL16 root (k / n) f t k cm⟩) (now := (j : Int))
    exact C (hv _) rfl rfl
  · obtain ⟨_, _, C, _⟩ := chk_facts (root := root) (ticks := n) (s := ⟨((k / n : Nat) : Int), f, t, k, cm, flip (tagL16 root (k / n) f t k cm) i 0⟩) (now := (j : Int))
    exact C (hv _) rfl (fun h => flip_ne (by rw [tagL16_len]; exact hi) (by omega) h)
set_option maxHeartbeats 16000000 in
theorem window16_calls {w : World} {root : List UInt8} (lr : root.length = 32) {y z v : Int} {f t pp nn : Int} {cm pk : List UInt8} {A : Option Addr} {m c : Nat} (lc : cm.length = 32) (lk : pk.length = 32) {tg : TypeId × Nat × Nat} (hG : Gl w tg) :
    Calls Tryd.prog 6 #[.agg (cellsOf root).toArray, .agg (evC f t cm pk pp nn A m c).toArray, .agg #[.int .i64 y, .int .i64 z, .int .i64 v]] w fun e w' => e = .returned (.bool true) ∧ Ext w w' := by
  have AW : Hid (∀ W : World, Ext w W → Calls Tryd.prog 8 #[] W fun e w' => e = .returned (.bool true) ∧ Ext W w') := fun W x => awake16_calls (hG.kept x hG.lt)
  have L_ev := evC_len lc lk f t pp nn A m c
  have PS := Lib.hid (fun (W : World) (g b q n : Nat) (h : SR W g b q root n []) (h1 : 1 ≤ n) (h2 : n ≤ 1000000) (hg : Gl W tg) => stamp16_calls h (Nat.zero_le _) h1 h2 (f := f) (t := t) (pp := pp) (nn := nn) (now := z) (A := A) (m := m) (c := c) lc lk hg)
  have e0 : Hid ((evC f t cm pk pp nn A m c)[0]? = some (.int .i64 f)) := rfl
  have e1 : Hid ((evC f t cm pk pp nn A m c)[1]? = some (.int .i64 t)) := rfl
  have ec := Lib.hid (fun _ : Unit => (ev_cells lc lk f t pp nn A m c).2.2.2.2)
  generalize evC f t cm pk pp nn A m c = ev at *
  have S_ev : ev.toArray.size = 69 := by rw [List.size_toArray, L_ev]
  have S_r : (cellsOf root).toArray.size = 32 := by simp [cellsOf_len, lr]
  have C_cm : (cellsOf cm).length = 32 := by rw [cellsOf_len, lc]
  obtain ⟨r, hr⟩ : ∃ r, r = w.heap.size := ⟨_, rfl⟩
  have B0 : Hid (Cb (((w.alloc (.cells (cellsOf root).toArray 23)).alloc (.cells ev.toArray 29)).alloc (.cells #[.int .i64 y, .int .i64 z, .int .i64 v] 49)) r 23 (cellsOf root) ∧ Cb (((w.alloc (.cells (cellsOf root).toArray 23)).alloc (.cells ev.toArray 29)).alloc (.cells #[.int .i64 y, .int .i64 z, .int .i64 v] 49)) (r + 1) 29 ev ∧ Cb (((w.alloc (.cells (cellsOf root).toArray 23)).alloc (.cells ev.toArray 29)).alloc (.cells #[.int .i64 y, .int .i64 z, .int .i64 v] 49)) (r + 1 + 1) 49 [.int .i64 y, .int .i64 z, .int .i64 v] ∧ Ext w (((w.alloc (.cells (cellsOf root).toArray 23)).alloc (.cells ev.toArray 29)).alloc (.cells #[.int .i64 y, .int .i64 z, .int .i64 v] 49))) := by
    rw [hr]
    exact ⟨heap_alloc30 _ _ _ _, heap_alloc31 _ _ _ _, heap_alloc32 _ _ _ _, (((Ext.refl w).alloc _).alloc _).alloc _⟩
  replace hG : Hid (∀ W, Ext w W → Gl W tg) := fun W x => hG.kept x hG.lt
  go_enter Tryd.func6, Tryd.ntmps6
  go_upto_region 1 with fail
  refine wp_gen (fun W => Cb W r 23 (cellsOf root) ∧ Cb W (r + 1) 29 ev ∧ Cb W (r + 1 + 1) 49 [.int .i64 y, .int .i64 z, .int .i64 v] ∧ Ext w W) B0.out ?_
  rw [← hr]
  have wr : w.heap.size ≤ r := Nat.le_of_eq hr.symm
  clear B0
  replace hr := Lib.hid hr
  rintro w0 ⟨k0, k1, k2, x0⟩
  have P0 : Hid (∀ s, Ext w0 s → Cb s r 23 (cellsOf root) ∧ Cb s (r + 1) 29 ev ∧ Cb s (r + 1 + 1) 49 [.int .i64 y, .int .i64 z, .int .i64 v] ∧ Ext w s) := fun s x => ⟨k0.ext x, k1.ext x, k2.ext x, x0.trans x⟩
  have A0 := Lib.hid (AW.out w0 x0)
  have hz : r + 1 + 1 < w0.heap.size := k2.lt
  clear AW k0 k1 k2 x0
  go_upto_region 1 with fail
  go_wp2_with fail
  refine A0.out.mono ?_
  rintro e w1 ⟨rfl, x1⟩
  obtain ⟨k0, k1, k2, xw⟩ := P0.out w1 x1
  have c0 := k2.cell (j := 0) (v := .int .i64 y) rfl
  have c1 := k2.cell (j := 1) (v := .int .i64 z) rfl
  have c2 := k2.cell (j := 2) (v := .int .i64 v) rfl
  have d0 := k1.cell e0.out
  have d1 := k1.cell e1.out
  replace k0 := Lib.hid k0
  replace x1 := Lib.hid x1
  have F0 := Lib.hid xw
  clear A0 k1 k2
  by_cases h0 : y < 1
  · have u0 : decide (y < 1) = true := decide_eq_true h0
    clear P0 PS hG xw k0 x1 ec e0 e1
    go_wp2_with fail
    go_ret
    exact ⟨rfl, F0.out⟩
  have u0 : decide (y < 1) = false := decide_eq_false h0
  by_cases h1 : (1000000 : Int) < y
  · have u1 : decide ((1000000 : Int) < y) = true := decide_eq_true h1
    clear P0 PS hG xw k0 x1 ec e0 e1
    go_wp2_with fail
    go_ret
    exact ⟨rfl, F0.out⟩
  have u1 : decide ((1000000 : Int) < y) = false := decide_eq_false h1
  by_cases h2 : z < 0
  · have u2 : decide (z < 0) = true := decide_eq_true h2
    clear P0 PS hG xw k0 x1 ec e0 e1
    go_wp2_with fail
    go_ret
    exact ⟨rfl, F0.out⟩
  have u2 : decide (z < 0) = false := decide_eq_false h2
  by_cases h3 : (900000 : Int) < z
  · have u3 : decide ((900000 : Int) < z) = true := decide_eq_true h3
    clear P0 PS hG xw k0 x1 ec e0 e1
    go_wp2_with fail
    go_ret
    exact ⟨rfl, F0.out⟩
  have u3 : decide ((900000 : Int) < z) = false := decide_eq_false h3
  by_cases h4 : v < 0
  · have u4 : decide (v < 0) = true := decide_eq_true h4
    clear P0 PS hG xw k0 x1 ec e0 e1
    go_wp2_with fail
    go_ret
    exact ⟨rfl, F0.out⟩
  have u4 : decide (v < 0) = false := decide_eq_false h4
  by_cases h5 : (1000000 : Int) < v
  · have u5 : decide ((1000000 : Int) < v) = true := decide_eq_true h5
    clear P0 PS hG xw k0 x1 ec e0 e1
    go_wp2_with fail
    go_ret
    exact ⟨rfl, F0.out⟩
  have u5 : decide ((1000000 : Int) < v) = false := decide_eq_false h5
  by_cases h6 : f < 0
  · have u6 : decide (f < 0) = true := decide_eq_true h6
    clear P0 PS hG xw k0 x1 ec e0 e1
    go_wp2_with fail
    go_ret
    exact ⟨rfl, F0.out⟩
  have u6 : decide (f < 0) = false := decide_eq_false h6
  by_cases h7 : (7 : Int) < f
  · have u7 : decide ((7 : Int) < f) = true := decide_eq_true h7
    clear P0 PS hG xw k0 x1 ec e0 e1
    go_wp2_with fail
    go_ret
    exact ⟨rfl, F0.out⟩
  have u7 : decide ((7 : Int) < f) = false := decide_eq_false h7
  by_cases h8 : t < 0
  · have u8 : decide (t < 0) = true := decide_eq_true h8
    clear P0 PS hG xw k0 x1 ec e0 e1
    go_wp2_with fail
    go_ret
    exact ⟨rfl, F0.out⟩
  have u8 : decide (t < 0) = false := decide_eq_false h8
  by_cases h9 : (7 : Int) < t
  · have u9 : decide ((7 : Int) < t) = true := decide_eq_true h9
    clear P0 PS hG xw k0 x1 ec e0 e1
    go_wp2_with fail
    go_ret
    exact ⟨rfl, F0.out⟩
  have u9 : decide ((7 : Int) < t) = false := decide_eq_false h9
  clear F0
  obtain ⟨n, rfl, n1, n6⟩ : ∃ n : Nat, y = (n : Int) ∧ 1 ≤ n ∧ n ≤ 1000000 := ⟨y.toNat, by omega, by omega, by omega⟩
  obtain ⟨k, rfl, hk⟩ : ∃ n : Nat, z = (n : Int) ∧ n ≤ 900000 := ⟨z.toNat, by omega, by omega⟩
  obtain ⟨j, rfl, hj⟩ : ∃ n : Nat, v = (n : Int) ∧ n ≤ 1000000 := ⟨v.toNat, by omega, by omega⟩
  obtain ⟨f, rfl, hf⟩ : ∃ n : Nat, f = (n : Int) ∧ n ≤ 7 := ⟨f.toNat, by omega, by omega⟩
  obtain ⟨t, rfl, ht⟩ : ∃ n : Nat, t = (n : Int) ∧ n ≤ 7 := ⟨t.toNat, by omega, by omega⟩
  clear h0 h1 h2 h3 h4 h5 h6 h7 h8 h9
  obtain ⟨W1, W2, W3, W4⟩ := win_facts (root := root) (cm := cm) n1 hf ht hk hj
  have N1 := Lib.hid (snew16_ok (w := w1) lr n1 n6)
  have PN := Lib.hid (fun W g b q (h : SR W g b q root n []) (hg : Gl W tg) => PS.out W g b q n h n1 n6 hg)
  rw [W1, W2] at PN
  have L_t := tagL16_len root (k / n) f t k cm
  clear W1 W2 PS e0 e1 hf ht
  have CK := Lib.hid (fun (W : World) (g b q : Nat) (EE : List (Value × Value)) (h : SR W g b q root n EE) (hE : EE.length ≤ 1000000) (hg : Gl W tg) => check16_calls h hE n1 n6 (s := ⟨((k / n : Nat) : Int), f, t, k, cm, tagL16 root (k / n) f t k cm⟩) ⟨lc, L_t⟩ (now := (j : Int)) hg)
  rw [W3] at CK
  obtain ⟨i, hi⟩ : ∃ i, i = j % 32 := ⟨_, rfl⟩
  have i32 : i < 32 := by rw [hi]; exact Nat.mod_lt _ (by omega)
  have CF := Lib.hid (fun (W : World) (g b q : Nat) (EE : List (Value × Value)) (h : SR W g b q root n EE) (hE : EE.length ≤ 1000000) (hg : Gl W tg) => check16_calls h hE n1 n6 (s := ⟨((k / n : Nat) : Int), f, t, k, cm, flip (tagL16 root (k / n) f t k cm) i 0⟩) ⟨lc, by rw [flip_len]; exact L_t⟩ (now := (j : Int)) hg)
  rw [W4 i i32] at CF
  clear W3 W4
  generalize tagL16 root (k / n) f t k cm = tgv at *
  generalize k / n = ep at *
  obtain ⟨SC, hSC⟩ : ∃ x, x = Sm.C ⟨(ep : Int), (f : Int), (t : Int), (k : Int), cm, tgv⟩ := ⟨_, rfl⟩
  obtain ⟨SF, hSF⟩ : ∃ x, x = Sm.C ⟨(ep : Int), (f : Int), (t : Int), (k : Int), cm, flip tgv i 0⟩ := ⟨_, rfl⟩
  rw [← hSC] at PN CK
  rw [← hSF] at CF
  have hS : SC = stC ep f t k cm tgv := hSC
  have hF : Hid (SC.set (36 + i) (.int .u8 ((bt tgv i ^^^ 2 ^ 0 : Nat) : Int)) = SF) := Lib.hid (by rw [hS, hSF]; exact st_flip lc L_t i32)
  have L_S : SC.length = 68 := by rw [hS]; exact stC_len lc L_t _ _ _ _
  have L_F : SF.length = 68 := by rw [hSF]; exact stC_len lc (by rw [flip_len]; exact L_t) _ _ _ _
  have O_S : SC.toArray.all (·.oneCell') = true := by rw [hS]; exact one_cells one_st
  have S_S : SC.toArray.size = 68 := by rw [List.size_toArray, L_S]
  have S_F : SF.toArray.size = 68 := by rw [List.size_toArray, L_F]
  have cS3 : Hid (SC[3]? = some (.int .i64 (k : Int))) := by rw [hS]; exact Lib.hid rfl
  have SP1 : Hid (SC = [.int .i64 (ep : Int), .int .i64 (f : Int), .int .i64 (t : Int), .int .i64 (k : Int)] ++ (cellsOf cm ++ cellsOf tgv)) := Lib.hid (by rw [hS]; exact (st_parts lc).1)
  have SP2 : Hid (SC = ([.int .i64 (ep : Int), .int .i64 (f : Int), .int .i64 (t : Int), .int .i64 (k : Int)] ++ cellsOf cm) ++ (cellsOf tgv ++ []) ∧ ([Value.int .i64 (ep : Int), .int .i64 (f : Int), .int .i64 (t : Int), .int .i64 (k : Int)] ++ cellsOf cm).length = 36) := Lib.hid (by rw [hS]; exact (st_parts lc).2)
  clear hS hSC hSF
  replace CK : Hid (∀ (W : World) (g b q : Nat) (EE : List (Value × Value)), SR W g b q root n EE → EE.length ≤ 1000000 → Gl W tg → Calls Tryd.prog 12 #[.pointer (some ⟨g, 0, none⟩), .agg SC.toArray, .int .i64 (j : Int)] W fun e w' => e = .returned (.int .i64 (if (j : Int) < (k : Int) ∨ (k : Int) + 50 < (j : Int) then 5 else 0)) ∧ Told W g b q root n EE.length w') := CK
  have hal := stamp_alloc16
  have L_Z := Sm.C_len zSm_ok
  generalize zSm.C = ZS at *
  have S_Z : ZS.toArray.size = 68 := by rw [List.size_toArray, L_Z]
  clear L_Z
  go_wp2_with (first | ((with_reducible refine wpList_load_rowW (o := ⟨some 65, _, _, _, _, _⟩) ?_ 23 _ rfl r ?_ 23 (cellsOf root).toArray (0, 0) _ ?_ Tryd.underlying23 ?_ ?_ ?_); (· rfl); (· rfl); (· exact k0.out); (· rfl); (· rw [S_r]; rfl); simp only [Act.put, List.setIfInBounds_toArray, List.set_cons_zero, List.set_cons_succ]))
  refine N1.out.mono ?_
  rintro e w2 ⟨g, b, q, rfl, ⟨_, hb1, _⟩, s2, x2⟩
  obtain ⟨j0, j1, j2, xw2⟩ := P0.out w2 (x1.out.trans x2)
  replace c1 := j2.cell (j := 1) (v := .int .i64 (k : Int)) rfl
  have P2 := Lib.hid (PN.out w2 g b q s2 (hG.out w2 xw2))
  have GE : Hid (∀ s, w2.grownBy s (some b) → Gl s tg) := fun s x => (hG.out w2 xw2).grown s2.mp x
  have z1 : w0.heap.size ≤ w1.heap.size := x1.out.size
  have x02 := Lib.hid (x1.out.trans x2)
  replace j1 := Lib.hid j1
  clear N1 PN hG j0 j2 s2 x1 x2 k0 c0 c2 d0 d1 xw xw2
  go_wp2_with (first | ((with_reducible refine wpList_load_rowW (o := ⟨some 79, _, _, _, _, _⟩) ?_ 29 _ rfl (r + 1) ?_ 29 ev.toArray (0, 0) _ ?_ Tryd.underlying29 ?_ ?_ ?_); (· rfl); (· rfl); (· exact j1.out); (· rfl); (· rw [S_ev]; rfl); simp only [Act.put, List.setIfInBounds_toArray, List.set_cons_zero, List.set_cons_succ]))
  refine P2.out.mono ?_
  rintro e w3 ⟨rfl, ⟨E3, s3, e3⟩, gr3⟩
  have OB : Hid (∀ u s, Ext w0 u → u.grownBy s (some b) → Ext w0 s) := fun u s x y => Below.trans x ⟨y.os, y.tape, y.output, y.size, fun i hi => y.block i (Nat.lt_of_lt_of_le hi x.size) (fun z => by have := Option.some.inj z; omega)⟩
  have x3 := Lib.hid (OB.out _ _ x02.out gr3)
  have B3 : Hid (Cb ((w3.alloc (.cells ZS.toArray 36)).setRow w3.heap.size SC.toArray) w3.heap.size 36 SC ∧ Ext w3 ((w3.alloc (.cells ZS.toArray 36)).setRow w3.heap.size SC.toArray)) := ⟨Cb.set (Cb.new _ _ _), Ext.newRow _ _ _⟩
  have bl : b < w3.heap.size := s3.mp.lt
  replace s3 := Lib.hid s3
  replace gr3 := Lib.hid gr3
  have e3' : E3.length ≤ 1 := e3
  clear P2 x02 c1 j1 e3
  go_upto_region 8 with (refine wpList_store_row rfl 36 _ _ rfl w3.heap.size SC.toArray rfl rfl 36 ZS.toArray (heap_alloc_new _ _) (by rw [S_S]; rfl) (by rw [S_S, S_Z]) O_S ?_; simp only [Act.put])
  refine wp_gen (fun W => Cb W w3.heap.size 36 SC ∧ Ext w3 W) B3.out ?_
  generalize w3.heap.size = g10 at *
  clear B3
  rintro w4 ⟨k10, y4⟩
  have x4 := Lib.hid (x3.out.trans y4)
  have s4 := Lib.hid (s3.out.ext y4)
  have gr4 : Hid (w2.grownBy w4 (some b)) := grown_trans' gr3.out (grown_ofE16 y4)
  have B4 : Hid (Cb ((w4.alloc (.cells ZS.toArray 36)).setRow w4.heap.size SC.toArray) g10 36 SC ∧ Cb ((w4.alloc (.cells ZS.toArray 36)).setRow w4.heap.size SC.toArray) w4.heap.size 36 SC ∧ Ext w4 ((w4.alloc (.cells ZS.toArray 36)).setRow w4.heap.size SC.toArray)) := ⟨k10.ext (Ext.newRow _ _ _), Cb.set (Cb.new _ _ _), Ext.newRow _ _ _⟩
  have gl10 : g10 < w4.heap.size := k10.lt
  have bl2 := s4.out.mp.lt
  have ql4 := heap_lt s4.out.kr.1
  have gl4 := s4.out.cb.lt
  have tl4 := (GE.out w4 gr4.out).lt
  have rl4 : r + 1 + 1 < w4.heap.size := Nat.lt_of_lt_of_le hz x4.out.size
  have z04 : w0.heap.size ≤ w4.heap.size := x4.out.size
  replace k10 := Lib.hid k10
  clear s3 gr3 x3 y4
  go_upto_region 9 with (first | ((with_reducible refine wpList_load_rowW (o := ⟨some 85, _, _, _, _, _⟩) ?_ 36 _ rfl g10 ?_ 36 SC.toArray (0, 0) _ ?_ Tryd.underlying36 ?_ ?_ ?_); (· rfl); (· rfl); (· exact k10.out); (· rfl); (· rw [S_S]; rfl); simp only [Act.put, List.setIfInBounds_toArray, List.set_cons_zero, List.set_cons_succ]) | (refine wpList_store_row rfl 36 _ _ rfl w4.heap.size SC.toArray rfl rfl 36 ZS.toArray (heap_alloc_new _ _) (by rw [S_S]; rfl) (by rw [S_S, S_Z]) O_S ?_; simp only [Act.put]))
  refine wp_gen (fun W => Cb W g10 36 SC ∧ Cb W w4.heap.size 36 SC ∧ Ext w4 W) B4.out ?_
  generalize w4.heap.size = g12 at *
  clear B4 k10
  rintro w5 ⟨k10, k12, y5⟩
  have x5 := Lib.hid (x4.out.trans y5)
  have s5 := Lib.hid (s4.out.ext y5)
  have gr5 : Hid (w2.grownBy w5 (some b)) := grown_trans' gr4.out (grown_ofE16 y5)
  have c2 := (P0.out w5 x5.out).2.2.1.cell (j := 2) (v := .int .i64 (j : Int)) rfl
  have ci := k12.mid SP2.out.1 SP2.out.2 i _ (cellsOf_get (by omega))
  have fz := k12.frozen (36 + i)
  obtain ⟨y, hy⟩ : ∃ y, y = bt tgv i ^^^ 2 ^ 0 := ⟨_, rfl⟩
  have fx : bits .xor .u8 (bt tgv i : Int) 1 = (y : Int) := by
    have := flip_int (xs := tgv) (j := i) (k := 0) (by omega)
    rw [hy, ← this]
    rfl
  have gf : w5.grownBy (w5.setCell ⟨g12, 36 + i, none⟩ (.int .u8 (y : Int))) (some g12) := grown_setCell8
  have B5 : Hid (Cb (w5.setCell ⟨g12, 36 + i, none⟩ (.int .u8 (y : Int))) g10 36 SC ∧ Cb (w5.setCell ⟨g12, 36 + i, none⟩ (.int .u8 (y : Int))) g12 36 SF ∧ Ext w0 (w5.setCell ⟨g12, 36 + i, none⟩ (.int .u8 (y : Int))) ∧ SR (w5.setCell ⟨g12, 36 + i, none⟩ (.int .u8 (y : Int))) g b q root n E3 ∧ Gl (w5.setCell ⟨g12, 36 + i, none⟩ (.int .u8 (y : Int))) tg) := by
    refine ⟨(gf.block _ k10.lt (fun z => by have := Option.some.inj z; omega)).trans k10, ?_, Below.trans x5.out ⟨gf.os, gf.tape, gf.output, gf.size, fun i hi => gf.block i (Nat.lt_of_lt_of_le hi x5.out.size) (fun z => by have := Option.some.inj z; omega)⟩, ?_, ?_⟩
    · rw [← hF.out, ← hy]; exact k12.setAt (by omega)
    · exact s5.out.stay (gf.block _ s5.out.cb.lt (fun z => by have := Option.some.inj z; omega)) (gf.block _ (heap_lt s5.out.kr.1) (fun z => by have := Option.some.inj z; omega)) (gf.block _ s5.out.mp.lt (fun z => by have := Option.some.inj z; omega))
    · have t0 := GE.out w5 gr5.out
      exact (gf.block _ t0.lt (fun z => by have := Option.some.inj z; omega)).trans t0
  have iw : IntKind.i64.wrap (i : Int) = (i : Int) := IntWalk.i64_in _ (by omega)
  have im : (j : Int).tmod 32 = (i : Int) := by rw [Int.tmod_eq_emod_of_nonneg (by omega), hi]; rfl
  have im2 : (j : Int) % 32 = (i : Int) := by rw [hi]; rfl
  have i0 : (0 : Int) ≤ (i : Int) := by omega
  have i1 : (i : Int) < 32 := by omega
  have i2 : ((i : Int)).toNat = i := by omega
  have kw : IntKind.i64.wrap ((k : Int) + 50) = (k : Int) + 50 := IntWalk.i64_in _ (by omega)
  clear gf hy k10 k12 x4 x5 s4 s5 gr4 gr5 y5 hF SP2
  generalize bt tgv i = x at *
  replace hi := Lib.hid hi
  go_upto_region 10 with fail
  refine wp_gen (fun W => Cb W g10 36 SC ∧ Cb W g12 36 SF ∧ Ext w0 W ∧ SR W g b q root n E3 ∧ Gl W tg) B5.out ?_
  clear B5 fz ci fx c2 iw im im2 i0 i1 i2
  rintro w6 ⟨k10, k12, x6, s6, G6⟩
  have G7 : Hid (∀ s, w6.grownBy s (some b) → Gl s tg) := fun s x => G6.grown s6.mp x
  have C6 := Lib.hid (CK.out w6 g b q E3 s6 (by omega) G6)
  have Q6 : Hid (∀ s, w6.grownBy s (some b) → Cb s g10 36 SC ∧ Cb s g12 36 SF ∧ Ext w0 s) := fun s x => ⟨(x.block _ k10.lt (fun z => by have := Option.some.inj z; omega)).trans k10, (x.block _ k12.lt (fun z => by have := Option.some.inj z; omega)).trans k12, OB.out _ _ x6 x⟩
  have c1 := (P0.out w6 x6).2.2.1.cell (j := 1) (v := .int .i64 (k : Int)) rfl
  have c2 := (P0.out w6 x6).2.2.1.cell (j := 2) (v := .int .i64 (j : Int)) rfl
  have kk : ((k : Int) == (k : Int)) = true := by simp
  replace k10 := Lib.hid k10
  clear k12 s6 G6 CK OB x6 GE
  by_cases hA : (j : Int) < (k : Int)
  · rw [if_pos (.inl hA)] at C6
    have u1 : decide ((j : Int) < (k : Int)) = true := decide_eq_true hA
    go_wp2_with (first | ((with_reducible refine wpList_load_rowW (o := ⟨some 115, _, _, _, _, _⟩) ?_ 36 _ rfl g10 ?_ 36 SC.toArray (0, 0) _ ?_ Tryd.underlying36 ?_ ?_ ?_); (· rfl); (· rfl); (· exact k10.out); (· rfl); (· rw [S_S]; rfl); simp only [Act.put, List.setIfInBounds_toArray, List.set_cons_zero, List.set_cons_succ]))
    refine C6.out.mono ?_
    rintro e w7 ⟨rfl, ⟨E7, s7, e7⟩, gr7⟩
    obtain ⟨_, m12, y7⟩ := Q6.out w7 gr7
    have C7 := Lib.hid (CF.out w7 g b q E7 s7 (by omega) (G7.out w7 gr7))
    have c7 := (P0.out w7 y7).2.2.1.cell (j := 2) (v := .int .i64 (j : Int)) rfl
    replace m12 := Lib.hid m12
    replace gr7 := Lib.hid gr7
    clear C6 CF G7 c1 c2 k10 s7 e7 y7
    go_wp2_with (first | ((with_reducible refine wpList_load_rowW (o := ⟨some 124, _, _, _, _, _⟩) ?_ 36 _ rfl g12 ?_ 36 SF.toArray (0, 0) _ ?_ Tryd.underlying36 ?_ ?_ ?_); (· rfl); (· rfl); (· exact m12.out); (· rfl); (· rw [S_F]; rfl); simp only [Act.put, List.setIfInBounds_toArray, List.set_cons_zero, List.set_cons_succ]))
    refine C7.out.mono ?_
    rintro e w8 ⟨rfl, _, gr8⟩
    obtain ⟨o10, _, y8⟩ := Q6.out w8 (grown_trans' gr7.out gr8)
    obtain ⟨_, v1, v2, xw8⟩ := P0.out w8 y8
    have d3 := o10.cell cS3.out
    have d1 := v2.cell (j := 1) (v := .int .i64 (k : Int)) rfl
    have H1 := Lib.hid (o10.mid (p := [.int .i64 (ep : Int), .int .i64 (f : Int), .int .i64 (t : Int), .int .i64 (k : Int)]) (off := 4) SP1.out rfl)
    have H2 := Lib.hid (v1.mid (p := [.int .i64 (f : Int), .int .i64 (t : Int)]) (off := 2) (ec.out ()) rfl)
    replace xw8 := Lib.hid xw8
    clear C7 Q6 P0 c7 m12 gr7 gr8 o10 v1 v2 y8 SP1 ec
    go_wp2_with (first
      | (refine wpList_exec rfl (exec_load_mid (g := g10) (off := 4) (ys := cellsOf cm) rfl rfl H1.out rfl rfl (by rw [C_cm]; rfl)) ?_; simp only [Act.put, List.setIfInBounds_toArray, List.set_cons_zero, List.set_cons_succ])
      | (refine wpList_exec rfl (exec_load_mid (g := r + 1) (off := 2) (ys := cellsOf cm) rfl rfl H2.out rfl rfl (by rw [C_cm]; rfl)) ?_; simp only [Act.put, List.setIfInBounds_toArray, List.set_cons_zero, List.set_cons_succ])
      | (refine wpList_exec rfl (exec_eql_keyB (xs := cm) (ys := cm) (decide_eq_true rfl) lc lc rfl rfl rfl) ?_; simp only [Act.put, List.setIfInBounds_toArray, List.set_cons_zero, List.set_cons_succ]))
    go_ret
    exact ⟨rfl, xw8.out⟩
  have u1 : decide ((j : Int) < (k : Int)) = false := decide_eq_false hA
  by_cases hB : (k : Int) + 50 < (j : Int)
  · rw [if_pos (.inr hB)] at C6
    have u2 : decide ((k : Int) + 50 < (j : Int)) = true := decide_eq_true hB
    go_wp2_with (first | ((with_reducible refine wpList_load_rowW (o := ⟨some 115, _, _, _, _, _⟩) ?_ 36 _ rfl g10 ?_ 36 SC.toArray (0, 0) _ ?_ Tryd.underlying36 ?_ ?_ ?_); (· rfl); (· rfl); (· exact k10.out); (· rfl); (· rw [S_S]; rfl); simp only [Act.put, List.setIfInBounds_toArray, List.set_cons_zero, List.set_cons_succ]))
    refine C6.out.mono ?_
    rintro e w7 ⟨rfl, ⟨E7, s7, e7⟩, gr7⟩
    obtain ⟨_, m12, y7⟩ := Q6.out w7 gr7
    have C7 := Lib.hid (CF.out w7 g b q E7 s7 (by omega) (G7.out w7 gr7))
    have c7 := (P0.out w7 y7).2.2.1.cell (j := 2) (v := .int .i64 (j : Int)) rfl
    replace m12 := Lib.hid m12
    replace gr7 := Lib.hid gr7
    clear C6 CF G7 c1 c2 k10 s7 e7 y7
    go_wp2_with (first | ((with_reducible refine wpList_load_rowW (o := ⟨some 124, _, _, _, _, _⟩) ?_ 36 _ rfl g12 ?_ 36 SF.toArray (0, 0) _ ?_ Tryd.underlying36 ?_ ?_ ?_); (· rfl); (· rfl); (· exact m12.out); (· rfl); (· rw [S_F]; rfl); simp only [Act.put, List.setIfInBounds_toArray, List.set_cons_zero, List.set_cons_succ]))
    refine C7.out.mono ?_
    rintro e w8 ⟨rfl, _, gr8⟩
    obtain ⟨o10, _, y8⟩ := Q6.out w8 (grown_trans' gr7.out gr8)
    obtain ⟨_, v1, v2, xw8⟩ := P0.out w8 y8
    have d3 := o10.cell cS3.out
    have d1 := v2.cell (j := 1) (v := .int .i64 (k : Int)) rfl
    have H1 := Lib.hid (o10.mid (p := [.int .i64 (ep : Int), .int .i64 (f : Int), .int .i64 (t : Int), .int .i64 (k : Int)]) (off := 4) SP1.out rfl)
    have H2 := Lib.hid (v1.mid (p := [.int .i64 (f : Int), .int .i64 (t : Int)]) (off := 2) (ec.out ()) rfl)
    replace xw8 := Lib.hid xw8
    clear C7 Q6 P0 c7 m12 gr7 gr8 o10 v1 v2 y8 SP1 ec
    go_wp2_with (first
      | (refine wpList_exec rfl (exec_load_mid (g := g10) (off := 4) (ys := cellsOf cm) rfl rfl H1.out rfl rfl (by rw [C_cm]; rfl)) ?_; simp only [Act.put, List.setIfInBounds_toArray, List.set_cons_zero, List.set_cons_succ])
      | (refine wpList_exec rfl (exec_load_mid (g := r + 1) (off := 2) (ys := cellsOf cm) rfl rfl H2.out rfl rfl (by rw [C_cm]; rfl)) ?_; simp only [Act.put, List.setIfInBounds_toArray, List.set_cons_zero, List.set_cons_succ])
      | (refine wpList_exec rfl (exec_eql_keyB (xs := cm) (ys := cm) (decide_eq_true rfl) lc lc rfl rfl rfl) ?_; simp only [Act.put, List.setIfInBounds_toArray, List.set_cons_zero, List.set_cons_succ]))
    go_ret
    exact ⟨rfl, xw8.out⟩
  · rw [if_neg (fun z => z.elim hA hB)] at C6
    have u2 : decide ((k : Int) + 50 < (j : Int)) = false := decide_eq_false hB
    go_wp2_with (first | ((with_reducible refine wpList_load_rowW (o := ⟨some 115, _, _, _, _, _⟩) ?_ 36 _ rfl g10 ?_ 36 SC.toArray (0, 0) _ ?_ Tryd.underlying36 ?_ ?_ ?_); (· rfl); (· rfl); (· exact k10.out); (· rfl); (· rw [S_S]; rfl); simp only [Act.put, List.setIfInBounds_toArray, List.set_cons_zero, List.set_cons_succ]))
    refine C6.out.mono ?_
    rintro e w7 ⟨rfl, ⟨E7, s7, e7⟩, gr7⟩
    obtain ⟨_, m12, y7⟩ := Q6.out w7 gr7
    have C7 := Lib.hid (CF.out w7 g b q E7 s7 (by omega) (G7.out w7 gr7))
    have c7 := (P0.out w7 y7).2.2.1.cell (j := 2) (v := .int .i64 (j : Int)) rfl
    replace m12 := Lib.hid m12
    replace gr7 := Lib.hid gr7
    clear C6 CF G7 c1 c2 k10 s7 e7 y7
    go_wp2_with (first | ((with_reducible refine wpList_load_rowW (o := ⟨some 124, _, _, _, _, _⟩) ?_ 36 _ rfl g12 ?_ 36 SF.toArray (0, 0) _ ?_ Tryd.underlying36 ?_ ?_ ?_); (· rfl); (· rfl); (· exact m12.out); (· rfl); (· rw [S_F]; rfl); simp only [Act.put, List.setIfInBounds_toArray, List.set_cons_zero, List.set_cons_succ]))
    refine C7.out.mono ?_
    rintro e w8 ⟨rfl, _, gr8⟩
    obtain ⟨o10, _, y8⟩ := Q6.out w8 (grown_trans' gr7.out gr8)
    obtain ⟨_, v1, v2, xw8⟩ := P0.out w8 y8
    have d3 := o10.cell cS3.out
    have d1 := v2.cell (j := 1) (v := .int .i64 (k : Int)) rfl
    have H1 := Lib.hid (o10.mid (p := [.int .i64 (ep : Int), .int .i64 (f : Int), .int .i64 (t : Int), .int .i64 (k : Int)]) (off := 4) SP1.out rfl)
    have H2 := Lib.hid (v1.mid (p := [.int .i64 (f : Int), .int .i64 (t : Int)]) (off := 2) (ec.out ()) rfl)
    replace xw8 := Lib.hid xw8
    clear C7 Q6 P0 c7 m12 gr7 gr8 o10 v1 v2 y8 SP1 ec
    go_wp2_with (first
      | (refine wpList_exec rfl (exec_load_mid (g := g10) (off := 4) (ys := cellsOf cm) rfl rfl H1.out rfl rfl (by rw [C_cm]; rfl)) ?_; simp only [Act.put, List.setIfInBounds_toArray, List.set_cons_zero, List.set_cons_succ])
      | (refine wpList_exec rfl (exec_load_mid (g := r + 1) (off := 2) (ys := cellsOf cm) rfl rfl H2.out rfl rfl (by rw [C_cm]; rfl)) ?_; simp only [Act.put, List.setIfInBounds_toArray, List.set_cons_zero, List.set_cons_succ])
      | (refine wpList_exec rfl (exec_eql_keyB (xs := cm) (ys := cm) (decide_eq_true rfl) lc lc rfl rfl rfl) ?_; simp only [Act.put, List.setIfInBounds_toArray, List.set_cons_zero, List.set_cons_succ]))
    go_ret
    exact ⟨rfl, xw8.out⟩
end Go.Proofs.YtbkmnmhfjgmoiaaDoor
