import Derived.Test.YtbkmnmhfjgmoiaaDoorPkH
import Derived.Test.YtbkmnmhfjgmoiaaDoorRStamp16
import Derived.Test.YtbkmnmhfjgmoiaaDoorPkB
/-
  palfreylaw16.StampMakes.
-/
namespace Go.Proofs.YtbkmnmhfjgmoiaaDoor
open Go.ChangeShapes Go.WideShapes Go.ChangeAt Go.RowKit Go.Deep Go.Maps
set_option maxRecDepth 100000

theorem stamp_L16 {s : Sm} (ok : s.ok) : ∃ ep f t tm cm tg, s.C = stC ep f t tm cm tg ∧ cm.length = 32 ∧ tg.length = 32 := ⟨_, _, _, _, _, _, rfl, ok.1, ok.2⟩
set_option maxHeartbeats 8000000 in
theorem makes16_calls {w : World} {root : List UInt8} (lr : root.length = 32) {y z : Int} {f t pp nn : Int} {cm pk : List UInt8} {A : Option Addr} {m c : Nat} (lc : cm.length = 32) (lk : pk.length = 32) {tg : TypeId × Nat × Nat} (hG : Gl w tg) :
    Calls Tryd.prog 3 #[.agg (cellsOf root).toArray, .agg #[.int .i64 y, .int .i64 z], .agg (evC f t cm pk pp nn A m c).toArray] w fun e w' => e = .returned (.bool true) ∧ Ext w w' := by
  have AW : Hid (∀ W : World, Ext w W → Calls Tryd.prog 8 #[] W fun e w' => e = .returned (.bool true) ∧ Ext W w') := fun W x => awake16_calls (hG.kept x hG.lt)
  have NB : Hid (∀ W : World, (y < 1 ∨ 1000000 < y) → Calls Tryd.prog 9 #[.agg (cellsOf root).toArray, .int .i64 y] W fun e w' => e = .returned (.tuple #[.pointer none, .int .i64 1]) ∧ Ext W w') := fun W h => snew16_bad h
  have L_ev := evC_len lc lk f t pp nn A m c
  have RS := Lib.hid (fun (W : World) (n : Nat) (h1 : 1 ≤ n) (h2 : n ≤ 1000000) => rstamp16_calls (w := W) (ticks := n) lr h1 h2 (f := f) (t := t) (pp := pp) (nn := nn) (now := z) (A := A) (m := m) (c := c) lc lk)
  have PS := Lib.hid (fun (W : World) (g b q n : Nat) (h : SR W g b q root n []) (h1 : 1 ≤ n) (h2 : n ≤ 1000000) (hg : Gl W tg) => stamp16_calls h (Nat.zero_le _) h1 h2 (f := f) (t := t) (pp := pp) (nn := nn) (now := z) (A := A) (m := m) (c := c) lc lk hg)
  have MO : Hid (∀ n, (mkS root n f t cm z).ok) := fun n => mkS_ok root n f t z lc
  generalize evC f t cm pk pp nn A m c = ev at *
  have S_ev : ev.toArray.size = 69 := by rw [List.size_toArray, L_ev]
  have S_r : (cellsOf root).toArray.size = 32 := by simp [cellsOf_len, lr]
  obtain ⟨r, hr⟩ : ∃ r, r = w.heap.size := ⟨_, rfl⟩
  have B0 : Hid (Cb (((w.alloc (.cells (cellsOf root).toArray 23)).alloc (.cells #[.int .i64 y, .int .i64 z] 24)).alloc (.cells ev.toArray 29)) r 23 (cellsOf root) ∧ Cb (((w.alloc (.cells (cellsOf root).toArray 23)).alloc (.cells #[.int .i64 y, .int .i64 z] 24)).alloc (.cells ev.toArray 29)) (r + 1) 24 [.int .i64 y, .int .i64 z] ∧ Cb (((w.alloc (.cells (cellsOf root).toArray 23)).alloc (.cells #[.int .i64 y, .int .i64 z] 24)).alloc (.cells ev.toArray 29)) (r + 1 + 1) 29 ev ∧ Ext w (((w.alloc (.cells (cellsOf root).toArray 23)).alloc (.cells #[.int .i64 y, .int .i64 z] 24)).alloc (.cells ev.toArray 29))) := by
    rw [hr]
    exact ⟨heap_alloc30 _ _ _ _, heap_alloc31 _ _ _ _, heap_alloc32 _ _ _ _, (((Ext.refl w).alloc _).alloc _).alloc _⟩
  replace hG : Hid (∀ W, Ext w W → Gl W tg) := fun W x => hG.kept x hG.lt
  go_enter Tryd.func3, Tryd.ntmps3
  go_upto_region 1 with fail
  refine wp_gen (fun W => Cb W r 23 (cellsOf root) ∧ Cb W (r + 1) 24 [.int .i64 y, .int .i64 z] ∧ Cb W (r + 1 + 1) 29 ev ∧ Ext w W) B0.out ?_
  rw [← hr]
  have wr : w.heap.size ≤ r := Nat.le_of_eq hr.symm
  clear B0
  replace hr := Lib.hid hr
  rintro w0 ⟨k0, k1, k2, x0⟩
  have P0 : Hid (∀ s, Ext w0 s → Cb s r 23 (cellsOf root) ∧ Cb s (r + 1) 24 [.int .i64 y, .int .i64 z] ∧ Cb s (r + 1 + 1) 29 ev ∧ Ext w s) := fun s x => ⟨k0.ext x, k1.ext x, k2.ext x, x0.trans x⟩
  have A0 := Lib.hid (AW.out w0 x0)
  have hz : r + 1 + 1 < w0.heap.size := k2.lt
  clear AW k0 k1 k2 x0
  go_wp2_with fail
  refine A0.out.mono ?_
  rintro e w1 ⟨rfl, x1⟩
  obtain ⟨k0, k1, k2, xw⟩ := P0.out w1 x1
  have c0 := k1.cell (j := 0) (v := .int .i64 y) rfl
  replace k0 := Lib.hid k0
  replace x1 := Lib.hid x1
  clear A0 k1 k2
  by_cases hy : y < 1 ∨ 1000000 < y
  · have N1 := Lib.hid (NB.out w1 hy)
    go_wp2_with (first | ((with_reducible refine wpList_load_rowW (o := ⟨some 16, _, _, _, _, _⟩) ?_ 23 _ rfl r ?_ 23 (cellsOf root).toArray (0, 0) _ ?_ Tryd.underlying23 ?_ ?_ ?_); (· rfl); (· rfl); (· exact k0.out); (· rfl); (· rw [S_r]; rfl); simp only [Act.put, List.setIfInBounds_toArray, List.set_cons_zero, List.set_cons_succ]))
    refine N1.out.mono ?_
    rintro e w2 ⟨rfl, x2⟩
    have c2 := (P0.out w2 (x1.out.trans x2)).2.1.cell (j := 0) (v := .int .i64 y) rfl
    have F := Lib.hid (xw.trans x2)
    clear N1 NB RS PS MO P0 k0 c0 xw hG x1 x2
    by_cases h1 : y < 1
    · have u1 : decide (y < 1) = true := decide_eq_true h1
      clear hy
      go_wp2_with fail
      go_ret
      exact ⟨rfl, F.out⟩
    · have u1 : decide (y < 1) = false := decide_eq_false h1
      have h2 : 1000000 < y := hy.resolve_left h1
      have u2 : decide (1000000 < y) = true := decide_eq_true h2
      clear hy
      go_wp2_with fail
      go_ret
      exact ⟨rfl, F.out⟩
  · obtain ⟨n, rfl, n1, n6⟩ : ∃ n : Nat, y = (n : Int) ∧ 1 ≤ n ∧ n ≤ 1000000 := ⟨y.toNat, by omega, by omega, by omega⟩
    have u1 : decide ((n : Int) < 1) = false := decide_eq_false (by omega)
    have u2 : decide ((1000000 : Int) < (n : Int)) = false := decide_eq_false (by omega)
    have N1 := Lib.hid (snew16_ok (w := w1) lr n1 n6)
    obtain ⟨SS, hSS⟩ : ∃ s, s = mkS root n f t cm z := ⟨_, rfl⟩
    have ok := MO.out n
    have RN := Lib.hid (fun W => RS.out W n n1 n6)
    have PN := Lib.hid (fun W g b q (h : SR W g b q root n []) (hg : Gl W tg) => PS.out W g b q n h n1 n6 hg)
    rw [← hSS] at ok RN PN
    clear hSS MO RS PS NB hy
    have HL := Lib.hid (stamp_L16 ok)
    have L_S := Sm.C_len ok
    have O_S : SS.C.toArray.all (·.oneCell') = true := one_cells SS.one
    generalize SS.C = SC at *
    have S_S : SC.toArray.size = 68 := by rw [List.size_toArray, L_S]
    clear ok L_S
    obtain ⟨ER, hER⟩ : ∃ x, x = mkE f t z := ⟨_, rfl⟩
    rw [← hER] at RN PN
    clear hER
    have hal := stamp_alloc16
    have L_Z := Sm.C_len zSm_ok
    generalize zSm.C = ZS at *
    have S_Z : ZS.toArray.size = 68 := by rw [List.size_toArray, L_Z]
    clear L_Z
    have ee : (ER == ER) = true := by simp
    go_wp2_with (first | ((with_reducible refine wpList_load_rowW (o := ⟨some 16, _, _, _, _, _⟩) ?_ 23 _ rfl r ?_ 23 (cellsOf root).toArray (0, 0) _ ?_ Tryd.underlying23 ?_ ?_ ?_); (· rfl); (· rfl); (· exact k0.out); (· rfl); (· rw [S_r]; rfl); simp only [Act.put, List.setIfInBounds_toArray, List.set_cons_zero, List.set_cons_succ]))
    refine N1.out.mono ?_
    rintro e w2 ⟨g, b, q, rfl, ⟨_, hb1, _⟩, s2, x2⟩
    obtain ⟨j0, j1, j2, xw2⟩ := P0.out w2 (x1.out.trans x2)
    have c2 := j1.cell (j := 0) (v := .int .i64 (n : Int)) rfl
    have c3 := j1.cell (j := 1) (v := .int .i64 z) rfl
    have P2 := Lib.hid (PN.out w2 g b q s2 (hG.out w2 xw2))
    have z1 : w0.heap.size ≤ w1.heap.size := x1.out.size
    have x02 := Lib.hid (x1.out.trans x2)
    replace j2 := Lib.hid j2
    clear N1 PN hG j0 j1 s2 x1 x2 k0 c0 xw xw2
    go_wp2_with (first | ((with_reducible refine wpList_load_rowW (o := ⟨some 47, _, _, _, _, _⟩) ?_ 29 _ rfl (r + 1 + 1) ?_ 29 ev.toArray (0, 0) _ ?_ Tryd.underlying29 ?_ ?_ ?_); (· rfl); (· rfl); (· exact j2.out); (· rfl); (· rw [S_ev]; rfl); simp only [Act.put, List.setIfInBounds_toArray, List.set_cons_zero, List.set_cons_succ]))
    refine P2.out.mono ?_
    rintro e w3 ⟨rfl, _, gr3⟩
    have x3 : Hid (Ext w0 w3) := Below.trans x02.out ⟨gr3.os, gr3.tape, gr3.output, gr3.size, fun i hi => gr3.block i (Nat.lt_of_lt_of_le hi x02.out.size) (fun z => by have := Option.some.inj z; omega)⟩
    have B3 : Hid (Cb ((w3.alloc (.cells ZS.toArray 36)).setRow w3.heap.size SC.toArray) w3.heap.size 36 SC ∧ Ext w3 ((w3.alloc (.cells ZS.toArray 36)).setRow w3.heap.size SC.toArray)) := ⟨Cb.set (Cb.new _ _ _), Ext.newRow _ _ _⟩
    clear P2 gr3 x02 c2 c3 j2
    go_upto_region 8 with (refine wpList_store_row rfl 36 _ _ rfl w3.heap.size SC.toArray rfl rfl 36 ZS.toArray (heap_alloc_new _ _) (by rw [S_S]; rfl) (by rw [S_S, S_Z]) O_S ?_; simp only [Act.put])
    refine wp_gen (fun W => Cb W w3.heap.size 36 SC ∧ Ext w3 W) B3.out ?_
    generalize w3.heap.size = g10 at *
    clear B3
    rintro w4 ⟨k10, y4⟩
    have x4 := Lib.hid (x3.out.trans y4)
    obtain ⟨j0, j1, j2, xw4⟩ := P0.out w4 x4.out
    have c2 := j1.cell (j := 0) (v := .int .i64 (n : Int)) rfl
    have c3 := j1.cell (j := 1) (v := .int .i64 z) rfl
    replace j0 := Lib.hid j0
    replace j2 := Lib.hid j2
    replace k10 := Lib.hid k10
    clear j1 x3 y4 xw4
    go_wp2_with (first
      | ((with_reducible refine wpList_load_rowW (o := ⟨some 54, _, _, _, _, _⟩) ?_ 23 _ rfl r ?_ 23 (cellsOf root).toArray (0, 0) _ ?_ Tryd.underlying23 ?_ ?_ ?_); (· rfl); (· rfl); (· exact j0.out); (· rfl); (· rw [S_r]; rfl); simp only [Act.put, List.setIfInBounds_toArray, List.set_cons_zero, List.set_cons_succ])
      | ((with_reducible refine wpList_load_rowW (o := ⟨some 57, _, _, _, _, _⟩) ?_ 29 _ rfl (r + 1 + 1) ?_ 29 ev.toArray (0, 0) _ ?_ Tryd.underlying29 ?_ ?_ ?_); (· rfl); (· rfl); (· exact j2.out); (· rfl); (· rw [S_ev]; rfl); simp only [Act.put, List.setIfInBounds_toArray, List.set_cons_zero, List.set_cons_succ]))
    refine (RN.out _).mono ?_
    rintro e w5 ⟨rfl, y5⟩
    have x5 := Lib.hid (x4.out.trans y5)
    have k5 := Lib.hid (k10.out.ext y5)
    have B5 : Hid (Cb ((w5.alloc (.cells ZS.toArray 36)).setRow w5.heap.size SC.toArray) w5.heap.size 36 SC ∧ Ext w5 ((w5.alloc (.cells ZS.toArray 36)).setRow w5.heap.size SC.toArray)) := ⟨Cb.set (Cb.new _ _ _), Ext.newRow _ _ _⟩
    clear RN x4 k10 y5 j0 j2 c2 c3
    go_upto_region 9 with (refine wpList_store_row rfl 36 _ _ rfl w5.heap.size SC.toArray rfl rfl 36 ZS.toArray (heap_alloc_new _ _) (by rw [S_S]; rfl) (by rw [S_S, S_Z]) O_S ?_; simp only [Act.put])
    refine wp_gen (fun W => Cb W w5.heap.size 36 SC ∧ Ext w5 W) B5.out ?_
    generalize w5.heap.size = g12 at *
    clear B5
    rintro w6 ⟨k12, y6⟩
    have k6 := Lib.hid (k5.out.ext y6)
    replace k12 := Lib.hid k12
    have F := Lib.hid (P0.out w6 (x5.out.trans y6)).2.2.2
    clear P0 k5 x5 y6
    go_wp2_with (first
      | ((with_reducible refine wpList_load_rowW (o := ⟨some 65, _, _, _, _, _⟩) ?_ 36 _ rfl g10 ?_ 36 SC.toArray (0, 0) _ ?_ Tryd.underlying36 ?_ ?_ ?_); (· rfl); (· rfl); (· exact k6.out); (· rfl); (· rw [S_S]; rfl); simp only [Act.put, List.setIfInBounds_toArray, List.set_cons_zero, List.set_cons_succ])
      | ((with_reducible refine wpList_load_rowW (o := ⟨some 66, _, _, _, _, _⟩) ?_ 36 _ rfl g12 ?_ 36 SC.toArray (0, 0) _ ?_ Tryd.underlying36 ?_ ?_ ?_); (· rfl); (· rfl); (· exact k12.out); (· rfl); (· rw [S_S]; rfl); simp only [Act.put, List.setIfInBounds_toArray, List.set_cons_zero, List.set_cons_succ])
      | (refine wpList_exec rfl (exec_eql_stamp HL.out rfl rfl rfl) ?_; simp only [Act.put, List.setIfInBounds_toArray, List.set_cons_zero, List.set_cons_succ]))
    go_ret
    exact ⟨rfl, F.out⟩
end Go.Proofs.YtbkmnmhfjgmoiaaDoor
