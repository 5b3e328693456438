import Derived.Test.YtbkmnmhfjgmoiaaDoorPkI
import Derived.Test.YtbkmnmhfjgmoiaaDoorStV
import Derived.Test.YtbkmnmhfjgmoiaaDoorPkF
/-
  stamp.Bytes.
-/
namespace Go.Proofs.YtbkmnmhfjgmoiaaDoor
open Go.ChangeShapes Go.WideShapes Go.ChangeAt Go.RowKit Go.Deep
set_option maxRecDepth 100000

theorem bytes_facts {s : Sm} : (s.valid = false → bytesS s = [] ∧ bytesE s = 1) ∧ (s.valid = true → bytesS s = hiB s.ep.toNat 4 ++ toldL s.f.toNat s.t.toNat s.tm.toNat s.cm ++ s.tg ∧ bytesE s = 0) := by
  refine ⟨fun h => ?_, fun h => ?_⟩
  · unfold bytesS bytesE; rw [h]; exact ⟨rfl, rfl⟩
  · unfold bytesS bytesE; rw [h]; exact ⟨rfl, rfl⟩
set_option maxHeartbeats 8000000 in
theorem bytes16_calls {w : World} {s : Sm} (ok : s.ok) :
    Calls Tryd.prog 14 #[.agg s.C.toArray] w fun e w' => ∃ A n c, e = .returned (.tuple #[.slice A n c, .int .i64 (bytesE s)]) ∧ Own w.heap.size w' A n c (bytesS s) ∧ Ext w w' := by
  have VA : Hid (∀ (W : World), Calls Tryd.prog 29 #[.agg s.C.toArray] W fun e w' => e = .returned (.bool s.valid) ∧ Ext W w') := fun W => valid16_calls
  obtain ⟨R0, R1⟩ := bytes_facts (s := s)
  replace R0 := Lib.hid R0
  replace R1 := Lib.hid R1
  have L_s := Sm.C_len ok
  have s0 : Hid (s.C[0]? = some (.int .i64 s.ep)) := rfl
  have SP := Lib.hid (fun _ : Unit => st_parts (ep := s.ep) (f := s.f) (t := s.t) (tm := s.tm) (tg := s.tg) ok.1)
  have S_s : s.C.toArray.size = 68 := by rw [List.size_toArray, L_s]
  obtain ⟨r, hr⟩ : ∃ r, r = w.heap.size := ⟨_, rfl⟩
  have B0 : Hid (Cb (w.alloc (.cells s.C.toArray 36)) r 36 s.C ∧ Ext w (w.alloc (.cells s.C.toArray 36))) := by rw [hr]; exact ⟨Cb.new _ _ _, (Ext.refl w).alloc _⟩
  obtain ⟨SC, hSC⟩ : ∃ SC, SC = s.C := ⟨_, rfl⟩
  rw [← hSC] at VA L_s s0 S_s B0 ⊢
  replace hSC := Lib.hid hSC
  obtain ⟨RE, hRE⟩ : ∃ r, r = bytesE s := ⟨_, rfl⟩
  obtain ⟨RS, hRS⟩ : ∃ r, r = bytesS s := ⟨_, rfl⟩
  rw [← hRE, ← hRS] at R0 R1 ⊢
  clear hRE hRS
  go_enter Tryd.func14, Tryd.ntmps14
  go_upto_region 1 with fail
  refine wp_gen (fun W => Cb W r 36 SC ∧ Ext w W) B0.out ?_
  rw [← hr]
  have wr : w.heap.size ≤ r := Nat.le_of_eq hr.symm
  clear B0
  replace hr := Lib.hid hr
  rintro w0 ⟨k0, x0⟩
  replace k0 := Lib.hid k0
  replace x0 := Lib.hid x0
  go_wp2_with (first | ((with_reducible refine wpList_load_rowW (o := ⟨some 5, _, _, _, _, _⟩) ?_ 36 _ rfl r ?_ 36 SC.toArray (0, 0) _ ?_ Tryd.underlying36 ?_ ?_ ?_); (· rfl); (· rfl); (· exact k0.out); (· rfl); (· rw [S_s]; rfl); simp only [Act.put, List.setIfInBounds_toArray, List.set_cons_zero, List.set_cons_succ]))
  refine (VA.out _).mono ?_
  rintro e w1 ⟨rfl, x1⟩
  have k1 := Lib.hid (k0.out.ext x1)
  replace x1 := Lib.hid (x0.out.trans x1)
  clear k0 VA x0
  rcases h1 : s.valid with _ | _
  · have z1 := Lib.hid (R0.out h1)
    clear R0 R1
    go_wp2_with fail
    go_ret2
    exact ⟨none, 0, 0, by rw [z1.out.2]; rfl, by rw [z1.out.1]; exact Own.nil _ _, x1.out⟩
  replace R1 := R1.out h1
  obtain ⟨ep, fn, tn, tm, hs, hep, hf7, ht7, htm⟩ := Sm.nat h1
  obtain ⟨lc, lg⟩ := ok
  clear R0 h1
  generalize s.cm = cm at *
  generalize s.tg = tgv at *
  subst hs
  have TO : Hid (∀ W : World, Calls Tryd.prog 25 #[.agg SC.toArray] W (RetOwn (toldL fn tn tm cm) W)) := by
    refine Lib.hid fun W => ?_
    rw [hSC.out]
    exact told_calls lc hf7 ht7 htm
  have SP1 : Hid (SC = ([.int .i64 (ep : Int), .int .i64 (fn : Int), .int .i64 (tn : Int), .int .i64 (tm : Int)] ++ cellsOf cm) ++ (cellsOf tgv ++ []) ∧ ([Value.int .i64 (ep : Int), .int .i64 (fn : Int), .int .i64 (tn : Int), .int .i64 (tm : Int)] ++ cellsOf cm).length = 36) := by
    rw [hSC.out]; exact Lib.hid (SP.out ()).2
  clear SP hSC
  simp only [Int.toNat_natCast] at R1
  replace R1 := Lib.hid R1
  have H4 : Hid (∀ (W : World), Calls Tryd.prog 20 #[.int .u64 (ep : Int), .int .i64 4] W (RetOwn (hiB ep 4) W)) := fun W => highO_calls (by omega) (by omega) (by omega) (by omega) rfl
  have u1 : IntKind.u64.wrap (ep : Int) = (ep : Int) := IntWalk.u64_in _ (by omega)
  have l4 := hiB_len ep 4
  have lt := toldL_len (f := fn) (t := tn) (tm := tm) lc
  generalize toldL fn tn tm cm = TL at *
  generalize hiB ep 4 = b4 at *
  have g0 := k1.out.cell s0.out
  have z1 : r + 1 ≤ w1.heap.size := k1.out.lt
  clear s0 hf7 ht7 htm hep L_s
  go_wp2_with fail
  refine (H4.out _).mono ?_
  rintro e w2 ⟨A2, n2, m2, rfl, o2, e2⟩
  obtain rfl : n2 = 4 := by rw [← o2.len, l4]
  replace o2 := Lib.hid (o2.mono z1)
  have k2 := Lib.hid (k1.out.ext e2)
  have x2 := Lib.hid (x1.out.trans e2)
  clear g0 k1 x1 e2 H4 z1
  go_upto_region 4 with fail
  refine wp_gen (fun W => Own (r + 1) W A2 4 m2 b4 ∧ Cb W r 36 SC ∧ Ext w W) ⟨o2.out, k2.out, x2.out⟩ ?_
  clear o2 k2 x2
  rintro w3 ⟨o3, k3, x3⟩
  replace k3 := Lib.hid k3
  go_wp2_with (first | ((with_reducible refine wpList_load_rowW (o := ⟨some 13, _, _, _, _, _⟩) ?_ 36 _ rfl r ?_ 36 SC.toArray (0, 0) _ ?_ Tryd.underlying36 ?_ ?_ ?_); (· rfl); (· rfl); (· exact k3.out); (· rfl); (· rw [S_s]; rfl); simp only [Act.put, List.setIfInBounds_toArray, List.set_cons_zero, List.set_cons_succ]))
  refine (TO.out _).mono ?_
  rintro e w4 ⟨A4, n4, m4, rfl, o4, e4⟩
  obtain rfl : n4 = 38 := by rw [← o4.len, lt]
  have o5 := Lib.hid (o3.ext e4)
  replace o4 := Lib.hid o4.bs
  have k4 := Lib.hid (k3.out.ext e4)
  have x4 := Lib.hid (x3.trans e4)
  have z4 : r + 1 ≤ w4.heap.size := k4.out.lt
  clear o3 k3 x3 e4 TO
  go_upto_region 5 with (at_builtin; (with_reducible refine wpList_append_bs rfl (B := r + 1) (s := .tmp 12) (x := .tmp 14) rfl rfl rfl o5.out o4.out (by omega) z4 ?_); intro A6 m6 w6 o6 g6 d6; replace o6 := Lib.hid o6; clear g6; replace d6 := Lib.hid d6; simp only [Act.put, List.setIfInBounds_toArray, List.set_cons_zero, List.set_cons_succ])
  refine wp_gen (fun W => Own (r + 1) W A6 (4 + 38) m6 (b4 ++ TL) ∧ Cb W r 36 SC ∧ Ext w W) ⟨o6.out, k4.out.kept d6.out (by omega), Below.trans x4.out (d6.out.mono (by omega))⟩ ?_
  clear o6 d6 o4 o5 k4 x4 z4
  rintro w7 ⟨o7, k7, x7⟩
  have b7 := Lib.hid (k7.bs SP1.out.1 SP1.out.2 lg (by omega))
  have z7 : r + 1 ≤ w7.heap.size := k7.lt
  replace o7 := Lib.hid o7
  replace x7 := Lib.hid x7
  clear k7
  go_wp2_with (at_builtin; (with_reducible refine wpList_append_bs rfl (B := r + 1) (s := .tmp 16) (x := .tmp 18) rfl rfl rfl o7.out b7.out (by omega) z7 ?_); intro A8 m8 w8 o8 g8 d8; replace o8 := Lib.hid o8; clear g8; replace d8 := Lib.hid d8; simp only [Act.put, List.setIfInBounds_toArray, List.set_cons_zero, List.set_cons_succ])
  go_ret2
  exact ⟨A8, 4 + 38 + 32, m8, by rw [R1.out.2]; rfl, by rw [R1.out.1]; exact o8.out.mono (by omega), Below.trans x7.out (d8.out.mono (by omega))⟩
end Go.Proofs.YtbkmnmhfjgmoiaaDoor
