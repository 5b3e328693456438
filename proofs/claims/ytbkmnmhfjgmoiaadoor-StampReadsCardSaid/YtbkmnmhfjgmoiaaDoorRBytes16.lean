import Derived.Test.YtbkmnmhfjgmoiaaDoorPkH
/-
  The document's bytes of a stamp.
-/
namespace Go.Proofs.YtbkmnmhfjgmoiaaDoor
open Go.ChangeShapes Go.WideShapes Go.ChangeAt Go.RowKit Go.Deep
set_option maxRecDepth 100000

theorem two16 {W : World} {f t : Nat} (hf : f ≤ 7) (ht : t ≤ 7) : Bs (W.alloc (.cells #[.int .u8 (f : Int), .int .u8 (t : Int)] 5)) (some ⟨W.heap.size, 0, none⟩) 2 2 (hiB f 1 ++ hiB t 1) := by
  have e : cellsOf (hiB f 1 ++ hiB t 1) = [.int .u8 (f : Int), .int .u8 (t : Int)] := by
    rw [hiB_one, hiB_one]
    have h1 : (UInt8.ofNat f).toNat = f := by simp; omega
    have h2 : (UInt8.ofNat t).toNat = t := by simp; omega
    rw [show cellsOf ([UInt8.ofNat f] ++ [UInt8.ofNat t]) = [Value.int .u8 ((UInt8.ofNat f).toNat : Int), .int .u8 ((UInt8.ofNat t).toNat : Int)] from rfl, h1, h2]
  have k : Cb (W.alloc (.cells #[.int .u8 (f : Int), .int .u8 (t : Int)] 5)) W.heap.size 5 [.int .u8 (f : Int), .int .u8 (t : Int)] := Cb.new _ _ _
  exact k.bs (p := []) (q := []) (by rw [e]; rfl) rfl (by simp [hiB_len]) (by omega)
set_option maxHeartbeats 8000000 in
theorem rbytes16_calls {w : World} {s : Sm} (ok : s.ok) :
    Calls Tryd.prog 15 #[.agg s.C.toArray] w fun e w' => ∃ A n c, e = .returned (.tuple #[.slice A n c, .int .i64 (bytesE s)]) ∧ Own w.heap.size w' A n c (bytesS s) ∧ Ext w w' := by
  have VA : Hid (∀ (W : World), Calls Tryd.prog 31 #[.agg s.C.toArray] W fun e w' => e = .returned (.bool s.valid) ∧ Ext W w') := fun W => right16_calls
  obtain ⟨R0, R1⟩ := bytes_facts (s := s)
  replace R0 := Lib.hid R0
  replace R1 := Lib.hid R1
  have L_s := Sm.C_len ok
  have s0 : Hid (s.C[0]? = some (.int .i64 s.ep)) := rfl
  have SP := Lib.hid (fun _ : Unit => st_parts (ep := s.ep) (f := s.f) (t := s.t) (tm := s.tm) (tg := s.tg) ok.1)
  have S_s : s.C.toArray.size = 68 := by rw [List.size_toArray, L_s]
  obtain ⟨r, hr⟩ : ∃ r, r = w.heap.size := ⟨_, rfl⟩
  have B0 : Hid (Cb (w.alloc (.cells s.C.toArray 36)) r 36 s.C ∧ Ext w (w.alloc (.cells s.C.toArray 36))) := by rw [hr]; exact ⟨Cb.new _ _ _, (Ext.refl w).alloc _⟩
  obtain ⟨SC, hSC⟩ : ∃ SC, SC = s.C := ⟨_, rfl⟩
  rw [← hSC] at VA L_s s0 S_s B0 ⊢
  replace hSC := Lib.hid hSC
  obtain ⟨RE, hRE⟩ : ∃ r, r = bytesE s := ⟨_, rfl⟩
  obtain ⟨RS, hRS⟩ : ∃ r, r = bytesS s := ⟨_, rfl⟩
  rw [← hRE, ← hRS] at R0 R1 ⊢
  clear hRE hRS
  go_enter Tryd.func15, Tryd.ntmps15
  go_upto_region 1 with fail
  refine wp_gen (fun W => Cb W r 36 SC ∧ Ext w W) B0.out ?_
  rw [← hr]
  have wr : w.heap.size ≤ r := Nat.le_of_eq hr.symm
  clear B0
  replace hr := Lib.hid hr
  rintro w0 ⟨k0, x0⟩
  replace k0 := Lib.hid k0
  replace x0 := Lib.hid x0
  go_wp2_with (first | ((with_reducible refine wpList_load_rowW (o := ⟨some 5, _, _, _, _, _⟩) ?_ 36 _ rfl r ?_ 36 SC.toArray (0, 0) _ ?_ Tryd.underlying36 ?_ ?_ ?_); (· rfl); (· rfl); (· exact k0.out); (· rfl); (· rw [S_s]; rfl); simp only [Act.put, List.setIfInBounds_toArray, List.set_cons_zero, List.set_cons_succ]))
  refine (VA.out _).mono ?_
  rintro e w1 ⟨rfl, x1⟩
  have k1 := Lib.hid (k0.out.ext x1)
  replace x1 := Lib.hid (x0.out.trans x1)
  clear k0 VA x0
  rcases h1 : s.valid with _ | _
  · have z1 := Lib.hid (R0.out h1)
    clear R0 R1
    go_wp2_with fail
    go_ret2
    exact ⟨none, 0, 0, by rw [z1.out.2]; rfl, by rw [z1.out.1]; exact Own.nil _ _, x1.out⟩
  replace R1 := R1.out h1
  obtain ⟨ep, fn, tn, tm, hs, hep, hf7, ht7, htm⟩ := Sm.nat h1
  obtain ⟨lc, lg⟩ := ok
  clear R0 h1
  generalize s.cm = cm at *
  generalize s.tg = tgv at *
  subst hs
  have SP1 : Hid (SC = ([.int .i64 (ep : Int), .int .i64 (fn : Int), .int .i64 (tn : Int), .int .i64 (tm : Int)] ++ cellsOf cm) ++ (cellsOf tgv ++ []) ∧ ([Value.int .i64 (ep : Int), .int .i64 (fn : Int), .int .i64 (tn : Int), .int .i64 (tm : Int)] ++ cellsOf cm).length = 36) := by
    rw [hSC.out]; exact Lib.hid (SP.out ()).2
  clear SP hSC
  simp only [Int.toNat_natCast] at R1
  replace R1 := Lib.hid R1
  have H4 : Hid (∀ (W : World), Calls Tryd.prog 32 #[.int .u64 (ep : Int), .int .i64 4] W (RetOwn (hiB ep 4) W)) := fun W => refHighO_calls (by omega) (by omega) (by omega) (by omega) rfl
  have u1 : IntKind.u64.wrap (ep : Int) = (ep : Int) := IntWalk.u64_in _ (by omega)
  have H5 : Hid (∀ (W : World), Calls Tryd.prog 32 #[.int .u64 (tm : Int), .int .i64 4] W (RetOwn (hiB tm 4) W)) := fun W => refHighO_calls (by omega) (by omega) (by omega) (by omega) rfl
  have u5 : IntKind.u64.wrap (tm : Int) = (tm : Int) := IntWalk.u64_in _ (by omega)
  have v1 : IntKind.u8.wrap (fn : Int) = (fn : Int) := IntWalk.u8_in _ (by omega)
  have v2 : IntKind.u8.wrap (tn : Int) = (tn : Int) := IntWalk.u8_in _ (by omega)
  have s1 : Hid (SC[1]? = some (.int .i64 (fn : Int))) := by rw [SP1.out.1]; exact Lib.hid rfl
  have s2 : Hid (SC[2]? = some (.int .i64 (tn : Int))) := by rw [SP1.out.1]; exact Lib.hid rfl
  have s3 : Hid (SC[3]? = some (.int .i64 (tm : Int))) := by rw [SP1.out.1]; exact Lib.hid rfl
  have SP0 : Hid (SC = [.int .i64 (ep : Int), .int .i64 (fn : Int), .int .i64 (tn : Int), .int .i64 (tm : Int)] ++ (cellsOf cm ++ (cellsOf tgv ++ []))) := Lib.hid (by rw [SP1.out.1]; simp)
  have TWO : Hid (∀ W : World, Bs (W.alloc (.cells #[.int .u8 (fn : Int), .int .u8 (tn : Int)] 5)) (some ⟨W.heap.size, 0, none⟩) 2 2 (hiB fn 1 ++ hiB tn 1)) := fun W => two16 hf7 ht7
  have RR : Hid (((((hiB ep 4 ++ (hiB fn 1 ++ hiB tn 1)) ++ hiB tm 4) ++ cm) ++ tgv) = RS) := Lib.hid (by rw [R1.out.1]; simp [toldL])
  have l4 := hiB_len ep 4
  have l5 := hiB_len tm 4
  generalize hiB ep 4 = b4 at *
  generalize hiB tm 4 = b5 at *
  generalize hiB fn 1 ++ hiB tn 1 = b2 at *
  have g0 := k1.out.cell s0.out
  have z1 : r + 1 ≤ w1.heap.size := k1.out.lt
  clear s0 hf7 ht7 htm hep L_s
  go_wp2_with fail
  refine (H4.out _).mono ?_
  rintro e w2 ⟨A2, n2, m2, rfl, o2, e2⟩
  obtain rfl : n2 = 4 := by rw [← o2.len, l4]
  replace o2 := Lib.hid (o2.mono z1)
  have k2 := Lib.hid (k1.out.ext e2)
  have x2 := Lib.hid (x1.out.trans e2)
  clear g0 k1 x1 e2 H4 z1
  go_upto_region 4 with fail
  refine wp_gen (fun W => Own (r + 1) W A2 4 m2 b4 ∧ Cb W r 36 SC ∧ Ext w W) ⟨o2.out, k2.out, x2.out⟩ ?_
  clear o2 k2 x2
  rintro w3 ⟨o3, k3, x3⟩
  have g1 := k3.cell s1.out
  have g2 := k3.cell s2.out
  have o4 := Lib.hid (o3.alloc (.cells #[.int .u8 (fn : Int), .int .u8 (tn : Int)] 5))
  have t4 := Lib.hid (TWO.out w3)
  have k4 := Lib.hid (k3.ext ((Ext.refl w3).alloc (.cells #[.int .u8 (fn : Int), .int .u8 (tn : Int)] 5)))
  have x4 := Lib.hid (x3.trans ((Ext.refl w3).alloc (.cells #[.int .u8 (fn : Int), .int .u8 (tn : Int)] 5)))
  have z4 : r + 1 ≤ (w3.alloc (.cells #[.int .u8 (fn : Int), .int .u8 (tn : Int)] 5)).heap.size := k4.out.lt
  clear o3 k3 x3 TWO s1 s2
  go_upto_region 5 with (at_builtin; (with_reducible refine wpList_append_bs rfl (B := r + 1) (s := .tmp 12) (x := .tmp 19) rfl rfl rfl o4.out t4.out (by omega) z4 ?_); intro A6 m6 w6 o6 g6 d6; replace o6 := Lib.hid o6; clear g6; replace d6 := Lib.hid d6; simp only [Act.put, List.setIfInBounds_toArray, List.set_cons_zero, List.set_cons_succ])
  refine wp_gen (fun W => Own (r + 1) W A6 (4 + 2) m6 (b4 ++ b2) ∧ Cb W r 36 SC ∧ Ext w W) ⟨o6.out, k4.out.kept d6.out (by omega), Below.trans x4.out (d6.out.mono (by omega))⟩ ?_
  clear o6 d6 o4 t4 k4 x4 z4 g1 g2
  rintro w7 ⟨o7, k7, x7⟩
  have g3 := k7.cell s3.out
  replace o7 := Lib.hid o7
  replace k7 := Lib.hid k7
  replace x7 := Lib.hid x7
  clear s3
  go_wp2_with fail
  refine (H5.out _).mono ?_
  rintro e w8 ⟨A8, n8, m8, rfl, o8, e8⟩
  obtain rfl : n8 = 4 := by rw [← o8.len, l5]
  have o9 := Lib.hid (o7.out.ext e8)
  replace o8 := Lib.hid o8.bs
  have k8 := Lib.hid (k7.out.ext e8)
  have x8 := Lib.hid (x7.out.trans e8)
  have z8 : r + 1 ≤ w8.heap.size := k8.out.lt
  clear g3 o7 k7 x7 e8 H5
  go_upto_region 6 with (at_builtin; (with_reducible refine wpList_append_bs rfl (B := r + 1) (s := .tmp 21) (x := .tmp 25) rfl rfl rfl o9.out o8.out (by omega) z8 ?_); intro A1 c1 v1 p1 q1 d1; replace p1 := Lib.hid p1; clear q1; replace d1 := Lib.hid d1; simp only [Act.put, List.setIfInBounds_toArray, List.set_cons_zero, List.set_cons_succ])
  refine wp_gen (fun W => Own (r + 1) W A1 (4 + 2 + 4) c1 ((b4 ++ b2) ++ b5) ∧ Cb W r 36 SC ∧ Ext w W) ⟨p1.out, k8.out.kept d1.out (by omega), Below.trans x8.out (d1.out.mono (by omega))⟩ ?_
  clear p1 d1 o9 o8 k8 x8 z8
  rintro y1 ⟨o1, k1, x1⟩
  have bc := Lib.hid (k1.bs SP0.out rfl lc (by omega))
  have zc : r + 1 ≤ y1.heap.size := k1.lt
  replace o1 := Lib.hid o1
  replace k1 := Lib.hid k1
  replace x1 := Lib.hid x1
  go_upto_region 7 with (at_builtin; (with_reducible refine wpList_append_bs rfl (B := r + 1) (s := .tmp 27) (x := .tmp 29) rfl rfl rfl o1.out bc.out (by omega) zc ?_); intro A2' c2 v2' p2 q2 d2; replace p2 := Lib.hid p2; clear q2; replace d2 := Lib.hid d2; simp only [Act.put, List.setIfInBounds_toArray, List.set_cons_zero, List.set_cons_succ])
  refine wp_gen (fun W => Own (r + 1) W A2' (4 + 2 + 4 + 32) c2 (((b4 ++ b2) ++ b5) ++ cm) ∧ Cb W r 36 SC ∧ Ext w W) ⟨p2.out, k1.out.kept d2.out (by omega), Below.trans x1.out (d2.out.mono (by omega))⟩ ?_
  clear p2 d2 o1 bc k1 x1 zc
  rintro y2 ⟨o2, k2, x2⟩
  have bt_ := Lib.hid (k2.bs SP1.out.1 SP1.out.2 lg (by omega))
  have zt : r + 1 ≤ y2.heap.size := k2.lt
  replace o2 := Lib.hid o2
  replace x2 := Lib.hid x2
  clear k2
  go_wp2_with (at_builtin; (with_reducible refine wpList_append_bs rfl (B := r + 1) (s := .tmp 31) (x := .tmp 33) rfl rfl rfl o2.out bt_.out (by omega) zt ?_); intro A3 c3 v3 p3 q3 d3; replace p3 := Lib.hid p3; clear q3; replace d3 := Lib.hid d3; simp only [Act.put, List.setIfInBounds_toArray, List.set_cons_zero, List.set_cons_succ])
  go_ret2
  exact ⟨A3, 4 + 2 + 4 + 32 + 32, c3, by rw [R1.out.2]; rfl, by rw [← RR.out]; exact p3.out.mono (by omega), Below.trans x2.out (d3.out.mono (by omega))⟩
end Go.Proofs.YtbkmnmhfjgmoiaaDoor
