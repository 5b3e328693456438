import Derived.Test.YtbkmnmhfjgmoiaaDoorPkE
import Derived.Test.YtbkmnmhfjgmoiaaDoorRCheck16
import Derived.Test.YtbkmnmhfjgmoiaaDoorRBytes16
import Derived.Test.YtbkmnmhfjgmoiaaDoorInts
/-
  palfreylaw16.StampChecks.
-/
namespace Go.Proofs.YtbkmnmhfjgmoiaaDoor
open Go.ChangeShapes Go.WideShapes Go.ChangeAt Go.RowKit Go.Deep Go.Maps
set_option maxRecDepth 100000

set_option maxHeartbeats 16000000 in
theorem checks16_calls {w : World} {root : List UInt8} (lr : root.length = 32) {s : Sm} (ok : s.ok) {A : Option Addr} {n c : Nat} {zs : List Int} (hx : Is w A n c zs) {tg : TypeId × Nat × Nat} (hG : Gl w tg) :
    Calls Tryd.prog 4 #[.agg (cellsOf root).toArray, .agg s.C.toArray, .slice A n c] w fun e w' => e = .returned (.bool true) ∧ Ext w w' := by
  have AW : Hid (∀ W : World, Ext w W → Calls Tryd.prog 8 #[] W fun e w' => e = .returned (.bool true) ∧ Ext W w') := fun W x => awake16_calls (hG.kept x hG.lt)
  have NW : Hid (∀ W : World, Calls Tryd.prog 9 #[.agg (cellsOf root).toArray, .int .i64 5] W fun e w' => ∃ (g b q : Nat), e = .returned (.tuple #[.pointer (some ⟨g, 0, none⟩), .int .i64 0]) ∧ (W.heap.size ≤ g ∧ W.heap.size ≤ b ∧ W.heap.size ≤ q) ∧ SR w' g b q root 5 [] ∧ Ext W w') := fun W => snew16_ok (n := 5) lr (by omega) (by omega)
  have CK : Hid (∀ (W : World) (g b q : Nat) (E : List (Value × Value)) (z : Int), SR W g b q root 5 E → E.length ≤ 1000000 → Gl W tg → Calls Tryd.prog 12 #[.pointer (some ⟨g, 0, none⟩), .agg s.C.toArray, .int .i64 z] W fun e w' => e = .returned (.int .i64 (chkE root 5 s z)) ∧ Told W g b q root 5 E.length w') := fun W g b q E z h hE k => check16_calls h hE (by omega) (by omega) ok k
  have RC : Hid (∀ (W : World) (z : Int), Calls Tryd.prog 13 #[.agg (cellsOf root).toArray, .int .i64 5, .agg s.C.toArray, .int .i64 z] W fun e w' => e = .returned (.int .i64 (chkE root 5 s z)) ∧ Ext W w') := fun W z => rcheck16_calls (ticks := 5) lr (by omega) (by omega) ok
  have BY : Hid (∀ W : World, Calls Tryd.prog 14 #[.agg s.C.toArray] W fun e w' => ∃ A n c, e = .returned (.tuple #[.slice A n c, .int .i64 (bytesE s)]) ∧ Own W.heap.size w' A n c (bytesS s) ∧ Ext W w') := fun W => bytes16_calls ok
  have RB : Hid (∀ W : World, Calls Tryd.prog 15 #[.agg s.C.toArray] W fun e w' => ∃ A n c, e = .returned (.tuple #[.slice A n c, .int .i64 (bytesE s)]) ∧ Own W.heap.size w' A n c (bytesS s) ∧ Ext W w') := fun W => rbytes16_calls ok
  have CV : Hid (∀ (W : World) A n c (ys : List UInt8), Bs W A n c ys → (convert 27 9 (.slice A n c)).run Tryd.prog W = .ok (.string (strL ys)) W) := fun W A n c ys h => conv_bs h
  have L_s := Sm.C_len ok
  obtain ⟨SC, hSC⟩ : ∃ x, x = s.C := ⟨_, rfl⟩
  rw [← hSC] at L_s CK RC BY RB ⊢
  clear hSC
  obtain ⟨ch, hch⟩ : ∃ f : Int → Int, f = chkE root 5 s := ⟨_, rfl⟩
  rw [← hch] at CK RC
  clear hch
  generalize bytesE s = be at *
  generalize bytesS s = bs at *
  clear ok
  have S_s : SC.toArray.size = 68 := by rw [List.size_toArray, L_s]
  have S_r : (cellsOf root).toArray.size = 32 := by simp [cellsOf_len, lr]
  obtain ⟨r, hr⟩ : ∃ r, r = w.heap.size := ⟨_, rfl⟩
  have B0 : Hid (Cb ((w.alloc (.cells (cellsOf root).toArray 23)).alloc (.cells SC.toArray 36)) r 23 (cellsOf root) ∧ Cb ((w.alloc (.cells (cellsOf root).toArray 23)).alloc (.cells SC.toArray 36)) (r + 1) 36 SC ∧ Ext w ((w.alloc (.cells (cellsOf root).toArray 23)).alloc (.cells SC.toArray 36))) := by rw [hr]; exact ⟨heap_alloc1 _ _ _, heap_alloc2 _ _ _, ((Ext.refl w).alloc _).alloc _⟩
  replace hG : Hid (∀ W, Ext w W → Gl W tg) := fun W x => hG.kept x hG.lt
  have h1 := hx.le
  have h2 := hx.cap
  replace hx := Lib.hid hx
  go_enter Tryd.func4, Tryd.ntmps4
  go_upto_region 1 with fail
  refine wp_gen (fun W => Cb W r 23 (cellsOf root) ∧ Cb W (r + 1) 36 SC ∧ Ext w W) B0.out ?_
  rw [← hr]
  have wr : w.heap.size ≤ r := Nat.le_of_eq hr.symm
  clear B0
  replace hr := Lib.hid hr
  rintro w0 ⟨k0, k1, x0⟩
  have P0 : Hid (∀ u, Ext w0 u → Cb u r 23 (cellsOf root) ∧ Cb u (r + 1) 36 SC ∧ Ext w u) := fun u x => ⟨k0.ext x, k1.ext x, x0.trans x⟩
  have A0 := Lib.hid (AW.out w0 x0)
  have hz : r + 1 < w0.heap.size := k1.lt
  clear AW k0 k1 x0
  go_wp2_with fail
  refine A0.out.mono ?_
  rintro e w1 ⟨rfl, x1⟩
  have k1 := Lib.hid (P0.out w1 x1).1
  replace x1 := Lib.hid x1
  clear A0
  go_wp2_with (first | ((with_reducible refine wpList_load_rowW (o := ⟨some 17, _, _, _, _, _⟩) ?_ 23 _ rfl r ?_ 23 (cellsOf root).toArray (0, 0) _ ?_ Tryd.underlying23 ?_ ?_ ?_); (· rfl); (· rfl); (· exact k1.out); (· rfl); (· rw [S_r]; rfl); simp only [Act.put, List.setIfInBounds_toArray, List.set_cons_zero, List.set_cons_succ]))
  refine (NW.out _).mono ?_
  rintro e w2 ⟨g, mb, q, rfl, ⟨_, hb1, _⟩, s2, x2⟩
  have x02 := Lib.hid (x1.out.trans x2)
  have z1 : w0.heap.size ≤ w1.heap.size := x1.out.size
  have GE : Hid (∀ u, w2.grownBy u (some mb) → Gl u tg) := fun u x => (hG.out w2 (P0.out w2 x02.out).2.2).grown s2.mp x
  have Q2 : Hid (∀ u, w2.grownBy u (some mb) → Ext w0 u) := fun u y => Below.trans x02.out ⟨y.os, y.tape, y.output, y.size, fun i hi => y.block i (Nat.lt_of_lt_of_le hi x02.out.size) (fun z => by have := Option.some.inj z; omega)⟩
  replace s2 := Lib.hid s2
  clear NW k1 x1 x2 hG x02
  go_wp2_with fail
  go_loopw [10] (fun i wr => ∃ (j : Nat), j ≤ n ∧ j ≤ 12 ∧ i = .int .i64 j ∧ (∃ E, SR wr g mb q root 5 E ∧ E.length ≤ j) ∧ w2.grownBy wr (some mb)) (fun i _ => 12 - (intOf i).toNat)
  case atStart => exact ⟨0, by omega, by omega, rfl, ⟨[], s2.out, Nat.le_refl _⟩, World.grownBy.refl _ _⟩
  case round =>
    rename World => wr_
    obtain ⟨j, hj, hj2, rfl, ⟨E, sr, hE⟩, gr⟩ := hrel
    by_cases hlt : j < n
    · by_cases h12 : j < 12
      · have d1 : decide ((j : Int) < (n : Int)) = true := by simp; omega
        have d2 : decide ((j : Int) < 12) = true := by simp; omega
        obtain ⟨ba, off, rfl, hbl, hc⟩ := hx.out.pos (by omega)
        obtain ⟨g0, _, _⟩ := hc j hlt
        generalize nat_at zs j = z at *
        have gr' : Hid (w2.grownBy wr_.drew (some mb)) := ⟨gr.os, gr.tape, gr.output, gr.size, gr.block⟩
        have F8 : Hid (∀ u, wr_.drew.grownBy u (some mb) → Cb u r 23 (cellsOf root) ∧ Cb u (r + 1) 36 SC ∧ u.cell? ⟨ba, off + j, none⟩ = some (.int .i64 z)) := fun u x => by
          obtain ⟨p1, p2, p3⟩ := P0.out u (Q2.out u (grown_trans' gr'.out x))
          exact ⟨p1, p2, (p3.cell (p := ⟨ba, off + j, none⟩) hbl).trans g0⟩
        have C8 := Lib.hid (CK.out wr_.drew g mb q E z (sr.ext (Ext.refl wr_).drew) (by omega) (GE.out _ gr'.out))
        have nn : (ch z != ch z) = false := by simp
        clear hc g0 CK sr gr BY RB CV
        go_upto_region 8 with fail
        refine wp_region_seq (R := fun a b => a.grownBy b (some mb)) (fun w => World.grownBy.refl w _) (fun _ _ _ => gr_trans) [0, 1, 2, 3, 4, 5, 7, 8, 9, 10, 11, 12, 6, 13, 14] [6, 13] [(0, 38, 512), (0, 39, 32), (0, 40, 8), (0, 41, 2048), (12, 42, 3298534883328), (16, 43, 4398046511104), (35, 44, 9620726743040), (0, 45, 16), (0, 46, 32), (0, 47, 8), (0, 48, 2048), (1536, 49, 422212465065984), (2048, 50, 562949953421312), (4544, 51, 1231453023109120), (8256, 52, 2269391999729664)] (by kernel_rfl) (by kernel_rfl) (by kernel_rfl) rfl (by kernel_rfl) (by kernel_rfl) (fun _ _ d _ _ h => by cases d <;> exact h) ?_
        repeat (first | (refine seq_read _ (fun w' e => (F8.out w' e).2.2) _ (v := ?_) rfl rfl (by rfl) ?_ ?_; rotate_left; (· intro w' hF; go_simp; (try with_reducible rfl)); simp only [Act.put, List.setIfInBounds_toArray, List.set_cons_zero, List.set_cons_succ]) | (refine seq_skip _ rfl rfl (by rfl) ?_; simp only [Act.put, List.setIfInBounds_toArray, List.set_cons_zero, List.set_cons_succ]))
        refine seq_read (fun w' => w'.heap[(r + 1)]? = some (.cells SC.toArray 36 (0, 0))) (fun w' e => (F8.out w' e).2.1) _ (v := .agg SC.toArray) rfl rfl (by rfl) (fun w' hF => exec_load_row rfl rfl hF rfl rfl (by rw [S_s]; rfl)) ?_
        simp only [Act.put, List.setIfInBounds_toArray, List.set_cons_zero, List.set_cons_succ]
        repeat (first | (refine seq_read _ (fun w' e => (F8.out w' e).2.2) _ (v := ?_) rfl rfl (by rfl) ?_ ?_; rotate_left; (· intro w' hF; go_simp; (try with_reducible rfl)); simp only [Act.put, List.setIfInBounds_toArray, List.set_cons_zero, List.set_cons_succ]) | (refine seq_skip _ rfl rfl (by rfl) ?_; simp only [Act.put, List.setIfInBounds_toArray, List.set_cons_zero, List.set_cons_succ]))
        refine seq_read (fun w' => w'.heap[r]? = some (.cells (cellsOf root).toArray 23 (0, 0))) (fun w' e => (F8.out w' e).1) _ (v := .agg (cellsOf root).toArray) rfl rfl (by rfl) (fun w' hF => exec_load_row rfl rfl hF rfl rfl (by rw [S_r]; rfl)) ?_
        simp only [Act.put, List.setIfInBounds_toArray, List.set_cons_zero, List.set_cons_succ]
        refine seq_read (fun w' => w'.heap[(r + 1)]? = some (.cells SC.toArray 36 (0, 0))) (fun w' e => (F8.out w' e).2.1) _ (v := .agg SC.toArray) rfl rfl (by rfl) (fun w' hF => exec_load_row rfl rfl hF rfl rfl (by rw [S_s]; rfl)) ?_
        simp only [Act.put, List.setIfInBounds_toArray, List.set_cons_zero, List.set_cons_succ]
        repeat (first | (refine seq_read _ (fun w' e => (F8.out w' e).2.2) _ (v := ?_) rfl rfl (by rfl) ?_ ?_; rotate_left; (· intro w' hF; go_simp; (try with_reducible rfl)); simp only [Act.put, List.setIfInBounds_toArray, List.set_cons_zero, List.set_cons_succ]) | (refine seq_skip _ rfl rfl (by rfl) ?_; simp only [Act.put, List.setIfInBounds_toArray, List.set_cons_zero, List.set_cons_succ]))
        generalize wr_.drew = V at *
        refine seq_do _ rfl rfl (by rfl) (fun K hK => ?_)
        go_simp
        refine C8.out.mono ?_
        rintro e w4 ⟨rfl, ⟨E4, s4, e4⟩, g4⟩
        refine hK.out _ _ g4 ?_
        clear hK K
        try simp only [Act.put, List.setIfInBounds_toArray, List.set_cons_zero, List.set_cons_succ]
        repeat (first | (refine seq_read (fun _ => True) (fun _ _ => trivial) _ (v := ?_) rfl rfl (by rfl) ?_ ?_; rotate_left; (· intro w' hF; go_simp; (try with_reducible rfl)); simp only [Act.put, List.setIfInBounds_toArray, List.set_cons_zero, List.set_cons_succ]) | (refine seq_skip _ rfl rfl (by rfl) ?_; simp only [Act.put, List.setIfInBounds_toArray, List.set_cons_zero, List.set_cons_succ]))
        refine seq_do _ rfl rfl (by rfl) (fun K hK => ?_)
        go_simp
        refine (RC.out w4 z).mono ?_
        rintro e w5 ⟨rfl, x5⟩
        refine hK.out _ _ (grown_ofE16 x5) ?_
        clear hK K
        try simp only [Act.put, List.setIfInBounds_toArray, List.set_cons_zero, List.set_cons_succ]
        have FIN : Hid ((∃ E, SR w5 g mb q root 5 E ∧ E.length ≤ j + 1) ∧ w2.grownBy w5 (some mb)) := ⟨⟨E4, s4.ext x5, by omega⟩, grown_trans' gr'.out (grown_trans' g4 (grown_ofE16 x5))⟩
        clear C8 F8 gr' s4 g4 x5 RC
        repeat (first | (refine seq_read (fun _ => True) (fun _ _ => trivial) _ (v := ?_) rfl rfl (by rfl) ?_ ?_; rotate_left; (· intro w' hF; go_simp; (try with_reducible rfl)); simp only [Act.put, List.setIfInBounds_toArray, List.set_cons_zero, List.set_cons_succ]) | (refine seq_skip _ rfl rfl (by rfl) ?_; simp only [Act.put, List.setIfInBounds_toArray, List.set_cons_zero, List.set_cons_succ]))
        refine seq_done ?_
        go_wp2_with fail
        go_roundw
        case rel => exact ⟨j + 1, by omega, by omega, by go_num, FIN.out⟩
        case measure => simp [intOf]; omega
      · have d1 : decide ((j : Int) < (n : Int)) = true := by simp; omega
        have d2 : decide ((j : Int) < 12) = false := by simp; omega
        have y0 := P0.out wr_ (Q2.out _ gr)
        have c1 := Lib.hid y0.2.1
        clear CK RC
        go_wp2_with (first | ((with_reducible refine wpList_load_rowW (o := ⟨some 53, _, _, _, _, _⟩) ?_ 36 _ rfl (r + 1) ?_ 36 SC.toArray (0, 0) _ ?_ Tryd.underlying36 ?_ ?_ ?_); (· rfl); (· rfl); (· exact c1.out); (· rfl); (· rw [S_s]; rfl); simp only [Act.put, List.setIfInBounds_toArray, List.set_cons_zero, List.set_cons_succ]))
        refine (BY.out _).mono ?_
        rintro e w5 ⟨A5, n5, c5, rfl, o5, x5⟩
        have c2 := Lib.hid (c1.out.ext x5)
        have b5 := Lib.hid o5.bs
        have X5 : Hid (Ext w w5) := Lib.hid (y0.2.2.trans x5)
        clear BY c1 o5 x5 y0 P0 Q2 gr sr GE
        go_upto_region 11 with fail
        go_wp2_with (first | ((with_reducible refine wpList_load_rowW (o := ⟨some 58, _, _, _, _, _⟩) ?_ 36 _ rfl (r + 1) ?_ 36 SC.toArray (0, 0) _ ?_ Tryd.underlying36 ?_ ?_ ?_); (· rfl); (· rfl); (· exact c2.out); (· rfl); (· rw [S_s]; rfl); simp only [Act.put, List.setIfInBounds_toArray, List.set_cons_zero, List.set_cons_succ]))
        refine (RB.out _).mono ?_
        rintro e w6 ⟨A6, n6, c6, rfl, o6, x6⟩
        have u5 := CV.out _ _ _ _ _ (b5.out.ext x6)
        have u6 := CV.out _ _ _ _ _ o6.bs
        have u7 : ((strL bs).toList == (strL bs).toList) = true := by simp
        have F := Lib.hid (X5.out.trans x6)
        have u8 : (be == be) = true := by simp
        clear RB c2 o6 x6 X5 b5
        go_wp2_with fail
        go_ret
        exact ⟨rfl, F.out⟩
    · have d1 : decide ((j : Int) < (n : Int)) = false := by simp; omega
      have y0 := P0.out wr_ (Q2.out _ gr)
      have c1 := Lib.hid y0.2.1
      clear CK RC
      go_wp2_with (first | ((with_reducible refine wpList_load_rowW (o := ⟨some 53, _, _, _, _, _⟩) ?_ 36 _ rfl (r + 1) ?_ 36 SC.toArray (0, 0) _ ?_ Tryd.underlying36 ?_ ?_ ?_); (· rfl); (· rfl); (· exact c1.out); (· rfl); (· rw [S_s]; rfl); simp only [Act.put, List.setIfInBounds_toArray, List.set_cons_zero, List.set_cons_succ]))
      refine (BY.out _).mono ?_
      rintro e w5 ⟨A5, n5, c5, rfl, o5, x5⟩
      have c2 := Lib.hid (c1.out.ext x5)
      have b5 := Lib.hid o5.bs
      have X5 : Hid (Ext w w5) := Lib.hid (y0.2.2.trans x5)
      clear BY c1 o5 x5 y0 P0 Q2 gr sr GE
      go_upto_region 11 with fail
      go_wp2_with (first | ((with_reducible refine wpList_load_rowW (o := ⟨some 58, _, _, _, _, _⟩) ?_ 36 _ rfl (r + 1) ?_ 36 SC.toArray (0, 0) _ ?_ Tryd.underlying36 ?_ ?_ ?_); (· rfl); (· rfl); (· exact c2.out); (· rfl); (· rw [S_s]; rfl); simp only [Act.put, List.setIfInBounds_toArray, List.set_cons_zero, List.set_cons_succ]))
      refine (RB.out _).mono ?_
      rintro e w6 ⟨A6, n6, c6, rfl, o6, x6⟩
      have u5 := CV.out _ _ _ _ _ (b5.out.ext x6)
      have u6 := CV.out _ _ _ _ _ o6.bs
      have u7 : ((strL bs).toList == (strL bs).toList) = true := by simp
      have F := Lib.hid (X5.out.trans x6)
      have u8 : (be == be) = true := by simp
      clear RB c2 o6 x6 X5 b5
      go_wp2_with fail
      go_ret
      exact ⟨rfl, F.out⟩
end Go.Proofs.YtbkmnmhfjgmoiaaDoor
