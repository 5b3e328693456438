/-
  The document's check of a stamp (first written from XCheck16 by a script).
-/
import Derived.Test.YtmnohmhhmaeljaaDoorCheck16
import Derived.Test.YtmnohmhhmaeljaaDoorRTag16
namespace Go.Proofs.YtmnohmhhmaeljaaDoor
open Go.ChangeShapes Go.WideShapes Go.ChangeAt Go.RowKit Go.Deep Go.Maps
set_option maxRecDepth 100000

set_option maxHeartbeats 8000000 in
theorem rcheck16_calls {w : World} {ticks : Nat} {root : List UInt8} (lr : root.length = 32) (t1 : 1 ≤ ticks) (t2 : ticks ≤ 1000000) {s : Sm} (ok : s.ok) {now : Int} :
    Calls Tryd.prog 63 #[.agg (cellsOf root).toArray, .int .i64 (ticks : Int), .agg s.C.toArray, .int .i64 now] w fun e w' => e = .returned (.int .i64 (chkE root ticks s now)) ∧ Ext w w' := by
  have TI : Hid (∀ (W : World) (z : Int), Calls Tryd.prog 92 #[.int .i64 z] W fun e w' => e = .returned (.bool (upB z 1000000)) ∧ Ext W w') := fun W z => rTime_calls
  have VA : Hid (∀ (W : World), Calls Tryd.prog 93 #[.agg s.C.toArray] W fun e w' => e = .returned (.bool s.valid) ∧ Ext W w') := fun W => right16_calls
  obtain ⟨R0, R1, R2, R3⟩ := chk_facts (root := root) (ticks := ticks) (s := s) (now := now)
  replace R0 := Lib.hid R0
  replace R1 := Lib.hid R1
  replace R2 := Lib.hid R2
  replace R3 := Lib.hid R3
  have L_s := Sm.C_len ok
  have s0 : Hid (s.C[0]? = some (.int .i64 s.ep)) := rfl
  have s3 : Hid (s.C[3]? = some (.int .i64 s.tm)) := rfl
  have SP := Lib.hid (fun _ : Unit => st_parts (ep := s.ep) (f := s.f) (t := s.t) (tm := s.tm) (tg := s.tg) ok.1)
  have S_s : s.C.toArray.size = 68 := by rw [List.size_toArray, L_s]
  have S_r : (cellsOf root).toArray.size = 32 := by simp [cellsOf_len, lr]
  obtain ⟨r, hr⟩ : ∃ x, x = w.heap.size := ⟨_, rfl⟩
  obtain ⟨g4, hg4⟩ : ∃ x, x = r + 1 := ⟨_, rfl⟩
  have B0 : Hid (Cb ((w.alloc (.cells (cellsOf root).toArray 24)).alloc (.cells s.C.toArray 26)) r 24 (cellsOf root) ∧ Cb ((w.alloc (.cells (cellsOf root).toArray 24)).alloc (.cells s.C.toArray 26)) g4 26 s.C ∧ Ext w ((w.alloc (.cells (cellsOf root).toArray 24)).alloc (.cells s.C.toArray 26))) := by rw [hg4, hr]; exact ⟨heap_alloc1 _ _ _, heap_alloc2 _ _ _, ((Ext.refl w).alloc _).alloc _⟩
  replace hg4 := Lib.hid hg4
  replace hr := Lib.hid hr
  obtain ⟨SC, hSC⟩ : ∃ SC, SC = s.C := ⟨_, rfl⟩
  rw [← hSC] at VA L_s s0 s3 S_s B0 ⊢
  replace hSC := Lib.hid hSC
  obtain ⟨RES, hRES⟩ : ∃ r, r = chkE root ticks s now := ⟨_, rfl⟩
  rw [← hRES] at R0 R1 R2 R3 ⊢
  clear hRES
  go_enter Tryd.func63, Tryd.ntmps63
  go_upto_region 1 with fail
  refine wp_gen (fun W => Cb W r 24 (cellsOf root) ∧ Cb W g4 26 SC ∧ Ext w W) B0.out ?_
  rw [← hr.out, ← hg4.out]
  clear B0 hg4 hr
  rintro w0 ⟨k0, k4, x0⟩
  have P0 : Hid (∀ u, Ext w0 u → Cb u r 24 (cellsOf root) ∧ Cb u g4 26 SC ∧ Ext w u) := fun u x => ⟨k0.ext x, k4.ext x, x0.trans x⟩
  replace k4 := Lib.hid k4
  clear k0 x0
  go_wp2_with (first | ((with_reducible refine wpList_load_rowW (o := ⟨some 9, _, _, _, _, _⟩) ?_ 26 _ rfl g4 ?_ 26 SC.toArray (0, 0) _ ?_ Tryd.underlying26 ?_ ?_ ?_); (· rfl); (· rfl); (· exact k4.out); (· rfl); (· rw [S_s]; rfl); go_frame))
  refine (VA.out _).mono ?_
  rintro e w1 ⟨rfl, x1⟩
  replace x1 := Lib.hid x1
  clear k4 VA
  rcases h1 : s.valid with _ | _
  · have z1 := R0.out (by rw [h1]; rfl)
    have F := Lib.hid (P0.out w1 x1.out).2.2
    replace z1 := Lib.hid z1
    clear R0 R1 R2 R3 P0 TI
    go_wp2_with fail
    go_ret
    exact ⟨by rw [z1.out]; rfl, F.out⟩
  go_wp2_with fail
  refine (TI.out _ _).mono ?_
  rintro e w2 ⟨rfl, x2⟩
  replace x2 := Lib.hid (x1.out.trans x2)
  clear x1 TI
  rcases h2 : upB now 1000000 with _ | _
  · have z1 := R0.out (by rw [h1, h2]; rfl)
    have F := Lib.hid (P0.out w2 x2.out).2.2
    replace z1 := Lib.hid z1
    clear R0 R1 R2 R3 P0
    go_wp2_with fail
    go_ret
    exact ⟨by rw [z1.out]; rfl, F.out⟩
  have hv : (s.valid && upB now 1000000) = true := by rw [h1, h2]; rfl
  replace R1 := Lib.hid (R1.out hv)
  replace R2 := Lib.hid (R2.out hv)
  replace R3 := Lib.hid (R3.out hv)
  obtain ⟨ep, fn, tn, tm, hs, hep, hf7, ht7, htm⟩ := Sm.nat h1
  obtain ⟨now, rfl, hn6⟩ : ∃ k : Nat, now = (k : Int) ∧ k ≤ 1000000 := by
    unfold upB at h2
    simp only [Bool.and_eq_true, decide_eq_true_eq] at h2
    exact ⟨now.toNat, by omega, by omega⟩
  obtain ⟨lc, lg⟩ := ok
  clear R0 hv h1 h2
  generalize s.cm = cm at *
  generalize s.tg = tgv at *
  subst hs
  have TO : Hid (∀ W : World, Calls Tryd.prog 98 #[.agg (cellsOf root).toArray, .agg SC.toArray] W fun e w' => e = .returned (.agg (cellsOf (tagL16 root ep fn tn tm cm)).toArray) ∧ Ext W w') := by
    refine Lib.hid fun W => ?_
    rw [hSC.out]
    exact rtag16_calls lr lc hep hf7 ht7 htm
  have SP1 : Hid (SC = ([.int .i64 (ep : Int), .int .i64 (fn : Int), .int .i64 (tn : Int), .int .i64 (tm : Int)] ++ cellsOf cm) ++ (cellsOf tgv ++ []) ∧ ([Value.int .i64 (ep : Int), .int .i64 (fn : Int), .int .i64 (tn : Int), .int .i64 (tm : Int)] ++ cellsOf cm).length = 36) := by
    rw [hSC.out]; exact Lib.hid (SP.out ()).2
  clear SP
  simp only [Int.toNat_natCast] at R1 R2 R3
  obtain ⟨dv, hdv⟩ : ∃ dv, dv = tm / ticks := ⟨_, rfl⟩
  rw [← hdv] at R1 R2 R3
  have dv6 : dv ≤ 1000000 := by rw [hdv]; exact Nat.le_trans (Nat.div_le_self _ _) htm
  have dq : Int.tdiv (tm : Int) (ticks : Int) = (dv : Int) := by rw [Int.tdiv_eq_ediv_of_nonneg (by omega), hdv]; rfl
  have dq2 : (tm : Int) / (ticks : Int) = (dv : Int) := by rw [hdv]; rfl
  have dwr : IntKind.i64.wrap (dv : Int) = (dv : Int) := IntWalk.i64_in _ (by omega)
  have tne : ¬ (ticks : Int) = 0 := by omega
  have tne3 : ¬ ticks = 0 := by omega
  have tne2 : ((ticks : Int) == 0) = false := beq_eq_false_iff_ne.2 (by omega)
  clear hdv L_s hSC
  obtain ⟨TG, hTG⟩ : ∃ x, x = tagL16 root ep fn tn tm cm := ⟨_, rfl⟩
  have L_T : TG.length = 32 := by rw [hTG]; exact tagL16_len _ _ _ _ _ _
  rw [← hTG] at TO R2 R3
  clear hTG
  have C_tg : (cellsOf tgv).length = 32 := by simp [cellsOf_len, lg]
  have F3 : Hid (∀ u, Ext w2 u → u.cell? ⟨g4, 0, none⟩ = some (.int .i64 (ep : Int)) ∧ u.cell? ⟨g4, 3, none⟩ = some (.int .i64 (tm : Int))) := fun u x => by
    obtain ⟨_, k, xw⟩ := P0.out u (x2.out.trans x)
    exact ⟨k.cell s0.out, k.cell s3.out⟩
  have P2 : Hid (∀ u, Ext w2 u → Cb u r 24 (cellsOf root) ∧ Cb u g4 26 SC ∧ Ext w u) := fun u x => P0.out u (x2.out.trans x)
  clear P0 x2
  go_upto_region 3 with fail
  go_cut [31] from 17 to 31 (fun s31 wx => s31 = .bool (decide (ep ≠ dv ∨ tgv ≠ TG)) ∧ Ext w2 wx)
  case first =>
    by_cases q : ep = dv
    · have u1 : ((ep : Int) != (dv : Int)) = false := by rw [q]; simp
      obtain ⟨bb, hbb⟩ : ∃ x, x = decide (tgv = TG) := ⟨_, rfl⟩
      have hfin : Hid (Value.bool (!bb) = .bool (decide (ep ≠ dv ∨ tgv ≠ TG))) := Lib.hid (by rw [hbb]; simp [q])
      replace hbb := Lib.hid hbb.symm
      clear q
      refine qgE [0, 1, 2, 3, 4, 5, 6, 7, 8, 9, 10, 11, 12, 13, 14] [12] ?_
      have X2 : Hid (Ext w2 w2.drew) := (Ext.refl _).drew
      repeat ((first | refine qR _ (fun w' e => F3.out w' (Ext.trans (Ext.refl _).drew e)) ?_ | refine qS ?_); go_frame)
      refine qV rfl (fun w' => ∀ q_ v, (cellsOf tgv)[q_]? = some v → w'.cell? ⟨g4, 36 + q_, none⟩ = some v) (fun w' e => (P2.out w' (Ext.trans (Ext.refl _).drew e)).2.1.mid SP1.out.1 SP1.out.2) (.agg (cellsOf tgv).toArray) (fun w' hF => exec_load_mid rfl rfl hF rfl rfl (by rw [C_tg]; rfl)) ?_
      go_frame
      refine qV rfl (fun w' => w'.heap[r]? = some (.cells (cellsOf root).toArray 24 (0, 0))) (fun w' e => (P2.out w' (Ext.trans (Ext.refl _).drew e)).1) (.agg (cellsOf root).toArray) (fun w' hF => exec_load_row rfl rfl hF rfl rfl (by rw [S_r]; rfl)) ?_
      go_frame
      refine qV rfl (fun w' => w'.heap[g4]? = some (.cells SC.toArray 26 (0, 0))) (fun w' e => (P2.out w' (Ext.trans (Ext.refl _).drew e)).2.1) (.agg SC.toArray) (fun w' hF => exec_load_row rfl rfl hF rfl rfl (by rw [S_s]; rfl)) ?_
      go_frame
      generalize w2.drew = V at *
      refine qD fun K hK => ?_
      go_simp
      refine (TO.out V).mono ?_
      rintro e w5 ⟨rfl, x5⟩
      refine hK.out _ _ x5 ?_
      clear hK K
      try go_frame
      refine qV rfl (fun _ => True) (fun _ _ => trivial) (.bool (!bb)) (fun w' _ => exec_neq_keyB (xs := tgv) (ys := TG) (congrArg Bool.not hbb.out) lg L_T rfl rfl rfl) ?_
      go_frame
      repeat ((first | refine qR0 ?_ | refine qS ?_); go_frame)
      refine seq_done ?_
      go_wp2_with fail
      go_meet
      exact ⟨hfin.out, X2.out.trans x5⟩
    · have u1 : ((ep : Int) != (dv : Int)) = true := by simp; omega
      have hfin : Hid (Value.bool true = .bool (decide (ep ≠ dv ∨ tgv ≠ TG))) := Lib.hid (by simp [q])
      clear q
      refine qgE [0, 1, 2, 3, 4, 5, 6, 7, 8, 9, 10, 11, 12, 13, 14] [12] ?_
      repeat ((first | refine qR _ (fun w' e => F3.out w' (Ext.trans (Ext.refl _).drew e)) ?_ | refine qS ?_); go_frame)
      refine seq_do_skip Ext.refl _ rfl rfl (by rfl) ?_
      go_frame
      repeat ((first | refine qR0 ?_ | refine qS ?_); go_frame)
      refine seq_done ?_
      go_wp2_with fail
      go_meet
      exact ⟨hfin.out, (Ext.refl _).drew⟩
  case rest =>
  obtain ⟨rfl, x3⟩ := hcut
  have F := Lib.hid (P2.out _ x3).2.2
  have b3 : wc.cell? ⟨g4, 3, none⟩ = some (.int .i64 (tm : Int)) := (P2.out _ x3).2.1.cell s3.out
  clear F3 P2 TO x3 dq dq2 dwr tne tne2 tne3 s0 s3 SP1
  by_cases q0 : ep = dv
  case neg =>
    have u1 : decide (ep ≠ dv ∨ tgv ≠ TG) = true := decide_eq_true (.inl q0)
    have z1 := R1.out q0
    rw [u1]
    replace z1 := Lib.hid z1
    clear R1 R2 R3 q0 u1
    go_wp2_with fail
    go_ret
    exact ⟨by rw [z1.out]; rfl, F.out⟩
  replace R2 := Lib.hid (R2.out q0)
  replace R3 := Lib.hid (R3.out q0)
  by_cases q1 : TG = tgv
  case neg =>
    have u1 : decide (ep ≠ dv ∨ tgv ≠ TG) = true := decide_eq_true (.inr fun z => q1 z.symm)
    have z1 := R2.out q1
    rw [u1]
    replace z1 := Lib.hid z1
    clear R1 R2 R3 q0 q1 u1
    go_wp2_with fail
    go_ret
    exact ⟨by rw [z1.out]; rfl, F.out⟩
  have u0 : decide (ep ≠ dv ∨ tgv ≠ TG) = false := decide_eq_false (fun z => z.elim (fun z => z q0) (fun z => z q1.symm))
  rw [u0]
  replace R3 := Lib.hid (R3.out q1)
  clear R1 R2 q0 q1 u0
  have uw : IntKind.i64.wrap ((tm : Int) + 50) = (tm : Int) + 50 := IntWalk.i64_in _ (by omega)
  by_cases q2 : (now : Int) < (tm : Int)
  · have z1 := R3.out
    rw [if_pos (.inl q2)] at z1
    have u1 : decide ((now : Int) < (tm : Int)) = true := decide_eq_true q2
    replace z1 := Lib.hid z1
    clear R3
    go_wp2_with fail
    go_ret
    exact ⟨by rw [z1.out]; rfl, F.out⟩
  have u1 : decide ((now : Int) < (tm : Int)) = false := decide_eq_false q2
  by_cases q3 : (tm : Int) + 50 < (now : Int)
  · have z1 := R3.out
    rw [if_pos (.inr q3)] at z1
    have u2 : decide ((tm : Int) + 50 < (now : Int)) = true := decide_eq_true q3
    replace z1 := Lib.hid z1
    clear R3
    go_wp2_with fail
    go_ret
    exact ⟨by rw [z1.out]; rfl, F.out⟩
  · have z1 := R3.out
    rw [if_neg (fun z => z.elim q2 q3)] at z1
    have u2 : decide ((tm : Int) + 50 < (now : Int)) = false := decide_eq_false q3
    replace z1 := Lib.hid z1
    clear R3
    go_wp2_with fail
    go_ret
    exact ⟨by rw [z1.out]; rfl, F.out⟩
end Go.Proofs.YtmnohmhhmaeljaaDoor
