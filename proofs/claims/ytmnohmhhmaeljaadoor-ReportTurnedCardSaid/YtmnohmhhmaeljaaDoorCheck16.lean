import Derived.Test.YtmnohmhhmaeljaaDoorStamp16
import Derived.Test.YtmnohmhhmaeljaaDoorPkJ
import Derived.Deep.DeepCutAuto
/-
  (*stamp.Relay).Check.
-/
namespace Go.Proofs.YtmnohmhhmaeljaaDoor
open Go.ChangeShapes Go.WideShapes Go.ChangeAt Go.RowKit Go.Deep Go.Maps
set_option maxRecDepth 100000

theorem chk_facts {root : List UInt8} {ticks : Nat} {s : Sm} {now : Int} : ((s.valid && upB now 1000000) = false → chkE root ticks s now = 1) ∧ ((s.valid && upB now 1000000) = true → s.ep.toNat ≠ s.tm.toNat / ticks → chkE root ticks s now = 4) ∧
    ((s.valid && upB now 1000000) = true → s.ep.toNat = s.tm.toNat / ticks → tagL16 root s.ep.toNat s.f.toNat s.t.toNat s.tm.toNat s.cm ≠ s.tg → chkE root ticks s now = 4) ∧
    ((s.valid && upB now 1000000) = true → s.ep.toNat = s.tm.toNat / ticks → tagL16 root s.ep.toNat s.f.toNat s.t.toNat s.tm.toNat s.cm = s.tg → chkE root ticks s now = if now < s.tm ∨ s.tm + 50 < now then 5 else 0) := by
  unfold chkE
  refine ⟨fun h => by rw [h]; rfl, fun h h1 => ?_, fun h h1 h2 => ?_, fun h h1 h2 => ?_⟩
  · rw [h, if_pos rfl, if_neg (fun q => h1 q.1)]
  · rw [h, if_pos rfl, if_neg (fun q => h2 q.2)]
  · rw [h, if_pos rfl, if_pos ⟨h1, h2⟩]
set_option maxHeartbeats 8000000 in
theorem check16_calls {w : World} {g mb q ticks : Nat} {root : List UInt8} {EE : List (Value × Value)} (h : SR w g mb q root ticks EE) (hE : EE.length ≤ 1000000) (t1 : 1 ≤ ticks) (t2 : ticks ≤ 1000000) {s : Sm} (ok : s.ok) {now : Int} {tg : TypeId × Nat × Nat} (hG : Gl w tg) :
    Calls Tryd.prog 40 #[.pointer (some ⟨g, 0, none⟩), .agg s.C.toArray, .int .i64 now] w fun e w' => e = .returned (.int .i64 (chkE root ticks s now)) ∧ Told w g mb q root ticks EE.length w' := by
  have TI : Hid (∀ (W : World) (z : Int), Calls Tryd.prog 85 #[.int .i64 z] W fun e w' => e = .returned (.bool (upB z 1000000)) ∧ Ext W w') := fun W z => isTime_calls
  have VA : Hid (∀ (W : World), Calls Tryd.prog 84 #[.agg s.C.toArray] W fun e w' => e = .returned (.bool s.valid) ∧ Ext W w') := fun W => valid16_calls
  obtain ⟨R0, R1, R2, R3⟩ := chk_facts (root := root) (ticks := ticks) (s := s) (now := now)
  replace R0 := Lib.hid R0
  replace R1 := Lib.hid R1
  replace R2 := Lib.hid R2
  replace R3 := Lib.hid R3
  have SE : Hid (∀ s, Ext w s → SR s g mb q root ticks EE) := fun s x => h.ext x
  have GE : Hid (∀ s, w.grownBy s (some mb) → Gl s tg) := fun s x => hG.grown h.mp x
  have bl := h.mp.lt
  have gl := h.cb.lt
  have ql := heap_lt h.kr.1
  have L_s := Sm.C_len ok
  have s0 : Hid (s.C[0]? = some (.int .i64 s.ep)) := rfl
  have s3 : Hid (s.C[3]? = some (.int .i64 s.tm)) := rfl
  have SP := Lib.hid (fun _ : Unit => st_parts (ep := s.ep) (f := s.f) (t := s.t) (tm := s.tm) (tg := s.tg) ok.1)
  have S_s : s.C.toArray.size = 68 := by rw [List.size_toArray, L_s]
  clear h hG
  obtain ⟨g4, hg4⟩ : ∃ x, x = w.heap.size := ⟨_, rfl⟩
  have B0 : Hid (Cb (w.alloc (.cells s.C.toArray 26)) g4 26 s.C ∧ Ext w (w.alloc (.cells s.C.toArray 26))) := by rw [hg4]; exact ⟨Cb.new _ _ _, (Ext.refl w).alloc _⟩
  replace hg4 := Lib.hid hg4
  obtain ⟨SC, hSC⟩ : ∃ SC, SC = s.C := ⟨_, rfl⟩
  rw [← hSC] at VA L_s s0 s3 S_s B0 ⊢
  replace hSC := Lib.hid hSC
  obtain ⟨RES, hRES⟩ : ∃ r, r = chkE root ticks s now := ⟨_, rfl⟩
  rw [← hRES] at R0 R1 R2 R3 ⊢
  clear hRES
  go_enter Tryd.func40, Tryd.ntmps40
  go_upto_region 1 with fail
  refine wp_gen (fun W => Cb W g4 26 SC ∧ Ext w W) B0.out ?_
  rw [← hg4.out]
  have wg4 : w.heap.size ≤ g4 := Nat.le_of_eq hg4.out.symm
  clear B0 hg4
  rintro w0 ⟨k4, x0⟩
  have P0 : Hid (∀ u, Ext w0 u → Cb u g4 26 SC ∧ Ext w u) := fun u x => ⟨k4.ext x, x0.trans x⟩
  replace k4 := Lib.hid k4
  clear x0
  go_wp2_with (first | ((with_reducible refine wpList_load_rowW (o := ⟨some 9, _, _, _, _, _⟩) ?_ 26 _ rfl g4 ?_ 26 SC.toArray (0, 0) _ ?_ Tryd.underlying26 ?_ ?_ ?_); (· rfl); (· rfl); (· exact k4.out); (· rfl); (· rw [S_s]; rfl); go_frame))
  refine (VA.out _).mono ?_
  rintro e w1 ⟨rfl, x1⟩
  replace x1 := Lib.hid x1
  clear k4 VA
  rcases h1 : s.valid with _ | _
  · have z1 := R0.out (by rw [h1]; rfl)
    have F : Hid (Told w g mb q root ticks EE.length w1) := by
      have x := (P0.out w1 x1.out).2
      exact Told.of_ext (SE.out _ x) (Nat.le_refl _) x
    replace z1 := Lib.hid z1
    clear R0 R1 R2 R3 SE GE P0 TI
    go_wp2_with fail
    go_ret
    exact ⟨by rw [z1.out]; rfl, F.out⟩
  go_wp2_with fail
  refine (TI.out _ _).mono ?_
  rintro e w2 ⟨rfl, x2⟩
  replace x2 := Lib.hid (x1.out.trans x2)
  clear x1 TI
  rcases h2 : upB now 1000000 with _ | _
  · have z1 := R0.out (by rw [h1, h2]; rfl)
    have F : Hid (Told w g mb q root ticks EE.length w2) := by
      have x := (P0.out w2 x2.out).2
      exact Told.of_ext (SE.out _ x) (Nat.le_refl _) x
    replace z1 := Lib.hid z1
    clear R0 R1 R2 R3 SE GE P0
    go_wp2_with fail
    go_ret
    exact ⟨by rw [z1.out]; rfl, F.out⟩
  have hv : (s.valid && upB now 1000000) = true := by rw [h1, h2]; rfl
  replace R1 := Lib.hid (R1.out hv)
  replace R2 := Lib.hid (R2.out hv)
  replace R3 := Lib.hid (R3.out hv)
  obtain ⟨ep, fn, tn, tm, hs, hep, hf7, ht7, htm⟩ := Sm.nat h1
  obtain ⟨now, rfl, hn6⟩ : ∃ k : Nat, now = (k : Int) ∧ k ≤ 1000000 := by
    unfold upB at h2
    simp only [Bool.and_eq_true, decide_eq_true_eq] at h2
    exact ⟨now.toNat, by omega, by omega⟩
  obtain ⟨lc, lg⟩ := ok
  clear R0 hv h1 h2
  generalize s.cm = cm at *
  generalize s.tg = tgv at *
  subst hs
  have TO : Hid (∀ W : World, Calls Tryd.prog 88 #[.agg SC.toArray] W (RetOwn (toldL fn tn tm cm) W)) := by
    refine Lib.hid fun W => ?_
    rw [hSC.out]
    exact told_calls lc hf7 ht7 htm
  have SP1 : Hid (SC = ([.int .i64 (ep : Int), .int .i64 (fn : Int), .int .i64 (tn : Int), .int .i64 (tm : Int)] ++ cellsOf cm) ++ (cellsOf tgv ++ []) ∧ ([Value.int .i64 (ep : Int), .int .i64 (fn : Int), .int .i64 (tn : Int), .int .i64 (tm : Int)] ++ cellsOf cm).length = 36) := by
    rw [hSC.out]; exact Lib.hid (SP.out ()).2
  clear SP
  simp only [Int.toNat_natCast] at R1 R2 R3
  obtain ⟨dv, hdv⟩ : ∃ dv, dv = tm / ticks := ⟨_, rfl⟩
  rw [← hdv] at R1 R2 R3
  have dv6 : dv ≤ 1000000 := by rw [hdv]; exact Nat.le_trans (Nat.div_le_self _ _) htm
  have dq : Int.tdiv (tm : Int) (ticks : Int) = (dv : Int) := by rw [Int.tdiv_eq_ediv_of_nonneg (by omega), hdv]; rfl
  have dq2 : (tm : Int) / (ticks : Int) = (dv : Int) := by rw [hdv]; rfl
  have dwr : IntKind.i64.wrap (dv : Int) = (dv : Int) := IntWalk.i64_in _ (by omega)
  have tne : ¬ (ticks : Int) = 0 := by omega
  have tne3 : ¬ ticks = 0 := by omega
  have tne2 : ((ticks : Int) == 0) = false := beq_eq_false_iff_ne.2 (by omega)
  clear hdv L_s hSC
  have F3 : Hid (∀ u, Ext w2 u → u.cell? ⟨g4, 0, none⟩ = some (.int .i64 (ep : Int)) ∧ u.cell? ⟨g4, 3, none⟩ = some (.int .i64 (tm : Int)) ∧ u.cell? ⟨g, 0, none⟩ = some (.int .i64 (ticks : Int))) := fun u x => by
    obtain ⟨k, xw⟩ := P0.out u (x2.out.trans x)
    exact ⟨k.cell s0.out, k.cell s3.out, (SE.out u xw).cb.cell rfl⟩
  go_upto_region 3 with fail
  go_cut [26] from 17 to 26 (fun s26 wx => s26 = .bool (decide (ep ≠ dv)) ∧ wx = w2.drew)
  case first =>
    by_cases q : ep = dv
    · have u1 : ((ep : Int) != (dv : Int)) = false := by rw [q]; simp
      refine qgE [0, 1, 2, 3, 4, 5, 6, 7, 8, 9] [] ?_
      repeat ((first | refine qR _ (fun w' e => F3.out w' (Ext.trans (Ext.refl _).drew e)) ?_ | refine qS ?_); go_frame)
      refine seq_done ?_
      go_wp2_with fail
      go_meet
      exact ⟨by simp [q], rfl⟩
    · have u1 : ((ep : Int) != (dv : Int)) = true := by simp; omega
      refine qgE [0, 1, 2, 3, 4, 5, 6, 7, 8, 9] [] ?_
      repeat ((first | refine qR _ (fun w' e => F3.out w' (Ext.trans (Ext.refl _).drew e)) ?_ | refine qS ?_); go_frame)
      refine seq_done ?_
      go_wp2_with fail
      go_meet
      exact ⟨by simp [q], rfl⟩
  case rest =>
  obtain ⟨rfl, rfl⟩ := hcut
  have x3 : Hid (Ext w0 w2.drew) := x2.out.drew
  clear F3 x2
  by_cases q0 : ep = dv
  case neg =>
    have u1 : decide (ep ≠ dv) = true := decide_eq_true q0
    have z1 := R1.out q0
    have F : Hid (Told w g mb q root ticks EE.length w2.drew) := by
      have x := (P0.out _ x3.out).2
      exact Told.of_ext (SE.out _ x) (Nat.le_refl _) x
    rw [u1]
    replace z1 := Lib.hid z1
    clear R1 R2 R3 SE GE P0 q0 u1
    go_wp2_with fail
    go_ret
    exact ⟨by rw [z1.out]; rfl, F.out⟩
  have u1 : decide (ep ≠ dv) = false := by simp [q0]
  rw [u1]
  replace R2 := Lib.hid (R2.out q0)
  replace R3 := Lib.hid (R3.out q0)
  clear R1 u1 dq dq2 dwr tne tne2 tne3 q0
  have b0 : w2.drew.cell? ⟨g4, 0, none⟩ = some (.int .i64 (ep : Int)) := (P0.out _ x3.out).1.cell s0.out
  have xw3 : Hid (Ext w w2.drew) := Lib.hid (P0.out _ x3.out).2
  have k3 : Hid (Cb w2.drew g4 26 SC) := Lib.hid (P0.out _ x3.out).1
  have K4 := Lib.hid (key16_calls (SE.out _ xw3.out) hep hE (GE.out _ (grown_ofE16 xw3.out)))
  have n4 : g4 ≠ mb := by omega
  have L_k : (ekL root ep).length = 32 := macL_len _ _
  have TG : Hid (tagL16 root ep fn tn tm cm = macL (ekL root ep) (toldL fn tn tm cm)) := rfl
  clear SE s0 P0 x3
  generalize w2.drew = w3 at *
  clear w2
  obtain ⟨ek, hek⟩ : ∃ ek, ek = ekL root ep := ⟨_, rfl⟩
  rw [← hek] at L_k K4 TG
  clear hek
  go_wp2_with fail
  refine K4.out.mono ?_
  rintro e w5 ⟨rfl, ⟨E5, s5, e5⟩, g5⟩
  have gr5 : Hid (w.grownBy w5 (some mb)) := grown_trans' (grown_ofE16 xw3.out) g5
  have k5 : Cb w5 g4 26 SC := (g5.block _ k3.out.lt (fun z => n4 (Option.some.inj z))).trans k3.out
  have S_k : (cellsOf ek).toArray.size = 32 := by simp [cellsOf_len, L_k]
  have O_k := cellsOf_one ek
  have S_Zk := zeros32_size
  clear K4 k3 xw3 g5 b0
  replace s5 := Lib.hid s5
  replace k5 := Lib.hid k5
  have K9 : Hid (Ky ((w5.alloc (.cells zeros32 24)).setRow w5.heap.size (cellsOf ek).toArray) w5.heap.size ek ∧ Ext w5 ((w5.alloc (.cells zeros32 24)).setRow w5.heap.size (cellsOf ek).toArray)) := ⟨Ky.new _ L_k, Ext.newRow _ _ _⟩
  go_upto_region 6 with (refine wpList_store_row rfl 24 _ _ rfl w5.heap.size (cellsOf ek).toArray rfl rfl 24 zeros32 (heap_alloc_new _ _) (by rw [S_k]; rfl) (by rw [S_k, S_Zk]) O_k ?_; simp only [Act.put])
  refine wp_gen (fun W => Ky W w5.heap.size ek ∧ Ext w5 W) K9.out ?_
  have n94 : g4 < w5.heap.size := k5.out.lt
  have w59 : w.heap.size ≤ w5.heap.size := gr5.out.size
  generalize w5.heap.size = g9 at *
  clear K9 S_Zk S_k O_k
  rintro w6 ⟨k9, x6⟩
  have P6 : Hid (∀ s, Ext w6.drew s → Cb s g4 26 SC ∧ Ky s g9 ek ∧ (∃ E', SR s g mb q root ticks E' ∧ E'.length ≤ EE.length + 1) ∧ Gl s tg ∧ w.grownBy s (some mb)) := fun s x => by
    have x' := x6.drew.trans x
    have gr6 : w.grownBy s (some mb) := grown_trans' gr5.out (grown_ofE16 x')
    exact ⟨k5.out.ext x', k9.ext ((Ext.refl w6).drew.trans x), ⟨E5, s5.out.ext x', e5⟩, GE.out s gr6, gr6⟩
  clear k9 x6 k5 s5 gr5 GE e5
  go_upto_region 6 with fail
  have C_tg : (cellsOf tgv).length = 32 := by simp [cellsOf_len, lg]
  refine qgE [0, 1, 3, 4, 2, 5, 6] [2, 5] ?_
  have X6 : Hid (Ext w6.drew w6.drew) := Lib.hid (Ext.refl _)
  generalize w6.drew = V at *
  clear w6
  repeat ((first | refine qR0 ?_ | refine qS ?_); go_frame)
  refine qV rfl (fun w' => w'.heap[g4]? = some (.cells SC.toArray 26 (0, 0))) (fun w' e => (P6.out w' e).1) (.agg SC.toArray) (fun w' hF => exec_load_row rfl rfl hF rfl rfl (by rw [S_s]; rfl)) ?_
  go_frame
  repeat ((first | refine qR0 ?_ | refine qS ?_); go_frame)
  refine qV rfl (fun w' => ∀ q_ v, (cellsOf tgv)[q_]? = some v → w'.cell? ⟨g4, 36 + q_, none⟩ = some v) (fun w' e => (P6.out w' e).1.mid SP1.out.1 SP1.out.2) (.agg (cellsOf tgv).toArray) (fun w' hF => exec_load_mid rfl rfl hF rfl rfl (by rw [C_tg]; rfl)) ?_
  go_frame
  repeat ((first | refine qR0 ?_ | refine qS ?_); go_frame)
  refine qD fun K hK => ?_
  go_simp
  refine (TO.out V).mono ?_
  rintro e w7 ⟨A7, n7, m7, rfl, o7, x7⟩
  refine hK.out _ _ x7 ?_
  clear hK K
  try go_frame
  have M7 := Lib.hid (check_calls (P6.out w7 x7).2.1.bs o7.bs lg (by omega) (P6.out w7 x7).2.2.2.1)
  clear TO o7
  repeat ((first | refine qR0 ?_ | refine qS ?_); go_frame)
  refine qD fun K hK => ?_
  go_simp
  refine M7.out.mono ?_
  rintro e w8 ⟨rfl, x8⟩
  refine hK.out _ _ x8 ?_
  clear hK K
  try go_frame
  have P8 := Lib.hid (P6.out w8 (x7.trans x8))
  clear M7 P6 x7 x8 X6
  rw [← TG.out]
  have F : Hid (Told w g mb q root ticks EE.length w8) := ⟨P8.out.2.2.1, P8.out.2.2.2.2⟩
  have b3 : w8.cell? ⟨g4, 3, none⟩ = some (.int .i64 (tm : Int)) := P8.out.1.cell s3.out
  clear P8 TG s3 SP1
  by_cases q1 : tagL16 root ep fn tn tm cm = tgv
  case neg =>
    have z1 := R2.out q1
    rw [checkE_neg q1]
    replace z1 := Lib.hid z1
    clear R2 R3 q1
    repeat ((first | refine qR0 ?_ | refine qS ?_); go_frame)
    refine seq_done ?_
    go_wp2_with fail
    go_ret
    exact ⟨by rw [z1.out]; rfl, F.out⟩
  rw [checkE_pos q1]
  replace R3 := Lib.hid (R3.out q1)
  clear R2 q1
  repeat ((first | refine qR0 ?_ | refine qS ?_); go_frame)
  refine seq_done ?_
  have uw : IntKind.i64.wrap ((tm : Int) + 50) = (tm : Int) + 50 := IntWalk.i64_in _ (by omega)
  by_cases q2 : (now : Int) < (tm : Int)
  · have z1 := R3.out
    rw [if_pos (.inl q2)] at z1
    have u1 : decide ((now : Int) < (tm : Int)) = true := decide_eq_true q2
    replace z1 := Lib.hid z1
    clear R3
    go_wp2_with fail
    go_ret
    exact ⟨by rw [z1.out]; rfl, F.out⟩
  have u1 : decide ((now : Int) < (tm : Int)) = false := decide_eq_false q2
  by_cases q3 : (tm : Int) + 50 < (now : Int)
  · have z1 := R3.out
    rw [if_pos (.inr q3)] at z1
    have u2 : decide ((tm : Int) + 50 < (now : Int)) = true := decide_eq_true q3
    replace z1 := Lib.hid z1
    clear R3
    go_wp2_with fail
    go_ret
    exact ⟨by rw [z1.out]; rfl, F.out⟩
  · have z1 := R3.out
    rw [if_neg (fun z => z.elim q2 q3)] at z1
    have u2 : decide ((tm : Int) + 50 < (now : Int)) = false := decide_eq_false q3
    replace z1 := Lib.hid z1
    clear R3
    go_wp2_with fail
    go_ret
    exact ⟨by rw [z1.out]; rfl, F.out⟩
end Go.Proofs.YtmnohmhhmaeljaaDoor
