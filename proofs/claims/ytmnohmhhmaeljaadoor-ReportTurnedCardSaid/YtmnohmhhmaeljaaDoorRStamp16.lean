/-
  The document's stamp (first written from XStamp16 by a script).
-/
import Derived.Test.YtmnohmhhmaeljaaDoorRTag16
import Derived.Test.YtmnohmhhmaeljaaDoorStamp16
namespace Go.Proofs.YtmnohmhhmaeljaaDoor
open Go.ChangeShapes Go.WideShapes Go.ChangeAt Go.RowKit Go.Deep Go.Maps
set_option maxRecDepth 100000

set_option maxHeartbeats 8000000 in
theorem rstamp16_calls {w : World} {ticks : Nat} {root : List UInt8} (lr : root.length = 32) (t1 : 1 ≤ ticks) (t2 : ticks ≤ 1000000) {f t pp nn now : Int} {cm pk : List UInt8} {A : Option Addr} {m c : Nat} (lc : cm.length = 32) (lk : pk.length = 32) :
    Calls Tryd.prog 65 #[.agg (cellsOf root).toArray, .int .i64 (ticks : Int), .agg (evC f t cm pk pp nn A m c).toArray, .int .i64 now] w fun e w' => e = .returned (.tuple #[.agg (mkS root ticks f t cm now).C.toArray, .int .i64 (mkE f t now)]) ∧ Ext w w' := by
  have TI : Hid (∀ (W : World) (z : Int), Calls Tryd.prog 92 #[.int .i64 z] W fun e w' => e = .returned (.bool (upB z 1000000)) ∧ Ext W w') := fun W z => rTime_calls
  have AC : Hid (∀ (W : World) (z : Int), Calls Tryd.prog 100 #[.int .i64 z] W fun e w' => e = .returned (.bool (upB z 7)) ∧ Ext W w') := fun W z => raccount_calls
  obtain ⟨M0, M1⟩ := mk_facts (root := root) (ticks := ticks) (f := f) (t := t) (cm := cm) (now := now)
  replace M0 := Lib.hid M0
  replace M1 := Lib.hid M1
  have MK : Hid (mkOk f t now = ((upB now 1000000 && upB f 7) && upB t 7)) := rfl
  have hal := stamp_alloc16
  have halK := key_alloc16
  have BZ := Lib.hid stamp_built0
  have L_Z := Sm.C_len zSm_ok
  have O_Z := one_cells zSm.one
  have L_ev := evC_len lc lk f t pp nn A m c
  have e0 : Hid ((evC f t cm pk pp nn A m c)[0]? = some (.int .i64 f)) := rfl
  have e1 : Hid ((evC f t cm pk pp nn A m c)[1]? = some (.int .i64 t)) := rfl
  have ec := Lib.hid (fun _ : Unit => (ev_cells lc lk f t pp nn A m c).2.2.2.2)
  generalize evC f t cm pk pp nn A m c = ev at *
  obtain ⟨ZS, hZS⟩ : ∃ ZS, ZS = zSm.C := ⟨_, rfl⟩
  rw [← hZS] at hal BZ L_Z O_Z
  have S_Z : ZS.toArray.size = 68 := by rw [List.size_toArray, L_Z]
  have ZR : Hid (mkS root ticks f t cm now = zSm → (mkS root ticks f t cm now).C.toArray = ZS.toArray) := fun z => by rw [z, hZS]
  clear hZS
  obtain ⟨r, hr⟩ : ∃ x, x = w.heap.size := ⟨_, rfl⟩
  obtain ⟨g4, hg4⟩ : ∃ x, x = r + 1 := ⟨_, rfl⟩
  have B0 : Hid (Ky (((w.alloc (.cells (cellsOf root).toArray 24)).alloc (.cells ev.toArray 55)).alloc (.cells ZS.toArray 26)) r root ∧ Cb (((w.alloc (.cells (cellsOf root).toArray 24)).alloc (.cells ev.toArray 55)).alloc (.cells ZS.toArray 26)) g4 55 ev ∧ Cb (((w.alloc (.cells (cellsOf root).toArray 24)).alloc (.cells ev.toArray 55)).alloc (.cells ZS.toArray 26)) (g4 + 1) 26 ZS ∧ Ext w (((w.alloc (.cells (cellsOf root).toArray 24)).alloc (.cells ev.toArray 55)).alloc (.cells ZS.toArray 26))) := by
    rw [hg4, hr]; exact ⟨⟨heap_alloc30 _ _ _ _, lr⟩, heap_alloc31 _ _ _ _, heap_alloc32 _ _ _ _, (((Ext.refl w).alloc _).alloc _).alloc _⟩
  replace hr := Lib.hid hr
  replace hg4 := Lib.hid hg4
  go_enter Tryd.func65, Tryd.ntmps65
  go_upto_region 1 with fail
  refine wp_gen (fun W => Ky W r root ∧ Cb W g4 55 ev ∧ Cb W (g4 + 1) 26 ZS ∧ Ext w W) B0.out ?_
  rw [← hr.out, ← hg4.out]
  have wg4 : w.heap.size ≤ g4 := by rw [hg4.out, hr.out]; omega
  have rg4 : r < g4 := by rw [hg4.out]; omega
  clear B0 hg4 hr
  rintro w0 ⟨k0, k4, k6, x0⟩
  have RK : Hid (∀ s, Ext w0 s → Ky s r root) := fun s x => k0.ext x
  have P0 : Hid (∀ s, Ext w0 s → Cb s g4 55 ev ∧ Cb s (g4 + 1) 26 ZS ∧ Ext w s) := fun s x => ⟨k4.ext x, k6.ext x, x0.trans x⟩
  have x00 := Lib.hid (Ext.refl w0)
  clear k0 k4 k6 x0
  go_wp2_with fail
  refine (TI.out _ _).mono ?_
  rintro e w1 ⟨rfl, x1⟩
  replace x1 := Lib.hid x1
  clear x00
  rcases h1 : upB now 1000000 with _ | _
  · skip
    have hb : mkOk f t now = false := by rw [MK.out, h1]; rfl
    obtain ⟨z1, z2⟩ := M0.out hb
    obtain ⟨_, k6, xw⟩ := P0.out w1 x1.out
    have F : Hid (Ext w (w1.setRow (g4 + 1) ZS.toArray)) := below_setRow xw (by omega) _
    have z3 := ZR.out z1
    clear M0 M1 MK RK P0 xw hb TI AC ZR
    go_wp2_with (first
      | (refine wpList_build_as rfl _ _ rfl ZS.toArray (by simp only [List.map_toArray, List.map_nil]; exact BZ.out) ?_; go_frame)
      | (refine wpList_store_row rfl 26 _ _ rfl (g4 + 1) ZS.toArray rfl rfl 26 ZS.toArray k6 (by rw [S_Z]; rfl) rfl O_Z ?_; simp only [Act.put]))
    (try simp only [Exit.inBlock, Exit.then])
    refine bodyPost_ret (results_row_tmp rfl _ _ (g4 + 1) 26 ZS.toArray (0, 0) _ _ rfl rfl (setRow_heap _ _ _ _ _ _ k6) rfl rfl (by rw [S_Z]; rfl)) rfl ?_
    exact ⟨by rw [z2, z3]; rfl, F.out⟩
  obtain ⟨k4, _, _⟩ := P0.out w1 x1.out
  have b0 := k4.cell e0.out
  clear k4
  go_wp2_with fail
  refine (AC.out _ _).mono ?_
  rintro e w2 ⟨rfl, x2⟩
  replace x2 := Lib.hid (x1.out.trans x2)
  clear x1 b0
  rcases h2 : upB f 7 with _ | _
  · skip
    have hb : mkOk f t now = false := by rw [MK.out, h1, h2]; rfl
    obtain ⟨z1, z2⟩ := M0.out hb
    obtain ⟨_, k6, xw⟩ := P0.out w2 x2.out
    have F : Hid (Ext w (w2.setRow (g4 + 1) ZS.toArray)) := below_setRow xw (by omega) _
    have z3 := ZR.out z1
    clear M0 M1 MK RK P0 xw hb TI AC ZR
    go_wp2_with (first
      | (refine wpList_build_as rfl _ _ rfl ZS.toArray (by simp only [List.map_toArray, List.map_nil]; exact BZ.out) ?_; go_frame)
      | (refine wpList_store_row rfl 26 _ _ rfl (g4 + 1) ZS.toArray rfl rfl 26 ZS.toArray k6 (by rw [S_Z]; rfl) rfl O_Z ?_; simp only [Act.put]))
    (try simp only [Exit.inBlock, Exit.then])
    refine bodyPost_ret (results_row_tmp rfl _ _ (g4 + 1) 26 ZS.toArray (0, 0) _ _ rfl rfl (setRow_heap _ _ _ _ _ _ k6) rfl rfl (by rw [S_Z]; rfl)) rfl ?_
    exact ⟨by rw [z2, z3]; rfl, F.out⟩
  obtain ⟨k4, _, _⟩ := P0.out w2 x2.out
  have b1 := k4.cell e1.out
  clear k4
  go_wp2_with fail
  refine (AC.out _ _).mono ?_
  rintro e w3 ⟨rfl, x3⟩
  replace x3 := Lib.hid (x2.out.trans x3)
  clear x2 b1
  rcases h3 : upB t 7 with _ | _
  · skip
    have hb : mkOk f t now = false := by rw [MK.out, h1, h2, h3]; rfl
    obtain ⟨z1, z2⟩ := M0.out hb
    obtain ⟨_, k6, xw⟩ := P0.out w3 x3.out
    have F : Hid (Ext w (w3.setRow (g4 + 1) ZS.toArray)) := below_setRow xw (by omega) _
    have z3 := ZR.out z1
    clear M0 M1 MK RK P0 xw hb TI AC ZR
    go_wp2_with (first
      | (refine wpList_build_as rfl _ _ rfl ZS.toArray (by simp only [List.map_toArray, List.map_nil]; exact BZ.out) ?_; go_frame)
      | (refine wpList_store_row rfl 26 _ _ rfl (g4 + 1) ZS.toArray rfl rfl 26 ZS.toArray k6 (by rw [S_Z]; rfl) rfl O_Z ?_; simp only [Act.put]))
    (try simp only [Exit.inBlock, Exit.then])
    refine bodyPost_ret (results_row_tmp rfl _ _ (g4 + 1) 26 ZS.toArray (0, 0) _ _ rfl rfl (setRow_heap _ _ _ _ _ _ k6) rfl rfl (by rw [S_Z]; rfl)) rfl ?_
    exact ⟨by rw [z2, z3]; rfl, F.out⟩
  have hb : mkOk f t now = true := by rw [MK.out, h1, h2, h3]; rfl
  obtain ⟨z1, z2⟩ := M1.out hb
  obtain ⟨fn, rfl, hf7⟩ : ∃ k : Nat, f = (k : Int) ∧ k ≤ 7 := by
    unfold upB at h2
    simp only [Bool.and_eq_true, decide_eq_true_eq] at h2
    exact ⟨f.toNat, by omega, by omega⟩
  obtain ⟨tn, rfl, ht7⟩ : ∃ k : Nat, t = (k : Int) ∧ k ≤ 7 := by
    unfold upB at h3
    simp only [Bool.and_eq_true, decide_eq_true_eq] at h3
    exact ⟨t.toNat, by omega, by omega⟩
  obtain ⟨now, rfl, hn6⟩ : ∃ k : Nat, now = (k : Int) ∧ k ≤ 1000000 := by
    unfold upB at h1
    simp only [Bool.and_eq_true, decide_eq_true_eq] at h1
    exact ⟨now.toNat, by omega, by omega⟩
  clear M0 M1 MK TI AC ZR hb h1 h2 h3
  simp only [Int.toNat_natCast] at z1
  obtain ⟨ep, hep⟩ : ∃ ep, ep = now / ticks := ⟨_, rfl⟩
  rw [← hep] at z1
  have ep6 : ep ≤ 1000000 := by rw [hep]; exact Nat.le_trans (Nat.div_le_self _ _) hn6
  have dq : Int.tdiv (now : Int) (ticks : Int) = (ep : Int) := by rw [Int.tdiv_eq_ediv_of_nonneg (by omega), hep]; rfl
  have dq2 : (now : Int) / (ticks : Int) = (ep : Int) := by rw [hep]; rfl
  have dwr : IntKind.i64.wrap (ep : Int) = (ep : Int) := IntWalk.i64_in _ (by omega)
  have tne : ¬ (ticks : Int) = 0 := by omega
  have tne3 : ¬ ticks = 0 := by omega
  have tne2 : ((ticks : Int) == 0) = false := beq_eq_false_iff_ne.2 (by omega)
  clear hep
  obtain ⟨k4, k6, xw3⟩ := P0.out w3 x3.out
  have w3z := k6.lt
  have s3 := RK.out w3 x3.out
  have S3 : Hid (stC ep fn tn now cm (List.replicate 32 0) = stC ep fn tn now cm (List.replicate 32 0)) := rfl
  have BS := Lib.hid (stamp_built (ep := (ep : Int)) (f := (fn : Int)) (t := (tn : Int)) (tm := (now : Int)) lc)
  have lz : (List.replicate 32 (0 : UInt8)).length = 32 := rfl
  have L_s : (stC ep fn tn now cm (List.replicate 32 0)).length = 68 := stC_len lc lz _ _ _ _
  have O_s : (stC ep fn tn now cm (List.replicate 32 0)).toArray.all (·.oneCell') = true := one_cells one_st
  have C_cm : (cellsOf cm).length = 32 := by rw [cellsOf_len, lc]
  have SP := Lib.hid (fun _ : Unit => (st_parts (ep := (ep : Int)) (f := (fn : Int)) (t := (tn : Int)) (tm := (now : Int)) (tg := List.replicate 32 0) lc))
  have s0c : Hid ((stC ep fn tn now cm (List.replicate 32 0))[0]? = some (.int .i64 (ep : Int))) := rfl
  have TO := Lib.hid (fun (W : World) => rtag16_calls (w := W) (tg := List.replicate 32 0) lr lc ep6 hf7 ht7 hn6)
  clear S3
  obtain ⟨ST, hST⟩ : ∃ ST, ST = stC ep fn tn now cm (List.replicate 32 0) := ⟨_, rfl⟩
  rw [← hST] at BS L_s O_s SP s0c TO
  clear hST
  have S_s : ST.toArray.size = 68 := by rw [List.size_toArray, L_s]
  have F3 : Hid (∀ s, Below w3.heap.size w3.drew s → (s.cell? ⟨g4, 0, none⟩ = some (.int .i64 (fn : Int)) ∧ s.cell? ⟨g4, 1, none⟩ = some (.int .i64 (tn : Int))) ∧ (∀ j v, (cellsOf cm)[j]? = some v → s.cell? ⟨g4, 2 + j, none⟩ = some v) ∧ (Cb s (g4 + 1) 26 ZS ∧ Ky s r root) ∧ Ext w s) := fun s x => by
    have xs : Ext w3 s := Ext.trans' (Ext.refl w3).drew x
    have k4' := k4.ext xs
    refine ⟨⟨k4'.cell e0.out, k4'.cell e1.out⟩, k4'.mid (p := [.int .i64 (fn : Int), .int .i64 (tn : Int)]) (ec.out ()) rfl, ⟨k6.ext xs, s3.ext xs⟩, xw3.trans xs⟩
  clear k4 k6 s3 P0 x3 RK
  go_upto_region 3 with fail
  refine qgB w3.heap.size [0, 1, 2, 3, 4, 5, 6, 7, 8, 9, 10, 11, 12] [11, 12] ?_
  have zl : Hid (w3.heap.size ≤ w3.drew.heap.size) := Nat.le_refl _
  have wl : w.heap.size ≤ w3.heap.size := xw3.size
  have g6l : g4 + 1 < w3.heap.size := w3z
  have Z0 : Hid (Below w3.heap.size w3.drew w3.drew) := Below.refl _ _
  generalize w3.heap.size = z3 at *
  generalize w3.drew = V at *
  clear xw3 w3z
  repeat ((first | refine qR _ (fun w' e => (F3.out w' e).1) ?_ | refine qS ?_); go_frame)
  refine qV rfl (fun w' => ∀ q_ v, (cellsOf cm)[q_]? = some v → w'.cell? ⟨g4, 2 + q_, none⟩ = some v) (fun w' e => (F3.out w' e).2.1) (.agg (cellsOf cm).toArray) (fun w' hF => exec_load_mid rfl rfl hF rfl rfl (by rw [C_cm]; rfl)) ?_
  go_frame
  refine qV rfl (fun _ => True) (fun _ _ => trivial) (.agg ST.toArray) (fun w' _ => exec_build_as rfl (by simp only [List.map_toArray, List.map_cons, List.map_nil]; exact BS.out)) ?_
  go_frame
  refine qD fun K hK => ?_
  go_simp
  have k8 : Hid (Cb (V.alloc (.cells ZS.toArray 26)) V.heap.size 26 ZS) := Cb.new _ _ _
  have x8 : Below z3 V (V.alloc (.cells ZS.toArray 26)) := ((Ext.refl V).alloc _).mono zl.out
  obtain ⟨g8, hg8⟩ : ∃ x, x = V.heap.size := ⟨_, rfl⟩
  rw [← hg8] at k8 ⊢
  have z8 : z3 ≤ g8 := by rw [hg8]; exact zl.out
  refine hK.out _ _ x8 ?_
  clear hK K
  try go_frame
  have F8 : Hid (∀ s, Below z3 (V.alloc (.cells ZS.toArray 26)) s → (Cb s (g4 + 1) 26 ZS ∧ Ky s r root) ∧ Ext w s) := fun s x => (F3.out s (Below.trans x8 x)).2.2
  clear x8 Z0 F3 zl hg8
  generalize V.alloc (.cells ZS.toArray 26) = U at *
  refine qD fun K hK => ?_
  refine wp_store_row _ _ _ rfl g8 ST.toArray rfl rfl 26 ZS.toArray k8.out (by rw [S_s]; rfl) (by rw [S_s, S_Z]) O_s ?_
  refine hK.out _ _ (below_setRow (Below.refl _ _) z8 _) ?_
  clear hK K
  try simp only [Act.put]
  refine seq_done ?_
  have G8 : Hid (Cb (U.setRow g8 ST.toArray) g8 26 ST ∧ (Cb (U.setRow g8 ST.toArray) (g4 + 1) 26 ZS ∧ Ky (U.setRow g8 ST.toArray) r root) ∧ Ext w (U.setRow g8 ST.toArray)) := ⟨k8.out.set, F8.out _ (below_setRow (Below.refl _ _) z8 _)⟩
  refine gen_q (fun W => Cb W g8 26 ST ∧ (Cb W (g4 + 1) 26 ZS ∧ Ky W r root) ∧ Ext w W) G8.out ?_
  have g68 : g4 + 1 < g8 := by omega
  clear G8 F8 k8 BS
  rintro w4 ⟨k8, ⟨k6, kr⟩, x4⟩
  replace k8 := Lib.hid k8
  replace k6 := Lib.hid k6
  replace x4 := Lib.hid x4
  have kr1 := Lib.hid kr.1
  have S_r := kr.size
  have L_T : (tagL16 root ep fn tn now cm).length = 32 := macL_len _ _
  generalize tagL16 root ep fn tn now cm = tgv at *
  clear s0c kr
  go_upto_region 4 with fail
  go_wp2_with (first
    | ((with_reducible refine wpList_load_rowW (o := ⟨some 38, _, _, _, _, _⟩) ?_ 24 _ rfl r ?_ 24 (cellsOf root).toArray (0, 0) _ ?_ Tryd.underlying24 ?_ ?_ ?_); (· rfl); (· rfl); (· exact kr1.out); (· rfl); (· rw [S_r]; rfl); go_frame)
    | ((with_reducible refine wpList_load_rowW (o := ⟨some 39, _, _, _, _, _⟩) ?_ 26 _ rfl g8 ?_ 26 ST.toArray (0, 0) _ ?_ Tryd.underlying26 ?_ ?_ ?_); (· rfl); (· rfl); (· exact k8.out); (· rfl); (· rw [S_s]; rfl); go_frame))
  refine (TO.out w4).mono ?_
  rintro e w5 ⟨rfl, x5⟩
  have k85 := k8.out.ext x5
  have k65 := Lib.hid (k6.out.ext x5)
  have x5w := Lib.hid (x4.out.trans x5)
  clear TO k8 k6 x4 x5 kr1
  have S_t : (cellsOf tgv).toArray.size = 32 := by simp [cellsOf_len, L_T]
  have O_t := one_cells (one_mem tgv)
  have L_r : (stC ep fn tn now cm tgv).length = 68 := stC_len lc L_T _ _ _ _
  have O_r : (stC ep fn tn now cm tgv).toArray.all (·.oneCell') = true := one_cells one_st
  obtain ⟨_, sp2, sp3⟩ := SP.out ()
  have k10 : Hid (Cb (w5.setCells g8 36 (cellsOf tgv)) g8 26 (stC ep fn tn now cm tgv)) := by
    have hh := k85.put (z := cellsOf tgv) sp2 sp3 (by rw [cellsOf_len, cellsOf_len, lz, L_T])
    have e2 : ([Value.int .i64 (ep : Int), .int .i64 (fn : Int), .int .i64 (tn : Int), .int .i64 (now : Int)] ++ cellsOf cm) ++ (cellsOf tgv ++ []) = stC ep fn tn now cm tgv := by simp [stC]
    rw [e2] at hh
    exact hh
  have th8 : Hid (w5.there g8 36 32) := k85.there (by rw [L_s]; omega)
  have e8s := grown_setCells (w := w5) (g := g8) (o := 36) (vs := cellsOf tgv)
  have k11 : Hid (Cb (w5.setCells g8 36 (cellsOf tgv)) (g4 + 1) 26 ZS) := (e8s.block _ k65.out.lt (fun z => by have := Option.some.inj z; omega)).trans k65.out
  have x11 : Hid (Ext w (w5.setCells g8 36 (cellsOf tgv))) := Below.trans x5w.out ⟨e8s.os, e8s.tape, e8s.output, e8s.size, fun i hi => e8s.block i (Nat.lt_of_lt_of_le hi x5w.out.size) (fun z => by have := Option.some.inj z; omega)⟩
  clear k85 k65 x5w e8s SP sp2 sp3
  go_upto_region 5 with (refine wpList_store_mid rfl 24 _ _ rfl g8 36 (cellsOf tgv).toArray rfl rfl (by rw [S_t]; exact th8.out) (by rw [S_t]; rfl) O_t ?_; simp only [Act.put])
  refine wp_gen (fun W => Cb W g8 26 (stC ep fn tn now cm tgv) ∧ Cb W (g4 + 1) 26 ZS ∧ Ext w W) ⟨k10.out, k11.out, x11.out⟩ ?_
  clear k10 k11 x11 th8
  rintro w9 ⟨k8, k6, x9⟩
  have zC : Hid ((mkS root ticks fn tn cm now).C = stC ep fn tn now cm tgv) := by rw [z1]; rfl
  replace z2 := Lib.hid z2
  clear z1
  generalize stC ep fn tn now cm tgv = RS at *
  have S_r : RS.toArray.size = 68 := by rw [List.size_toArray, L_r]
  have F : Hid (Ext w (w9.setRow (g4 + 1) RS.toArray)) := below_setRow x9 (by omega) _
  clear x9
  go_wp2_with (first
    | ((with_reducible refine wpList_load_rowW (o := ⟨some 42, _, _, _, _, _⟩) ?_ 26 _ rfl g8 ?_ 26 RS.toArray (0, 0) _ ?_ Tryd.underlying26 ?_ ?_ ?_); (· rfl); (· rfl); (· exact k8); (· rfl); (· rw [S_r]; rfl); go_frame)
    | (refine wpList_store_row rfl 26 _ _ rfl (g4 + 1) RS.toArray rfl rfl 26 ZS.toArray k6 (by rw [S_r]; rfl) (by rw [S_r, S_Z]) O_r ?_; simp only [Act.put]))
  (try simp only [Exit.inBlock, Exit.then])
  refine bodyPost_ret (results_row_tmp rfl _ _ (g4 + 1) 26 RS.toArray (0, 0) _ _ rfl rfl (setRow_heap _ _ _ _ _ _ k6) rfl rfl (by rw [S_r]; rfl)) rfl ?_
  exact ⟨by rw [z2.out, zC.out]; rfl, F.out⟩
end Go.Proofs.YtmnohmhhmaeljaaDoor
