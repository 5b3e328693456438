import Derived.Test.YteaoacinhdjkeaaPkA
import Derived.Deep.DeepCutAuto
import Derived.Deep.CutBlock
/-
  The law StrikesPlays.
-/
namespace Go.Proofs.Yteaoacinhdjkeaa
open Go.ChangeShapes Go.WideShapes Go.ChangeAt Go.RowKit Go.Deep Go.Maps
set_option maxRecDepth 100000

theorem o23_alloc (w : World) : (zeroValue 66).run Try.prog w = .ok (.agg (⟨0, 0, 0, 0, 0, none, 0, []⟩ : O23).C.toArray) w := by kernel_rfl
theorem jL_le23 (d : Ds) (L : List (List UInt8)) (xs : List UInt8) : L.length ≤ (d.jL L xs).length := by
  unfold Ds.jL
  split <;> simp
/-- Bytes of the world at the start stay while the document's journal turns. -/
theorem PP.old {w W : World} {g dg r lg rg g' dg' r' m' i' : Nat} {d : Ds} {L : List (List UInt8)} {K : List Sk} {d' : Ds} {L' : List (List UInt8)} {K' : List Sk} (h : PP w W g dg r lg rg g' dg' r' m' i' d L K d' L' K') {A : Option Addr} {n c : Nat} {xs : List UInt8} (hb : Bs w A n c xs) : ∀ s, Ot (fun i => Rp dg' r' m' i' i ∨ i = g') W s → Bs s A n c xs := fun s k =>
  (hb.ext h.ex).ot22 k (fun a ha h0 q => by
    have f2 := (h.rlow a.block q).2
    obtain ⟨b, off, e, hlt, _⟩ := hb.pos h0
    rw [e] at ha
    injection ha with ha
    subst ha
    simp only at f2
    omega)
set_option maxHeartbeats 16000000 in
theorem plays23_calls {w : World} {z : Int} {LO : List O23} {A : Option Addr} {len cap : Nat} (hl : Cs w 6 A len cap (LO.map O23.C)) (ol : ∀ o ∈ LO, o.ok w) :
    Calls Try.prog 6 #[.int .i64 z, .slice A len cap] w fun e w' => e = .returned (.bool true) ∧ Ext w w' := by
  have AW := Lib.hid (fun (W : World) => awake23_calls (w := W))
  have OA := Lib.hid (fun i (hi : i < len) => o23_all hl ol hi)
  have hal1 := o23_alloc
  have ZOL : (⟨0, 0, 0, 0, 0, none, 0, []⟩ : O23).C.length = 6 := rfl
  have q1 := hl.2.1
  have q2 : cap ≤ 9223372036854775807 := by have := q1.2; unfold maxLen at this; omega
  generalize (⟨0, 0, 0, 0, 0, none, 0, []⟩ : O23).C = ZO at *
  have S_ZO : ZO.toArray.size = 6 := by rw [List.size_toArray, ZOL]
  clear hl ol
  by_cases hm : z < 1 ∨ 64 < z
  · have NB := Lib.hid (fun (W : World) => dnew_bad (w := W) hm)
    have RB := Lib.hid (fun (W : World) => rnew_bad (w := W) hm)
    go_enter Try.func6, Try.ntmps6
    go_wp2_with fail
    refine (AW.out _).mono ?_
    rintro e w1 ⟨rfl, x1⟩
    have NB1 := Lib.hid (NB.out w1)
    replace x1 := Lib.hid x1
    clear AW NB OA
    go_wp2_with fail
    refine NB1.out.mono ?_
    rintro e w2 ⟨rfl, x2⟩
    have RB2 := Lib.hid (RB.out w2)
    have X2 : Hid (Ext w w2) := x1.out.trans x2
    clear NB1 RB x1 x2
    go_wp2_with fail
    refine RB2.out.mono ?_
    rintro e w3 ⟨rfl, x3⟩
    have X3 : Hid (Ext w w3) := X2.out.trans x3
    clear RB2 X2 x3
    go_wp2_with fail
    go_ret
    exact ⟨rfl, X3.out⟩
  obtain ⟨n, rfl⟩ : ∃ n : Nat, z = (n : Int) := ⟨z.toNat, by omega⟩
  have NW := Lib.hid (fun (W : World) => dnew_ok (w := W) (n := n) (by omega) (by omega))
  have RW := Lib.hid (fun (W : World) => rnew_ok (w := W) (n := n) (by omega) (by omega))
  clear hm
  go_enter Try.func6, Try.ntmps6
  go_wp2_with fail
  refine (AW.out _).mono ?_
  rintro e w1 ⟨rfl, x1⟩
  have NW1 := Lib.hid (NW.out w1)
  replace x1 := Lib.hid x1
  clear AW NW
  go_wp2_with fail
  refine NW1.out.mono ?_
  rintro e w2 ⟨dg, r, mb0, rfl, wg, wrr, wb, k2, x2⟩
  have RW2 := Lib.hid (RW.out w2)
  have X2 : Hid (Ext w w2) := x1.out.trans x2
  have gs := x1.out.size
  replace wg : w.heap.size ≤ dg := Nat.le_trans gs wg
  replace wrr : w.heap.size ≤ r := Nat.le_trans gs wrr
  replace wb : w.heap.size ≤ mb0 := Nat.le_trans gs wb
  replace k2 := Lib.hid k2
  clear NW1 RW x1 x2 gs
  go_wp2_with fail
  refine RW2.out.mono ?_
  rintro e w3 ⟨dg', r', m', i', X3, rfl, ⟨wg', wr', wm', wi'⟩, rd3, x3⟩
  have gs := X2.out.size
  replace wg' : w.heap.size ≤ dg' := Nat.le_trans gs wg'
  replace wr' : w.heap.size ≤ r' := Nat.le_trans gs wr'
  replace wm' : w.heap.size ≤ m' := Nat.le_trans gs wm'
  replace wi' : w.heap.size ≤ i' := Nat.le_trans gs wi'
  have K3 := Lib.hid (Pd2.of k2.out X2.out rd3 x3 wg wrr wb wg' wr' wm' wi')
  have BG := Lib.hid K3.out.begun
  have SH0 : Hid (Sh22 (newD n).recs) := Sh22.recs K3.out.dk.ok
  clear RW2 k2 X2 x3 rd3 gs wg wrr wb wg' wr' wm' wi'
  go_wp2_with fail
  refine BG.out.mono ?_
  rintro e w4 ⟨g0, lg0, rfl, K4, _⟩
  have RO := Lib.hid K4.ropn
  clear BG K3 K4
  go_wp2_with fail
  refine RO.out.mono ?_
  rintro e w5 ⟨g0', rfl, K5, _⟩
  have RL0 := Lib.hid (K5.ropen SH0.out)
  clear RO K5
  go_wp2_with fail
  refine RL0.out.mono ?_
  rintro e w6 ⟨rg0, rfl, K6, _⟩
  replace K6 := Lib.hid K6
  clear RL0
  go_wp2_with fail
  go_loopw [10, 11, 12, 14, 15] (fun gv lv gv' lv' v wr => ∃ (i g lg g' rg : Nat) (d : Ds) (L : List (List UInt8)) (K : List Sk), i ≤ len ∧ i ≤ 60 ∧ v = .int .i64 (i : Int) ∧ gv = .pointer (some ⟨g, 0, none⟩) ∧ lv = .pointer (some ⟨lg, 0, none⟩) ∧ gv' = .pointer (some ⟨g', 0, none⟩) ∧ lv' = .pointer (some ⟨rg, 0, none⟩) ∧ PP w wr g dg r lg rg g' dg' r' m' i' d L K d L K ∧ Sh22 L ∧ K.length ≤ L.length) (fun _ _ _ _ v _ => len - (intOf v).toNat)
  case atStart => exact ⟨0, g0, lg0, g0', rg0, _, _, _, Nat.zero_le _, by omega, rfl, rfl, rfl, rfl, rfl, K6.out, SH0.out, kOf_len _⟩
  case round =>
    clear K6 SH0
    obtain ⟨i, g, lg, g', rg, d, L, K, hi, hi2, rfl, rfl, rfl, rfl, rfl, pj, sh, kl⟩ := hrel
    by_cases hlt : i < len
    case neg =>
      obtain rfl : i = len := by omega
      have F := Lib.hid pj.ex
      clear pj sh OA
      go_wp2_with fail
      go_ret
      exact ⟨rfl, F.out⟩
    by_cases h60 : i < 60
    case neg =>
      have u1 : decide ((i : Int) < 60) = false := decide_eq_false (by omega)
      have F := Lib.hid pj.ex
      clear pj sh OA
      go_wp2_with fail
      go_ret
      exact ⟨rfl, F.out⟩
    have u1 : decide ((i : Int) < 60) = true := decide_eq_true (by omega)
    obtain ⟨b0, off, o, rfl, _, hok, oc⟩ := OA.out i hlt
    have M0 := Lib.hid (oc wr pj.ex)
    have L_O : o.C.length = 6 := rfl
    have S_O : o.C.toArray.size = 6 := by rw [List.size_toArray, L_O]
    have O_O : o.C.toArray.all (·.oneCell') = true := one_cells (fun v hv => by
      simp only [O23.C, List.mem_cons, List.not_mem_nil, or_false] at hv
      rcases hv with rfl | rfl | rfl | rfl | rfl | rfl <;> rfl)
    have K7 : Hid (Cb ((wr.alloc (.cells ZO.toArray 66)).setRow wr.heap.size o.C.toArray) wr.heap.size 66 o.C ∧ PP w ((wr.alloc (.cells ZO.toArray 66)).setRow wr.heap.size o.C.toArray) g dg r lg rg g' dg' r' m' i' d L K d L K) :=
      ⟨(Cb.new wr _ ZO).set, pj.ext (Ext.newRow _ _ _)⟩
    have hwi : IntKind.i64.wrap ((i : Int) + 1) = (i : Int) + 1 := IntWalk.i64_in _ (by omega)
    clear oc pj OA
    obtain ⟨OC, hOC⟩ : ∃ OC, OC = o.C := ⟨_, rfl⟩
    rw [← hOC] at M0 L_O S_O O_O K7
    replace hOC := Lib.hid hOC
    go_upto_region 13 with (first
      | ((with_reducible refine wpList_load_mid (o := ⟨some 76, _, _, _, _, _⟩) (ty := 66) (g := b0) (off := off + i * 6) (ys := OC) ?_ rfl ?_ ?_ Try.underlying66 ?_ ?_ ?_); (· rfl); (· rfl); (· exact M0.out); (· rfl); (· rw [L_O]; rfl); go_frame)
      | (refine wpList_store_row rfl 66 _ _ rfl wr.heap.size OC.toArray rfl rfl 66 ZO.toArray (heap_alloc_new _ _) (by rw [S_O]; rfl) (by rw [S_O, S_ZO]) O_O ?_; simp only [Act.put]))
    refine wp_gen (fun W => Cb W wr.heap.size 66 OC ∧ PP w W g dg r lg rg g' dg' r' m' i' d L K d L K) K7.out ?_
    generalize wr.heap.size = r7 at *
    clear K7 M0 wr
    rintro u ⟨k7, pj⟩
    rw [hOC.out] at k7
    clear hOC L_O S_O O_O
    obtain ⟨od, oa, oi, ot, kept, oA, oc, ob⟩ := o
    obtain ⟨hoi, hk, hb⟩ := hok
    dsimp only at hoi hk hb
    have bl := hb.le
    have bc := hb.cap
    have T7 : Hid (∀ s, Cb s r7 66 (⟨od, oa, oi, ot, kept, oA, oc, ob⟩ : O23).C → s.cell? ⟨r7, 0, none⟩ = some (.int .i64 od) ∧ s.cell? ⟨r7, 1, none⟩ = some (.int .i64 oa) ∧ s.cell? ⟨r7, 2, none⟩ = some (.int .i64 oi) ∧ s.cell? ⟨r7, 3, none⟩ = some (.int .i64 ot) ∧ s.cell? ⟨r7, 4, none⟩ = some (.int .u64 (kept : Int)) ∧ s.cell? ⟨r7, 5, none⟩ = some (.slice oA ob.length oc)) := fun s kc => ⟨kc.cell rfl, kc.cell rfl, kc.cell rfl, kc.cell rfl, kc.cell rfl, kc.cell rfl⟩
    generalize (⟨od, oa, oi, ot, kept, oA, oc, ob⟩ : O23).C = OCC at *
    obtain ⟨c0, c1, c2, c3, c4, c5⟩ := T7.out u k7
    by_cases h200 : 100 < ob.length
    · have u2 : decide ((100 : Int) < (ob.length : Int)) = true := decide_eq_true (by omega)
      have F := Lib.hid pj.ex
      clear pj sh k7 hb T7
      go_wp2_with fail
      go_ret
      exact ⟨rfl, F.out⟩
    have u2 : decide ((100 : Int) < (ob.length : Int)) = false := decide_eq_false (by omega)
    have L64 := sh.1
    have ok := pj.ok
    have KF : Hid (K.length ≤ 500) := by have := sh.1; exact Lib.hid (by omega)
    replace hb := Lib.hid hb
    replace k7 := Lib.hid k7
    replace pj := Lib.hid pj
    replace sh := Lib.hid sh
    replace ok := Lib.hid ok
    replace kl := Lib.hid kl
    go_upto_block 2 with fail
    go_cut [10, 11, 12, 14, 17] from 63 to 235 (fun s10 s11 s12 s14 s17 wx => s17 = .bool true ∧ ∃ (g lg g' rg : Nat) (d : Ds) (L : List (List UInt8)) (K : List Sk), s10 = .pointer (some ⟨g, 0, none⟩) ∧ s11 = .pointer (some ⟨lg, 0, none⟩) ∧ s12 = .pointer (some ⟨g', 0, none⟩) ∧ s14 = .pointer (some ⟨rg, 0, none⟩) ∧ PP w wx g dg r lg rg g' dg' r' m' i' d L K d L K ∧ Sh22 L ∧ K.length ≤ L.length ∧ Cb wx r7 66 OCC)
    case first =>
      have k8 : Hid (Cb u.drew r7 66 OCC) := k7.out.ext (Ext.refl u).drew
      have pj8 : Hid (PP w u.drew g dg r lg rg g' dg' r' m' i' d L K d L K) := pj.out.ext (Ext.refl u).drew
      have F21 : Hid (∀ s, Ot (fun i => i ≠ r7) u.drew s → s.cell? ⟨r7, 1, none⟩ = some (.int .i64 oa) ∧ s.cell? ⟨r7, 2, none⟩ = some (.int .i64 oi) ∧ s.cell? ⟨r7, 3, none⟩ = some (.int .i64 ot) ∧ s.cell? ⟨r7, 5, none⟩ = some (.slice oA ob.length oc)) := fun s e => by
        obtain ⟨_, z1, z2, z3, _, z5⟩ := T7.out s (e.block k8.out (fun q => q rfl))
        exact ⟨z1, z2, z3, z5⟩
      have hok2 := ok.out.2
      replace hok2 := Lib.hid hok2
      by_cases h4 : od = 4
      · subst h4
        as_aux_lemma =>
          have FU := Lib.hid (pj.out.fuse hoi)
          clear ok c0 c1 c3 c4 c5 F21 k8 pj8
          go_wp2_with fail
          refine FU.out.mono ?_
          rintro e w4 ⟨rfl, p4, t4⟩
          have k4 := t4.2.2.2.2 _ _ k7.out
          obtain ⟨_, _, c2_, _⟩ := T7.out w4 k4
          have RS := Lib.hid (p4.rfuse hoi)
          replace k4 := Lib.hid k4
          clear FU p4 t4 c2 pj
          go_wp2_with fail
          refine RS.out.mono ?_
          rintro e w5 ⟨rfl, p5, t5⟩
          have k5 := Lib.hid (t5.2.2.2.2 _ _ k4.out)
          replace p5 := Lib.hid p5
          clear RS c2_ t5
          go_wp2_with fail
          go_meet
          exact ⟨rfl, g, lg, g', rg, _, _, _, rfl, rfl, rfl, rfl, p5.out, sh.out, kl.out, k5.out⟩
      by_cases h5 : od = 5
      · subst h5
        as_aux_lemma =>
          have CR := Lib.hid (pj.out.crash hk)
          clear ok c0 c1 c2 c3 c5 F21 k8 pj8 h4
          go_wp2_with fail
          refine CR.out.mono ?_
          rintro e w4 ⟨rfl, p4, t4⟩
          have k4 := t4.2.2.2.2 _ _ k7.out
          obtain ⟨_, _, _, _, c4_, _⟩ := T7.out w4 k4
          have RS := Lib.hid (p4.rcrash hk)
          replace k4 := Lib.hid k4
          clear CR p4 t4 c4 pj
          go_wp2_with fail
          refine RS.out.mono ?_
          rintro e w5 ⟨rfl, p5, t5⟩
          have k5 := Lib.hid (t5.2.2.2.2 _ _ k4.out)
          obtain ⟨mb5, X5, P5⟩ := p5.pd2
          have BG := Lib.hid P5.begun
          have sh5 : Hid (Sh22 (d.crash kept).recs) := Sh22.recs P5.dk.ok
          clear RS c4_ t5 p5 P5
          go_wp2_with fail
          refine BG.out.mono ?_
          rintro e w6 ⟨g6, lg6, rfl, p6, x6⟩
          have RO := Lib.hid p6.ropn
          have k6 := Lib.hid (k5.out.ext x6)
          clear BG p6 x6 k5
          go_wp2_with fail
          refine RO.out.mono ?_
          rintro e w7 ⟨g7, rfl, p7, x7⟩
          have RL7 := Lib.hid (p7.ropen sh5.out)
          have k77 := Lib.hid (k6.out.ext x7)
          clear RO p7 x7 k6
          go_wp2_with fail
          refine RL7.out.mono ?_
          rintro e w8 ⟨rg8, rfl, p8, t8⟩
          have k88 := Lib.hid (t8.2.2.2.2 _ _ k77.out)
          replace p8 := Lib.hid p8
          clear RL7 t8 k77
          go_wp2_with fail
          go_meet
          exact ⟨rfl, g6, lg6, g7, rg8, _, _, _, rfl, rfl, rfl, rfl, p8.out, sh5.out, kOf_len _, k88.out⟩
      by_cases h3 : od = 3
      · subst h3
        as_aux_lemma =>
          have WL := Lib.hid (Wl23.clear ok.out.1 sh.out ok.out.2 kl.out oi ot)
          have AP := Lib.hid (pj8.out.pclear L64 oi ot)
          obtain ⟨Z, hZ⟩ : ∃ q, q = clearX d L K oi ot := ⟨_, rfl⟩
          rw [← hZ] at WL AP
          replace hZ := Lib.hid hZ
          clear c1 c2 c3 c4 c5 h4 h5
          go_upto_region 23 with fail
          clear c0
          refine qgR (R := Ot (fun i => i ≠ r7)) (Ot.refl _) (fun _ _ _ => Ot.trans) [0, 1, 2, 3, 4, 6, 7, 8, 9, 10, 5, 11, 12, 13] [5, 11] ?_
          generalize u.drew = W at *
          repeat ((first | refine qR _ (fun w' e => F21.out w' e) ?_ | refine qS ?_); go_frame)
          refine qD fun K_ hK => ?_
          go_simp
          refine AP.out.mono ?_
          rintro e w4 ⟨rfl, p4, t4⟩
          refine hK.out _ _ (t4.ot k8.out) ?_
          clear hK K_
          try go_frame
          have k84 := t4.2.2.2.2 _ _ k8.out
          have RA := p4.rclear L64 hok2.out KF.out oi ot
          rw [← hZ.out] at RA
          replace RA := Lib.hid RA
          clear F21 AP t4 p4
          repeat ((first | refine qR0 ?_ | refine qS ?_); go_frame)
          refine qD fun K_ hK => ?_
          go_simp
          refine RA.out.mono ?_
          rintro e w5 ⟨rfl, p5, t5⟩
          refine hK.out _ _ (t5.ot k84) ?_
          clear hK K_
          try go_frame
          have k85 := Lib.hid (t5.2.2.2.2 _ _ k84)
          replace p5 := Lib.hid p5
          clear RA t5 k84
          repeat ((first | refine qR0 ?_ | refine qS ?_); go_frame)
          refine seq_done ?_
          go_wp2_with fail
          go_meet
          exact ⟨by first | rfl | simp, g, lg, g', rg, _, _, _, rfl, rfl, rfl, rfl, p5.out, WL.out.2.1, WL.out.2.2, k85.out⟩
      by_cases h02 : od = 0 ∨ od = 1 ∨ od = 2
      · have WL := Lib.hid (Wl23.add ok.out.1 sh.out ok.out.2 kl.out oa oi ot)
        have AP := Lib.hid (pj8.out.padd L64 oa oi ot)
        obtain ⟨Z, hZ⟩ : ∃ q, q = addX d L K oa oi ot := ⟨_, rfl⟩
        rw [← hZ] at WL AP
        replace hZ := Lib.hid hZ
        clear c1 c2 c3 c4 c5 h3 h4 h5
        rcases h02 with rfl | rfl | rfl
        all_goals (
          as_aux_lemma =>
            go_upto_region 21 with fail
            clear c0
            refine qgR (R := Ot (fun i => i ≠ r7)) (Ot.refl _) (fun _ _ _ => Ot.trans) [0, 1, 2, 3, 4, 5, 6, 8, 9, 10, 11, 12, 13, 14, 7, 15, 16, 17] [7, 15] ?_
            generalize u.drew = W at *
            repeat ((first | refine qR _ (fun w' e => F21.out w' e) ?_ | refine qS ?_); go_frame)
            refine qD fun K_ hK => ?_
            go_simp
            refine AP.out.mono ?_
            rintro e w4 ⟨rfl, p4, t4⟩
            refine hK.out _ _ (t4.ot k8.out) ?_
            clear hK K_
            try go_frame
            have k84 := t4.2.2.2.2 _ _ k8.out
            have RA := p4.radd L64 hok2.out KF.out oa oi ot
            rw [← hZ.out] at RA
            replace RA := Lib.hid RA
            clear F21 AP t4 p4
            repeat ((first | refine qR0 ?_ | refine qS ?_); go_frame)
            refine qD fun K_ hK => ?_
            go_simp
            refine RA.out.mono ?_
            rintro e w5 ⟨rfl, p5, t5⟩
            refine hK.out _ _ (t5.ot k84) ?_
            clear hK K_
            try go_frame
            have k85 := Lib.hid (t5.2.2.2.2 _ _ k84)
            replace p5 := Lib.hid p5
            clear RA t5 k84
            repeat ((first | refine qR0 ?_ | refine qS ?_); go_frame)
            refine seq_done ?_
            go_wp2_with fail
            go_meet
            exact ⟨by first | rfl | simp, g, lg, g', rg, _, _, _, rfl, rfl, rfl, rfl, p5.out, WL.out.2.1, WL.out.2.2, k85.out⟩)
      · have v01 : (od == 3) = false := beq_eq_false_iff_ne.2 h3
        have v02 : (od == 4) = false := beq_eq_false_iff_ne.2 h4
        have v03 : (od == 0) = false := beq_eq_false_iff_ne.2 fun q => h02 (.inl q)
        have v04 : (od == 1) = false := beq_eq_false_iff_ne.2 fun q => h02 (.inr (.inl q))
        have v05 : (od == 2) = false := beq_eq_false_iff_ne.2 fun q => h02 (.inr (.inr q))
        have v06 : (od == 5) = false := beq_eq_false_iff_ne.2 h5
        have WL : Hid (Sh22 (d.jL L ob) ∧ K.length ≤ (d.jL L ob).length) := ⟨sh.out.jL ok.out.1 ob, Nat.le_trans kl.out (jL_le23 d L ob)⟩
        have AP := Lib.hid (pj8.out.append L64 hb.out (by omega))
        obtain ⟨ee, hee⟩ : ∃ q, q = d.jE L.length ob := ⟨_, rfl⟩
        rw [← hee] at AP
        replace hee := Lib.hid hee
        clear c1 c2 c3 c4 c5 h3 h4 h5 h02
        as_aux_lemma =>
          go_upto_region 17 with fail
          clear c0
          refine qgR (R := Ot (fun i => i ≠ r7)) (Ot.refl _) (fun _ _ _ => Ot.trans) [0, 1, 2, 4, 5, 6, 3, 7, 8, 9] [3, 7] ?_
          generalize u.drew = W at *
          repeat ((first | refine qR _ (fun w' e => F21.out w' e) ?_ | refine qS ?_); go_frame)
          refine qD fun K_ hK => ?_
          go_simp
          refine AP.out.mono ?_
          rintro e w4 ⟨rfl, p4, t4⟩
          refine hK.out _ _ (t4.ot k8.out) ?_
          clear hK K_
          try go_frame
          have k84 := t4.2.2.2.2 _ _ k8.out
          have RA := p4.rapp L64 (p4.old hb.out)
          rw [← hee.out] at RA
          replace RA := Lib.hid RA
          clear F21 AP t4 p4
          repeat ((first | refine qR0 ?_ | refine qS ?_); go_frame)
          refine qD fun K_ hK => ?_
          go_simp
          refine RA.out.mono ?_
          rintro e w5 ⟨rfl, p5, t5, _⟩
          refine hK.out _ _ (t5.ot k84) ?_
          clear hK K_
          try go_frame
          have k85 := Lib.hid (t5.2.2.2.2 _ _ k84)
          replace p5 := Lib.hid p5
          clear RA t5 k84
          repeat ((first | refine qR0 ?_ | refine qS ?_); go_frame)
          refine seq_done ?_
          go_wp2_with fail
          go_meet
          exact ⟨by first | rfl | simp, g, lg, g', rg, _, _, _, rfl, rfl, rfl, rfl, p5.out, WL.out.1, WL.out.2, k85.out⟩
    case rest =>
      as_aux_lemma =>
        obtain ⟨rfl, g2, lg2, g2', rg2, d2, L2, K2, rfl, rfl, rfl, rfl, p2, sh2, kl2, k72⟩ := hcut
        obtain ⟨lb, l⟩ := p2.pled
        obtain ⟨lo, rl⟩ := p2.rled
        have K2l : K2.length ≤ 1000 := by have := sh2.1; omega
        have OF := Lib.hid (sof_calls l hoi)
        have RF : Hid (∀ s, Ext wc s → Calls Try.prog 35 #[.pointer (some ⟨rg2, 0, none⟩), .int .i64 oi] s fun e w' => e = .returned (.tuple #[.int .i64 (ofA (findS K2 oi)), .bool (ofR (findS K2 oi)), .bool (findS K2 oi).isSome]) ∧ Ext s w') := fun s x => rof23_calls (rl.ext x) K2l
        have CT : Hid (∀ s (n : Int), Ext wc s → Calls Try.prog 36 #[.pointer (some ⟨lg2, 0, none⟩), .int .i64 n, .int .i64 ot] s fun e w' => e = .returned (.int .i64 (cntS K2 n ot : Int)) ∧ Ext s w') := fun s n x => scount_calls (l.ext x)
        have RT : Hid (∀ s (n : Int), Ext wc s → Calls Try.prog 37 #[.pointer (some ⟨rg2, 0, none⟩), .int .i64 n, .int .i64 ot] s fun e w' => e = .returned (.int .i64 (cntS K2 n ot : Int)) ∧ Ext s w') := fun s n x => rcount23_calls (rl.ext x) K2l
        have SU : Hid (∀ s (n : Int), Ext wc s → Calls Try.prog 38 #[.pointer (some ⟨lg2, 0, none⟩), .int .i64 n, .int .i64 ot] s fun e w' => e = .returned (.bool (decide (3 ≤ cntS K2 n ot))) ∧ Ext s w') := fun s n x => ssusp_calls (l.ext x)
        have RU : Hid (∀ s (n : Int), Ext wc s → Calls Try.prog 39 #[.pointer (some ⟨rg2, 0, none⟩), .int .i64 n, .int .i64 ot] s fun e w' => e = .returned (.bool (decide (3 ≤ cntS K2 n ot))) ∧ Ext s w') := fun s n x => rsusp23_calls (rl.ext x) K2l
        have FC : Hid (∀ s, Ext wc s → s.cell? ⟨r7, 2, none⟩ = some (.int .i64 oi) ∧ s.cell? ⟨r7, 3, none⟩ = some (.int .i64 ot)) := fun s x => by
          obtain ⟨_, _, z2, z3, _⟩ := T7.out s (k72.ext x)
          exact ⟨z2, z3⟩
        generalize findS K2 oi = oo at *
        generalize (ofA oo : Int) = va at *
        generalize ofR oo = vr at *
        generalize oo.isSome = vs at *
        have cc2 := (FC.out wc (Ext.refl _)).1
        replace p2 := Lib.hid p2
        replace sh2 := Lib.hid sh2
        replace kl2 := Lib.hid kl2
        clear pj sh T7 k7 hb ok c0 c1 c2 c3 c4 c5 u2 bl bc hoi hk l rl k72 KF kl L64 K2l
        go_wp2_with fail
        refine OF.out.mono ?_
        rintro e w4 ⟨rfl, x4⟩
        have cc4 := (FC.out w4 x4).1
        have RF4 := Lib.hid (RF.out w4 x4)
        replace x4 := Lib.hid x4
        clear OF RF cc2
        go_wp2_with fail
        refine RF4.out.mono ?_
        rintro e w5 ⟨rfl, x5⟩
        have X5 : Hid (Ext wc w5) := x4.out.trans x5
        clear RF4 x4 x5 cc4
        go_wp2_with fail
        go_loopw [24] (fun v wr => ∃ nn : Int, -1 ≤ nn ∧ nn ≤ 9 ∧ v = .int .i64 nn ∧ Ext wc wr) (fun v _ => (9 - intOf v).toNat)
        case atStart => exact ⟨-1, by omega, by omega, rfl, X5.out⟩
        case round =>
          clear X5
          obtain ⟨nn, n1, n2, rfl, xr⟩ := hrel
          by_cases h9 : nn < 9
          · have l1 : decide (nn < 9) = true := decide_eq_true h9
            have F42 : Hid (∀ s, Ext wr.drew s → s.cell? ⟨r7, 3, none⟩ = some (.int .i64 ot)) := fun s x => (FC.out s (xr.drew.trans x)).2
            have C1 := Lib.hid (fun s (x : Ext wr.drew s) => CT.out s nn (xr.drew.trans x))
            have C2 := Lib.hid (fun s (x : Ext wr.drew s) => RT.out s nn (xr.drew.trans x))
            have C3 := Lib.hid (fun s (x : Ext wr.drew s) => SU.out s nn (xr.drew.trans x))
            have C4 := Lib.hid (fun s (x : Ext wr.drew s) => RU.out s nn (xr.drew.trans x))
            generalize decide (3 ≤ cntS K2 nn ot) = cb at *
            generalize (cntS K2 nn ot : Int) = cn at *
            have kw : IntKind.i64.wrap (nn + 1) = nn + 1 := IntWalk.i64_in _ (by omega)
            have XR : Hid (Ext wc wr.drew) := xr.drew
            clear xr CT RT SU RU FC
            go_upto_region 42 with fail
            refine qgE [0, 1, 2, 3, 5, 6, 7, 8, 4, 9, 10, 11, 12, 13, 14, 15, 17, 18, 19, 20, 16, 21, 22, 23] [4, 9, 16, 21] ?_
            generalize wr.drew = V at *
            repeat ((first | refine qR _ (fun w' e => F42.out w' e) ?_ | refine qS ?_); go_frame)
            refine qD fun K_ hK => ?_
            go_simp
            refine (C1.out _ (Ext.refl _)).mono ?_
            rintro e wA ⟨rfl, xA⟩
            refine hK.out _ _ xA ?_
            clear hK K_
            try go_frame
            clear C1
            refine qD fun K_ hK => ?_
            go_simp
            refine (C2.out _ xA).mono ?_
            rintro e wB ⟨rfl, xB⟩
            refine hK.out _ _ xB ?_
            clear hK K_
            try go_frame
            have XB : Hid (Ext V wB) := xA.trans xB
            have F43 : Hid (∀ s, Ext wB s → s.cell? ⟨r7, 3, none⟩ = some (.int .i64 ot)) := fun s x => F42.out s (XB.out.trans x)
            clear C2 F42 xA xB
            repeat ((first | refine qR _ (fun w' e => F43.out w' e) ?_ | refine qS ?_); go_frame)
            refine qD fun K_ hK => ?_
            go_simp
            refine (C3.out _ XB.out).mono ?_
            rintro e wC ⟨rfl, xC⟩
            refine hK.out _ _ xC ?_
            clear hK K_
            try go_frame
            have XC : Hid (Ext V wC) := XB.out.trans xC
            clear C3 F43 xC XB
            repeat ((first | refine qR0 ?_ | refine qS ?_); go_frame)
            refine qD fun K_ hK => ?_
            go_simp
            refine (C4.out _ XC.out).mono ?_
            rintro e wD ⟨rfl, xD⟩
            refine hK.out _ _ xD ?_
            clear hK K_
            try go_frame
            have XD : Hid (Ext wc wD) := XR.out.trans (XC.out.trans xD)
            clear C4 XC xD XR
            repeat ((first | refine qR0 ?_ | refine qS ?_); go_frame)
            refine seq_done ?_
            go_wp2_with fail
            go_roundw
            case rel => exact ⟨nn + 1, by omega, by omega, rfl, XD.out⟩
            case measure => simp [intOf]; omega
          · have l1 : decide (nn < 9) = false := decide_eq_false h9
            have P9 := Lib.hid (p2.out.ext xr)
            clear CT RT SU RU FC p2 xr
            go_wp2_with fail
            go_round
            case rel => exact ⟨i + 1, g2, lg2, g2', rg2, d2, L2, K2, by omega, by omega, by go_num, rfl, rfl, rfl, rfl, P9.out, sh2.out, kl2.out⟩
            case measure => simp [intOf]; omega
end Go.Proofs.Yteaoacinhdjkeaa
