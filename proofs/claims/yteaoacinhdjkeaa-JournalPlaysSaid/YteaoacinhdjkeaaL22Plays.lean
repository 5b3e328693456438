/-
  The law JournalPlays.
-/
import Derived.Test.YteaoacinhdjkeaaPlJ
import Derived.Test.YteaoacinhdjkeaaO22
import Derived.Test.YteaoacinhdjkeaaSameW
import Derived.Deep.DeepCutAuto
import Derived.Deep.CutBlock
namespace Go.Proofs.Yteaoacinhdjkeaa
open Go.ChangeShapes Go.WideShapes Go.ChangeAt Go.RowKit Go.Deep Go.Maps
set_option maxRecDepth 100000

theorem o22_alloc (w : World) : (zeroValue 40).run Try.prog w = .ok (.agg (⟨0, 0, none, 0, [], 0⟩ : O22).C.toArray) w := by kernel_rfl
set_option maxHeartbeats 16000000 in
theorem plays22_calls {w : World} {z : Int} {LO : List O22} {A : Option Addr} {len cap : Nat} (hl : Cs w 4 A len cap (LO.map O22.C)) (ol : ∀ o ∈ LO, o.ok w) :
    Calls Try.prog 3 #[.int .i64 z, .slice A len cap] w fun e w' => e = .returned (.bool true) ∧ Ext w w' := by
  have AW := Lib.hid (fun (W : World) => awake22_calls (w := W))
  have OA := Lib.hid (fun i (hi : i < len) => o22_all hl ol hi)
  have hal1 := o22_alloc
  have hal2 := sector_alloc
  have ZOL : (⟨0, 0, none, 0, [], 0⟩ : O22).C.length = 4 := rfl
  have q1 := hl.2.1
  have q2 : cap ≤ 9223372036854775807 := by have := q1.2; unfold maxLen at this; omega
  have Lz := zS64_len
  generalize (⟨0, 0, none, 0, [], 0⟩ : O22).C = ZO at *
  have S_ZO : ZO.toArray.size = 4 := by rw [List.size_toArray, ZOL]
  clear hl ol
  by_cases hm : z < 1 ∨ 64 < z
  · have NB := Lib.hid (fun (W : World) => dnew_bad (w := W) hm)
    have RB := Lib.hid (fun (W : World) => rnew_bad (w := W) hm)
    go_enter Try.func3, Try.ntmps3
    go_wp2_with fail
    refine (AW.out _).mono ?_
    rintro e w1 ⟨rfl, x1⟩
    have NB1 := Lib.hid (NB.out w1)
    replace x1 := Lib.hid x1
    clear AW NB OA
    go_wp2_with fail
    refine NB1.out.mono ?_
    rintro e w2 ⟨rfl, x2⟩
    have RB2 := Lib.hid (RB.out w2)
    have X2 : Hid (Ext w w2) := x1.out.trans x2
    clear NB1 RB x1 x2
    go_wp2_with fail
    refine RB2.out.mono ?_
    rintro e w3 ⟨rfl, x3⟩
    have X3 : Hid (Ext w w3) := X2.out.trans x3
    clear RB2 X2 x3
    go_wp2_with fail
    go_ret
    exact ⟨rfl, X3.out⟩
  obtain ⟨n, rfl⟩ : ∃ n : Nat, z = (n : Int) := ⟨z.toNat, by omega⟩
  have NW := Lib.hid (fun (W : World) => dnew_ok (w := W) (n := n) (by omega) (by omega))
  have RW := Lib.hid (fun (W : World) => rnew_ok (w := W) (n := n) (by omega) (by omega))
  clear hm
  go_enter Try.func3, Try.ntmps3
  go_wp2_with fail
  refine (AW.out _).mono ?_
  rintro e w1 ⟨rfl, x1⟩
  have NW1 := Lib.hid (NW.out w1)
  replace x1 := Lib.hid x1
  clear AW NW
  go_wp2_with fail
  refine NW1.out.mono ?_
  rintro e w2 ⟨dg, r, mb0, rfl, wg, wrr, wb, k2, x2⟩
  have RW2 := Lib.hid (RW.out w2)
  have X2 : Hid (Ext w w2) := x1.out.trans x2
  have gs := x1.out.size
  replace wg : w.heap.size ≤ dg := Nat.le_trans gs wg
  replace wrr : w.heap.size ≤ r := Nat.le_trans gs wrr
  replace wb : w.heap.size ≤ mb0 := Nat.le_trans gs wb
  replace k2 := Lib.hid k2
  clear NW1 RW x1 x2 gs
  go_wp2_with fail
  refine RW2.out.mono ?_
  rintro e w3 ⟨dg', r', m', i', X3, rfl, ⟨wg', wr', wm', wi'⟩, rd3, x3⟩
  have gs := X2.out.size
  replace wg' : w.heap.size ≤ dg' := Nat.le_trans gs wg'
  replace wr' : w.heap.size ≤ r' := Nat.le_trans gs wr'
  replace wm' : w.heap.size ≤ m' := Nat.le_trans gs wm'
  replace wi' : w.heap.size ≤ i' := Nat.le_trans gs wi'
  have K3 := Lib.hid (Pd2.of k2.out X2.out rd3 x3 wg wrr wb wg' wr' wm' wi')
  have PO := Lib.hid K3.out.opn
  clear RW2 k2 X2 x3 rd3 gs wg wrr wb wg' wr' wm' wi'
  go_wp2_with fail
  refine PO.out.mono ?_
  rintro e w4 ⟨g0, rfl, K4⟩
  have RO := Lib.hid K4.ropn
  clear PO K3 K4
  go_wp2_with fail
  refine RO.out.mono ?_
  rintro e w5 ⟨g0', rfl, K5⟩
  have SH0 : Hid (Sh22 (newD n).recs) := Sh22.recs K5.ok.1
  replace K5 := Lib.hid K5
  clear RO
  go_wp2_with fail
  go_loopw [10, 12, 14] (fun gv gv' v wr => ∃ (i g g' : Nat) (d : Ds) (L : List (List UInt8)), i ≤ len ∧ i ≤ 60 ∧ v = .int .i64 (i : Int) ∧ gv = .pointer (some ⟨g, 0, none⟩) ∧ gv' = .pointer (some ⟨g', 0, none⟩) ∧ PJs w wr g dg r g' dg' r' m' i' d L d L ∧ Sh22 L) (fun _ _ v _ => len - (intOf v).toNat)
  case atStart => exact ⟨0, g0, g0', _, _, Nat.zero_le _, by omega, rfl, rfl, rfl, K5.out, SH0.out⟩
  case round =>
    clear K5 SH0
    obtain ⟨i, g, g', d, L, hi, hi2, rfl, rfl, rfl, pj, sh⟩ := hrel
    by_cases hlt : i < len
    case neg =>
      obtain rfl : i = len := by omega
      have F := Lib.hid pj.ex
      clear pj sh OA
      go_wp2_with fail
      go_ret
      exact ⟨rfl, F.out⟩
    by_cases h60 : i < 60
    case neg =>
      have u1 : decide ((i : Int) < 60) = false := decide_eq_false (by omega)
      have F := Lib.hid pj.ex
      clear pj sh OA
      go_wp2_with fail
      go_ret
      exact ⟨rfl, F.out⟩
    have u1 : decide ((i : Int) < 60) = true := decide_eq_true (by omega)
    obtain ⟨b0, off, o, rfl, _, hok, oc⟩ := OA.out i hlt
    have M0 := Lib.hid (oc wr pj.ex)
    have L_O : o.C.length = 4 := rfl
    have S_O : o.C.toArray.size = 4 := by rw [List.size_toArray, L_O]
    have O_O : o.C.toArray.all (·.oneCell') = true := one_cells (fun v hv => by
      simp only [O22.C, List.mem_cons, List.not_mem_nil, or_false] at hv
      rcases hv with rfl | rfl | rfl | rfl <;> rfl)
    have K7 : Hid (Cb ((wr.alloc (.cells ZO.toArray 40)).setRow wr.heap.size o.C.toArray) wr.heap.size 40 o.C ∧ PJs w ((wr.alloc (.cells ZO.toArray 40)).setRow wr.heap.size o.C.toArray) g dg r g' dg' r' m' i' d L d L) :=
      ⟨(Cb.new wr _ ZO).set, pj.ext (Ext.newRow _ _ _)⟩
    have rlt : r ≠ wr.heap.size := fun q => by have := pj.ok.2; omega
    have hwi : IntKind.i64.wrap ((i : Int) + 1) = (i : Int) + 1 := IntWalk.i64_in _ (by omega)
    clear oc pj OA
    obtain ⟨OC, hOC⟩ : ∃ OC, OC = o.C := ⟨_, rfl⟩
    rw [← hOC] at M0 L_O S_O O_O K7
    replace hOC := Lib.hid hOC
    go_upto_region 12 with (first
      | ((with_reducible refine wpList_load_mid (o := ⟨some 69, _, _, _, _, _⟩) (ty := 40) (g := b0) (off := off + i * 4) (ys := OC) ?_ rfl ?_ ?_ Try.underlying40 ?_ ?_ ?_); (· rfl); (· rfl); (· exact M0.out); (· rfl); (· rw [L_O]; rfl); go_frame)
      | (refine wpList_store_row rfl 40 _ _ rfl wr.heap.size OC.toArray rfl rfl 40 ZO.toArray (heap_alloc_new _ _) (by rw [S_O]; rfl) (by rw [S_O, S_ZO]) O_O ?_; simp only [Act.put]))
    refine wp_gen (fun W => Cb W wr.heap.size 40 OC ∧ PJs w W g dg r g' dg' r' m' i' d L d L) K7.out ?_
    generalize wr.heap.size = r7 at *
    clear K7 M0 wr
    rintro u ⟨k7, pj⟩
    rw [hOC.out] at k7
    clear hOC L_O S_O O_O
    obtain ⟨od, oi, oA, oc, ob, kept⟩ := o
    obtain ⟨hoi, hk, hb⟩ := hok
    dsimp only at hoi hk hb
    have bl := hb.le
    have bc := hb.cap
    have T7 : Hid (∀ s, Cb s r7 40 (⟨od, oi, oA, oc, ob, kept⟩ : O22).C → s.cell? ⟨r7, 0, none⟩ = some (.int .i64 od) ∧ s.cell? ⟨r7, 1, none⟩ = some (.int .i64 oi) ∧ s.cell? ⟨r7, 2, none⟩ = some (.slice oA ob.length oc) ∧ s.cell? ⟨r7, 3, none⟩ = some (.int .u64 (kept : Int))) := fun s kc => ⟨kc.cell rfl, kc.cell rfl, kc.cell rfl, kc.cell rfl⟩
    generalize (⟨od, oi, oA, oc, ob, kept⟩ : O22).C = OCC at *
    obtain ⟨c0, c1, c2, c3⟩ := T7.out u k7
    by_cases h200 : 200 < ob.length
    · have u2 : decide ((200 : Int) < (ob.length : Int)) = true := decide_eq_true (by omega)
      have F := Lib.hid pj.ex
      clear pj sh k7 hb T7
      go_wp2_with fail
      go_ret
      exact ⟨rfl, F.out⟩
    have u2 : decide ((200 : Int) < (ob.length : Int)) = false := decide_eq_false (by omega)
    have ok := pj.ok.1
    have KT : Hid (∀ a b, Kt r a b → Cb a r7 40 OCC → Cb b r7 40 OCC) := fun a b k q => k.2.2.2.2 _ _ _ q rlt.symm (by decide) (by decide) (by decide) (by decide) (by decide) (by decide) (by decide)
    replace hb := Lib.hid hb
    replace k7 := Lib.hid k7
    replace pj := Lib.hid pj
    replace sh := Lib.hid sh
    replace ok := Lib.hid ok
    go_upto_block 2 with fail
    go_cut [10, 12, 16] from 56 to 181 (fun s10 s12 s16 wx => s16 = .bool true ∧ ∃ (g g' : Nat) (d : Ds) (L : List (List UInt8)), s10 = .pointer (some ⟨g, 0, none⟩) ∧ s12 = .pointer (some ⟨g', 0, none⟩) ∧ PJs w wx g dg r g' dg' r' m' i' d L d L ∧ Sh22 L)
    case first =>
      by_cases h3 : od = 3
      · subst h3
        have FU := Lib.hid (pj.out.fuse hoi)
        clear ok c0 c2 c3
        go_wp2_with fail
        refine FU.out.mono ?_
        rintro e w4 ⟨rfl, p4, t4⟩
        have k4 := KT.out u w4 t4 k7.out
        obtain ⟨_, c1_, _, _⟩ := T7.out w4 k4
        have RS := Lib.hid (p4.rfuse hoi)
        clear FU p4 t4 k4 c1 T7 pj k7 KT
        go_wp2_with fail
        refine RS.out.mono ?_
        rintro e w5 ⟨rfl, p5, t5⟩
        replace p5 := Lib.hid p5
        clear RS c1_ t5
        go_wp2_with fail
        go_meet
        exact ⟨rfl, g, g', _, _, rfl, rfl, p5.out, sh.out⟩
      by_cases h4 : od = 4
      · subst h4
        have CR := Lib.hid (pj.out.crash hk)
        clear c0 c1 c2 h3
        go_wp2_with fail
        refine CR.out.mono ?_
        rintro e w4 ⟨rfl, p4, t4⟩
        have k4 := KT.out u w4 t4 k7.out
        obtain ⟨_, _, _, c3_⟩ := T7.out w4 k4
        have RS := Lib.hid (p4.rcrash hk)
        clear CR p4 t4 k4 c3 T7 pj k7 KT
        go_wp2_with fail
        refine RS.out.mono ?_
        rintro e w5 ⟨rfl, p5, t5⟩
        have PO := Lib.hid p5.opn
        clear RS c3_ t5 p5
        go_wp2_with fail
        refine PO.out.mono ?_
        rintro e w6 ⟨g6, rfl, p6, _⟩
        have RO := Lib.hid (PJs.ropn p6)
        clear PO p6
        go_wp2_with fail
        refine RO.out.mono ?_
        rintro e w7 ⟨g7, rfl, p7, _⟩
        have sh7 : Hid (Sh22 (d.crash kept).recs) := Sh22.recs p7.ok.1
        replace p7 := Lib.hid p7
        clear RO
        go_wp2_with fail
        go_meet
        exact ⟨rfl, g6, g7, _, _, rfl, rfl, p7.out, sh7.out⟩
      by_cases h02 : od = 0 ∨ od = 1 ∨ od = 2
      · have F25 : Hid (∀ s, Ot (fun i => i ≠ r7) u.drew s → s.cell? ⟨r7, 2, none⟩ = some (.slice oA ob.length oc)) := fun s e =>
          (T7.out s (e.block (k7.out.ext (Ext.refl u).drew) (fun q => q rfl))).2.2.1
        have KO : Hid (∀ a b, Kt r a b → Cb a r7 40 OCC → Ot (fun i => i ≠ r7) a b) := fun a b k q => k.ot fun i hi hn => by
          obtain rfl : i = r7 := Classical.not_not.1 hn
          exact ⟨_, _, q, rlt.symm, by decide, by decide, by decide, by decide, by decide, by decide, by decide⟩
        have AP := Lib.hid ((pj.out.ext (Ext.refl u).drew).append sh.out.1 hb.out (by omega))
        have k8 : Hid (Cb u.drew r7 40 OCC) := k7.out.ext (Ext.refl u).drew
        have shJ := Lib.hid (sh.out.jL ok.out ob)
        have L64 := sh.out.1
        obtain ⟨ee, hee⟩ : ∃ q, q = d.jE L.length ob := ⟨_, rfl⟩
        rw [← hee] at AP
        replace hee := Lib.hid hee
        clear T7 h3 h4 c1 c3
        rcases h02 with rfl | rfl | rfl
        all_goals (
          go_upto_region 25 with fail
          clear c0 c2
          refine qgR (R := Ot (fun i => i ≠ r7)) (Ot.refl _) (fun _ _ _ => Ot.trans) [0, 1, 2, 4, 5, 6, 3, 7, 8, 9] [3, 7] ?_
          generalize u.drew = W at *
          repeat ((first | refine qR _ (fun w' e => F25.out w' e) ?_ | refine qS ?_); go_frame)
          refine qD fun K hK => ?_
          go_simp
          refine AP.out.mono ?_
          rintro e w4 ⟨rfl, p4, t4⟩
          refine hK.out _ _ (KO.out _ _ t4 k8.out) ?_
          clear hK K
          try go_frame
          have k84 := KT.out _ _ t4 k8.out
          have RA := Lib.hid (p4.rappend L64 hb.out)
          rw [← hee.out] at RA
          clear F25 AP t4 p4
          repeat ((first | refine qR0 ?_ | refine qS ?_); go_frame)
          refine qD fun K hK => ?_
          go_simp
          refine RA.out.mono ?_
          rintro e w5 ⟨rfl, p5, t5⟩
          refine hK.out _ _ (KO.out _ _ t5 k84) ?_
          clear hK K
          try go_frame
          replace p5 := Lib.hid p5
          clear RA t5 k84
          repeat ((first | refine qR0 ?_ | refine qS ?_); go_frame)
          refine seq_done ?_
          go_wp2_with fail
          go_meet
          exact ⟨by first | rfl | simp, g, g', _, _, rfl, rfl, p5.out, shJ.out⟩)
      · have v01 : (od == 3) = false := beq_eq_false_iff_ne.2 h3
        have v02 : (od == 4) = false := beq_eq_false_iff_ne.2 h4
        have v03 : (od == 0) = false := beq_eq_false_iff_ne.2 fun q => h02 (.inl q)
        have v04 : (od == 1) = false := beq_eq_false_iff_ne.2 fun q => h02 (.inr (.inl q))
        have v05 : (od == 2) = false := beq_eq_false_iff_ne.2 fun q => h02 (.inr (.inr q))
        have hzs : Hid (zS64.toArray.size = 64) := by unfold Hid; rw [List.size_toArray, zS64_len]
        obtain ⟨r17, hr17⟩ : ∃ q, q = u.heap.size := ⟨_, rfl⟩
        have ZL : Hid (zS64 = cellsOf (laidL (ob.take 64) 0)) := by unfold laidL; rfl
        have K0 : Hid (Cb (u.alloc (.cells zS64.toArray 45)) r17 45 (cellsOf (laidL (ob.take 64) 0)) ∧ Ext u (u.alloc (.cells zS64.toArray 45))) := by
          rw [hr17, ← ZL.out]; exact ⟨Cb.new _ _ _, (Ext.refl u).alloc _⟩
        clear h3 h4 h02 c1 c3 ok
        have rlt2 : r ≠ r17 := fun q => by have := pj.out.ok.2; omega
        have hd64 : ∀ k, k < 64 → (ob.take 64).getD k 0 = ob.getD k 0 := fun k hk => by
          rw [List.getD_eq_getElem?_getD, List.getD_eq_getElem?_getD, List.getElem?_take, if_pos hk]
        have hl64 : (ob.take 64).length ≤ 64 := by rw [List.length_take]; omega
        have hl65 : ∀ k, k < ob.length → k < 64 → k < (ob.take 64).length := fun k h1 h2 => by rw [List.length_take]; omega
        go_upto_region 17 with fail
        refine wp_gen (fun W => Cb W r17 45 (cellsOf (laidL (ob.take 64) 0)) ∧ Ext u W) K0.out ?_
        rw [← hr17]
        have ur17 : u.heap.size ≤ r17 := Nat.le_of_eq hr17.symm
        replace hr17 := Lib.hid hr17
        clear K0 ZL c0 c2
        rintro w4 ⟨k17, x4⟩
        go_wp2_with fail
        go_loopw [18] (fun v wr => ∃ k : Nat, k ≤ 64 ∧ k ≤ ob.length ∧ v = .int .i64 (k : Int) ∧ Cb wr r17 45 (cellsOf (laidL (ob.take 64) k)) ∧ Ext u wr) (fun v _ => 64 - (intOf v).toNat)
        case atStart => exact ⟨0, Nat.zero_le _, Nat.zero_le _, rfl, k17, x4⟩
        case round =>
          clear k17 x4
          obtain ⟨k, hk64, hkl, rfl, k17, x4⟩ := hrel
          have c2 := (T7.out wr (k7.out.ext x4)).2.2.1
          by_cases hk12 : k < ob.length ∧ k < 64
          · obtain ⟨hk1, hk2⟩ := hk12
            have l1 : decide ((k : Int) < (ob.length : Int)) = true := decide_eq_true (by omega)
            have l2 : decide ((k : Int) < 64) = true := decide_eq_true (by omega)
            obtain ⟨bb, ff, hA, hbb, hc⟩ := hb.out.pos (by omega)
            have cj := (pj.out.ex.trans x4).cell (p := ⟨bb, ff + k, none⟩) hbb |>.trans (hc k hk1)
            have LL := laidL_len (h := ob.take 64) (k := k) (Nat.le_of_lt (hl65 k hk1 hk2)) hl64
            have cc := k17.cell (j := k) (v := .int .u8 (bt (laidL (ob.take 64) k) k : Int)) (by rw [cellsOf_get (by omega)])
            have ff1 := k17.frozen k
            have lk : (k : Int) < 64 := by omega
            have F : Hid (Cb (wr.setCell ⟨r17, k, none⟩ (.int .u8 (bt ob k : Int))) r17 45 (cellsOf (laidL (ob.take 64) (k + 1))) ∧ Ext u (wr.setCell ⟨r17, k, none⟩ (.int .u8 (bt ob k : Int)))) := by
              have g := gr_cell22 wr r17 k (.int .u8 (bt ob k : Int))
              refine ⟨?_, Ot.ext (p := fun i => i = r17) x4 (Ot.of_grown g rfl) (fun i q => by omega)⟩
              have := k17.setCell (o := k) (v := .int .u8 (bt ob k : Int))
              rw [show (bt ob k : Int) = ((ob.getD k 0).toNat : Int) from rfl, ← hd64 k hk2, cells_set22 (by omega), laidL_set (hl65 k hk1 hk2) hl64, hd64 k hk2] at this
              exact this
            subst hA
            clear k17 x4 hc
            generalize bt ob k = v at *
            generalize bt (laidL (ob.take 64) k) k = v0 at *
            go_wp2_with fail
            go_roundw
            case rel => exact ⟨k + 1, by omega, by omega, by go_num, F.out⟩
            case measure => simp [intOf]; omega
          · have hcase : (decide ((k : Int) < (ob.length : Int)) = false ∧ ¬ k < ob.length) ∨ (decide ((k : Int) < (ob.length : Int)) = true ∧ k < ob.length ∧ decide ((k : Int) < 64) = false) := by
              by_cases q : k < ob.length
              · exact .inr ⟨decide_eq_true (by omega), q, decide_eq_false (by omega)⟩
              · exact .inl ⟨decide_eq_false (by omega), q⟩
            have LX : (laidL (ob.take 64) k).length = 64 := laidL_len (by rw [List.length_take]; omega) hl64
            obtain ⟨xs, hxs⟩ : ∃ q, q = laidL (ob.take 64) k := ⟨_, rfl⟩
            rw [← hxs] at LX k17
            have px := pj.out.ext x4.drew
            obtain ⟨CA, hCA⟩ : ∃ q, q = (cellsOf xs).toArray := ⟨_, rfl⟩
            have S_s : Hid (CA.size = 64) := by unfold Hid; rw [hCA]; simp [cellsOf_len, LX]
            have k7x : Cb wr.drew r7 40 OCC := k7.out.ext x4.drew
            have k17x : Cb wr.drew r17 45 (cellsOf xs) := k17.ext (Ext.refl wr).drew
            have F21 : Hid (∀ s, Ot (fun i => i ≠ r7 ∧ i ≠ r17) wr.drew s → s.cell? ⟨r7, 1, none⟩ = some (.int .i64 oi) ∧ s.heap[r17]? = some (.cells CA 45 (0, 0))) := fun s e =>
              ⟨(T7.out s (e.block k7x (fun q => q.1 rfl))).2.1, by rw [hCA]; exact e.block k17x (fun q => q.2 rfl)⟩
            have KO : Hid (∀ a b, Kt r a b → Cb a r7 40 OCC → Cb a r17 45 (cellsOf xs) → Ot (fun i => i ≠ r7 ∧ i ≠ r17) a b ∧ Cb b r7 40 OCC ∧ Cb b r17 45 (cellsOf xs)) := fun a b k q q2 => by
              have o1 : Ot (fun i => i ≠ r7 ∧ i ≠ r17) a b := k.ot fun i hi hn => by
                by_cases z : i = r7
                · subst z
                  exact ⟨_, _, q, rlt.symm, by decide, by decide, by decide, by decide, by decide, by decide, by decide⟩
                · obtain rfl : i = r17 := Classical.not_not.1 fun z2 => hn ⟨z, z2⟩
                  exact ⟨_, _, q2, rlt2.symm, by decide, by decide, by decide, by decide, by decide, by decide, by decide⟩
              exact ⟨o1, o1.block q (fun z => z.1 rfl), o1.block q2 (fun z => z.2 rfl)⟩
            have WR := px.write (i := oi) LX
            rw [← hCA] at WR
            replace k7x := Lib.hid k7x
            replace k17x := Lib.hid k17x
            have c2 := (T7.out wr (k7.out.ext x4)).2.2.1
            obtain ⟨ee, hee⟩ : ∃ q, q = d.writeE oi := ⟨_, rfl⟩
            rw [← hee] at WR
            replace hee := Lib.hid hee
            replace WR := Lib.hid WR
            clear hb k17 px hl64 hl65 hd64 k7 pj KT
            replace hxs := Lib.hid hxs
            replace hCA := Lib.hid hCA
            replace x4 := Lib.hid x4
            rcases hcase with ⟨l1, l3⟩ | ⟨l1, l3, l2⟩
            all_goals (
              go_upto_region 21 with fail
              clear c2
              refine qgR (R := Ot (fun i => i ≠ r7 ∧ i ≠ r17)) (Ot.refl _) (fun _ _ _ => Ot.trans) [0, 1, 2, 3, 5, 6, 7, 8, 4, 9, 10, 11] [4, 9] ?_
              generalize wr.drew = W at *
              iterate 3 ((first | refine qR _ (fun w' e => (F21.out w' e).1) ?_ | refine qS ?_); go_frame)
              refine qV rfl (fun w' => w'.heap[r17]? = some (.cells CA 45 (0, 0))) (fun w' e => (F21.out w' e).2) (.agg CA) (fun w' hF => exec_load_row rfl rfl hF rfl rfl (by rw [S_s.out]; rfl)) ?_
              go_frame
              iterate 3 ((first | refine qR _ (fun w' e => (F21.out w' e).1) ?_ | refine qS ?_); go_frame)
              refine qV rfl (fun w' => w'.heap[r17]? = some (.cells CA 45 (0, 0))) (fun w' e => (F21.out w' e).2) (.agg CA) (fun w' hF => exec_load_row rfl rfl hF rfl rfl (by rw [S_s.out]; rfl)) ?_
              go_frame
              refine qD fun K hK => ?_
              go_simp
              refine WR.out.mono ?_
              rintro e w5 ⟨rfl, p5, t5⟩
              obtain ⟨o5, k75, k175⟩ := KO.out _ _ t5 k7x.out k17x.out
              refine hK.out _ _ o5 ?_
              clear hK K
              try go_frame
              have RW := p5.rwrite (i := oi) LX
              rw [← hCA.out, ← hee.out] at RW
              replace RW := Lib.hid RW
              clear F21 WR t5 p5 o5
              repeat ((first | refine qR0 ?_ | refine qS ?_); go_frame)
              refine qD fun K hK => ?_
              go_simp
              refine RW.out.mono ?_
              rintro e w6 ⟨rfl, p6, t6⟩
              obtain ⟨o6, k76, k176⟩ := KO.out _ _ t6 k75 k175
              refine hK.out _ _ o6 ?_
              clear hK K
              try go_frame
              replace p6 := Lib.hid p6
              clear RW t6 o6 k75 k175 k76 k176
              repeat ((first | refine qR0 ?_ | refine qS ?_); go_frame)
              refine seq_done ?_
              go_wp2_with fail
              go_meet
              exact ⟨by first | rfl | simp, g, g', _, _, rfl, rfl, p6.out, sh.out⟩)
    case rest =>
      obtain ⟨rfl, g2, g2', d2, L2, rfl, rfl, p2, sh2⟩ := hcut
      obtain ⟨B2, R2, D2, cc2, js⟩ := p2.js
      obtain ⟨D3, cc3, RC⟩ := p2.rcells
      have hL2 := sh2.1
      have AL := Lib.hid (lall_calls (js.ext (Ext.refl wc).drew) (by omega) (fun k hk => Nat.le_trans (sh2.2 k hk) (by decide)))
      have JL : Hid (∀ s, Ext wc s → Calls Try.prog 26 #[.pointer (some ⟨g2, 0, none⟩)] s fun e w' => e = .returned (.int .i64 (L2.length : Int)) ∧ w' = s) := fun s x => jlen_calls (js.ext x)
      have RC36 : Hid (∀ s, Ext wc.drew s → s.cell? ⟨g2', 1, none⟩ = some (.slice D3 L2.length cc3) ∧ Rw s D3 L2.length cc3 L2) := fun s x => RC s ((Ext.refl wc).drew.trans x)
      have X36 : Hid (Ext wc wc.drew) := (Ext.refl wc).drew
      replace RC := Lib.hid RC
      replace p2 := Lib.hid p2
      replace sh2 := Lib.hid sh2
      clear js pj sh T7 k7 hb ok KT c0 c1 c2 c3 u2 bl bc rlt hoi hk
      go_upto_region 36 with fail
      refine qgE [0, 2, 3, 4, 5, 1, 6, 7] [1, 6] ?_
      generalize wc.drew = W at *
      repeat ((first | refine qR _ (fun w' e => (RC36.out w' e).1) ?_ | refine qS ?_); go_frame)
      refine qD fun K hK => ?_
      go_simp
      refine AL.out.mono ?_
      rintro e w4 ⟨Dg, cg, rfl, og, x4⟩
      refine hK.out _ _ x4 ?_
      clear hK K
      try go_frame
      have SR := sameRows_calls og.rw (RC36.out w4 x4).2
      rw [decide_eq_true rfl] at SR
      replace SR := Lib.hid SR
      have X4 : Hid (Ext wc w4) := X36.out.trans x4
      clear AL RC36 X36 og x4
      repeat ((first | refine qR0 ?_ | refine qS ?_); go_frame)
      refine qD fun K hK => ?_
      go_simp
      refine SR.out.mono ?_
      rintro e w5 ⟨rfl, x5⟩
      refine hK.out _ _ x5 ?_
      clear hK K
      try go_frame
      have RC5 : Hid (∀ s, Ext w5.drew s → s.cell? ⟨g2', 1, none⟩ = some (.slice D3 L2.length cc3)) := fun s x => (RC.out s ((X4.out.trans x5).drew.trans x)).1
      have X5 : Hid (Ext wc w5.drew) := (X4.out.trans x5).drew
      clear SR X4 x5 RC
      repeat ((first | refine qR0 ?_ | refine qS ?_); go_frame)
      refine seq_done ?_
      go_upto_region 37 with fail
      refine qgE [0, 1, 2, 3, 4, 5, 6, 7, 9, 10, 11, 12, 13, 8, 14, 15] [8] ?_
      generalize w5.drew = V at *
      repeat ((first | refine qR _ (fun w' e => RC5.out w' e) ?_ | refine qS ?_); go_frame)
      refine qD fun K hK => ?_
      go_simp
      refine (JL.out _ X5.out).mono ?_
      rintro e w6 ⟨rfl, rfl⟩
      refine hK.out _ _ (Ext.refl _) ?_
      clear hK K
      try go_frame
      clear RC5 JL
      repeat ((first | refine qR0 ?_ | refine qS ?_); go_frame)
      refine seq_done ?_
      have p6 := Lib.hid (p2.out.ext X5.out)
      clear p2 X5
      go_wp2_with fail
      go_round
      case rel => exact ⟨i + 1, g2, g2', d2, L2, by omega, by omega, by go_num, rfl, rfl, p6.out, sh2.out⟩
      case measure => simp [intOf]; omega
end Go.Proofs.Yteaoacinhdjkeaa
