import Derived.Test.YtbnjmmefnjoofaaDoorPkG
import Derived.Test.YtbnjmmefnjoofaaDoorPkL
/-
  The document's 'into': a block goes into the words.
-/
namespace Go.Proofs.YtbnjmmefnjoofaaDoor
open Go.ChangeShapes Go.WideShapes Go.ChangeAt Go.RowKit Go.Deep

def RetWs (vs : List Nat) (w : World) (e : Ending) (w' : World) : Prop := ∃ A c, e = .returned (.slice A vs.length c) ∧ Ws w' A vs.length vs ∧ Ext w w'
theorem wordsL_wd {xs : List UInt8} {n j : Nat} (h : j < n) : wd (wordsL xs n) j = wordAt xs j := by simp [wd, wordsL, List.getD, h]
theorem endV_wd {hs V : List Nat} {j : Nat} (h : j < 8) : wd (endV hs V) j = wd hs j ^^^ (wd V j ^^^ wd V (j + 8)) := by simp [wd, endV, List.getD, h]

set_option maxRecDepth 100000 in
set_option maxHeartbeats 8000000 in
theorem refInto_calls {A B : Option Addr} {c cb t : Nat} {hs : List Nat} {xs : List UInt8} {last : Bool} {w : World} (hh : Ws w A 8 hs) (hx : Bs w B 64 cb xs) (ht : t < 4294967296000000) (hb : Lt32 hs) :
    Calls Tryd.prog 97 #[.slice A 8 c, .slice B 64 cb, .int .i64 (t : Int), .bool last] w (RetWs (compL hs xs t last) w) := by
  have hl := hh.1
  replace hh := Lib.hid hh
  have hxl := hx.len
  have hc1 := hx.le
  have hc2 := hx.cap
  replace hx := Lib.hid hx
  replace hb := Lib.hid hb
  have CL := compL_len hs xs t last
  have CD : Hid (compL hs xs t last = endV hs (roundsV (wordsL xs 16) (startV hs t last) 10)) := rfl
  unfold RetWs
  rw [CL]
  generalize compL hs xs t last = R at *
  go_enter Tryd.func97, Tryd.ntmps97
  go_wp2_with (at_builtin; (with_reducible refine wpList_append_ws rfl (B := w.heap.size) (s := .tmp 17) (x := .tmp 18) rfl rfl rfl (OwnW.empty w _ (Nat.le_refl _)) (hh.out.ext ((Ext.refl _).alloc _)) (by omega) (by simp) ?_); intro A1 c1 w1 o1 g1 b1; simp only [Nat.zero_add, List.nil_append] at o1 ⊢; replace o1 := Lib.hid o1; have e1 : Hid (Ext w w1) := Below.trans ((Ext.refl w).alloc _) b1; clear g1 b1; go_frame)
  refine refFirst_calls.mono ?_
  rintro e w2 ⟨rfl, r2, e2⟩
  have f2 := Lib.hid (Ws.of_wr r2 (show initL.length = 8 from rfl))
  have o2 := Lib.hid (o1.out.ext e2)
  have E2 : Hid (Ext w w2) := e1.out.trans e2
  clear o1 e1 r2 e2
  go_upto_region 2 with (at_builtin; (with_reducible refine wpList_append_ws rfl (B := w.heap.size) (s := .tmp 19) (x := .tmp 20) rfl rfl rfl o2.out f2.out (by omega) E2.out.size ?_); intro A3 c3 w3 o3 g3 b3; simp only [Nat.reduceAdd] at o3 ⊢; replace o3 := Lib.hid o3; replace b3 := Lib.hid b3; clear g3; go_frame)
  have I0 := hb.out.append init_lt
  obtain ⟨gv, rfl, hgv, av⟩ := o3.out.arr (by omega) (fun i _ => I0 i)
  have E3 : Ext w w3 := Below.trans E2.out b3.out
  refine wp_gen (fun W => Ext w W ∧ Arr W gv (hs ++ initL)) ⟨E3, av⟩ ?_
  clear E2 o2 f2 o3 b3 av E3
  rintro W ⟨E0, AV⟩
  have vl : (hs ++ initL).length = 16 := by rw [List.length_append, hl]; rfl
  obtain ⟨v0, hv0⟩ : ∃ v0, v0 = hs ++ initL := ⟨_, rfl⟩
  have hS : ∀ last, startV hs t last = bif last then ((v0.set 12 (wd v0 12 ^^^ t % 4294967296)).set 13 (wd v0 13 ^^^ t / 4294967296)).set 14 (4294967295 ^^^ wd v0 14) else (v0.set 12 (wd v0 12 ^^^ t % 4294967296)).set 13 (wd v0 13 ^^^ t / 4294967296) := fun last => by
    subst hv0; rfl
  rw [← hv0] at AV vl
  rw [← hv0] at I0
  replace hS := Lib.hid hS
  replace hv0 := Lib.hid hv0
  have l12 := I0 12
  have l13 := I0 13
  have l14 := I0 14
  have x12 : bits .xor .u32 (wd v0 12 : Int) ((t : Int) % 4294967296) = ((wd v0 12 ^^^ t % 4294967296 : Nat) : Int) := by
    rw [show (t : Int) % 4294967296 = ((t % 4294967296 : Nat) : Int) by omega]
    exact u32_xor_nat _ _ l12 (Nat.mod_lt _ (by decide))
  have x13 : bits .xor .u32 (wd v0 13 : Int) ((t : Int) / 4294967296) = ((wd v0 13 ^^^ t / 4294967296 : Nat) : Int) := by
    rw [show (t : Int) / 4294967296 = ((t / 4294967296 : Nat) : Int) by omega]
    exact u32_xor_nat _ _ l13 (by omega)
  have x14 : bits .xor .u32 IntKind.u32.max (wd v0 14 : Int) = ((4294967295 ^^^ wd v0 14 : Nat) : Int) := u32_xor_nat 4294967295 _ (by decide) l14
  have m1 : (t : Int) / 4294967296 < 4294967296 := by omega
  have SL : Hid (∀ last, Lt32 (startV hs t last)) := fun last => hb.out.start (by omega) last
  have SN : Hid (∀ last, (startV hs t last).length = 16) := fun last => startV_len hl
  replace I0 := Lib.hid I0
  obtain ⟨c12, f12, _⟩ := AV.2 12 (by omega)
  obtain ⟨c13, f13, _⟩ := AV.2 13 (by omega)
  go_upto_if 40 with (fail)
  have B12 : wd v0 12 ^^^ t % 4294967296 < 4294967296 := xor_lt32 l12 (Nat.mod_lt t (by decide))
  have B13 : wd v0 13 ^^^ t / 4294967296 < 4294967296 := xor_lt32 l13 (by omega)
  refine wp_gen (fun W' => Ext w W' ∧ Arr W' gv (startV hs t false)) ⟨(E0.setCell hgv _).setCell hgv _, by rw [hS.out]; exact (AV.set (by omega) B12).set (by rw [List.length_set]; omega) B13⟩ ?_
  have hT : Hid (startV hs t true = (startV hs t false).set 14 (4294967295 ^^^ wd (startV hs t false) 14)) := by
    have h9 : wd (startV hs t false) 14 = wd v0 14 := by
      rw [hS.out]
      simp only [cond_false]
      rw [wd_set (by rw [List.length_set]; omega), if_neg (by omega), wd_set (by omega), if_neg (by omega)]
    unfold Hid
    rw [h9, hS.out, hS.out]
    rfl
  clear AV E0 c12 f12 c13 f13 x12 x13 x14 l12 l13 l14 B12 B13 m1 vl I0 hS hv0
  clear W
  rintro W ⟨E0, AV⟩
  go_cut [40] (fun _ wx => Ext w wx ∧ Arr wx gv (startV hs t last))
  case first =>
    have l14 := (SL.out false) 14
    have vl := SN.out false
    generalize hv2 : startV hs t false = v2 at *
    replace hv2 := Lib.hid hv2
    cases last
    · replace AV := Lib.hid AV
      replace E0 := Lib.hid E0
      go_wp2_with fail
      go_meet
      exact ⟨E0.out, by rw [hv2.out]; exact AV.out⟩
    · have x14 : bits .xor .u32 IntKind.u32.max (wd v2 14 : Int) = ((4294967295 ^^^ wd v2 14 : Nat) : Int) := u32_xor_nat 4294967295 _ (by decide) l14
      have B14 : Hid (4294967295 ^^^ wd v2 14 < 4294967296) := xor_lt32 (by decide) l14
      obtain ⟨c14, f14, _⟩ := AV.2 14 (by omega)
      replace AV := Lib.hid AV
      replace E0 := Lib.hid E0
      go_wp2_with fail
      go_meet
      exact ⟨E0.out.setCell hgv _, by rw [hT.out]; exact AV.out.set (by omega) B14.out⟩
  case rest =>
    obtain ⟨E1, A1v⟩ := hcut
    have sl := SN.out last
    have sb := Lib.hid (SL.out last)
    generalize hv1 : startV hs t last = v1 at *
    replace hv1 := Lib.hid hv1
    clear E0 AV SL SN hT
    replace A1v := Lib.hid A1v
    replace E1 := Lib.hid E1
    go_wp2_with fail
    go_loopw [10, 11] (fun v i wr => ∃ (k : Nat) (D : Option Addr) (cc : Nat), k ≤ 16 ∧ i = .int .i64 k ∧ v = .slice D k cc ∧ OwnW wc.heap.size wr D k cc ((wordsL xs 16).take k) ∧ Ext wc wr) (fun _ i _ => 16 - (intOf i).toNat)
    case atStart => exact ⟨0, none, 0, Nat.zero_le _, rfl, rfl, OwnW.nil _ _, Ext.refl _⟩
    case round =>
      obtain ⟨k, D, cc, hk, rfl, rfl, ho, he⟩ := hrel
      by_cases hlt : k < 16
      · have TK := Lib.hid (take_wd (vs := wordsL xs 16) (k := k) (by simp [wordsL]; omega))
        rw [wordsL_wd hlt] at TK
        have pl := wordAt_lt xs k
        have hcv : IntKind.u32.wrap (wordAt xs k : Int) = (wordAt xs k : Int) := by rw [IntKind.wrap_u32]; omega
        have HX := Lib.hid (hx.out.ext (E1.out.trans he))
        have OFL : Hid (∀ A', Bs wr A' 4 (cb - 4 * k) ((xs.take (4 * k + 4)).drop (4 * k)) → Calls Tryd.prog 102 #[.slice A' 4 (cb - 4 * k)] wr fun e w' => e = .returned (.int .u64 (wordAt xs k : Int)) ∧ w' = wr) := fun A' b => by
          have h9 := refOfLow_calls (m := 4) b (by omega) (by omega) (by decide)
          have : ((xs.take (4 * k + 4)).drop (4 * k)).take 4 = (xs.drop (4 * k)).take 4 := by
            rw [List.drop_take, List.take_take]
            congr 1
            omega
          rw [this] at h9
          exact h9
        replace ho := Lib.hid ho
        replace he := Lib.hid he
        have hz := he.out.size
        generalize wordAt xs k = pk at *
        obtain ⟨q, hq⟩ : ∃ q, q = 4 * k := ⟨_, rfl⟩
        rw [← hq] at OFL
        have i1 : (4 : Int) * (k : Int) = (q : Int) := by omega
        have q1 : q + 4 ≤ 64 := by omega
        have q2 : q + 4 - q = 4 := by omega
        replace hq := Lib.hid hq
        go_wp2_with ((with_reducible refine wpList_cut2 rfl (x := .tmp 52) (lo := .tmp 54) (hi := .tmp 57) (k := q) (h := q + 4) rfl rfl rfl rfl (by omega) (by omega) q1 hc1 ?_); intro A3 h3; replace h3 := Lib.hid h3; rw [q2] at h3 ⊢; go_frame)
        refine (OFL.out A3 (h3.out _ _ HX.out)).mono ?_
        rintro e w4 ⟨rfl, rfl⟩
        clear OFL h3 i1 q2
        go_wp2_with (at_builtin; (with_reducible refine wpList_append_ws rfl (B := wc.heap.size) (s := .tmp 51) (x := .tmp 61) rfl rfl rfl (ho.out.ext ((Ext.refl _).alloc _)) (Ws.one _ _ _) (by omega) (Nat.le_trans hz (by simp)) ?_); intro A5 c5 w5 o5 g5 b5; replace o5 := Lib.hid o5; replace b5 := Lib.hid b5; clear g5; go_frame)
        refine ⟨⟨k + 1, A5, c5, by omega, by go_num, rfl, ?_, Below.trans (he.out.alloc _) b5.out⟩, by simp [intOf]; omega⟩
        rw [← TK.out]
        exact o5.out
      · obtain rfl : k = 16 := by omega
        rw [show ((16 : Nat) : Int) = 16 from rfl]
        have hm : (wordsL xs 16).take 16 = wordsL xs 16 := List.take_of_length_le (by simp [wordsL])
        rw [hm] at ho
        clear hm
        have HM : (wordsL xs 16).length = 16 := by simp [wordsL]
        have HMb : Hid (∀ j, j < 16 → wd (wordsL xs 16) j < 4294967296) := fun j hj => by
          rw [wordsL_wd hj]; exact wordAt_lt _ _
        generalize hM : wordsL xs 16 = ms at *
        replace hM := Lib.hid hM
        obtain ⟨gm, rfl, hgm, am⟩ := ho.arr (by omega) (fun i hi => HMb.out i hi)
        have am' := Lib.hid (am.ext (Ext.refl _))
        replace am := Lib.hid am
        have avr := Lib.hid (A1v.out.ext he)
        have glt : gv < wc.heap.size := A1v.out.1
        have hhr := Lib.hid (hh.out.ext (E1.out.trans he))
        have Er := Lib.hid (E1.out.trans he)
        clear ho hx am'
        go_wp2_with fail
        refine refRows_calls.mono ?_
        rintro e wB ⟨s0, rfl, hs0, hrw, eB⟩
        have hs9 : wr.heap.size ≤ s0 := hs0
        have z1 := he.size
        have gvm : gm < wr.heap.size := am.out.1
        have ALL : Hid (∀ w', wB.grownBy w' (some gv) → (∀ k, k < 10 → ∀ j, j < 16 → w'.cell? ⟨s0 + k, j, none⟩ = some (.int .i64 (pm k j : Int))) ∧ (∀ j, j < 16 → w'.cell? ⟨gm, j, none⟩ = some (.int .u32 (wd ms j : Int))) ∧ (∀ k, k < 10 → w'.cell? ⟨s0 + 10, k, none⟩ = some (.slice (some ⟨s0 + k, 0, none⟩) 16 16))) := fun w' e => by
          have cc : ∀ (b o : Nat), b < wB.heap.size → b ≠ gv → w'.cell? ⟨b, o, none⟩ = wB.cell? ⟨b, o, none⟩ := fun b o hb hne => by
            unfold World.cell?
            simp only
            rw [e.block b hb (fun q => by injection q with q; exact hne q)]
          have hw := hrw.1
          refine ⟨fun k hk j hj => ?_, fun j hj => ?_, fun k hk => ?_⟩
          · rw [cc _ _ (by omega) (by omega)]; exact (hrw.2 k hk).2 j hj
          · rw [cc _ _ (Nat.lt_of_lt_of_le gvm eB.size) (by omega)]
            exact ((am.out.ext eB).2 j (by rw [HM]; exact hj)).1
          · rw [cc _ _ hw (by omega)]; exact (hrw.2 k hk).1
        have AVB := Lib.hid (avr.out.ext eB)
        have EB := Lib.hid (Er.out.trans eB)
        have HB : True := trivial
        clear eB Er avr hhr hrw hs9 z1 gvm he am E1 A1v hs0 HB
        go_wp2_with fail
        go_loopw [13] (fun i wr => ∃ k : Nat, k ≤ 10 ∧ i = .int .i64 k ∧ wB.grownBy wr (some gv) ∧ Arr wr gv (roundsV ms v1 k)) (fun i _ => 10 - (intOf i).toNat)
        case atStart => exact ⟨0, Nat.zero_le _, rfl, gr_ext (Ext.refl _) _, AVB.out⟩
        case round =>
          obtain ⟨k, hk, rfl, GR, AV⟩ := hrel
          have VL : (roundsV ms v1 k).length = 16 := RVlen sl k
          by_cases hlt : k < 10
          · have HSUC := Lib.hid (roundsV_succ ms v1 k)
            generalize hvk : roundsV ms v1 k = vk at AV VL HSUC
            clear hvk
            have cs := (ALL.out _ GR).2.2 k hlt
            have ik : (k : Int) < 10 := by omega
            go_upto_region 16 with fail
            refine wp_gen (fun W' => wB.grownBy W' (some gv) ∧ Arr W' gv vk) ⟨GR, AV⟩ ?_
            clear GR AV cs
            rintro W ⟨GR, AV⟩
            have lp : (pm k 0 : Int) < 16 := by have := pm_lt k 0; omega
            have lq : (pm k 1 : Int) < 16 := by have := pm_lt k 1; omega
            have KEEP : Hid (∀ w', W.grownBy w' (some gv) → w'.cell? ⟨s0 + k, 0, none⟩ = some (.int .i64 (pm k 0 : Int)) ∧ w'.cell? ⟨s0 + k, 1, none⟩ = some (.int .i64 (pm k 1 : Int)) ∧ w'.cell? ⟨gm, pm k 0, none⟩ = some (.int .u32 (wd ms (pm k 0) : Int)) ∧ w'.cell? ⟨gm, pm k 1, none⟩ = some (.int .u32 (wd ms (pm k 1) : Int))) := fun w' e => ⟨(ALL.out w' (gr_trans GR e)).1 k hlt 0 (by omega), (ALL.out w' (gr_trans GR e)).1 k hlt 1 (by omega), (ALL.out w' (gr_trans GR e)).2.1 _ (pm_lt _ _), (ALL.out w' (gr_trans GR e)).2.1 _ (pm_lt _ _)⟩
            replace GR := Lib.hid GR
            replace AV := Lib.hid AV
            refine qgW gv [0, 1, 2, 3, 4, 5, 6, 7, 8, 9, 10, 11, 12, 13] [13] ?_
            repeat ((first | refine qR _ (fun w' e => KEEP.out w' (gr_trans (gr_ext (Ext.refl _).drew _) e)) ?_ | refine qS ?_); go_frame)
            refine qD fun K hK => ?_
            go_simp
            refine (refMix_calls (AV.out.ext (Ext.refl _).drew) VL (a := 0) (b := 4) (c := 8) (d := 12) (by omega) (by omega) (by omega) (by omega) (HMb.out _ (pm_lt _ _)) (HMb.out _ (pm_lt _ _))).mono ?_
            rintro e w2 ⟨rfl, A2, G2⟩
            refine hK.out _ _ G2 ?_
            clear hK K
            try go_frame
            refine seq_done ?_
            go_wp2_with fail
            refine wp_gen (fun W' => wB.grownBy W' (some gv) ∧ Arr W' gv (mixL vk 0 4 8 12 (wd ms (pm k 0)) (wd ms (pm k 1)))) ⟨gr_trans GR.out (gr_trans (gr_ext (Ext.refl _).drew _) G2), A2⟩ ?_
            clear A2 G2 KEEP GR AV
            clear W
            rintro W ⟨GR, AV⟩
            have VL' := (mixL_len vk 0 4 8 12 (wd ms (pm k 0)) (wd ms (pm k 1))).trans VL
            clear VL
            generalize HV0 : mixL vk 0 4 8 12 (wd ms (pm k 0)) (wd ms (pm k 1)) = u0 at AV VL'
            replace HV0 := Lib.hid HV0
            have VL := VL'
            clear VL' lp lq
            have lp : (pm k 2 : Int) < 16 := by have := pm_lt k 2; omega
            have lq : (pm k 3 : Int) < 16 := by have := pm_lt k 3; omega
            have KEEP : Hid (∀ w', W.grownBy w' (some gv) → w'.cell? ⟨s0 + k, 2, none⟩ = some (.int .i64 (pm k 2 : Int)) ∧ w'.cell? ⟨s0 + k, 3, none⟩ = some (.int .i64 (pm k 3 : Int)) ∧ w'.cell? ⟨gm, pm k 2, none⟩ = some (.int .u32 (wd ms (pm k 2) : Int)) ∧ w'.cell? ⟨gm, pm k 3, none⟩ = some (.int .u32 (wd ms (pm k 3) : Int))) := fun w' e => ⟨(ALL.out w' (gr_trans GR e)).1 k hlt 2 (by omega), (ALL.out w' (gr_trans GR e)).1 k hlt 3 (by omega), (ALL.out w' (gr_trans GR e)).2.1 _ (pm_lt _ _), (ALL.out w' (gr_trans GR e)).2.1 _ (pm_lt _ _)⟩
            replace GR := Lib.hid GR
            replace AV := Lib.hid AV
            refine qgW gv [0, 1, 2, 3, 4, 5, 6, 7, 8, 9, 10, 11, 12, 13] [13] ?_
            repeat ((first | refine qR _ (fun w' e => KEEP.out w' (gr_trans (gr_ext (Ext.refl _).drew _) e)) ?_ | refine qS ?_); go_frame)
            refine qD fun K hK => ?_
            go_simp
            refine (refMix_calls (AV.out.ext (Ext.refl _).drew) VL (a := 1) (b := 5) (c := 9) (d := 13) (by omega) (by omega) (by omega) (by omega) (HMb.out _ (pm_lt _ _)) (HMb.out _ (pm_lt _ _))).mono ?_
            rintro e w2 ⟨rfl, A2, G2⟩
            refine hK.out _ _ G2 ?_
            clear hK K
            try go_frame
            refine seq_done ?_
            go_wp2_with fail
            refine wp_gen (fun W' => wB.grownBy W' (some gv) ∧ Arr W' gv (mixL u0 1 5 9 13 (wd ms (pm k 2)) (wd ms (pm k 3)))) ⟨gr_trans GR.out (gr_trans (gr_ext (Ext.refl _).drew _) G2), A2⟩ ?_
            clear A2 G2 KEEP GR AV
            clear W
            rintro W ⟨GR, AV⟩
            have VL' := (mixL_len u0 1 5 9 13 (wd ms (pm k 2)) (wd ms (pm k 3))).trans VL
            clear VL
            generalize HV1 : mixL u0 1 5 9 13 (wd ms (pm k 2)) (wd ms (pm k 3)) = u1 at AV VL'
            replace HV1 := Lib.hid HV1
            have VL := VL'
            clear VL' lp lq
            have lp : (pm k 4 : Int) < 16 := by have := pm_lt k 4; omega
            have lq : (pm k 5 : Int) < 16 := by have := pm_lt k 5; omega
            have KEEP : Hid (∀ w', W.grownBy w' (some gv) → w'.cell? ⟨s0 + k, 4, none⟩ = some (.int .i64 (pm k 4 : Int)) ∧ w'.cell? ⟨s0 + k, 5, none⟩ = some (.int .i64 (pm k 5 : Int)) ∧ w'.cell? ⟨gm, pm k 4, none⟩ = some (.int .u32 (wd ms (pm k 4) : Int)) ∧ w'.cell? ⟨gm, pm k 5, none⟩ = some (.int .u32 (wd ms (pm k 5) : Int))) := fun w' e => ⟨(ALL.out w' (gr_trans GR e)).1 k hlt 4 (by omega), (ALL.out w' (gr_trans GR e)).1 k hlt 5 (by omega), (ALL.out w' (gr_trans GR e)).2.1 _ (pm_lt _ _), (ALL.out w' (gr_trans GR e)).2.1 _ (pm_lt _ _)⟩
            replace GR := Lib.hid GR
            replace AV := Lib.hid AV
            refine qgW gv [0, 1, 2, 3, 4, 5, 6, 7, 8, 9, 10, 11, 12, 13] [13] ?_
            repeat ((first | refine qR _ (fun w' e => KEEP.out w' (gr_trans (gr_ext (Ext.refl _).drew _) e)) ?_ | refine qS ?_); go_frame)
            refine qD fun K hK => ?_
            go_simp
            refine (refMix_calls (AV.out.ext (Ext.refl _).drew) VL (a := 2) (b := 6) (c := 10) (d := 14) (by omega) (by omega) (by omega) (by omega) (HMb.out _ (pm_lt _ _)) (HMb.out _ (pm_lt _ _))).mono ?_
            rintro e w2 ⟨rfl, A2, G2⟩
            refine hK.out _ _ G2 ?_
            clear hK K
            try go_frame
            refine seq_done ?_
            go_wp2_with fail
            refine wp_gen (fun W' => wB.grownBy W' (some gv) ∧ Arr W' gv (mixL u1 2 6 10 14 (wd ms (pm k 4)) (wd ms (pm k 5)))) ⟨gr_trans GR.out (gr_trans (gr_ext (Ext.refl _).drew _) G2), A2⟩ ?_
            clear A2 G2 KEEP GR AV
            clear W
            rintro W ⟨GR, AV⟩
            have VL' := (mixL_len u1 2 6 10 14 (wd ms (pm k 4)) (wd ms (pm k 5))).trans VL
            clear VL
            generalize HV2 : mixL u1 2 6 10 14 (wd ms (pm k 4)) (wd ms (pm k 5)) = u2 at AV VL'
            replace HV2 := Lib.hid HV2
            have VL := VL'
            clear VL' lp lq
            have lp : (pm k 6 : Int) < 16 := by have := pm_lt k 6; omega
            have lq : (pm k 7 : Int) < 16 := by have := pm_lt k 7; omega
            have KEEP : Hid (∀ w', W.grownBy w' (some gv) → w'.cell? ⟨s0 + k, 6, none⟩ = some (.int .i64 (pm k 6 : Int)) ∧ w'.cell? ⟨s0 + k, 7, none⟩ = some (.int .i64 (pm k 7 : Int)) ∧ w'.cell? ⟨gm, pm k 6, none⟩ = some (.int .u32 (wd ms (pm k 6) : Int)) ∧ w'.cell? ⟨gm, pm k 7, none⟩ = some (.int .u32 (wd ms (pm k 7) : Int))) := fun w' e => ⟨(ALL.out w' (gr_trans GR e)).1 k hlt 6 (by omega), (ALL.out w' (gr_trans GR e)).1 k hlt 7 (by omega), (ALL.out w' (gr_trans GR e)).2.1 _ (pm_lt _ _), (ALL.out w' (gr_trans GR e)).2.1 _ (pm_lt _ _)⟩
            replace GR := Lib.hid GR
            replace AV := Lib.hid AV
            refine qgW gv [0, 1, 2, 3, 4, 5, 6, 7, 8, 9, 10, 11, 12, 13] [13] ?_
            repeat ((first | refine qR _ (fun w' e => KEEP.out w' (gr_trans (gr_ext (Ext.refl _).drew _) e)) ?_ | refine qS ?_); go_frame)
            refine qD fun K hK => ?_
            go_simp
            refine (refMix_calls (AV.out.ext (Ext.refl _).drew) VL (a := 3) (b := 7) (c := 11) (d := 15) (by omega) (by omega) (by omega) (by omega) (HMb.out _ (pm_lt _ _)) (HMb.out _ (pm_lt _ _))).mono ?_
            rintro e w2 ⟨rfl, A2, G2⟩
            refine hK.out _ _ G2 ?_
            clear hK K
            try go_frame
            refine seq_done ?_
            go_wp2_with fail
            refine wp_gen (fun W' => wB.grownBy W' (some gv) ∧ Arr W' gv (mixL u2 3 7 11 15 (wd ms (pm k 6)) (wd ms (pm k 7)))) ⟨gr_trans GR.out (gr_trans (gr_ext (Ext.refl _).drew _) G2), A2⟩ ?_
            clear A2 G2 KEEP GR AV
            clear W
            rintro W ⟨GR, AV⟩
            have VL' := (mixL_len u2 3 7 11 15 (wd ms (pm k 6)) (wd ms (pm k 7))).trans VL
            clear VL
            generalize HV3 : mixL u2 3 7 11 15 (wd ms (pm k 6)) (wd ms (pm k 7)) = u3 at AV VL'
            replace HV3 := Lib.hid HV3
            have VL := VL'
            clear VL' lp lq
            have lp : (pm k 8 : Int) < 16 := by have := pm_lt k 8; omega
            have lq : (pm k 9 : Int) < 16 := by have := pm_lt k 9; omega
            have KEEP : Hid (∀ w', W.grownBy w' (some gv) → w'.cell? ⟨s0 + k, 8, none⟩ = some (.int .i64 (pm k 8 : Int)) ∧ w'.cell? ⟨s0 + k, 9, none⟩ = some (.int .i64 (pm k 9 : Int)) ∧ w'.cell? ⟨gm, pm k 8, none⟩ = some (.int .u32 (wd ms (pm k 8) : Int)) ∧ w'.cell? ⟨gm, pm k 9, none⟩ = some (.int .u32 (wd ms (pm k 9) : Int))) := fun w' e => ⟨(ALL.out w' (gr_trans GR e)).1 k hlt 8 (by omega), (ALL.out w' (gr_trans GR e)).1 k hlt 9 (by omega), (ALL.out w' (gr_trans GR e)).2.1 _ (pm_lt _ _), (ALL.out w' (gr_trans GR e)).2.1 _ (pm_lt _ _)⟩
            replace GR := Lib.hid GR
            replace AV := Lib.hid AV
            refine qgW gv [0, 1, 2, 3, 4, 5, 6, 7, 8, 9, 10, 11, 12, 13] [13] ?_
            repeat ((first | refine qR _ (fun w' e => KEEP.out w' (gr_trans (gr_ext (Ext.refl _).drew _) e)) ?_ | refine qS ?_); go_frame)
            refine qD fun K hK => ?_
            go_simp
            refine (refMix_calls (AV.out.ext (Ext.refl _).drew) VL (a := 0) (b := 5) (c := 10) (d := 15) (by omega) (by omega) (by omega) (by omega) (HMb.out _ (pm_lt _ _)) (HMb.out _ (pm_lt _ _))).mono ?_
            rintro e w2 ⟨rfl, A2, G2⟩
            refine hK.out _ _ G2 ?_
            clear hK K
            try go_frame
            refine seq_done ?_
            go_wp2_with fail
            refine wp_gen (fun W' => wB.grownBy W' (some gv) ∧ Arr W' gv (mixL u3 0 5 10 15 (wd ms (pm k 8)) (wd ms (pm k 9)))) ⟨gr_trans GR.out (gr_trans (gr_ext (Ext.refl _).drew _) G2), A2⟩ ?_
            clear A2 G2 KEEP GR AV
            clear W
            rintro W ⟨GR, AV⟩
            have VL' := (mixL_len u3 0 5 10 15 (wd ms (pm k 8)) (wd ms (pm k 9))).trans VL
            clear VL
            generalize HV4 : mixL u3 0 5 10 15 (wd ms (pm k 8)) (wd ms (pm k 9)) = u4 at AV VL'
            replace HV4 := Lib.hid HV4
            have VL := VL'
            clear VL' lp lq
            have lp : (pm k 10 : Int) < 16 := by have := pm_lt k 10; omega
            have lq : (pm k 11 : Int) < 16 := by have := pm_lt k 11; omega
            have KEEP : Hid (∀ w', W.grownBy w' (some gv) → w'.cell? ⟨s0 + k, 10, none⟩ = some (.int .i64 (pm k 10 : Int)) ∧ w'.cell? ⟨s0 + k, 11, none⟩ = some (.int .i64 (pm k 11 : Int)) ∧ w'.cell? ⟨gm, pm k 10, none⟩ = some (.int .u32 (wd ms (pm k 10) : Int)) ∧ w'.cell? ⟨gm, pm k 11, none⟩ = some (.int .u32 (wd ms (pm k 11) : Int))) := fun w' e => ⟨(ALL.out w' (gr_trans GR e)).1 k hlt 10 (by omega), (ALL.out w' (gr_trans GR e)).1 k hlt 11 (by omega), (ALL.out w' (gr_trans GR e)).2.1 _ (pm_lt _ _), (ALL.out w' (gr_trans GR e)).2.1 _ (pm_lt _ _)⟩
            replace GR := Lib.hid GR
            replace AV := Lib.hid AV
            refine qgW gv [0, 1, 2, 3, 4, 5, 6, 7, 8, 9, 10, 11, 12, 13] [13] ?_
            repeat ((first | refine qR _ (fun w' e => KEEP.out w' (gr_trans (gr_ext (Ext.refl _).drew _) e)) ?_ | refine qS ?_); go_frame)
            refine qD fun K hK => ?_
            go_simp
            refine (refMix_calls (AV.out.ext (Ext.refl _).drew) VL (a := 1) (b := 6) (c := 11) (d := 12) (by omega) (by omega) (by omega) (by omega) (HMb.out _ (pm_lt _ _)) (HMb.out _ (pm_lt _ _))).mono ?_
            rintro e w2 ⟨rfl, A2, G2⟩
            refine hK.out _ _ G2 ?_
            clear hK K
            try go_frame
            refine seq_done ?_
            go_wp2_with fail
            refine wp_gen (fun W' => wB.grownBy W' (some gv) ∧ Arr W' gv (mixL u4 1 6 11 12 (wd ms (pm k 10)) (wd ms (pm k 11)))) ⟨gr_trans GR.out (gr_trans (gr_ext (Ext.refl _).drew _) G2), A2⟩ ?_
            clear A2 G2 KEEP GR AV
            clear W
            rintro W ⟨GR, AV⟩
            have VL' := (mixL_len u4 1 6 11 12 (wd ms (pm k 10)) (wd ms (pm k 11))).trans VL
            clear VL
            generalize HV5 : mixL u4 1 6 11 12 (wd ms (pm k 10)) (wd ms (pm k 11)) = u5 at AV VL'
            replace HV5 := Lib.hid HV5
            have VL := VL'
            clear VL' lp lq
            have lp : (pm k 12 : Int) < 16 := by have := pm_lt k 12; omega
            have lq : (pm k 13 : Int) < 16 := by have := pm_lt k 13; omega
            have KEEP : Hid (∀ w', W.grownBy w' (some gv) → w'.cell? ⟨s0 + k, 12, none⟩ = some (.int .i64 (pm k 12 : Int)) ∧ w'.cell? ⟨s0 + k, 13, none⟩ = some (.int .i64 (pm k 13 : Int)) ∧ w'.cell? ⟨gm, pm k 12, none⟩ = some (.int .u32 (wd ms (pm k 12) : Int)) ∧ w'.cell? ⟨gm, pm k 13, none⟩ = some (.int .u32 (wd ms (pm k 13) : Int))) := fun w' e => ⟨(ALL.out w' (gr_trans GR e)).1 k hlt 12 (by omega), (ALL.out w' (gr_trans GR e)).1 k hlt 13 (by omega), (ALL.out w' (gr_trans GR e)).2.1 _ (pm_lt _ _), (ALL.out w' (gr_trans GR e)).2.1 _ (pm_lt _ _)⟩
            replace GR := Lib.hid GR
            replace AV := Lib.hid AV
            refine qgW gv [0, 1, 2, 3, 4, 5, 6, 7, 8, 9, 10, 11, 12, 13] [13] ?_
            repeat ((first | refine qR _ (fun w' e => KEEP.out w' (gr_trans (gr_ext (Ext.refl _).drew _) e)) ?_ | refine qS ?_); go_frame)
            refine qD fun K hK => ?_
            go_simp
            refine (refMix_calls (AV.out.ext (Ext.refl _).drew) VL (a := 2) (b := 7) (c := 8) (d := 13) (by omega) (by omega) (by omega) (by omega) (HMb.out _ (pm_lt _ _)) (HMb.out _ (pm_lt _ _))).mono ?_
            rintro e w2 ⟨rfl, A2, G2⟩
            refine hK.out _ _ G2 ?_
            clear hK K
            try go_frame
            refine seq_done ?_
            go_wp2_with fail
            refine wp_gen (fun W' => wB.grownBy W' (some gv) ∧ Arr W' gv (mixL u5 2 7 8 13 (wd ms (pm k 12)) (wd ms (pm k 13)))) ⟨gr_trans GR.out (gr_trans (gr_ext (Ext.refl _).drew _) G2), A2⟩ ?_
            clear A2 G2 KEEP GR AV
            clear W
            rintro W ⟨GR, AV⟩
            have VL' := (mixL_len u5 2 7 8 13 (wd ms (pm k 12)) (wd ms (pm k 13))).trans VL
            clear VL
            generalize HV6 : mixL u5 2 7 8 13 (wd ms (pm k 12)) (wd ms (pm k 13)) = u6 at AV VL'
            replace HV6 := Lib.hid HV6
            have VL := VL'
            clear VL' lp lq
            have lp : (pm k 14 : Int) < 16 := by have := pm_lt k 14; omega
            have lq : (pm k 15 : Int) < 16 := by have := pm_lt k 15; omega
            have KEEP : Hid (∀ w', W.grownBy w' (some gv) → w'.cell? ⟨s0 + k, 14, none⟩ = some (.int .i64 (pm k 14 : Int)) ∧ w'.cell? ⟨s0 + k, 15, none⟩ = some (.int .i64 (pm k 15 : Int)) ∧ w'.cell? ⟨gm, pm k 14, none⟩ = some (.int .u32 (wd ms (pm k 14) : Int)) ∧ w'.cell? ⟨gm, pm k 15, none⟩ = some (.int .u32 (wd ms (pm k 15) : Int))) := fun w' e => ⟨(ALL.out w' (gr_trans GR e)).1 k hlt 14 (by omega), (ALL.out w' (gr_trans GR e)).1 k hlt 15 (by omega), (ALL.out w' (gr_trans GR e)).2.1 _ (pm_lt _ _), (ALL.out w' (gr_trans GR e)).2.1 _ (pm_lt _ _)⟩
            replace GR := Lib.hid GR
            replace AV := Lib.hid AV
            refine qgW gv [0, 1, 2, 3, 4, 5, 6, 7, 8, 9, 10, 11, 12, 13] [13] ?_
            repeat ((first | refine qR _ (fun w' e => KEEP.out w' (gr_trans (gr_ext (Ext.refl _).drew _) e)) ?_ | refine qS ?_); go_frame)
            refine qD fun K hK => ?_
            go_simp
            refine (refMix_calls (AV.out.ext (Ext.refl _).drew) VL (a := 3) (b := 4) (c := 9) (d := 14) (by omega) (by omega) (by omega) (by omega) (HMb.out _ (pm_lt _ _)) (HMb.out _ (pm_lt _ _))).mono ?_
            rintro e w2 ⟨rfl, A2, G2⟩
            refine hK.out _ _ G2 ?_
            clear hK K
            try go_frame
            refine seq_done ?_
            go_wp2_with fail
            have H7 : rowV ms vk k = mixL u6 3 4 9 14 (wd ms (pm k 14)) (wd ms (pm k 15)) := by
              unfold rowV
              simp only []
              rw [HV0.out, HV1.out, HV2.out, HV3.out, HV4.out, HV5.out, HV6.out]
            refine ⟨⟨k + 1, by omega, by go_num, gr_trans GR.out (gr_trans (gr_ext (Ext.refl _).drew _) G2), ?_⟩, by simp [intOf]; omega⟩
            rw [HSUC.out, H7]
            exact A2
          · obtain rfl : k = 10 := by omega
            rw [show ((10 : Nat) : Int) = 10 from rfl]
            have RB : Hid (Lt32 (roundsV ms v1 10)) := sb.out.rounds 10
            have RD : Hid (∀ j, j < 8 → wd R j = wd hs j ^^^ (wd (roundsV ms v1 10) j ^^^ wd (roundsV ms v1 10) (j + 8))) := fun j hj => by rw [CD.out]; exact endV_wd hj
            generalize roundsV ms v1 10 = vs at *
            have E9 : Hid (Ext w wr) := Below.trans EB.out ⟨GR.os, GR.tape, GR.output, GR.size, fun i hi => GR.block i (Nat.lt_of_lt_of_le hi EB.out.size) (fun q => by injection q with q; omega)⟩
            have KP : Hid (∀ w', Ext wr w' → (∀ j, j < 16 → w'.cell? ⟨gv, j, none⟩ = some (.int .u32 (wd vs j : Int))) ∧ Ws w' A 8 hs) := fun w' e => ⟨fun j hj => ((AV.ext e).2 j (by omega)).1, hh.out.ext (E9.out.trans e)⟩
            clear GR AV ALL AVB EB
            obtain ⟨w9, rfl⟩ : ∃ W, W = wr := ⟨_, rfl⟩
            go_wp2_with fail
            go_loopw [15, 16] (fun v i wx => ∃ (k : Nat) (D : Option Addr) (cc : Nat), k ≤ 8 ∧ i = .int .i64 k ∧ v = .slice D k cc ∧ OwnW w9.heap.size wx D k cc (R.take k) ∧ Ext w9 wx) (fun _ i _ => 8 - (intOf i).toNat)
            case atStart => exact ⟨0, none, 0, Nat.zero_le _, rfl, rfl, OwnW.nil _ _, Ext.refl _⟩
            case round =>
              obtain ⟨k, D, cc, hk, rfl, rfl, ho, he⟩ := hrel
              by_cases hlt : k < 8
              · obtain ⟨b, off, rfl, hb2, hc⟩ := (KP.out _ (Ext.refl _)).2.2 (by omega)
                have ch : Hid (∀ w', Ext w9 w' → w'.cell? ⟨b, off + k, none⟩ = some (.int .u32 (wd hs k : Int)) ∧ w'.cell? ⟨gv, k, none⟩ = some (.int .u32 (wd vs k : Int)) ∧ w'.cell? ⟨gv, k + 8, none⟩ = some (.int .u32 (wd vs (k + 8) : Int))) := fun w' e => ⟨(e.cell hb2).trans (hc k hlt), (KP.out _ e).1 k (by omega), (KP.out _ e).1 (k + 8) (by omega)⟩
                have TK := Lib.hid (take_wd (vs := R) (k := k) (by omega))
                rw [RD.out k hlt, ← Nat.xor_assoc] at TK
                have lh := hb.out k
                have lv := RB.out k
                have lw := RB.out (k + 8)
                have x1 : bits .xor .u32 (wd hs k : Int) (wd vs k : Int) = ((wd hs k ^^^ wd vs k : Nat) : Int) := u32_xor_nat _ _ lh lv
                have x2 : bits .xor .u32 ((wd hs k ^^^ wd vs k : Nat) : Int) (wd vs (k + 8) : Int) = ((wd hs k ^^^ wd vs k ^^^ wd vs (k + 8) : Nat) : Int) := u32_xor_nat _ _ (xor_lt32 lh lv) lw
                have i8 : IntKind.i64.wrap ((k : Int) + 8) = (k : Int) + 8 := IntWalk.i64_in _ (by omega)
                have n8 : ((k : Int) + 8).toNat = k + 8 := by omega
                have p8 : (0 : Int) ≤ (k : Int) + 8 := by omega
                have l8 : (k : Int) + 8 < 16 := by omega
                have ik : (k : Int) < 8 := by omega
                have il : (k : Int) < 16 := by omega
                generalize hX1 : wd hs k ^^^ wd vs k = y1 at *
                generalize hX2 : y1 ^^^ wd vs (k + 8) = y2 at *
                replace hX1 := Lib.hid hX1
                replace hX2 := Lib.hid hX2
                replace ho := Lib.hid ho
                replace he := Lib.hid he
                have hz := he.out.size
                clear hc lh lv lw
                go_wp2_with fail
                refine qgB w9.heap.size [0, 1, 2, 3, 4, 5, 6, 7, 8, 9, 10, 11, 12, 13, 14, 15, 16, 17, 18] [16, 17] ?_
                have hd := Lib.hid he.out.drew
                have ho' := Lib.hid (ho.out.ext (Ext.refl wr).drew)
                have hz' : w9.heap.size ≤ wr.drew.heap.size := hz
                clear he ho hz
                generalize wr.drew = WD at *
                repeat ((first | refine qR _ (fun w' e => ch.out w' (Below.trans hd.out e)) ?_ | refine qS ?_); go_frame)
                refine qD fun K hK => ?_
                go_simp
                refine hK.out _ _ ((Below.refl _ _).alloc hz' _) ?_
                clear hK K
                try go_frame
                refine qD fun K hK => ?_
                refine wp_append_ws rfl rfl rfl (ho'.out.ext ((Ext.refl _).alloc _)) (Ws.one _ _ _) (by omega) (Nat.le_trans hz' (by simp)) ?_
                intro A5 c5 w5 o5 g5 b5
                refine hK.out _ _ b5 ?_
                clear hK K
                try go_frame
                repeat ((first | refine qR0 ?_ | refine qS ?_); go_frame)
                refine seq_done ?_
                replace o5 := Lib.hid o5
                have E5 : Hid (Ext w9 w5) := Below.trans (Below.alloc hd.out hz' _) b5
                clear g5 b5 ho' hd ch KP
                go_wp2_with fail
                refine ⟨⟨k + 1, A5, c5, by omega, by go_num, rfl, ?_, E5.out⟩, by simp [intOf]; omega⟩
                rw [← TK.out]
                exact o5.out
              · obtain rfl : k = 8 := by omega
                have hR : R.take 8 = R := List.take_of_length_le (by omega)
                rw [hR] at ho
                have WS := Lib.hid ho.ws
                have EE : Hid (Ext w wr) := E9.out.trans he
                clear ho hR
                go_wp2_with fail
                go_ret
                exact ⟨D, cc, rfl, WS.out, EE.out⟩
end Go.Proofs.YtbnjmmefnjoofaaDoor
