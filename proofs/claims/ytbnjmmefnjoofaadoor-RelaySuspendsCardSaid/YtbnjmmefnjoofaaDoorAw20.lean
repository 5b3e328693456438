/-
  palfreylaw20.awake (written by gen20aw.py).
-/
import Derived.Test.YtbnjmmefnjoofaaDoorSt20
namespace Go.Proofs.YtbnjmmefnjoofaaDoor
open Go.ChangeShapes Go.WideShapes Go.ChangeAt Go.RowKit Go.Deep Go.Maps
set_option maxRecDepth 100000

def kyOne : List UInt8 := [1] ++ List.replicate 31 0
theorem kyOne_built : Tryd.prog.built 23 [(0, .int .u8 1)] = some (cellsOf kyOne).toArray := by kernel_rfl
theorem aw_take : bkTake 5 10 0 5 7 = (0, 7, 4) := by decide
set_option maxHeartbeats 8000000 in
theorem awake20_calls {w : World} {tg : TypeId × Nat × Nat} (hG : Gl w tg) : Calls Tryd.prog 10 #[] w fun e w' => e = .returned (.bool true) ∧ Ext w w' := by
  have hcv := conv_const
  have BG := Lib.hid (fun (W : World) (x : w.heap.size ≤ W.heap.size) => begun20_calls (root := kyOne) (w := W) rfl x)
  have BK := Lib.hid kyOne_built
  have gB : Hid (0 < w.heap.size) := hG.lt
  have GE : Hid (∀ W, Ext w W → Gl W tg) := fun W e => hG.kept e hG.lt
  have LK : Hid (∀ W : World, Calls Tryd.prog 18 #[.int .i64 1] W fun e w' => e = .returned (.agg (cellsOf (linkL ((1 : Nat) : Int))).toArray) ∧ Ext W w') := fun W => link_calls (n := 1)
  have hne := Lib.hid (fun _ : Unit => aw20_mac)
  obtain ⟨tag, htag⟩ : ∃ tag, tag = macL (linkL ((1 : Nat) : Int)) (xvL 1 2 120) := ⟨_, rfl⟩
  rw [← htag] at hne
  have L_tag : tag.length = 32 := by rw [htag]; exact macL_len _ _
  have TGc : Hid (∀ u A, Gl u tg → Bs u A 1 1 [120] → Calls Tryd.prog 23 #[.agg (cellsOf (linkL ((1 : Nat) : Int))).toArray, .agg (xvC 1 2 A).toArray] u fun e w' => e = .returned (.tuple #[.agg (cellsOf tag).toArray, .int .i64 0]) ∧ Ext u w') := fun u A hg hb => by rw [htag]; exact xtag_calls (by omega) (by omega) hb hg
  replace htag := Lib.hid (fun _ : Unit => htag)
  have S_tag : (cellsOf tag).toArray.size = 32 := by simp [cellsOf_len, L_tag]
  have O_tag := cellsOf_one tag
  have hkz : Hid (Tryd.prog.built 23 [] = some (cellsOf zk).toArray) := by have := zeros32_built; rw [← zeros32_cells] at this; exact this
  have hal := key_alloc16
  have S_Z := zeros32_size
  generalize zeros32 = Z at *
  have halE := env_alloc20
  have L_zE := zE_len
  generalize zE = ZE at *
  have S_ZE : ZE.toArray.size = 69 := by rw [List.size_toArray, L_zE]
  have BE := Lib.hid (fun A => xv_built1 A)
  have halS := stamp_alloc16
  have L_ZS := Sm.C_len zSm_ok
  generalize zSm.C = ZS at *
  have S_ZS : ZS.toArray.size = 68 := by rw [List.size_toArray, L_ZS]
  generalize linkL ((1 : Nat) : Int) = lk at LK TGc
  have L_K : kyOne.length = 32 := rfl
  generalize hk1 : kyOne = kone at *
  replace hk1 := Lib.hid (fun _ : Unit => hk1)
  go_enter Tryd.func10, Tryd.ntmps10
  go_wp2_with (first
    | (refine wpList_build_as rfl _ _ rfl (cellsOf kone).toArray (by simp only [List.map_toArray, List.map_cons, List.map_nil]; exact BK.out) ?_; go_frame))
  refine (BG.out w (Nat.le_refl _)).mono ?_
  rintro e w1 ⟨g, f, rfl, r1, bg, hg, x1⟩
  have szb := x1.size
  have EBL : Hid (BsB w.heap.size (w1.alloc (.cells #[.int .u8 120] 5 (1, 2))) (some ⟨w1.heap.size, 0, none⟩) 1 1 [120]) := BsB.boxed8 w1 120 120 rfl (1, 2)
  have XB : Hid (Ext w1 (w1.alloc (.cells #[.int .u8 120] 5 (1, 2)))) := (Ext.refl _).alloc _
  have BEc := Lib.hid (BE.out (some ⟨w1.heap.size, 0, none⟩))
  have L_ev := xvC_len 1 2 (some ⟨w1.heap.size, 0, none⟩)
  have O_ev := xvC_one 1 2 (some ⟨w1.heap.size, 0, none⟩)
  obtain ⟨AA, hAA⟩ : ∃ AA : Option Addr, AA = some ⟨w1.heap.size, 0, none⟩ := ⟨_, rfl⟩
  obtain ⟨ev, hev⟩ : ∃ ev, ev = xvC 1 2 AA := ⟨_, rfl⟩
  rw [← hAA] at EBL BEc L_ev O_ev
  rw [← hev] at BEc L_ev O_ev
  have S_ev : ev.toArray.size = 69 := by rw [List.size_toArray, L_ev]
  replace hev := Lib.hid (fun _ : Unit => hev)
  rw [hAA] at BEc
  obtain ⟨r, hr⟩ : ∃ r, r = w1.heap.size + 1 := ⟨_, rfl⟩
  have sU : (w1.alloc (.cells #[.int .u8 120] 5 (1, 2))).heap.size = r := by rw [hr]; simp
  have k0 : ((w1.alloc (.cells #[.int .u8 120] 5 (1, 2))).alloc (.cells ZE.toArray 37)).heap[r]? = some (.cells ZE.toArray 37 (0, 0)) := by rw [← sU]; exact heap_alloc_new _ _
  have W0 : Hid (Cb (((w1.alloc (.cells #[.int .u8 120] 5 (1, 2))).alloc (.cells ZE.toArray 37)).setRow r ev.toArray) r 37 ev ∧ BsB w.heap.size (((w1.alloc (.cells #[.int .u8 120] 5 (1, 2))).alloc (.cells ZE.toArray 37)).setRow r ev.toArray) AA 1 1 [120] ∧ Ext w1 (((w1.alloc (.cells #[.int .u8 120] 5 (1, 2))).alloc (.cells ZE.toArray 37)).setRow r ev.toArray)) := by
    have x : Ext (w1.alloc (.cells #[.int .u8 120] 5 (1, 2))) (((w1.alloc (.cells #[.int .u8 120] 5 (1, 2))).alloc (.cells ZE.toArray 37)).setRow r ev.toArray) := below_setRow ((Ext.refl _).alloc _) (by rw [sU]; exact Nat.le_refl _) _
    exact ⟨setRow_heap _ _ _ _ _ _ k0, EBL.out.ext x, XB.out.trans x⟩
  replace hAA := Lib.hid (fun _ : Unit => hAA)
  replace r1 := Lib.hid r1
  replace bg := Lib.hid bg
  replace x1 := Lib.hid x1
  clear XB EBL BG BK
  have sU' := hr
  replace hr := Lib.hid (fun _ : Unit => hr)
  go_upto_region 5 with (first
    | (refine wpList_build_as rfl _ _ rfl ev.toArray (by simp only [List.map_toArray, List.map_cons, List.map_nil]; exact BEc.out) ?_; go_frame)
    | (refine wpList_store_row rfl 37 _ _ rfl r ev.toArray (by rw [sU']; rfl) rfl 37 ZE.toArray k0 (by rw [S_ev]; rfl) (by rw [S_ev, S_ZE]) O_ev ?_; simp only [Act.put]))
  refine wp_gen (fun W => Cb W r 37 ev ∧ BsB w.heap.size W AA 1 1 [120] ∧ Ext w1 W) W0.out ?_
  rw [← hr.out ()]
  clear W0 k0 sU sU' BEc BE O_ev hr
  rintro w2 ⟨k2, b2, x2⟩
  have X2 : Hid (Ext w w2) := x1.out.trans x2
  have ry2 : Hid (RY w.heap.size w2 g kone 5 f 0) := r1.out.ext x2
  have ENV : Hid (∀ u, Ext w2 u → Cb u r 37 ev) := fun u x => k2.ext x
  have TG : Hid (∀ u, Ext w2 u → Calls Tryd.prog 23 #[.agg (cellsOf lk).toArray, .agg ev.toArray] u fun e w' => e = .returned (.tuple #[.agg (cellsOf tag).toArray, .int .i64 0]) ∧ Ext u w') := fun u x => by
    rw [hev.out ()]
    exact TGc.out u AA (GE.out u (X2.out.trans x)) (b2.ext x).1
  replace b2 := Lib.hid b2
  clear k2 x2 x1 r1 TGc
  go_cut [3, 4] (fun sP sE wx => ∃ gT : Nat, sP = .pointer (some ⟨gT, 0, none⟩) ∧ sE = .int .i64 0 ∧ Ext w2 wx ∧ Ky wx gT tag ∧ w2.heap.size ≤ gT)
  case first =>
    refine qgT (R := Below w2.heap.size) (Below.refl _) (fun _ _ _ => Below.trans) (.rd 1 (.alt 0 (.alt 2 (.rd 3 (.rd 4 (.rd 5 (.alt 6 (.alt 7 (.rd 8 .nil) .stop) .stop)))) (.alt 6 (.alt 2 (.rd 3 (.rd 4 (.rd 5 (.alt 7 (.rd 8 .nil) .stop)))) .stop) .stop)) (.alt 6 (.alt 0 (.alt 2 (.rd 3 (.rd 4 (.rd 5 (.alt 7 (.rd 8 .nil) .stop)))) .stop) .stop) .stop))) 9 ?_
    refine qtV rfl (fun w' => w'.heap[r]? = some (.cells ev.toArray 37 (0, 0))) (fun w' e => ENV.out w' (Ext.trans (Ext.refl _).drew e)) (.agg ev.toArray) (fun w' hF => exec_load_row rfl rfl hF rfl rfl (by rw [S_ev]; rfl)) ?_
    go_frame
    repeat ((first | refine qtR0 ?_ | refine qtS ?_); go_frame)
    have SE : Hid (Ext w2 w2.drew) := (Ext.refl w2).drew
    generalize w2.drew = WC at *
    repeat' (first
      | exact seqT_stop
      | (refine seqT_do (i := 0) _ rfl ?_ ?_ (fun K1 hK1 => ?_)
         (· rfl)
         rotate_left
         go_simp
         refine (LK.out _).mono ?_
         rintro e0 WC ⟨rfl, e⟩
         refine hK1.out _ _ (e.mono SE.out.size) ?_
         clear hK1 K1
         (try replace hL := Lib.hid ((e.block _ (heap_lt hL.out)).trans hL.out))
         replace SE := Lib.hid (SE.out.trans e)
         clear e
         (try go_frame)
         repeat ((first | refine qtR0 ?_ | refine qtS ?_); go_frame)
         skip)
      | (refine seqT_do (i := 2) _ rfl ?_ ?_ (fun K1 hK1 => ?_)
         (· rfl)
         rotate_left
         go_simp
         refine (TG.out _ SE.out).mono ?_
         rintro e0 WC ⟨rfl, e⟩
         refine hK1.out _ _ (e.mono SE.out.size) ?_
         clear hK1 K1
         (try replace hL := Lib.hid ((e.block _ (heap_lt hL.out)).trans hL.out))
         replace SE := Lib.hid (SE.out.trans e)
         clear e
         (try go_frame)
         repeat ((first | refine qtR0 ?_ | refine qtS ?_); go_frame)
         skip)
      | (refine seqT_do (i := 6) _ rfl ?_ ?_ (fun K1 hK1 => ?_)
         (· rfl)
         rotate_left
         go_simp
         have e : Ext WC (WC.alloc (Obj.cells Z 23)) := (Ext.refl WC).alloc _
         obtain ⟨gT, hgT⟩ : ∃ g, g = WC.heap.size := ⟨_, rfl⟩
         have hL := Lib.hid (heap_alloc_new WC (Obj.cells Z 23))
         rw [← hgT] at hL ⊢
         have zl : w2.heap.size ≤ gT := by rw [hgT]; exact SE.out.size
         refine hK1.out _ (WC.alloc (Obj.cells Z 23)) (e.mono SE.out.size) ?_
         clear hK1 K1
         replace SE := Lib.hid (SE.out.trans e)
         clear e
         replace hgT := Lib.hid hgT
         generalize WC.alloc (Obj.cells Z 23) = WC at *
         (try go_frame)
         repeat ((first | refine qtR0 ?_ | refine qtS ?_); go_frame)
         skip)
      | (refine seqT_do (i := 7) _ rfl ?_ ?_ (fun K1 hK1 => ?_)
         (· rfl)
         rotate_left
         refine wp_store_row _ _ _ rfl gT (cellsOf tag).toArray rfl rfl 23 Z hL.out (by rw [S_tag]; rfl) (by rw [S_tag]; exact S_Z) O_tag ?_
         refine hK1.out _ _ (below_setRow (Below.refl _ _) zl _) ?_
         clear hK1 K1
         replace SE : Hid (Ext w2 (WC.setRow gT (cellsOf tag).toArray)) := below_setRow SE.out zl _
         replace hL : Hid (Ky (WC.setRow gT (cellsOf tag).toArray) gT tag) := ⟨setRow_heap _ _ _ _ _ _ hL.out, L_tag⟩
         generalize WC.setRow gT (cellsOf tag).toArray = WC at *
         (try simp only [Act.put])
         repeat ((first | refine qtR0 ?_ | refine qtS ?_); go_frame)
         skip)
      | (refine seqT_done ?_
         go_wp2_with fail
         go_meet
         exact ⟨gT, rfl, rfl, SE.out, hL.out, zl⟩))
  case rest =>
    obtain ⟨gT, rfl, rfl, x3, kT, zT⟩ := hcut
    have X3 : Hid (Ext w wc) := X2.out.trans x3
    have ry3 : Hid (RY w.heap.size wc g kone 5 f 0) := ry2.out.ext x3
    have k3 := ENV.out wc x3
    have kT1 := kT.1
    obtain ⟨a, ha, na⟩ := bg.out.1 1 (by omega)
    obtain ⟨b, hb, nb⟩ := bg.out.1 2 (by omega)
    have SN := Lib.hid (send_std ry3.out X3.out.size (by omega) (i := 1) (j := 2) ha na.1 hb (by omega) (by omega) (by omega) (b2.out.ext x3) L_tag (now := 7) (by omega) (by omega) (GE.out wc X3.out) gB.out)
    rw [← hev.out ()] at SN
    have b3 : Hid (BsB w.heap.size wc AA 1 1 [120]) := b2.out.ext x3
    have k3e := Lib.hid k3
    clear b2 ry2 X2 LK TG ENV x3 kT zT bg
    go_wp2_with (first | ((with_reducible refine wpList_load_rowW (o := ⟨some 26, _, _, _, _, _⟩) ?_ 37 _ rfl r ?_ 37 ev.toArray (0, 0) _ ?_ Tryd.underlying37 ?_ ?_ ?_); (· rfl); (· rfl); (· exact k3); (· rfl); (· rw [S_ev]; rfl); go_frame) | ((with_reducible refine wpList_load_rowW (o := ⟨some 27, _, _, _, _, _⟩) ?_ 23 _ rfl gT ?_ 23 (cellsOf tag).toArray (0, 0) _ ?_ Tryd.underlying23 ?_ ?_ ?_); (· rfl); (· rfl); (· exact kT1); (· rfl); (· rw [S_tag]; rfl); go_frame))
    refine SN.out.mono ?_
    rintro e w4 ⟨s, er, f4, rfl, sok, r4, t4, st⟩
    obtain ⟨her, hf4⟩ : er = 0 ∧ ∃ (a' b' : Ac), f4 1 = some a' ∧ a'.lk = linkL ((1 : Nat) : Int) ∧ f4 2 = some b' ∧ b'.L.length = 1 ∧ a'.out = false ∧ s.tm = 7 := by
      rcases st with ⟨q, _⟩ | ⟨_, q, _⟩ | ⟨_, _, q, _⟩ | ⟨_, _, _, et, t', k', q1, q2, q3⟩
      · exact absurd (htag.out ()).symm q
      · rw [na.2.2.2.2.1] at q; cases q
      · rw [nb.2.2.2.2.2.1] at q; simp at q
      · rw [na.2.2.2.2.2.2.2.1, na.2.2.2.2.2.2.2.2, aw_take] at q1
        injection q1 with q4 q5
        subst q4
        rcases q3 with ⟨q, _⟩ | ⟨_, qs, A', c', q⟩
        · exact absurd rfl q
        · have e1 : f4 1 = some { a with t := t', k := k' } := by rw [q, upd_other _ _ (by omega), upd_same]
          have e2 := (congrFun q 2).trans (upd_same _ _ _)
          exact ⟨q2, _, _, e1, na.1, e2, by show (b.L ++ [_]).length = 1; rw [nb.2.2.2.2.2.1]; rfl, na.2.2.2.2.1, by rw [qs]; rfl⟩
    subst her
    obtain ⟨a', b', ha', la', hb', lb', oa', hsm⟩ := hf4
    have X4 : Hid (Ext w w4) := Tm.ext X3.out t4
    have k4 : Hid (Cb w4 r 37 ev) := t4.cb k3 rfl
    have b4 : Hid (BsB w.heap.size w4 AA 1 1 [120]) := b3.out.tm t4
    have L_s := Sm.C_len sok
    have O_s := one_cells s.one
    have c_tm : s.C[3]? = some (.int .i64 7) := by show some (Value.int .i64 s.tm) = _; rw [hsm]
    generalize s.C = SC at *
    have S_s : SC.toArray.size = 68 := by rw [List.size_toArray, L_s]
    have kS : (w4.alloc (.cells ZS.toArray 67)).heap[w4.heap.size]? = some (.cells ZS.toArray 67 (0, 0)) := heap_alloc_new _ _
    have W5 : Hid (Cb ((w4.alloc (.cells ZS.toArray 67)).setRow w4.heap.size SC.toArray) w4.heap.size 67 SC ∧ Ext w4 ((w4.alloc (.cells ZS.toArray 67)).setRow w4.heap.size SC.toArray)) := ⟨setRow_heap _ _ _ _ _ _ kS, Ext.newRow _ _ _⟩
    replace r4 := Lib.hid r4
    clear SN
    go_upto_region 7 with (first
      | (refine wpList_store_row rfl 67 _ _ rfl w4.heap.size SC.toArray rfl rfl 67 ZS.toArray kS (by rw [S_s]; rfl) (by rw [S_s, S_ZS]) O_s ?_; simp only [Act.put]))
    refine wp_gen (fun W => Cb W w4.heap.size 67 SC ∧ Ext w4 W) W5.out ?_
    have gs4 : w.heap.size ≤ w4.heap.size := X4.out.size
    obtain ⟨gS, hgS⟩ : ∃ x, x = w4.heap.size := ⟨_, rfl⟩
    rw [← hgS] at gs4 ⊢
    clear W5 kS hgS
    rintro w5 ⟨kS, x5⟩
    have X5 : Hid (Ext w w5) := X4.out.trans x5
    have ML := Lib.hid (mails_ok (r4.out.ext x5) hb' (by omega))
    rw [lb'] at ML
    have r5 := Lib.hid (r4.out.ext x5)
    have k5 := Lib.hid (k4.out.ext x5)
    have b5 := Lib.hid (b4.out.ext x5)
    replace kS := Lib.hid kS
    clear x5 X4 k4 b4 r4
    go_wp2_with fail
    refine ML.out.mono ?_
    rintro e w6 ⟨q, L', rfl, _, _, _, _, x6⟩
    have X6 : Hid (Ext w w6) := X5.out.trans x6
    have k6 := k5.out.ext x6
    have kS6 := Lib.hid (kS.out.ext x6)
    have SN := Lib.hid (send_std (r5.out.ext x6) X6.out.size (by omega) (i := 1) (j := 2) ha' la' hb' (by omega) (by omega) (by omega) (b5.out.ext x6) (tag := zk) rfl (now := 7) (by omega) (by omega) (GE.out w6 X6.out) gB.out)
    rw [← hev.out ()] at SN
    clear ML r5 k5 b5 kS X5 x6
    have HNE : Hid (∀ f' s er, StepS f4 f' 1 2 a' b' kone zk 120 7 s er → er = 4) := fun f' s er st => by
      rcases st with ⟨_, q, _⟩ | ⟨q, _⟩ | ⟨q, _⟩ | ⟨q, _⟩
      · exact q
      · exact absurd ((htag.out ()).trans q) (hne.out ())
      · exact absurd ((htag.out ()).trans q) (hne.out ())
      · exact absurd ((htag.out ()).trans q) (hne.out ())
    go_wp2_with (first
      | ((with_reducible refine wpList_load_rowW (o := ⟨some 38, _, _, _, _, _⟩) ?_ 37 _ rfl r ?_ 37 ev.toArray (0, 0) _ ?_ Tryd.underlying37 ?_ ?_ ?_); (· rfl); (· rfl); (· exact k6); (· rfl); (· rw [S_ev]; rfl); go_frame)
      | (refine wpList_build_as rfl _ _ rfl (cellsOf zk).toArray (by simp only [List.map_toArray, List.map_nil]; exact hkz.out) ?_; go_frame))
    refine SN.out.mono ?_
    rintro e w7 ⟨s7, er, f7, rfl, sok7, r7, t7, st7⟩
    obtain rfl := HNE.out _ _ _ st7
    have X7 : Hid (Ext w w7) := Tm.ext X6.out t7
    have kS7 : Hid (Cb w7 gS 67 SC) := t7.cb kS6.out rfl
    have L_s7 := Sm.C_len sok7
    have O_s7 := one_cells s7.one
    generalize s7.C = SC7 at *
    have S_s7 : SC7.toArray.size = 68 := by rw [List.size_toArray, L_s7]
    have kQ : (w7.alloc (.cells ZS.toArray 67)).heap[w7.heap.size]? = some (.cells ZS.toArray 67 (0, 0)) := heap_alloc_new _ _
    have xq : Ext w7 ((w7.alloc (.cells ZS.toArray 67)).setRow w7.heap.size SC7.toArray) := Ext.newRow _ _ _
    have cT := (kS7.out.ext xq).cell c_tm
    have X8 : Hid (Ext w ((w7.alloc (.cells ZS.toArray 67)).setRow w7.heap.size SC7.toArray)) := X7.out.trans xq
    clear SN HNE r7 t7 st7 xq X7 kS7 k6 kS6
    go_wp2_with (first
      | (refine wpList_store_row rfl 67 _ _ rfl w7.heap.size SC7.toArray rfl rfl 67 ZS.toArray kQ (by rw [S_s7]; rfl) (by rw [S_s7, S_ZS]) O_s7 ?_; simp only [Act.put]))
    go_ret
    exact ⟨rfl, X8.out⟩
end Go.Proofs.YtbnjmmefnjoofaaDoor
