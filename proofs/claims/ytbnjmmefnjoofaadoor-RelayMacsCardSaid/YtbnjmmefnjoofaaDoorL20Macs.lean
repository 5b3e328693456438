import Derived.Test.YtbnjmmefnjoofaaDoorPkB
/-
  The law RelayMacs (written by gen20l.py).
-/
namespace Go.Proofs.YtbnjmmefnjoofaaDoor
open Go.ChangeShapes Go.WideShapes Go.ChangeAt Go.RowKit Go.Deep Go.Maps
set_option maxRecDepth 100000

/-- The accounts of the law: the sender's bucket, how many wait for the other one. -/
def McI (f : Nat → Option Ac) (now q : Int) (L : Nat) : Prop := ∃ a b, f 1 = some a ∧ a.lk = linkL ((1 : Nat) : Int) ∧ a.out = false ∧ (a.t ≤ now ∧ 0 ≤ a.t ∧ a.k ≤ 5) ∧ bkAt 5 10 a.t a.k now = q ∧ f 2 = some b ∧ b.L.length = L
theorem McI.after {f f4 : Nat → Option Ac} {now q : Int} {L : Nat} {a b : Ac} {root tag : List UInt8} {s : Sm} {er : Int} (ha : f 1 = some a) (la : a.lk = linkL ((1 : Nat) : Int)) (oa : a.out = false) (ta : a.t ≤ now ∧ 0 ≤ a.t ∧ a.k ≤ 5) (n0 : 0 ≤ now) (qa : bkAt 5 10 a.t a.k now = q) (hb : f 2 = some b) (Lb : b.L.length = L) (L8 : L < 8) (h2 : now ≤ 1000000) (hm : macL (linkL ((1 : Nat) : Int)) (xvL 1 2 120) = tag) (q5 : q ≤ 5) (st : StepS f f4 1 2 a b root tag 120 now s er) :
    (q = 0 ∧ er = 10 ∧ McI f4 now 0 L) ∨ (q ≠ 0 ∧ er = 0 ∧ s = mkS root 5 ((1 : Nat) : Int) ((2 : Nat) : Int) zk now ∧ McI f4 now (q - 1) (L + 1)) := by
  rcases st.rate hm oa (by omega) ta.1 h2 with ⟨q1, q2, q3⟩ | ⟨q1, q2, qs, A', c', q3⟩
  · refine .inl ⟨qa.symm.trans q1, q2, { a with t := now, k := 0 }, b, by rw [q3, upd_same], la, oa, ⟨Int.le_refl _, n0, by show (0 : Int) ≤ 5; decide⟩, bkAt_same (by show (0 : Int) ≤ 5; decide), by rw [q3, upd_other _ _ (by decide)]; exact hb, Lb⟩
  · refine .inr ⟨fun z => q1 (qa.trans z), q2, qs, { a with t := now, k := bkAt 5 10 a.t a.k now - 1 }, _, by rw [q3, upd_other _ _ (by decide), upd_same], la, oa, ⟨Int.le_refl _, n0, by show bkAt 5 10 a.t a.k now - 1 ≤ 5; omega⟩, ?_, (congrFun q3 2).trans (upd_same _ _ _), ?_⟩
    · show bkAt 5 10 now (bkAt 5 10 a.t a.k now - 1) now = q - 1
      rw [qa]
      exact bkAt_same (by omega)
    · show (b.L ++ [_]).length = L + 1
      rw [List.length_append, Lb]; rfl
theorem mk_parts (root : List UInt8) : (mkS root 5 ((1 : Nat) : Int) ((2 : Nat) : Int) zk 5).f = 1 ∧ (mkS root 5 ((1 : Nat) : Int) ((2 : Nat) : Int) zk 5).t = 2 ∧ (mkS root 5 ((1 : Nat) : Int) ((2 : Nat) : Int) zk 5).tm = 5 := by
  unfold mkS
  rw [if_pos (by decide)]
  exact ⟨rfl, rfl, rfl⟩
set_option maxHeartbeats 32000000 in
theorem RelayMacs_calls {w : World} {root : List UInt8} (lr : root.length = 32) {at_ n : Int} (ha2 : at_ ≤ 9223372036854775807) {tg : TypeId × Nat × Nat} (hG : Gl w tg) : Calls Tryd.prog 9 #[.agg (cellsOf root).toArray, .int .i64 at_, .int .i64 n] w fun e w' => e = .returned (.bool true) ∧ Ext w w' := by
  have hcv := conv_const
  have AW := Lib.hid (awake20_calls hG)
  have BG := Lib.hid (fun (W : World) (x : w.heap.size ≤ W.heap.size) => begun20_calls (root := root) (w := W) lr x)
  have GE : Hid (∀ W, Ext w W → Gl W tg) := fun W e => hG.kept e hG.lt
  have S_r : (cellsOf root).toArray.size = 32 := by simp [cellsOf_len, lr]
  have hGH := Lib.hid hG
  have hal := key_alloc16
  have S_Z := zeros32_size
  have halE := env_alloc20
  have L_zE := zE_len
  have halS := stamp_alloc16
  have L_ZS := Sm.C_len zSm_ok
  generalize zSm.C = ZS at *
  have S_ZS : ZS.toArray.size = 68 := by rw [List.size_toArray, L_ZS]
  generalize zE = ZE at *
  have S_ZE : ZE.toArray.size = 69 := by rw [List.size_toArray, L_zE]
  have LK : Hid (∀ W : World, Calls Tryd.prog 18 #[.int .i64 1] W fun e w' => e = .returned (.agg (cellsOf (linkL ((1 : Nat) : Int))).toArray) ∧ Ext W w') := fun W => link_calls (n := 1)
  obtain ⟨tag, htag⟩ : ∃ tag, tag = macL (linkL ((1 : Nat) : Int)) (xvL 1 2 120) := ⟨_, rfl⟩
  have L_tag : tag.length = 32 := by rw [htag]; exact macL_len _ _
  have TGc : Hid (∀ u A, Gl u tg → Bs u A 1 1 [120] → Calls Tryd.prog 23 #[.agg (cellsOf (linkL ((1 : Nat) : Int))).toArray, .agg (xvC 1 2 A).toArray] u fun e w' => e = .returned (.tuple #[.agg (cellsOf tag).toArray, .int .i64 0]) ∧ Ext u w') := fun u A hg hb => by rw [htag]; exact xtag_calls (by omega) (by omega) hb hg
  replace htag := Lib.hid (fun _ : Unit => htag)
  have S_tag : (cellsOf tag).toArray.size = 32 := by simp [cellsOf_len, L_tag]
  have O_tag := cellsOf_one tag
  generalize linkL ((1 : Nat) : Int) = lk at LK TGc
  generalize zeros32 = Z at *
  clear hG
  have RB : Hid ((w.alloc (.cells (cellsOf root).toArray 23)).heap[w.heap.size]? = some (.cells (cellsOf root).toArray 23 (0, 0)) ∧ Ext w (w.alloc (.cells (cellsOf root).toArray 23))) := ⟨heap_alloc_new _ _, (Ext.refl w).alloc _⟩
  have AW' : Hid (∀ W, Ext w W → Calls Tryd.prog 10 #[] W fun e w' => e = .returned (.bool true) ∧ Ext W w') := fun W x => awake20_calls (GE.out W x)
  go_enter Tryd.func9, Tryd.ntmps9
  go_upto_region 1 with fail
  refine wp_gen (fun W => W.heap[w.heap.size]? = some (.cells (cellsOf root).toArray 23 (0, 0)) ∧ Ext w W) RB.out ?_
  clear RB AW
  rintro w0 ⟨k0, x0⟩
  have AW := Lib.hid (AW'.out w0 x0)
  clear AW'
  replace k0 := Lib.hid k0
  replace x0 := Lib.hid x0
  go_wp2_with fail
  refine AW.out.mono ?_
  rintro e w1 ⟨rfl, x1⟩
  have k1 := (x1.block _ (heap_lt k0.out)).trans k0.out
  have X1 : Hid (Ext w w1) := x0.out.trans x1
  clear AW k0 x0 x1
  go_wp2_with (first | ((with_reducible refine wpList_load_rowW (o := ⟨some 24, _, _, _, _, _⟩) ?_ 23 _ rfl w.heap.size ?_ 23 (cellsOf root).toArray (0, 0) _ ?_ Tryd.underlying23 ?_ ?_ ?_); (· rfl); (· rfl); (· exact k1); (· rfl); (· rw [S_r]; rfl); go_frame))
  refine (BG.out w1 X1.out.size).mono ?_
  rintro e w2 ⟨g, f, rfl, r2, bg, hg, x2⟩
  have LP : Hid (Lp w w2 g root f 0) := ⟨r2, X1.out.trans x2⟩
  replace bg := Lib.hid bg
  clear BG X1 r2 x2 k1
  by_cases h0 : at_ < 0
  · have u1 : decide (at_ < 0) = true := decide_eq_true h0
    clear LK TGc bg
    go_wp2_with fail
    go_ret
    exact ⟨rfl, LP.out.xt⟩
  have u1 : decide (at_ < 0) = false := decide_eq_false h0
  by_cases hn0 : n < 0
  · have u2 : decide (n < 0) = true := decide_eq_true hn0
    clear LK TGc bg
    go_wp2_with fail
    go_ret
    exact ⟨rfl, LP.out.xt⟩
  have u2 : decide (n < 0) = false := decide_eq_false hn0
  by_cases hn3 : 30 < n
  · have u3 : decide (30 < n) = true := decide_eq_true hn3
    clear LK TGc bg
    go_wp2_with fail
    go_ret
    exact ⟨rfl, LP.out.xt⟩
  have u3 : decide (30 < n) = false := decide_eq_false hn3
  obtain ⟨m, rfl⟩ : ∃ m : Nat, n = (m : Int) := ⟨n.toNat, by omega⟩
  obtain ⟨at_, rfl⟩ : ∃ m : Nat, at_ = (m : Int) := ⟨at_.toNat, by omega⟩
  have m30 : m ≤ 30 := by omega
  clear h0 hn0 hn3
  have EBL : Hid (BsB w.heap.size (w2.alloc (.cells #[.int .u8 120] 5 (1, 2))) (some ⟨w2.heap.size, 0, none⟩) 1 1 [120]) := BsB.boxed8 w2 120 120 rfl (1, 2)
  have XB : Hid (Ext w2 (w2.alloc (.cells #[.int .u8 120] 5 (1, 2)))) := (Ext.refl _).alloc _
  have BEc := Lib.hid (xv_built1 (some ⟨w2.heap.size, 0, none⟩))
  have L_ev := xvC_len 1 2 (some ⟨w2.heap.size, 0, none⟩)
  have O_ev := xvC_one 1 2 (some ⟨w2.heap.size, 0, none⟩)
  obtain ⟨AA, hAA⟩ : ∃ AA : Option Addr, AA = some ⟨w2.heap.size, 0, none⟩ := ⟨_, rfl⟩
  obtain ⟨ev, hev⟩ : ∃ ev, ev = xvC 1 2 AA := ⟨_, rfl⟩
  rw [← hAA] at EBL BEc L_ev O_ev
  rw [← hev] at BEc L_ev O_ev
  have S_ev : ev.toArray.size = 69 := by rw [List.size_toArray, L_ev]
  replace hev := Lib.hid (fun _ : Unit => hev)
  rw [hAA] at BEc
  obtain ⟨r, hr⟩ : ∃ r, r = w2.heap.size + 1 := ⟨_, rfl⟩
  have sU : (w2.alloc (.cells #[.int .u8 120] 5 (1, 2))).heap.size = r := by rw [hr]; simp
  have k0 : ((w2.alloc (.cells #[.int .u8 120] 5 (1, 2))).alloc (.cells ZE.toArray 37)).heap[r]? = some (.cells ZE.toArray 37 (0, 0)) := by rw [← sU]; exact heap_alloc_new _ _
  have W0 : Hid (Cb (((w2.alloc (.cells #[.int .u8 120] 5 (1, 2))).alloc (.cells ZE.toArray 37)).setRow r ev.toArray) r 37 ev ∧ BsB w.heap.size (((w2.alloc (.cells #[.int .u8 120] 5 (1, 2))).alloc (.cells ZE.toArray 37)).setRow r ev.toArray) AA 1 1 [120] ∧ Ext w2 (((w2.alloc (.cells #[.int .u8 120] 5 (1, 2))).alloc (.cells ZE.toArray 37)).setRow r ev.toArray)) := by
    have x : Ext (w2.alloc (.cells #[.int .u8 120] 5 (1, 2))) (((w2.alloc (.cells #[.int .u8 120] 5 (1, 2))).alloc (.cells ZE.toArray 37)).setRow r ev.toArray) := below_setRow ((Ext.refl _).alloc _) (by rw [sU]; exact Nat.le_refl _) _
    exact ⟨setRow_heap _ _ _ _ _ _ k0, EBL.out.ext x, XB.out.trans x⟩
  replace hAA := Lib.hid (fun _ : Unit => hAA)
  clear XB EBL
  have sU' := hr
  replace hr := Lib.hid (fun _ : Unit => hr)
  go_upto_region 6 with (first
    | (refine wpList_build_as rfl _ _ rfl ev.toArray (by simp only [List.map_toArray, List.map_cons, List.map_nil]; exact BEc.out) ?_; go_frame)
    | (refine wpList_store_row rfl 37 _ _ rfl r ev.toArray (by rw [sU']; rfl) rfl 37 ZE.toArray k0 (by rw [S_ev]; rfl) (by rw [S_ev, S_ZE]) O_ev ?_; simp only [Act.put]))
  refine wp_gen (fun W => Cb W r 37 ev ∧ BsB w.heap.size W AA 1 1 [120] ∧ Ext w2 W) W0.out ?_
  rw [← hr.out ()]
  clear W0 k0 sU sU' BEc O_ev hr
  rintro w3 ⟨k_ev, b_ev, x_ev⟩
  have ENV : Hid (∀ u, Ext w3 u → Cb u r 37 ev) := fun u x => k_ev.ext x
  have TG : Hid (∀ u, Ext w3 u → Calls Tryd.prog 23 #[.agg (cellsOf lk).toArray, .agg ev.toArray] u fun e w' => e = .returned (.tuple #[.agg (cellsOf tag).toArray, .int .i64 0]) ∧ Ext u w') := fun u x => by
    rw [hev.out ()]
    exact TGc.out u AA (GE.out u ((LP.out.ext x_ev).xt.trans x)) (b_ev.ext x).1
  replace k_ev := Lib.hid k_ev
  replace b_ev := Lib.hid b_ev
  have LP3 : Hid (Lp w w3 g root f 0) := LP.out.ext x_ev
  clear x_ev TGc
  go_cut [10, 11] (fun sP sE wx => ∃ gT : Nat, sP = .pointer (some ⟨gT, 0, none⟩) ∧ sE = .int .i64 0 ∧ Ext w3 wx ∧ Ky wx gT tag ∧ w3.heap.size ≤ gT)
  case first =>
    refine qgT (R := Below w3.heap.size) (Below.refl _) (fun _ _ _ => Below.trans) (.rd 1 (.alt 0 (.alt 2 (.rd 3 (.rd 4 (.rd 5 (.alt 6 (.alt 7 (.rd 8 .nil) .stop) .stop)))) (.alt 6 (.alt 2 (.rd 3 (.rd 4 (.rd 5 (.alt 7 (.rd 8 .nil) .stop)))) .stop) .stop)) (.alt 6 (.alt 0 (.alt 2 (.rd 3 (.rd 4 (.rd 5 (.alt 7 (.rd 8 .nil) .stop)))) .stop) .stop) .stop))) 9 ?_
    refine qtV rfl (fun w' => w'.heap[r]? = some (.cells ev.toArray 37 (0, 0))) (fun w' e => ENV.out w' (Ext.trans (Ext.refl _).drew e)) (.agg ev.toArray) (fun w' hF => exec_load_row rfl rfl hF rfl rfl (by rw [S_ev]; rfl)) ?_
    go_frame
    repeat ((first | refine qtR0 ?_ | refine qtS ?_); go_frame)
    have SE : Hid (Ext w3 w3.drew) := (Ext.refl w3).drew
    generalize w3.drew = WC at *
    repeat' (first
      | exact seqT_stop
      | (refine seqT_do (i := 0) _ rfl ?_ ?_ (fun K1 hK1 => ?_)
         (· rfl)
         rotate_left
         go_simp
         refine (LK.out _).mono ?_
         rintro e0 WC ⟨rfl, e⟩
         refine hK1.out _ _ (e.mono SE.out.size) ?_
         clear hK1 K1
         (try replace hL := Lib.hid ((e.block _ (heap_lt hL.out)).trans hL.out))
         replace SE := Lib.hid (SE.out.trans e)
         clear e
         (try go_frame)
         repeat ((first | refine qtR0 ?_ | refine qtS ?_); go_frame)
         skip)
      | (refine seqT_do (i := 2) _ rfl ?_ ?_ (fun K1 hK1 => ?_)
         (· rfl)
         rotate_left
         go_simp
         refine (TG.out _ SE.out).mono ?_
         rintro e0 WC ⟨rfl, e⟩
         refine hK1.out _ _ (e.mono SE.out.size) ?_
         clear hK1 K1
         (try replace hL := Lib.hid ((e.block _ (heap_lt hL.out)).trans hL.out))
         replace SE := Lib.hid (SE.out.trans e)
         clear e
         (try go_frame)
         repeat ((first | refine qtR0 ?_ | refine qtS ?_); go_frame)
         skip)
      | (refine seqT_do (i := 6) _ rfl ?_ ?_ (fun K1 hK1 => ?_)
         (· rfl)
         rotate_left
         go_simp
         have e : Ext WC (WC.alloc (Obj.cells Z 23)) := (Ext.refl WC).alloc _
         obtain ⟨gT, hgT⟩ : ∃ g, g = WC.heap.size := ⟨_, rfl⟩
         have hL := Lib.hid (heap_alloc_new WC (Obj.cells Z 23))
         rw [← hgT] at hL ⊢
         have zl : w3.heap.size ≤ gT := by rw [hgT]; exact SE.out.size
         refine hK1.out _ (WC.alloc (Obj.cells Z 23)) (e.mono SE.out.size) ?_
         clear hK1 K1
         replace SE := Lib.hid (SE.out.trans e)
         clear e
         replace hgT := Lib.hid hgT
         generalize WC.alloc (Obj.cells Z 23) = WC at *
         (try go_frame)
         repeat ((first | refine qtR0 ?_ | refine qtS ?_); go_frame)
         skip)
      | (refine seqT_do (i := 7) _ rfl ?_ ?_ (fun K1 hK1 => ?_)
         (· rfl)
         rotate_left
         refine wp_store_row _ _ _ rfl gT (cellsOf tag).toArray rfl rfl 23 Z hL.out (by rw [S_tag]; rfl) (by rw [S_tag]; exact S_Z) O_tag ?_
         refine hK1.out _ _ (below_setRow (Below.refl _ _) zl _) ?_
         clear hK1 K1
         replace SE : Hid (Ext w3 (WC.setRow gT (cellsOf tag).toArray)) := below_setRow SE.out zl _
         replace hL : Hid (Ky (WC.setRow gT (cellsOf tag).toArray) gT tag) := ⟨setRow_heap _ _ _ _ _ _ hL.out, L_tag⟩
         generalize WC.setRow gT (cellsOf tag).toArray = WC at *
         (try simp only [Act.put])
         repeat ((first | refine qtR0 ?_ | refine qtS ?_); go_frame)
         skip)
      | (refine seqT_done ?_
         go_wp2_with fail
         go_meet
         exact ⟨gT, rfl, rfl, SE.out, hL.out, zl⟩))
  case rest =>
    obtain ⟨gT, rfl, rfl, x3, kT, zT⟩ := hcut
    have EP : Hid (Ep w wc r 1 2 AA 120 gT tag) := ⟨by rw [← hev.out ()]; exact ENV.out wc x3, b_ev.out.ext x3, kT⟩
    have LP4 : Hid (Lp w wc g root f 0) := LP3.out.ext x3
    have RI : Hid (McI f 5 5 0) := by
      obtain ⟨a, ha, na⟩ := bg.out.1 1 (by omega)
      obtain ⟨b, hb, nb⟩ := bg.out.1 2 (by omega)
      exact ⟨a, b, ha, na.1, na.2.2.2.2.1, by rw [na.2.2.2.2.2.2.2.1, na.2.2.2.2.2.2.2.2]; decide, by rw [na.2.2.2.2.2.2.2.1, na.2.2.2.2.2.2.2.2]; decide, hb, by rw [nb.2.2.2.2.2.1]; rfl⟩
    clear LP LP3 ENV TG LK x3 zT bg k_ev b_ev GE
    have hTM : Hid (macL (linkL ((1 : Nat) : Int)) (xvL 1 2 120) = tag) := (htag.out ()).symm
    clear htag
    obtain ⟨j, hj⟩ : ∃ j, j = at_ / 8 % 32 := ⟨_, rfl⟩
    obtain ⟨k, hk⟩ : ∃ k, k = at_ % 8 := ⟨_, rfl⟩
    have j32 : j < 32 := by omega
    have k8 : k < 8 := by omega
    have FNE : Hid (¬ tag = flip tag j k) := flip_ne (by omega) k8
    have L_bad : (flip tag j k).length = 32 := (flip_len tag j k).trans L_tag
    have f0 : Int.tdiv (at_ : Int) 8 = ((at_ / 8 : Nat) : Int) := by rw [Int.tdiv_eq_ediv_of_nonneg (by omega)]; rfl
    have f1 : IntKind.i64.wrap ((at_ / 8 : Nat) : Int) = ((at_ / 8 : Nat) : Int) := IntWalk.i64_in _ (by omega)
    have f2 : Int.tmod ((at_ / 8 : Nat) : Int) 32 = (j : Int) := by rw [Int.tmod_eq_emod_of_nonneg (by omega), hj]; rfl
    have f3 : Int.tmod (at_ : Int) 8 = (k : Int) := by rw [Int.tmod_eq_emod_of_nonneg (by omega), hk]; rfl
    have f4 : IntKind.i64.wrap (j : Int) = (j : Int) := IntWalk.i64_in _ (by omega)
    have f5 : IntKind.i64.wrap (k : Int) = (k : Int) := IntWalk.i64_in _ (by omega)
    obtain ⟨D8, hD8⟩ : ∃ D, D = at_ / 8 := ⟨_, rfl⟩
    rw [← hD8] at f0 f1 f2
    replace hD8 := Lib.hid (fun _ : Unit => hD8)
    replace hj := Lib.hid (fun _ : Unit => hj)
    replace hk := Lib.hid (fun _ : Unit => hk)
    have kT1 := kT.1
    have kZ : (wc.alloc (.cells Z 23)).heap[wc.heap.size]? = some (.cells Z 23 (0, 0)) := heap_alloc_new _ _
    have W5 : Hid (Ky ((wc.alloc (.cells Z 23)).setRow wc.heap.size (cellsOf tag).toArray) wc.heap.size tag ∧ Ext wc ((wc.alloc (.cells Z 23)).setRow wc.heap.size (cellsOf tag).toArray)) := ⟨⟨setRow_heap _ _ _ _ _ _ kZ, L_tag⟩, Ext.newRow _ _ _⟩
    clear kT
    go_upto_region 8 with (first
      | ((with_reducible refine wpList_load_rowW (o := ⟨some 54, _, _, _, _, _⟩) ?_ 23 _ rfl gT ?_ 23 (cellsOf tag).toArray (0, 0) _ ?_ Tryd.underlying23 ?_ ?_ ?_); (· rfl); (· rfl); (· exact kT1); (· rfl); (· rw [S_tag]; rfl); go_frame)
      | (refine wpList_store_row rfl 23 _ _ rfl wc.heap.size (cellsOf tag).toArray rfl rfl 23 Z kZ (by rw [S_tag]; rfl) (by rw [S_tag]; exact S_Z) O_tag ?_; simp only [Act.put]))
    refine wp_gen (fun W => Ky W wc.heap.size tag ∧ Ext wc W) W5.out ?_
    have gB1 : w.heap.size ≤ wc.heap.size := LP4.out.size
    have gB2 : Hid (r < wc.heap.size ∧ gT < wc.heap.size) := ⟨EP.out.ev.lt, heap_lt EP.out.kt.1⟩
    obtain ⟨gB, hgB⟩ : ∃ x, x = wc.heap.size := ⟨_, rfl⟩
    rw [← hgB] at gB1 ⊢
    replace hgB := Lib.hid (fun _ : Unit => hgB)
    clear W5 kZ kT1
    rintro w5 ⟨kb, x5⟩
    have KEEP : Hid (∀ w', Ext w5 w' → w'.cell? ⟨gB, j, none⟩ = some (.int .u8 (bt tag j : Int))) := fun w' e => (kb.ext e).cell j32
    have cf := kb.frozen j
    have cb := kb.cell j32
    have i1 : (j : Int) < 32 := by omega
    have i0 : (0 : Int) ≤ (j : Int) := by omega
    refine qgZE 13 [0, 1, 2, 3, 4, 5, 6, 7, 8, 9, 10, 11, 12, 13] [13] ?_
    repeat (refine qzR _ (fun w' e => KEEP.out w' ((Ext.refl _).drew.trans e)) ?_; go_frame)
    refine qzD fun K_ hK => ?_
    go_simp
    refine hK.out _ _ (.inl rfl) ?_
    clear hK K_
    refine seqZ_done ?_
    rw [flip_int k8]
    refine gen_q (fun W' => Lp w W' g root f 0 ∧ Ep w W' r 1 2 AA 120 gT tag ∧ Ep w W' r 1 2 AA 120 gB (flip tag j k)) ?_ ?_
    · have gsz : wc.heap.size ≤ gB := by rw [hgB.out ()]; exact Nat.le_refl _
      have x7 : Ext wc ((w5.setCell ⟨gB, j, none⟩ (.int .u8 ((bt tag j ^^^ 2 ^ k : Nat) : Int))).drew) := Ext.drew (Ext.setCell x5 gsz _)
      have kk : Ky ((w5.setCell ⟨gB, j, none⟩ (.int .u8 ((bt tag j ^^^ 2 ^ k : Nat) : Int))).drew) gB (flip tag j k) := (kb.flip j32 k8).ext (Ext.refl _).drew
      exact ⟨LP4.out.ext x7, EP.out.ext x7, ⟨EP.out.ev.ext x7, EP.out.bs.ext x7, kk⟩⟩
    clear KEEP cf cb f0 f1 f2 f3 f4 f5 i1 i0 kb x5 LP4 EP
    obtain ⟨bad, hbad⟩ : ∃ x, x = flip tag j k := ⟨_, rfl⟩
    rw [← hbad] at FNE L_bad ⊢
    clear hbad
    have S_bad : (cellsOf bad).toArray.size = 32 := by simp [cellsOf_len, L_bad]
    rintro w6 ⟨lp6, ep6, eb6⟩
    have LP6 := Lib.hid lp6
    have EP6 := Lib.hid ep6
    have EB6 := Lib.hid eb6
    clear lp6 ep6 eb6
    go_wp2_with fail
    go_loopw [13] (fun iv wr => ∃ k : Nat, k ≤ m ∧ iv = .int .i64 (k : Int) ∧ Lp w wr g root f k ∧ Ep w wr r 1 2 AA 120 gT tag ∧ Ep w wr r 1 2 AA 120 gB bad) (fun iv _ => m - (intOf iv).toNat)
    case atStart => exact ⟨0, Nat.zero_le _, rfl, LP6.out, EP6.out, EB6.out⟩
    case round =>
      clear LP6 EP6 EB6
      obtain ⟨k, hkm, rfl, lp, ep, eb⟩ := hrel
      by_cases hlt : k < m
      · have hi1 : IntKind.i64.wrap ((k : Int) + 1) = (k : Int) + 1 := IntWalk.i64_in _ (by omega)
        have hiff : (k : Int) < (m : Int) := by omega
        obtain ⟨a, b, ha, la, _, _, _, hb, _⟩ := RI.out
        have SN := Lib.hid (lp.send eb (by omega) ha la hb (by omega) (by omega) (by omega) (now := 5) (by omega) (by omega) hGH.out)
        rw [← hev.out ()] at SN
        have kE := ep.ev
        rw [← hev.out ()] at kE
        have kT := eb.kt.1
        replace ep := Lib.hid ep
        replace eb := Lib.hid eb
        clear lp ha la hb
        go_wp2_with (first | ((with_reducible refine wpList_load_rowW (o := ⟨some 75, _, _, _, _, _⟩) ?_ 37 _ rfl r ?_ 37 ev.toArray (0, 0) _ ?_ Tryd.underlying37 ?_ ?_ ?_); (· rfl); (· rfl); (· exact kE); (· rfl); (· rw [S_ev]; rfl); go_frame) | ((with_reducible refine wpList_load_rowW (o := ⟨some 76, _, _, _, _, _⟩) ?_ 23 _ rfl gB ?_ 23 (cellsOf bad).toArray (0, 0) _ ?_ Tryd.underlying23 ?_ ?_ ?_); (· rfl); (· rfl); (· exact kT); (· rfl); (· rw [S_bad]; rfl); go_frame))
        refine SN.out.mono ?_
        rintro e w7 ⟨s, er, f4, rfl, sok, lp4, t4, st⟩
        obtain ⟨rfl, rfl⟩ : er = 4 ∧ f4 = f := by
          rcases st with ⟨_, q, q'⟩ | ⟨q, _⟩ | ⟨q, _⟩ | ⟨q, _⟩
          · exact ⟨q, q'⟩
          · exact absurd (hTM.out.symm.trans q) FNE.out
          · exact absurd (hTM.out.symm.trans q) FNE.out
          · exact absurd (hTM.out.symm.trans q) FNE.out
        have L_s := Sm.C_len sok
        have O_s := one_cells s.one
        generalize s.C = SC at *
        have S_s : SC.toArray.size = 68 := by rw [List.size_toArray, L_s]
        have kS : (w7.alloc (.cells ZS.toArray 67)).heap[w7.heap.size]? = some (.cells ZS.toArray 67 (0, 0)) := heap_alloc_new _ _
        have X5 : Ext w7 ((w7.alloc (.cells ZS.toArray 67)).setRow w7.heap.size SC.toArray) := Ext.newRow _ _ _
        have NX : Hid (Lp w ((w7.alloc (.cells ZS.toArray 67)).setRow w7.heap.size SC.toArray) g root f4 (k + 1) ∧ Ep w ((w7.alloc (.cells ZS.toArray 67)).setRow w7.heap.size SC.toArray) r 1 2 AA 120 gT tag ∧ Ep w ((w7.alloc (.cells ZS.toArray 67)).setRow w7.heap.size SC.toArray) r 1 2 AA 120 gB bad) := ⟨lp4.ext X5, (ep.out.tm t4).ext X5, (eb.out.tm t4).ext X5⟩
        clear SN st lp4 t4 kE kT ep eb sok X5
        go_wp2_with (first
          | (refine wpList_store_row rfl 67 _ _ rfl w7.heap.size SC.toArray rfl rfl 67 ZS.toArray kS (by rw [S_s]; rfl) (by rw [S_s, S_ZS]) O_s ?_; simp only [Act.put]))
        go_round
        case rel => exact ⟨k + 1, by omega, by go_num, NX.out.1, NX.out.2.1, NX.out.2.2⟩
        case measure => simp [intOf]; omega
      · obtain rfl : k = m := by omega
        have LPa := Lib.hid lp
        have EPa := Lib.hid ep
        clear lp ep eb
        go_wp2_with fail
        go_loopw [16] (fun iv wr => ∃ (q : Nat) (f : Nat → Option Ac), q ≤ 5 ∧ iv = .int .i64 (q : Int) ∧ Lp w wr g root f (k + q) ∧ Ep w wr r 1 2 AA 120 gT tag ∧ McI f 5 (5 - (q : Int)) q) (fun iv _ => 5 - (intOf iv).toNat)
        case atStart => exact ⟨0, f, Nat.zero_le _, rfl, LPa.out, EPa.out, RI.out⟩
        case round =>
          clear LPa EPa RI
          obtain ⟨q, f, hq5, rfl, lp, ep, ri⟩ := hrel
          obtain ⟨a, b, ha, la, oa, ta, qa, hb, Lb⟩ := ri
          have SN := Lib.hid (lp.send ep (by omega) ha la hb (by omega) (by omega) (by omega) (now := 5) (by omega) (by omega) hGH.out)
          rw [← hev.out ()] at SN
          have kE := ep.ev
          rw [← hev.out ()] at kE
          have kT := ep.kt.1
          have AFT := fun f4 s er => McI.after (f4 := f4) (root := root) (tag := tag) (s := s) (er := er) ha la oa ta (by omega) qa hb Lb (by omega) (by omega) hTM.out (by omega)
          replace AFT := Lib.hid AFT
          replace ep := Lib.hid ep
          clear lp ha la oa ta qa hb Lb
          by_cases hlt : q < 5
          · have hi1 : IntKind.i64.wrap ((q : Int) + 1) = (q : Int) + 1 := IntWalk.i64_in _ (by omega)
            go_wp2_with (first | ((with_reducible refine wpList_load_rowW (o := ⟨some 88, _, _, _, _, _⟩) ?_ 37 _ rfl r ?_ 37 ev.toArray (0, 0) _ ?_ Tryd.underlying37 ?_ ?_ ?_); (· rfl); (· rfl); (· exact kE); (· rfl); (· rw [S_ev]; rfl); go_frame) | ((with_reducible refine wpList_load_rowW (o := ⟨some 89, _, _, _, _, _⟩) ?_ 23 _ rfl gT ?_ 23 (cellsOf tag).toArray (0, 0) _ ?_ Tryd.underlying23 ?_ ?_ ?_); (· rfl); (· rfl); (· exact kT); (· rfl); (· rw [S_tag]; rfl); go_frame))
            refine SN.out.mono ?_
            rintro e w7 ⟨s, er, f4, rfl, sok, lp4, t4, st⟩
            obtain ⟨rfl, hs, ri4⟩ : er = 0 ∧ s = mkS root 5 ((1 : Nat) : Int) ((2 : Nat) : Int) zk 5 ∧ McI f4 5 (5 - (q : Int) - 1) (q + 1) := by
              rcases AFT.out f4 s er st with ⟨z, _⟩ | ⟨_, z1, z2, z3⟩
              · omega
              · exact ⟨z1, z2, z3⟩
            replace ri4 : Hid (McI f4 5 (5 - ((q + 1 : Nat) : Int)) (q + 1)) := by
              unfold Hid
              rw [show 5 - ((q + 1 : Nat) : Int) = 5 - (q : Int) - 1 by omega]
              exact ri4
            obtain ⟨m1, m2, m3⟩ := mk_parts root
            rw [← hs] at m1 m2 m3
            clear hs
            have L_s := Sm.C_len sok
            have O_s := one_cells s.one
            have z1 : s.C[1]? = some (.int .i64 1) := by show some (Value.int .i64 s.f) = _; rw [m1]
            have z2 : s.C[2]? = some (.int .i64 2) := by show some (Value.int .i64 s.t) = _; rw [m2]
            have z3 : s.C[3]? = some (.int .i64 5) := by show some (Value.int .i64 s.tm) = _; rw [m3]
            clear m1 m2 m3
            generalize s.C = SC at *
            have S_s : SC.toArray.size = 68 := by rw [List.size_toArray, L_s]
            have kS : (w7.alloc (.cells ZS.toArray 67)).heap[w7.heap.size]? = some (.cells ZS.toArray 67 (0, 0)) := heap_alloc_new _ _
            have X5 : Ext w7 ((w7.alloc (.cells ZS.toArray 67)).setRow w7.heap.size SC.toArray) := Ext.newRow _ _ _
            have kR : Cb ((w7.alloc (.cells ZS.toArray 67)).setRow w7.heap.size SC.toArray) w7.heap.size 67 SC := setRow_heap _ _ _ _ _ _ kS
            have y1 := kR.cell z1
            have y2 := kR.cell z2
            have y3 := kR.cell z3
            have NX : Hid (Lp w ((w7.alloc (.cells ZS.toArray 67)).setRow w7.heap.size SC.toArray) g root f4 (k + q + 1) ∧ Ep w ((w7.alloc (.cells ZS.toArray 67)).setRow w7.heap.size SC.toArray) r 1 2 AA 120 gT tag) := ⟨lp4.ext X5, (ep.out.tm t4).ext X5⟩
            clear SN st lp4 t4 kE kT ep sok X5 z1 z2 z3 kR AFT
            go_wp2_with (first
              | (refine wpList_store_row rfl 67 _ _ rfl w7.heap.size SC.toArray rfl rfl 67 ZS.toArray kS (by rw [S_s]; rfl) (by rw [S_s, S_ZS]) O_s ?_; simp only [Act.put]))
            go_round
            case rel => exact ⟨q + 1, f4, by omega, by go_num, NX.out.1, NX.out.2, ri4.out⟩
            case measure => simp [intOf]; omega
          · obtain rfl : q = 5 := by omega
            rw [show ((5 : Nat) : Int) = 5 from rfl]
            go_wp2_with (first | ((with_reducible refine wpList_load_rowW (o := ⟨some 112, _, _, _, _, _⟩) ?_ 37 _ rfl r ?_ 37 ev.toArray (0, 0) _ ?_ Tryd.underlying37 ?_ ?_ ?_); (· rfl); (· rfl); (· exact kE); (· rfl); (· rw [S_ev]; rfl); go_frame) | ((with_reducible refine wpList_load_rowW (o := ⟨some 113, _, _, _, _, _⟩) ?_ 23 _ rfl gT ?_ 23 (cellsOf tag).toArray (0, 0) _ ?_ Tryd.underlying23 ?_ ?_ ?_); (· rfl); (· rfl); (· exact kT); (· rfl); (· rw [S_tag]; rfl); go_frame))
            refine SN.out.mono ?_
            rintro e w7 ⟨s, er, f4, rfl, sok, lp4, t4, st⟩
            obtain ⟨rfl, ri4⟩ : er = 10 ∧ McI f4 5 0 5 := by
              rcases AFT.out f4 s er st with ⟨_, z1, z2⟩ | ⟨z, _⟩
              · exact ⟨z1, z2⟩
              · exact absurd rfl z
            obtain ⟨a, b, _, _, _, _, _, hb, Lb⟩ := ri4
            have L_s := Sm.C_len sok
            have O_s := one_cells s.one
            generalize s.C = SC at *
            have S_s : SC.toArray.size = 68 := by rw [List.size_toArray, L_s]
            have kS : (w7.alloc (.cells ZS.toArray 67)).heap[w7.heap.size]? = some (.cells ZS.toArray 67 (0, 0)) := heap_alloc_new _ _
            have X5 : Ext w7 ((w7.alloc (.cells ZS.toArray 67)).setRow w7.heap.size SC.toArray) := Ext.newRow _ _ _
            have LP5 := lp4.ext X5
            have ML := Lib.hid (mails_ok LP5.ry hb (by omega))
            rw [Lb] at ML
            have X7 := Lib.hid LP5.xt
            clear SN st lp4 t4 kE kT ep sok X5 LP5 hb Lb AFT
            go_wp2_with (first
              | (refine wpList_store_row rfl 67 _ _ rfl w7.heap.size SC.toArray rfl rfl 67 ZS.toArray kS (by rw [S_s]; rfl) (by rw [S_s, S_ZS]) O_s ?_; simp only [Act.put]))
            refine ML.out.mono ?_
            rintro e w8 ⟨q8, L8, rfl, _, _, _, _, x8⟩
            have X8 : Hid (Ext w w8) := X7.out.trans x8
            clear ML X7 x8
            go_wp2_with fail
            go_ret
            exact ⟨rfl, X8.out⟩
end Go.Proofs.YtbnjmmefnjoofaaDoor
