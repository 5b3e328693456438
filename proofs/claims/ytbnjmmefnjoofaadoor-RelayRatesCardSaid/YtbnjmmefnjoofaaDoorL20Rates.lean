/-
  The law RelayRates (written by gen20l.py).
-/
import Derived.Test.YtbnjmmefnjoofaaDoorLp20

namespace Go.Proofs.YtbnjmmefnjoofaaDoor
open Go.ChangeShapes Go.WideShapes Go.ChangeAt Go.RowKit Go.Deep Go.Maps
set_option maxRecDepth 100000

/-- The accounts of the law: the sender's bucket, the empty box of the other one. -/
def RtI (f : Nat → Option Ac) (now q last : Int) : Prop := ∃ a b, f 1 = some a ∧ a.lk = linkL ((1 : Nat) : Int) ∧ a.out = false ∧ (a.t ≤ now ∧ 0 ≤ a.t ∧ a.k ≤ 5) ∧ bkAt 5 10 a.t a.k now = q ∧ f 2 = some b ∧ b.L = [] ∧ b.last = last
theorem RtI.after {f f4 : Nat → Option Ac} {now q last : Int} {a b : Ac} {root tag : List UInt8} {s : Sm} {er : Int} (ha : f 1 = some a) (la : a.lk = linkL ((1 : Nat) : Int)) (oa : a.out = false) (ta : a.t ≤ now ∧ 0 ≤ a.t ∧ a.k ≤ 5) (n0 : 0 ≤ now) (qa : bkAt 5 10 a.t a.k now = q) (hb : f 2 = some b) (Lb : b.L = []) (lb : b.last = last) (h0 : 0 ≤ last) (h2 : now ≤ 1000000) (hm : macL (linkL ((1 : Nat) : Int)) (xvL 1 2 120) = tag) (q5 : q ≤ 5) (st : StepS f f4 1 2 a b root tag 120 now s er) :
    (q = 0 ∧ er = 10 ∧ RtI f4 now 0 last ∧ ∃ b4, f4 2 = some b4 ∧ ∀ id, RtI (upd f4 2 (some { b4 with L := akL b4.L b4.last id })) now 0 last) ∨
    (q ≠ 0 ∧ er = 0 ∧ ∃ b4, f4 2 = some b4 ∧ RtI (upd f4 2 (some { b4 with L := akL b4.L b4.last (last + 1) })) now (q - 1) (last + 1)) := by
  rcases st.rate hm oa (by rw [Lb]; decide) ta.1 h2 with ⟨q1, q2, q3⟩ | ⟨q1, q2, _, A', c', q3⟩
  · refine .inl ⟨qa.symm.trans q1, q2, ?_, b, ?_, fun id => ?_⟩
    · exact ⟨{ a with t := now, k := 0 }, b, by rw [q3, upd_same], la, oa, ⟨Int.le_refl _, n0, by show (0 : Int) ≤ 5; decide⟩, bkAt_same (by show (0 : Int) ≤ 5; decide), by rw [q3, upd_other _ _ (by decide)]; exact hb, Lb, lb⟩
    · rw [q3, upd_other _ _ (by decide)]; exact hb
    · exact ⟨{ a with t := now, k := 0 }, _, by rw [upd_other _ _ (by decide), q3, upd_same], la, oa, ⟨Int.le_refl _, n0, by show (0 : Int) ≤ 5; decide⟩, bkAt_same (by show (0 : Int) ≤ 5; decide), upd_same _ _ _, by show akL b.L b.last id = []; rw [Lb]; exact ak_nil, lb⟩
  · refine .inr ⟨fun z => q1 (qa.trans z), q2, _, (congrFun q3 2).trans (upd_same _ _ _), { a with t := now, k := bkAt 5 10 a.t a.k now - 1 }, _, ?_, la, oa, ⟨Int.le_refl _, n0, by show bkAt 5 10 a.t a.k now - 1 ≤ 5; omega⟩, ?_, upd_same _ _ _, ?_, ?_⟩
    · rw [upd_other _ _ (by decide), q3, upd_other _ _ (by decide), upd_same]
    · show bkAt 5 10 now (bkAt 5 10 a.t a.k now - 1) now = q - 1
      rw [qa]
      exact bkAt_same (by omega)
    · show akL (b.L ++ [_]) (b.last + 1) (last + 1) = []
      rw [Lb, lb]
      exact (ak_one (last := last + 1) (x := ⟨(mlOf _ _ _ _ _ _ _ s).as (last + 1), A', c'⟩) rfl (by omega)).2
    · show b.last + 1 = last + 1
      rw [lb]
theorem RtI.shift {f : Nat → Option Ac} {q last : Int} {wt : Nat} {T : Nat} (h : RtI f 0 q last) (hT : (5 < q + ((wt / 10 : Nat) : Int) ∧ T = 5) ∨ (¬ 5 < q + ((wt / 10 : Nat) : Int) ∧ (T : Int) = q + ((wt / 10 : Nat) : Int))) : RtI f (wt : Int) (T : Int) last := by
  obtain ⟨a, b, ha, la, oa, ⟨t1, t2, k5⟩, qa, r⟩ := h
  have t0 : a.t = 0 := by omega
  refine ⟨a, b, ha, la, oa, ⟨by omega, t2, k5⟩, ?_, r⟩
  rw [t0] at qa ⊢
  rw [bkAt_same k5] at qa
  rw [qa]
  unfold bkAt
  have e : (wt : Int) / 10 - 0 / 10 = ((wt / 10 : Nat) : Int) := by omega
  rw [e]
  rcases hT with ⟨h1, h2⟩ | ⟨h1, h2⟩
  · rw [if_pos h1, h2]; rfl
  · rw [if_neg h1, h2]
set_option maxHeartbeats 32000000 in
theorem RelayRates_calls {w : World} {root : List UInt8} (lr : root.length = 32) {n wait : Int} {tg : TypeId × Nat × Nat} (hG : Gl w tg) : Calls Tryd.prog 6 #[.agg (cellsOf root).toArray, .int .i64 n, .int .i64 wait] w fun e w' => e = .returned (.bool true) ∧ Ext w w' := by
  have hcv := conv_const
  have AW := Lib.hid (awake20_calls hG)
  have BG := Lib.hid (fun (W : World) (x : w.heap.size ≤ W.heap.size) => begun20_calls (root := root) (w := W) lr x)
  have GE : Hid (∀ W, Ext w W → Gl W tg) := fun W e => hG.kept e hG.lt
  have S_r : (cellsOf root).toArray.size = 32 := by simp [cellsOf_len, lr]
  have hGH := Lib.hid hG
  have hal := key_alloc16
  have S_Z := zeros32_size
  have halE := env_alloc20
  have L_zE := zE_len
  have halS := stamp_alloc16
  have L_ZS := Sm.C_len zSm_ok
  generalize zSm.C = ZS at *
  have S_ZS : ZS.toArray.size = 68 := by rw [List.size_toArray, L_ZS]
  generalize zE = ZE at *
  have S_ZE : ZE.toArray.size = 69 := by rw [List.size_toArray, L_zE]
  have LK : Hid (∀ W : World, Calls Tryd.prog 18 #[.int .i64 1] W fun e w' => e = .returned (.agg (cellsOf (linkL ((1 : Nat) : Int))).toArray) ∧ Ext W w') := fun W => link_calls (n := 1)
  obtain ⟨tag, htag⟩ : ∃ tag, tag = macL (linkL ((1 : Nat) : Int)) (xvL 1 2 120) := ⟨_, rfl⟩
  have L_tag : tag.length = 32 := by rw [htag]; exact macL_len _ _
  have TGc : Hid (∀ u A, Gl u tg → Bs u A 1 1 [120] → Calls Tryd.prog 23 #[.agg (cellsOf (linkL ((1 : Nat) : Int))).toArray, .agg (xvC 1 2 A).toArray] u fun e w' => e = .returned (.tuple #[.agg (cellsOf tag).toArray, .int .i64 0]) ∧ Ext u w') := fun u A hg hb => by rw [htag]; exact xtag_calls (by omega) (by omega) hb hg
  replace htag := Lib.hid (fun _ : Unit => htag)
  have S_tag : (cellsOf tag).toArray.size = 32 := by simp [cellsOf_len, L_tag]
  have O_tag := cellsOf_one tag
  generalize linkL ((1 : Nat) : Int) = lk at LK TGc
  generalize zeros32 = Z at *
  clear hG
  have RB : Hid ((w.alloc (.cells (cellsOf root).toArray 23)).heap[w.heap.size]? = some (.cells (cellsOf root).toArray 23 (0, 0)) ∧ Ext w (w.alloc (.cells (cellsOf root).toArray 23))) := ⟨heap_alloc_new _ _, (Ext.refl w).alloc _⟩
  have AW' : Hid (∀ W, Ext w W → Calls Tryd.prog 10 #[] W fun e w' => e = .returned (.bool true) ∧ Ext W w') := fun W x => awake20_calls (GE.out W x)
  go_enter Tryd.func6, Tryd.ntmps6
  go_upto_region 1 with fail
  refine wp_gen (fun W => W.heap[w.heap.size]? = some (.cells (cellsOf root).toArray 23 (0, 0)) ∧ Ext w W) RB.out ?_
  clear RB AW
  rintro w0 ⟨k0, x0⟩
  have AW := Lib.hid (AW'.out w0 x0)
  clear AW'
  replace k0 := Lib.hid k0
  replace x0 := Lib.hid x0
  go_wp2_with fail
  refine AW.out.mono ?_
  rintro e w1 ⟨rfl, x1⟩
  have k1 := (x1.block _ (heap_lt k0.out)).trans k0.out
  have X1 : Hid (Ext w w1) := x0.out.trans x1
  clear AW k0 x0 x1
  go_wp2_with (first | ((with_reducible refine wpList_load_rowW (o := ⟨some 21, _, _, _, _, _⟩) ?_ 23 _ rfl w.heap.size ?_ 23 (cellsOf root).toArray (0, 0) _ ?_ Tryd.underlying23 ?_ ?_ ?_); (· rfl); (· rfl); (· exact k1); (· rfl); (· rw [S_r]; rfl); go_frame))
  refine (BG.out w1 X1.out.size).mono ?_
  rintro e w2 ⟨g, f, rfl, r2, bg, hg, x2⟩
  have LP : Hid (Lp w w2 g root f 0) := ⟨r2, X1.out.trans x2⟩
  replace bg := Lib.hid bg
  clear BG X1 r2 x2 k1
  by_cases hn0 : n < 0
  · have u1 : decide (n < 0) = true := decide_eq_true hn0
    clear LK TGc bg
    go_wp2_with fail
    go_ret
    exact ⟨rfl, LP.out.xt⟩
  have u1 : decide (n < 0) = false := decide_eq_false hn0
  by_cases hn7 : 7 < n
  · have u2 : decide (7 < n) = true := decide_eq_true hn7
    clear LK TGc bg
    go_wp2_with fail
    go_ret
    exact ⟨rfl, LP.out.xt⟩
  have u2 : decide (7 < n) = false := decide_eq_false hn7
  by_cases hw0 : wait < 0
  · have u3 : decide (wait < 0) = true := decide_eq_true hw0
    clear LK TGc bg
    go_wp2_with fail
    go_ret
    exact ⟨rfl, LP.out.xt⟩
  have u3 : decide (wait < 0) = false := decide_eq_false hw0
  by_cases hw6 : 60 < wait
  · have u4 : decide (60 < wait) = true := decide_eq_true hw6
    clear LK TGc bg
    go_wp2_with fail
    go_ret
    exact ⟨rfl, LP.out.xt⟩
  have u4 : decide (60 < wait) = false := decide_eq_false hw6
  obtain ⟨m, rfl⟩ : ∃ m : Nat, n = (m : Int) := ⟨n.toNat, by omega⟩
  obtain ⟨wt, rfl⟩ : ∃ m : Nat, wait = (m : Int) := ⟨wait.toNat, by omega⟩
  have m7 : m ≤ 7 := by omega
  have w60 : wt ≤ 60 := by omega
  clear hn0 hn7 hw0 hw6
  have EBL : Hid (BsB w.heap.size (w2.alloc (.cells #[.int .u8 120] 5 (1, 2))) (some ⟨w2.heap.size, 0, none⟩) 1 1 [120]) := BsB.boxed8 w2 120 120 rfl (1, 2)
  have XB : Hid (Ext w2 (w2.alloc (.cells #[.int .u8 120] 5 (1, 2)))) := (Ext.refl _).alloc _
  have BEc := Lib.hid (xv_built1 (some ⟨w2.heap.size, 0, none⟩))
  have L_ev := xvC_len 1 2 (some ⟨w2.heap.size, 0, none⟩)
  have O_ev := xvC_one 1 2 (some ⟨w2.heap.size, 0, none⟩)
  obtain ⟨AA, hAA⟩ : ∃ AA : Option Addr, AA = some ⟨w2.heap.size, 0, none⟩ := ⟨_, rfl⟩
  obtain ⟨ev, hev⟩ : ∃ ev, ev = xvC 1 2 AA := ⟨_, rfl⟩
  rw [← hAA] at EBL BEc L_ev O_ev
  rw [← hev] at BEc L_ev O_ev
  have S_ev : ev.toArray.size = 69 := by rw [List.size_toArray, L_ev]
  replace hev := Lib.hid (fun _ : Unit => hev)
  rw [hAA] at BEc
  obtain ⟨r, hr⟩ : ∃ r, r = w2.heap.size + 1 := ⟨_, rfl⟩
  have sU : (w2.alloc (.cells #[.int .u8 120] 5 (1, 2))).heap.size = r := by rw [hr]; simp
  have k0 : ((w2.alloc (.cells #[.int .u8 120] 5 (1, 2))).alloc (.cells ZE.toArray 37)).heap[r]? = some (.cells ZE.toArray 37 (0, 0)) := by rw [← sU]; exact heap_alloc_new _ _
  have W0 : Hid (Cb (((w2.alloc (.cells #[.int .u8 120] 5 (1, 2))).alloc (.cells ZE.toArray 37)).setRow r ev.toArray) r 37 ev ∧ BsB w.heap.size (((w2.alloc (.cells #[.int .u8 120] 5 (1, 2))).alloc (.cells ZE.toArray 37)).setRow r ev.toArray) AA 1 1 [120] ∧ Ext w2 (((w2.alloc (.cells #[.int .u8 120] 5 (1, 2))).alloc (.cells ZE.toArray 37)).setRow r ev.toArray)) := by
    have x : Ext (w2.alloc (.cells #[.int .u8 120] 5 (1, 2))) (((w2.alloc (.cells #[.int .u8 120] 5 (1, 2))).alloc (.cells ZE.toArray 37)).setRow r ev.toArray) := below_setRow ((Ext.refl _).alloc _) (by rw [sU]; exact Nat.le_refl _) _
    exact ⟨setRow_heap _ _ _ _ _ _ k0, EBL.out.ext x, XB.out.trans x⟩
  replace hAA := Lib.hid (fun _ : Unit => hAA)
  clear XB EBL
  have sU' := hr
  replace hr := Lib.hid (fun _ : Unit => hr)
  go_upto_region 6 with (first
    | (refine wpList_build_as rfl _ _ rfl ev.toArray (by simp only [List.map_toArray, List.map_cons, List.map_nil]; exact BEc.out) ?_; go_frame)
    | (refine wpList_store_row rfl 37 _ _ rfl r ev.toArray (by rw [sU']; rfl) rfl 37 ZE.toArray k0 (by rw [S_ev]; rfl) (by rw [S_ev, S_ZE]) O_ev ?_; simp only [Act.put]))
  refine wp_gen (fun W => Cb W r 37 ev ∧ BsB w.heap.size W AA 1 1 [120] ∧ Ext w2 W) W0.out ?_
  rw [← hr.out ()]
  clear W0 k0 sU sU' BEc O_ev hr
  rintro w3 ⟨k_ev, b_ev, x_ev⟩
  have ENV : Hid (∀ u, Ext w3 u → Cb u r 37 ev) := fun u x => k_ev.ext x
  have TG : Hid (∀ u, Ext w3 u → Calls Tryd.prog 23 #[.agg (cellsOf lk).toArray, .agg ev.toArray] u fun e w' => e = .returned (.tuple #[.agg (cellsOf tag).toArray, .int .i64 0]) ∧ Ext u w') := fun u x => by
    rw [hev.out ()]
    exact TGc.out u AA (GE.out u ((LP.out.ext x_ev).xt.trans x)) (b_ev.ext x).1
  replace k_ev := Lib.hid k_ev
  replace b_ev := Lib.hid b_ev
  have LP3 : Hid (Lp w w3 g root f 0) := LP.out.ext x_ev
  clear x_ev TGc
  go_cut [10, 11] (fun sP sE wx => ∃ gT : Nat, sP = .pointer (some ⟨gT, 0, none⟩) ∧ sE = .int .i64 0 ∧ Ext w3 wx ∧ Ky wx gT tag ∧ w3.heap.size ≤ gT)
  case first =>
    refine qgT (R := Below w3.heap.size) (Below.refl _) (fun _ _ _ => Below.trans) (.rd 1 (.alt 0 (.alt 2 (.rd 3 (.rd 4 (.rd 5 (.alt 6 (.alt 7 (.rd 8 .nil) .stop) .stop)))) (.alt 6 (.alt 2 (.rd 3 (.rd 4 (.rd 5 (.alt 7 (.rd 8 .nil) .stop)))) .stop) .stop)) (.alt 6 (.alt 0 (.alt 2 (.rd 3 (.rd 4 (.rd 5 (.alt 7 (.rd 8 .nil) .stop)))) .stop) .stop) .stop))) 9 ?_
    refine qtV rfl (fun w' => w'.heap[r]? = some (.cells ev.toArray 37 (0, 0))) (fun w' e => ENV.out w' (Ext.trans (Ext.refl _).drew e)) (.agg ev.toArray) (fun w' hF => exec_load_row rfl rfl hF rfl rfl (by rw [S_ev]; rfl)) ?_
    go_frame
    repeat ((first | refine qtR0 ?_ | refine qtS ?_); go_frame)
    have SE : Hid (Ext w3 w3.drew) := (Ext.refl w3).drew
    generalize w3.drew = WC at *
    repeat' (first
      | exact seqT_stop
      | (refine seqT_do (i := 0) _ rfl ?_ ?_ (fun K1 hK1 => ?_)
         (· rfl)
         rotate_left
         go_simp
         refine (LK.out _).mono ?_
         rintro e0 WC ⟨rfl, e⟩
         refine hK1.out _ _ (e.mono SE.out.size) ?_
         clear hK1 K1
         (try replace hL := Lib.hid ((e.block _ (heap_lt hL.out)).trans hL.out))
         replace SE := Lib.hid (SE.out.trans e)
         clear e
         (try go_frame)
         repeat ((first | refine qtR0 ?_ | refine qtS ?_); go_frame)
         skip)
      | (refine seqT_do (i := 2) _ rfl ?_ ?_ (fun K1 hK1 => ?_)
         (· rfl)
         rotate_left
         go_simp
         refine (TG.out _ SE.out).mono ?_
         rintro e0 WC ⟨rfl, e⟩
         refine hK1.out _ _ (e.mono SE.out.size) ?_
         clear hK1 K1
         (try replace hL := Lib.hid ((e.block _ (heap_lt hL.out)).trans hL.out))
         replace SE := Lib.hid (SE.out.trans e)
         clear e
         (try go_frame)
         repeat ((first | refine qtR0 ?_ | refine qtS ?_); go_frame)
         skip)
      | (refine seqT_do (i := 6) _ rfl ?_ ?_ (fun K1 hK1 => ?_)
         (· rfl)
         rotate_left
         go_simp
         have e : Ext WC (WC.alloc (Obj.cells Z 23)) := (Ext.refl WC).alloc _
         obtain ⟨gT, hgT⟩ : ∃ g, g = WC.heap.size := ⟨_, rfl⟩
         have hL := Lib.hid (heap_alloc_new WC (Obj.cells Z 23))
         rw [← hgT] at hL ⊢
         have zl : w3.heap.size ≤ gT := by rw [hgT]; exact SE.out.size
         refine hK1.out _ (WC.alloc (Obj.cells Z 23)) (e.mono SE.out.size) ?_
         clear hK1 K1
         replace SE := Lib.hid (SE.out.trans e)
         clear e
         replace hgT := Lib.hid hgT
         generalize WC.alloc (Obj.cells Z 23) = WC at *
         (try go_frame)
         repeat ((first | refine qtR0 ?_ | refine qtS ?_); go_frame)
         skip)
      | (refine seqT_do (i := 7) _ rfl ?_ ?_ (fun K1 hK1 => ?_)
         (· rfl)
         rotate_left
         refine wp_store_row _ _ _ rfl gT (cellsOf tag).toArray rfl rfl 23 Z hL.out (by rw [S_tag]; rfl) (by rw [S_tag]; exact S_Z) O_tag ?_
         refine hK1.out _ _ (below_setRow (Below.refl _ _) zl _) ?_
         clear hK1 K1
         replace SE : Hid (Ext w3 (WC.setRow gT (cellsOf tag).toArray)) := below_setRow SE.out zl _
         replace hL : Hid (Ky (WC.setRow gT (cellsOf tag).toArray) gT tag) := ⟨setRow_heap _ _ _ _ _ _ hL.out, L_tag⟩
         generalize WC.setRow gT (cellsOf tag).toArray = WC at *
         (try simp only [Act.put])
         repeat ((first | refine qtR0 ?_ | refine qtS ?_); go_frame)
         skip)
      | (refine seqT_done ?_
         go_wp2_with fail
         go_meet
         exact ⟨gT, rfl, rfl, SE.out, hL.out, zl⟩))
  case rest =>
    obtain ⟨gT, rfl, rfl, x3, kT, zT⟩ := hcut
    have EP : Hid (Ep w wc r 1 2 AA 120 gT tag) := ⟨by rw [← hev.out ()]; exact ENV.out wc x3, b_ev.out.ext x3, kT⟩
    have LP4 : Hid (Lp w wc g root f 0) := LP3.out.ext x3
    have RI : Hid (RtI f 0 5 0) := by
      obtain ⟨a, ha, na⟩ := bg.out.1 1 (by omega)
      obtain ⟨b, hb, nb⟩ := bg.out.1 2 (by omega)
      exact ⟨a, b, ha, na.1, na.2.2.2.2.1, by rw [na.2.2.2.2.2.2.2.1, na.2.2.2.2.2.2.2.2]; decide, by rw [na.2.2.2.2.2.2.2.1, na.2.2.2.2.2.2.2.2]; decide, hb, nb.2.2.2.2.2.1, nb.2.2.2.2.2.2.1⟩
    clear LP LP3 ENV TG LK x3 kT zT bg k_ev b_ev GE
    have hTM : Hid (macL (linkL ((1 : Nat) : Int)) (xvL 1 2 120) = tag) := (htag.out ()).symm
    clear htag
    go_wp2_with fail
    go_loopw [12, 13] (fun wv iv wr => ∃ (k p : Nat) (f : Nat → Option Ac), k ≤ m ∧ (p ≤ 5 ∧ p ≤ k) ∧ (p = k ∨ p = 5) ∧ iv = .int .i64 (k : Int) ∧ wv = .int .i64 (p : Int) ∧ Lp w wr g root f k ∧ Ep w wr r 1 2 AA 120 gT tag ∧ RtI f 0 (5 - (p : Int)) (p : Int)) (fun _ iv _ => m - (intOf iv).toNat)
    case atStart => exact ⟨0, 0, f, Nat.zero_le _, ⟨by omega, Nat.le_refl _⟩, .inl rfl, rfl, rfl, LP4.out, EP.out, RI.out⟩
    case round =>
      obtain ⟨k, p, f, hkm, ⟨hp5, hpk⟩, hp, rfl, rfl, lp, ep, ri⟩ := hrel
      replace hp := Lib.hid hp
      clear LP4 EP RI
      by_cases hlt : k < m
      · have hi1 : IntKind.i64.wrap ((k : Int) + 1) = (k : Int) + 1 := IntWalk.i64_in _ (by omega)
        have hi2 : IntKind.i64.wrap ((p : Int) + 1) = (p : Int) + 1 := IntWalk.i64_in _ (by omega)
        obtain ⟨a, b, ha, la, oa, ta, qa, hb, Lb, lb⟩ := ri
        have SN := Lib.hid (lp.send ep (by omega) ha la hb (by omega) (by omega) (by omega) (now := 0) (by omega) (by omega) hGH.out)
        rw [← hev.out ()] at SN
        have kE := ep.ev
        rw [← hev.out ()] at kE
        have kT := ep.kt.1
        have AFT := fun f4 s er => RtI.after (f4 := f4) (root := root) (tag := tag) (s := s) (er := er) ha la oa ta (by omega) qa hb Lb lb (by omega) (by omega) hTM.out (by omega)
        replace AFT := Lib.hid AFT
        replace ep := Lib.hid ep
        clear lp ha la oa ta qa hb Lb lb
        go_wp2_with (first | ((with_reducible refine wpList_load_rowW (o := ⟨some 62, _, _, _, _, _⟩) ?_ 37 _ rfl r ?_ 37 ev.toArray (0, 0) _ ?_ Tryd.underlying37 ?_ ?_ ?_); (· rfl); (· rfl); (· exact kE); (· rfl); (· rw [S_ev]; rfl); go_frame) | ((with_reducible refine wpList_load_rowW (o := ⟨some 63, _, _, _, _, _⟩) ?_ 23 _ rfl gT ?_ 23 (cellsOf tag).toArray (0, 0) _ ?_ Tryd.underlying23 ?_ ?_ ?_); (· rfl); (· rfl); (· exact kT); (· rfl); (· rw [S_tag]; rfl); go_frame))
        refine SN.out.mono ?_
        rintro e w4 ⟨s, er, f4, rfl, sok, lp4, t4, st⟩
        have ep4 : Hid (Ep w w4 r 1 2 AA 120 gT tag) := ep.out.tm t4
        have L_s := Sm.C_len sok
        have O_s := one_cells s.one
        have AF := AFT.out f4 s er st
        generalize s.C = SC at *
        have S_s : SC.toArray.size = 68 := by rw [List.size_toArray, L_s]
        have kS : (w4.alloc (.cells ZS.toArray 67)).heap[w4.heap.size]? = some (.cells ZS.toArray 67 (0, 0)) := heap_alloc_new _ _
        have X5 : Hid (Ext w4 ((w4.alloc (.cells ZS.toArray 67)).setRow w4.heap.size SC.toArray)) := Ext.newRow _ _ _
        have NX : Hid (∀ (id : Int) (b4 : Ac), f4 2 = some b4 → Calls Tryd.prog 28 #[.pointer (some ⟨g, 0, none⟩), .int .i64 2, .int .i64 id] ((w4.alloc (.cells ZS.toArray 67)).setRow w4.heap.size SC.toArray) fun e w' => ∃ er, e = .returned (.int .i64 er) ∧ Lp w w' g root (upd f4 2 (some { b4 with L := akL b4.L b4.last id })) (k + 1) ∧ Ep w w' r 1 2 AA 120 gT tag) := fun id b4 h4 => by
          have l5 := lp4.ext X5.out
          refine (ryack_ok l5.ry l5.size h4 (by omega) id).mono ?_
          rintro e w' ⟨rfl, r6, t6⟩
          exact ⟨_, rfl, l5.tm r6 t6, (ep4.out.ext X5.out).tm t6⟩
        clear SN st lp4 t4 kE kT AFT ep sok ep4 X5
        rcases AF with ⟨q0, rfl, _, b4, h4, ri⟩ | ⟨q0, rfl, b4, h4, ri⟩
        · have AK := Lib.hid (NX.out (p : Int) b4 h4)
          have ri' : Hid (RtI (upd f4 2 (some { b4 with L := akL b4.L b4.last (p : Int) })) 0 (5 - (p : Int)) (p : Int)) := by
            unfold Hid
            rw [q0]
            exact ri (p : Int)
          have hpp : Hid (p = k + 1 ∨ p = 5) := .inr (by omega)
          clear NX h4 q0 hp ri
          go_wp2_with (first
            | (refine wpList_store_row rfl 67 _ _ rfl w4.heap.size SC.toArray rfl rfl 67 ZS.toArray kS (by rw [S_s]; rfl) (by rw [S_s, S_ZS]) O_s ?_; simp only [Act.put]))
          refine AK.out.mono ?_
          rintro e w6 ⟨_, rfl, lp6, ep6⟩
          replace lp6 := Lib.hid lp6
          replace ep6 := Lib.hid ep6
          clear AK kS
          go_wp2_with fail
          go_round
          case rel => exact ⟨k + 1, p, _, by omega, ⟨hp5, by omega⟩, hpp.out, by go_num, rfl, lp6.out, ep6.out, ri'.out⟩
          case measure => simp [intOf]; omega
        · have AK := Lib.hid (NX.out ((p : Int) + 1) b4 h4)
          have hpp : Hid (p + 1 ≤ 5 ∧ (p + 1 = k + 1 ∨ p + 1 = 5)) := by
            have := hp.out
            unfold Hid
            omega
          have ri' : Hid (RtI (upd f4 2 (some { b4 with L := akL b4.L b4.last ((p : Int) + 1) })) 0 (5 - ((p + 1 : Nat) : Int)) ((p + 1 : Nat) : Int)) := by
            have e : 5 - (p : Int) - 1 = 5 - ((p + 1 : Nat) : Int) := by omega
            unfold Hid
            rw [← e]
            exact ri
          clear NX h4 q0 hp ri
          go_wp2_with (first
            | (refine wpList_store_row rfl 67 _ _ rfl w4.heap.size SC.toArray rfl rfl 67 ZS.toArray kS (by rw [S_s]; rfl) (by rw [S_s, S_ZS]) O_s ?_; simp only [Act.put]))
          refine AK.out.mono ?_
          rintro e w6 ⟨_, rfl, lp6, ep6⟩
          replace lp6 := Lib.hid lp6
          replace ep6 := Lib.hid ep6
          clear AK kS
          go_wp2_with fail
          go_round
          case rel => exact ⟨k + 1, p + 1, _, by omega, ⟨hpp.out.1, by omega⟩, hpp.out.2, by go_num, by go_num, lp6.out, ep6.out, ri'.out⟩
          case measure => simp [intOf]; omega
      · obtain rfl : k = m := by omega
        obtain ⟨T, hT, hT5, hTc⟩ : ∃ T : Nat, ((5 < 5 - (p : Int) + ((wt / 10 : Nat) : Int) ∧ T = 5) ∨ (¬ 5 < 5 - (p : Int) + ((wt / 10 : Nat) : Int) ∧ (T : Int) = 5 - (p : Int) + ((wt / 10 : Nat) : Int))) ∧ T ≤ 5 ∧ (T = 5 ∨ T = 5 - p + wt / 10) := by
          by_cases hh : 5 < 5 - (p : Int) + ((wt / 10 : Nat) : Int)
          · exact ⟨5, .inl ⟨hh, rfl⟩, by omega, .inl rfl⟩
          · exact ⟨5 - p + wt / 10, .inr ⟨hh, by omega⟩, by omega, .inr rfl⟩
        have RI2 : Hid (RtI f (wt : Int) (T : Int) (p : Int)) := ri.shift hT
        replace lp := Lib.hid lp
        replace ep := Lib.hid ep
        replace hT := Lib.hid hT
        replace hTc := Lib.hid hTc
        clear ri
        go_wp2_with fail
        go_loopw [16, 17] (fun mv iv wr => ∃ (k2 q : Nat) (f : Nat → Option Ac), k2 ≤ 7 ∧ (q ≤ T ∧ q ≤ k2) ∧ (q = k2 ∨ q = T) ∧ iv = .int .i64 (k2 : Int) ∧ mv = .int .i64 (q : Int) ∧ Lp w wr g root f (k + k2) ∧ Ep w wr r 1 2 AA 120 gT tag ∧ RtI f (wt : Int) ((T : Int) - (q : Int)) ((p : Int) + (q : Int))) (fun _ iv _ => 7 - (intOf iv).toNat)
        case atStart => exact ⟨0, 0, f, Nat.zero_le _, ⟨Nat.zero_le _, Nat.le_refl _⟩, .inl rfl, rfl, rfl, lp.out, ep.out, by rw [show (T : Int) - ((0 : Nat) : Int) = (T : Int) by omega, show (p : Int) + ((0 : Nat) : Int) = (p : Int) by omega]; exact RI2.out⟩
        case round =>
          clear lp ep RI2
          obtain ⟨k2, q, f, hk7, ⟨hqT, hqk⟩, hq, rfl, rfl, lp, ep, ri⟩ := hrel
          replace hq := Lib.hid hq
          by_cases hlt : k2 < 7
          · have hi1 : IntKind.i64.wrap ((k2 : Int) + 1) = (k2 : Int) + 1 := IntWalk.i64_in _ (by omega)
            have hi2 : IntKind.i64.wrap ((q : Int) + 1) = (q : Int) + 1 := IntWalk.i64_in _ (by omega)
            have hi3 : IntKind.i64.wrap ((p : Int) + ((q : Int) + 1)) = (p : Int) + ((q : Int) + 1) := IntWalk.i64_in _ (by omega)
            obtain ⟨a, b, ha, la, oa, ta, qa, hb, Lb, lb⟩ := ri
            have SN := Lib.hid (lp.send ep (by omega) ha la hb (by omega) (by omega) (by omega) (now := (wt : Int)) (by omega) (by omega) hGH.out)
            rw [← hev.out ()] at SN
            have kE := ep.ev
            rw [← hev.out ()] at kE
            have kT := ep.kt.1
            have AFT := fun f4 s er => RtI.after (f4 := f4) (root := root) (tag := tag) (s := s) (er := er) ha la oa ta (by omega) qa hb Lb lb (by omega) (by omega) hTM.out (by omega)
            replace AFT := Lib.hid AFT
            replace ep := Lib.hid ep
            clear lp ha la oa ta qa hb Lb lb
            go_wp2_with (first | ((with_reducible refine wpList_load_rowW (o := ⟨some 82, _, _, _, _, _⟩) ?_ 37 _ rfl r ?_ 37 ev.toArray (0, 0) _ ?_ Tryd.underlying37 ?_ ?_ ?_); (· rfl); (· rfl); (· exact kE); (· rfl); (· rw [S_ev]; rfl); go_frame) | ((with_reducible refine wpList_load_rowW (o := ⟨some 83, _, _, _, _, _⟩) ?_ 23 _ rfl gT ?_ 23 (cellsOf tag).toArray (0, 0) _ ?_ Tryd.underlying23 ?_ ?_ ?_); (· rfl); (· rfl); (· exact kT); (· rfl); (· rw [S_tag]; rfl); go_frame))
            refine SN.out.mono ?_
            rintro e w4 ⟨s, er, f4, rfl, sok, lp4, t4, st⟩
            have ep4 : Hid (Ep w w4 r 1 2 AA 120 gT tag) := ep.out.tm t4
            have L_s := Sm.C_len sok
            have O_s := one_cells s.one
            have AF := AFT.out f4 s er st
            generalize s.C = SC at *
            have S_s : SC.toArray.size = 68 := by rw [List.size_toArray, L_s]
            have kS : (w4.alloc (.cells ZS.toArray 67)).heap[w4.heap.size]? = some (.cells ZS.toArray 67 (0, 0)) := heap_alloc_new _ _
            have X5 : Hid (Ext w4 ((w4.alloc (.cells ZS.toArray 67)).setRow w4.heap.size SC.toArray)) := Ext.newRow _ _ _
            have lp5 : Hid (Lp w ((w4.alloc (.cells ZS.toArray 67)).setRow w4.heap.size SC.toArray) g root f4 (k + k2 + 1) ∧ Ep w ((w4.alloc (.cells ZS.toArray 67)).setRow w4.heap.size SC.toArray) r 1 2 AA 120 gT tag) := ⟨lp4.ext X5.out, ep4.out.ext X5.out⟩
            have NX : Hid (∀ (id : Int) (b4 : Ac), f4 2 = some b4 → Calls Tryd.prog 28 #[.pointer (some ⟨g, 0, none⟩), .int .i64 2, .int .i64 id] ((w4.alloc (.cells ZS.toArray 67)).setRow w4.heap.size SC.toArray) fun e w' => ∃ er, e = .returned (.int .i64 er) ∧ Lp w w' g root (upd f4 2 (some { b4 with L := akL b4.L b4.last id })) (k + k2 + 1) ∧ Ep w w' r 1 2 AA 120 gT tag) := fun id b4 h4 => by
              refine (ryack_ok lp5.out.1.ry lp5.out.1.size h4 (by omega) id).mono ?_
              rintro e w' ⟨rfl, r6, t6⟩
              exact ⟨_, rfl, lp5.out.1.tm r6 t6, lp5.out.2.tm t6⟩
            clear SN st lp4 t4 kE kT AFT ep sok ep4 X5
            rcases AF with ⟨q0, rfl, ri, _⟩ | ⟨q0, rfl, b4, h4, ri⟩
            · have ri' : Hid (RtI f4 (wt : Int) ((T : Int) - (q : Int)) ((p : Int) + (q : Int))) := by
                unfold Hid
                rw [q0]
                exact ri
              have hpp : Hid (q = k2 + 1 ∨ q = T) := .inr (by omega)
              clear NX q0 hq ri
              go_wp2_with (first
                | (refine wpList_store_row rfl 67 _ _ rfl w4.heap.size SC.toArray rfl rfl 67 ZS.toArray kS (by rw [S_s]; rfl) (by rw [S_s, S_ZS]) O_s ?_; simp only [Act.put]))
              go_round
              case rel => exact ⟨k2 + 1, q, f4, by omega, ⟨hqT, by omega⟩, hpp.out, by go_num, rfl, lp5.out.1, lp5.out.2, ri'.out⟩
              case measure => simp [intOf]; omega
            · have AK := Lib.hid (NX.out ((p : Int) + ((q : Int) + 1)) b4 h4)
              have hpp : Hid (q + 1 ≤ T ∧ (q + 1 = k2 + 1 ∨ q + 1 = T)) := by
                have := hq.out
                unfold Hid
                omega
              have ri' : Hid (RtI (upd f4 2 (some { b4 with L := akL b4.L b4.last ((p : Int) + ((q : Int) + 1)) })) (wt : Int) ((T : Int) - ((q + 1 : Nat) : Int)) ((p : Int) + ((q + 1 : Nat) : Int))) := by
                have e : (T : Int) - (q : Int) - 1 = (T : Int) - ((q + 1 : Nat) : Int) := by omega
                have e2 : (p : Int) + (q : Int) + 1 = (p : Int) + ((q : Int) + 1) := by omega
                unfold Hid
                rw [← e, show (p : Int) + ((q + 1 : Nat) : Int) = (p : Int) + (q : Int) + 1 by omega, ← e2]
                exact ri
              clear NX h4 q0 hq ri lp5
              go_wp2_with (first
                | (refine wpList_store_row rfl 67 _ _ rfl w4.heap.size SC.toArray rfl rfl 67 ZS.toArray kS (by rw [S_s]; rfl) (by rw [S_s, S_ZS]) O_s ?_; simp only [Act.put]))
              refine AK.out.mono ?_
              rintro e w6 ⟨_, rfl, lp6, ep6⟩
              replace lp6 := Lib.hid lp6
              replace ep6 := Lib.hid ep6
              clear AK kS
              go_wp2_with fail
              go_round
              case rel => exact ⟨k2 + 1, q + 1, _, by omega, ⟨hpp.out.1, by omega⟩, hpp.out.2, by go_num, by go_num, lp6.out, ep6.out, ri'.out⟩
              case measure => simp [intOf]; omega
          · obtain rfl : k2 = 7 := by omega
            obtain rfl : q = T := by have := hq.out; omega
            have X := Lib.hid lp.xt
            have dq : Int.tdiv (wt : Int) 10 = ((wt / 10 : Nat) : Int) := by rw [Int.tdiv_eq_ediv_of_nonneg (by omega)]; rfl
            have d0 : ((wt / 10 : Nat) : Int) ≤ 6 := by omega
            obtain ⟨D, hD⟩ : ∃ D, D = wt / 10 := ⟨_, rfl⟩
            rw [← hD] at dq d0 hT
            replace hD := Lib.hid (fun _ : Unit => hD)
            have dw : IntKind.i64.wrap (D : Int) = (D : Int) := IntWalk.i64_in _ (by omega)
            have hTo := hT.out
            clear lp ep ri hT hTc hTM
            by_cases hk5 : k < 5
            · obtain rfl : p = k := by have := hp.out; omega
              have s5 : IntKind.i64.wrap (5 - (p : Int)) = 5 - (p : Int) := IntWalk.i64_in _ (by omega)
              have s6 : IntKind.i64.wrap (5 - (p : Int) + (D : Int)) = 5 - (p : Int) + (D : Int) := IntWalk.i64_in _ (by omega)
              have m1 : (if (p : Int) < 5 then (p : Int) else 5) = (p : Int) := if_pos (by omega)
              have m2 : (if (5 : Int) < (p : Int) then 5 else (p : Int)) = (p : Int) := if_neg (by omega)
              have m3 : (if (5 : Int) < 5 - (p : Int) + (D : Int) then 5 else 5 - (p : Int) + (D : Int)) = (q : Int) := by split <;> omega
              have m4 : (if 5 - (p : Int) + (D : Int) < 5 then 5 - (p : Int) + (D : Int) else 5) = (q : Int) := by split <;> omega
              replace hTo := Lib.hid hTo
              clear hp hq hTo
              go_wp2_with fail
              go_ret
              exact ⟨rfl, X.out⟩
            · obtain rfl : p = 5 := by have := hp.out; omega
              have s5 : IntKind.i64.wrap (5 - ((5 : Nat) : Int)) = 0 := by decide
              have s6 : IntKind.i64.wrap (0 + (D : Int)) = (D : Int) := by rw [Int.zero_add]; exact dw
              have m1 : (if (k : Int) < 5 then (k : Int) else 5) = 5 := by split <;> omega
              have m2 : (if (5 : Int) < (k : Int) then 5 else (k : Int)) = 5 := by split <;> omega
              have m3 : (if (5 : Int) < (D : Int) then 5 else (D : Int)) = (q : Int) := by split <;> omega
              have m4 : (if (D : Int) < 5 then (D : Int) else 5) = (q : Int) := by split <;> omega
              clear hp hq hTo
              rw [show ((5 : Nat) : Int) = 5 from rfl]
              go_wp2_with fail
              go_ret
              exact ⟨rfl, X.out⟩
end Go.Proofs.YtbnjmmefnjoofaaDoor
