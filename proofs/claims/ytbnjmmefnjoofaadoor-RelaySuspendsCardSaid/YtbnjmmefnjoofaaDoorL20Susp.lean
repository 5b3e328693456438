import Derived.Test.YtbnjmmefnjoofaaDoorPkB
/-
  The law RelaySuspends (written by gen20l.py).
-/
namespace Go.Proofs.YtbnjmmefnjoofaaDoor
open Go.ChangeShapes Go.WideShapes Go.ChangeAt Go.RowKit Go.Deep Go.Maps
set_option maxRecDepth 100000

/-- One with a bucket that is not empty at a time. -/
def Bok (a : Ac) (now : Int) : Prop := 0 ≤ a.t ∧ a.t ≤ now ∧ 0 ≤ a.k ∧ a.k ≤ 5 ∧ 1 ≤ bkAt 5 10 a.t a.k now
theorem bk_more {t k now : Int} (h : t ≤ now) (t0 : 0 ≤ t) (k0 : 0 ≤ k) : 1 ≤ bkAt 5 10 t k (now + 20) := by
  unfold bkAt
  split
  · decide
  · omega
theorem Bok.late {a : Ac} {now : Int} (h : Bok a now) : Bok a (now + 20) := ⟨h.1, by have := h.2.1; omega, h.2.2.1, h.2.2.2.1, bk_more h.2.1 h.1 h.2.2.1⟩
theorem Bok.took {a : Ac} {now : Int} (h : Bok a now) (n0 : 0 ≤ now) : Bok { a with t := now, k := bkAt 5 10 a.t a.k now - 1 } (now + 20) := by
  obtain ⟨h1, h2, h3, h4, h5⟩ := h
  have h6 : bkAt 5 10 a.t a.k now ≤ 5 := by unfold bkAt; split <;> omega
  refine ⟨n0, by show now ≤ now + 20; omega, by show 0 ≤ bkAt 5 10 a.t a.k now - 1; omega, by show bkAt 5 10 a.t a.k now - 1 ≤ 5; omega, bk_more (Int.le_refl now) n0 (by show 0 ≤ bkAt 5 10 a.t a.k now - 1; omega)⟩
/-- A box of none or of one, by its last number. -/
def Bx (a : Ac) (full : Bool) : Prop := 0 ≤ a.last ∧ ((full = false ∧ a.L = []) ∨ (full = true ∧ ∃ x, a.L = [x] ∧ x.d.id = a.last ∧ 1 ≤ a.last))
/-- The accounts of the law: whether the boxes of 1 and 2 have one. -/
def SuI (f : Nat → Option Ac) (now : Int) (o p q : Bool) : Prop := ∃ a b c, f 0 = some a ∧ a.lk = linkL ((0 : Nat) : Int) ∧ a.out = false ∧ Bok a now ∧ f 1 = some b ∧ b.lk = linkL ((1 : Nat) : Int) ∧ b.out = o ∧ Bok b now ∧ Bx b p ∧ f 2 = some c ∧ Bx c q
theorem SuI.start {f : Nat → Option Ac} (h : Bg f 3) : SuI f 0 false false false := by
  obtain ⟨a, ha, na⟩ := h.1 0 (by omega)
  obtain ⟨b, hb, nb⟩ := h.1 1 (by omega)
  obtain ⟨c, hc, nc⟩ := h.1 2 (by omega)
  refine ⟨a, b, c, ha, na.1, na.2.2.2.2.1, ?_, hb, nb.1, nb.2.2.2.2.1, ?_, ?_, hc, ?_⟩
  · unfold Bok; rw [na.2.2.2.2.2.2.2.1, na.2.2.2.2.2.2.2.2]; decide
  · unfold Bok; rw [nb.2.2.2.2.2.2.2.1, nb.2.2.2.2.2.2.2.2]; decide
  · exact ⟨by rw [nb.2.2.2.2.2.2.1]; exact Int.le_refl 0, .inl ⟨rfl, nb.2.2.2.2.2.1⟩⟩
  · exact ⟨by rw [nc.2.2.2.2.2.2.1]; exact Int.le_refl 0, .inl ⟨rfl, nc.2.2.2.2.2.1⟩⟩
theorem Bx.len {a : Ac} {p : Bool} (h : Bx a p) : a.L.length = if p then 1 else 0 := by
  rcases h.2 with ⟨rfl, q⟩ | ⟨rfl, x, q, _⟩
  · rw [q]; rfl
  · rw [q]; rfl
theorem SuI.suspend {f : Nat → Option Ac} {now : Int} {o p q : Bool} (h : SuI f now o p q) (v : Bool) : ∃ b, f 1 = some b ∧ SuI (upd f 1 (some { b with out := v })) now v p q := by
  obtain ⟨a, b, c, ha, la, oa, ka, hb, lb, ob, kb, xb, hc, xc⟩ := h
  exact ⟨b, hb, a, _, c, (upd_other _ _ (by decide)).trans ha, la, oa, ka, upd_same _ _ _, lb, rfl, kb, xb, (upd_other _ _ (by decide)).trans hc, xc⟩
/-- 1 sends to 2. -/
theorem SuI.one {f f' : Nat → Option Ac} {now : Int} {o : Bool} (h : SuI f now o false false) {a b : Ac} (ha : f 1 = some a) (hb : f 2 = some b) {root tag : List UInt8} {x : UInt8} {s : Sm} {er : Int} (t0 : 0 ≤ now) (t6 : now ≤ 1000000) (hm : macL (linkL ((1 : Nat) : Int)) (xvL 1 2 x) = tag) (st : StepS f f' 1 2 a b root tag x now s er) :
    (o = true ∧ er = 11 ∧ SuI f' now o false false ∧ ∃ b', f' 1 = some b' ∧ Bok b' (now + 20)) ∨ (o = false ∧ er = 0 ∧ ∃ a' b' c', f' 0 = some a' ∧ a'.lk = linkL ((0 : Nat) : Int) ∧ a'.out = false ∧ Bok a' now ∧ f' 1 = some b' ∧ b'.lk = linkL ((1 : Nat) : Int) ∧ b'.out = false ∧ Bok b' (now + 20) ∧ Bx b' false ∧ f' 2 = some c' ∧ Bx c' true) := by
  obtain ⟨a0, b0, c0, h0, l0, o0, k0, h1, l1, o1, k1, x1, h2, x2⟩ := h
  obtain rfl : a = b0 := Option.some.inj (ha.symm.trans h1)
  obtain rfl : b = c0 := Option.some.inj (hb.symm.trans h2)
  have Lb : b.L = [] := by
    rcases x2.2 with ⟨_, q⟩ | ⟨q, _⟩
    · exact q
    · cases q
  rcases ho : a.out with _ | _
  · right
    rcases st.rate hm ho (by rw [Lb]; decide) k1.2.1 t6 with ⟨q1, _⟩ | ⟨q1, q2, _, A', c', q3⟩
    · have := k1.2.2.2.2; omega
    · refine ⟨o1.symm.trans ho, q2, a0, { a with t := now, k := bkAt 5 10 a.t a.k now - 1 }, _, by rw [q3, upd_other _ _ (by decide), upd_other _ _ (by decide)]; exact h0, l0, o0, k0, ?_, l1, ho, k1.took t0, x1, (congrFun q3 2).trans (upd_same _ _ _), ?_⟩
      · rw [q3, upd_other _ _ (by decide), upd_same]
      · refine ⟨by show 0 ≤ b.last + 1; have := x2.1; omega, .inr ⟨rfl, _, by show b.L ++ [_] = [_]; rw [Lb]; rfl, rfl, by show 1 ≤ b.last + 1; have := x2.1; omega⟩⟩
  · left
    rcases st with ⟨q, _⟩ | ⟨_, _, q1, q2⟩ | ⟨_, q, _⟩ | ⟨_, q, _⟩
    · exact absurd hm q
    · exact ⟨o1.symm.trans ho, q1, by rw [q2]; exact ⟨a0, a, b, h0, l0, o0, k0, h1, l1, o1, k1, x1, h2, x2⟩, a, by rw [q2]; exact h1, k1.late⟩
    · rw [ho] at q; cases q
    · rw [ho] at q; cases q
/-- 0 sends to 1. -/
theorem su_two {f f' : Nat → Option Ac} {now : Int} {a b c : Ac} (ha : f 0 = some a) (la : a.lk = linkL ((0 : Nat) : Int)) (oa : a.out = false) (ka : Bok a now) (hb : f 1 = some b) (lb : b.lk = linkL ((1 : Nat) : Int)) (kb : Bok b (now + 20)) (xb : Bx b false) (hc : f 2 = some c) {q : Bool} (xc : Bx c q) {root tag : List UInt8} {x : UInt8} {s : Sm} {er : Int} (t0 : 0 ≤ now) (t6 : now ≤ 1000000) (hm : macL (linkL ((0 : Nat) : Int)) (xvL 0 1 x) = tag) (st : StepS f f' 0 1 a b root tag x now s er) :
    er = 0 ∧ SuI f' (now + 20) b.out true q := by
  have Lb : b.L = [] := by
    rcases xb.2 with ⟨_, q⟩ | ⟨q, _⟩
    · exact q
    · cases q
  rcases st.rate hm oa (by rw [Lb]; decide) ka.2.1 t6 with ⟨q1, _⟩ | ⟨q1, q2, _, A', c', q3⟩
  · have := ka.2.2.2.2; omega
  · refine ⟨q2, { a with t := now, k := bkAt 5 10 a.t a.k now - 1 }, _, c, ?_, la, oa, ka.took t0, (congrFun q3 1).trans (upd_same _ _ _), lb, rfl, kb, ?_, by rw [q3, upd_other _ _ (by decide), upd_other _ _ (by decide)]; exact hc, xc⟩
    · rw [q3, upd_other _ _ (by decide), upd_same]
    · refine ⟨by show 0 ≤ b.last + 1; have := xb.1; omega, .inr ⟨rfl, _, by show b.L ++ [_] = [_]; rw [Lb]; rfl, rfl, by show 1 ≤ b.last + 1; have := xb.1; omega⟩⟩
/-- The one in a box is let go. -/
theorem Bx.ack {a : Ac} (h : Bx a true) {id : Int} (hid : ∀ x, a.L = [x] → x.d.id = id) : akE a.L a.last id = 0 ∧ Bx { a with L := akL a.L a.last id } false := by
  rcases h.2 with ⟨q, _⟩ | ⟨_, x, q, q1, q2⟩
  · cases q
  · have e : id = a.last := (hid x q).symm.trans q1
    obtain ⟨z1, z2⟩ := ak_one (x := x) (last := a.last) q1 q2
    subst e
    rw [q]
    exact ⟨z1, h.1, .inl ⟨rfl, z2⟩⟩
/-- The state within the loop over the boxes. -/
def SuN (f : Nat → Option Ac) (now : Int) (o p q : Bool) (n : Nat) (done : Bool) : Prop := SuI f now o (p && (decide (n < 1) || (decide (n = 1) && !done))) (q && (decide (n < 2) || (decide (n = 2) && !done)))
set_option maxHeartbeats 32000000 in
theorem RelaySuspends_calls {w : World} {root : List UInt8} (lr : root.length = 32) {A : Option Addr} {sn sc : Nat} {fb : Nat → Bool} (hbl : Bls w A sn sc fb) {tg : TypeId × Nat × Nat} (hG : Gl w tg) : Calls Tryd.prog 8 #[.agg (cellsOf root).toArray, .slice A sn sc] w fun e w' => e = .returned (.bool true) ∧ Ext w w' := by
  have hcv := conv_const
  have AW := Lib.hid (awake20_calls hG)
  have BG := Lib.hid (fun (W : World) (x : w.heap.size ≤ W.heap.size) => begun20_calls (root := root) (w := W) lr x)
  have GE : Hid (∀ W, Ext w W → Gl W tg) := fun W e => hG.kept e hG.lt
  have S_r : (cellsOf root).toArray.size = 32 := by simp [cellsOf_len, lr]
  have hGH := Lib.hid hG
  have hal := key_alloc16
  have S_Z := zeros32_size
  have halE := env_alloc20
  have L_zE := zE_len
  have halS := stamp_alloc16
  have L_ZS := Sm.C_len zSm_ok
  generalize zSm.C = ZS at *
  have S_ZS : ZS.toArray.size = 68 := by rw [List.size_toArray, L_ZS]
  generalize zE = ZE at *
  have S_ZE : ZE.toArray.size = 69 := by rw [List.size_toArray, L_zE]
  have LK : Hid (∀ W : World, Calls Tryd.prog 18 #[.int .i64 1] W fun e w' => e = .returned (.agg (cellsOf (linkL ((1 : Nat) : Int))).toArray) ∧ Ext W w') := fun W => link_calls (n := 1)
  obtain ⟨tag, htag⟩ : ∃ tag, tag = macL (linkL ((1 : Nat) : Int)) (xvL 1 2 120) := ⟨_, rfl⟩
  have L_tag : tag.length = 32 := by rw [htag]; exact macL_len _ _
  have TGc : Hid (∀ u A, Gl u tg → Bs u A 1 1 [120] → Calls Tryd.prog 23 #[.agg (cellsOf (linkL ((1 : Nat) : Int))).toArray, .agg (xvC 1 2 A).toArray] u fun e w' => e = .returned (.tuple #[.agg (cellsOf tag).toArray, .int .i64 0]) ∧ Ext u w') := fun u A hg hb => by rw [htag]; exact xtag_calls (by omega) (by omega) hb hg
  replace htag := Lib.hid (fun _ : Unit => htag)
  have S_tag : (cellsOf tag).toArray.size = 32 := by simp [cellsOf_len, L_tag]
  have O_tag := cellsOf_one tag
  generalize linkL ((1 : Nat) : Int) = lk at LK TGc
  have LKb : Hid (∀ W : World, Calls Tryd.prog 18 #[.int .i64 0] W fun e w' => e = .returned (.agg (cellsOf (linkL ((0 : Nat) : Int))).toArray) ∧ Ext W w') := fun W => link_calls (n := 0)
  obtain ⟨tgb, htgb⟩ : ∃ tag, tag = macL (linkL ((0 : Nat) : Int)) (xvL 0 1 121) := ⟨_, rfl⟩
  have L_tgb : tgb.length = 32 := by rw [htgb]; exact macL_len _ _
  have TGcb : Hid (∀ u A, Gl u tg → Bs u A 1 1 [121] → Calls Tryd.prog 23 #[.agg (cellsOf (linkL ((0 : Nat) : Int))).toArray, .agg (xvC 0 1 A).toArray] u fun e w' => e = .returned (.tuple #[.agg (cellsOf tgb).toArray, .int .i64 0]) ∧ Ext u w') := fun u A hg hb => by rw [htgb]; exact xtag_calls (by omega) (by omega) hb hg
  replace htgb := Lib.hid (fun _ : Unit => htgb)
  have S_tgb : (cellsOf tgb).toArray.size = 32 := by simp [cellsOf_len, L_tgb]
  have O_tgb := cellsOf_one tgb
  generalize linkL ((0 : Nat) : Int) = lkb at LKb TGcb
  have bcap := hbl.1
  have bcm : sc ≤ 9223372036854775807 := by have := hbl.2.1; unfold maxLen at this; omega
  replace hbl := Lib.hid hbl
  generalize zeros32 = Z at *
  clear hG
  have RB : Hid ((w.alloc (.cells (cellsOf root).toArray 23)).heap[w.heap.size]? = some (.cells (cellsOf root).toArray 23 (0, 0)) ∧ Ext w (w.alloc (.cells (cellsOf root).toArray 23))) := ⟨heap_alloc_new _ _, (Ext.refl w).alloc _⟩
  have AW' : Hid (∀ W, Ext w W → Calls Tryd.prog 10 #[] W fun e w' => e = .returned (.bool true) ∧ Ext W w') := fun W x => awake20_calls (GE.out W x)
  go_enter Tryd.func8, Tryd.ntmps8
  go_upto_region 1 with fail
  refine wp_gen (fun W => W.heap[w.heap.size]? = some (.cells (cellsOf root).toArray 23 (0, 0)) ∧ Ext w W) RB.out ?_
  clear RB AW
  rintro w0 ⟨k0, x0⟩
  have AW := Lib.hid (AW'.out w0 x0)
  clear AW'
  replace k0 := Lib.hid k0
  replace x0 := Lib.hid x0
  go_wp2_with fail
  refine AW.out.mono ?_
  rintro e w1 ⟨rfl, x1⟩
  have k1 := (x1.block _ (heap_lt k0.out)).trans k0.out
  have X1 : Hid (Ext w w1) := x0.out.trans x1
  clear AW k0 x0 x1
  go_wp2_with (first | ((with_reducible refine wpList_load_rowW (o := ⟨some 24, _, _, _, _, _⟩) ?_ 23 _ rfl w.heap.size ?_ 23 (cellsOf root).toArray (0, 0) _ ?_ Tryd.underlying23 ?_ ?_ ?_); (· rfl); (· rfl); (· exact k1); (· rfl); (· rw [S_r]; rfl); go_frame))
  refine (BG.out w1 X1.out.size).mono ?_
  rintro e w2 ⟨g, f, rfl, r2, bg, hg, x2⟩
  have LP : Hid (Lp w w2 g root f 0) := ⟨r2, X1.out.trans x2⟩
  replace bg := Lib.hid bg
  clear BG X1 r2 x2 k1
  by_cases h30 : 30 < sn
  · have u1 : decide ((30 : Int) < (sn : Int)) = true := decide_eq_true (by omega)
    clear LK TGc LKb TGcb bg
    go_wp2_with fail
    go_ret
    exact ⟨rfl, LP.out.xt⟩
  have u1 : decide ((30 : Int) < (sn : Int)) = false := decide_eq_false (by omega)
  have BI := Lib.hid (SuI.start bg.out)
  clear bg
  have EBL : Hid (BsB w.heap.size (w2.alloc (.cells #[.int .u8 120] 5 (1, 2))) (some ⟨w2.heap.size, 0, none⟩) 1 1 [120]) := BsB.boxed8 w2 120 120 rfl (1, 2)
  have XB : Hid (Ext w2 (w2.alloc (.cells #[.int .u8 120] 5 (1, 2)))) := (Ext.refl _).alloc _
  have BEc := Lib.hid (xv_built1 (some ⟨w2.heap.size, 0, none⟩))
  have L_ev := xvC_len 1 2 (some ⟨w2.heap.size, 0, none⟩)
  have O_ev := xvC_one 1 2 (some ⟨w2.heap.size, 0, none⟩)
  obtain ⟨AA, hAA⟩ : ∃ AA : Option Addr, AA = some ⟨w2.heap.size, 0, none⟩ := ⟨_, rfl⟩
  obtain ⟨ev, hev⟩ : ∃ ev, ev = xvC 1 2 AA := ⟨_, rfl⟩
  rw [← hAA] at EBL BEc L_ev O_ev
  rw [← hev] at BEc L_ev O_ev
  have S_ev : ev.toArray.size = 69 := by rw [List.size_toArray, L_ev]
  replace hev := Lib.hid (fun _ : Unit => hev)
  rw [hAA] at BEc
  obtain ⟨r, hr⟩ : ∃ r, r = w2.heap.size + 1 := ⟨_, rfl⟩
  have sU : (w2.alloc (.cells #[.int .u8 120] 5 (1, 2))).heap.size = r := by rw [hr]; simp
  have k0 : ((w2.alloc (.cells #[.int .u8 120] 5 (1, 2))).alloc (.cells ZE.toArray 37)).heap[r]? = some (.cells ZE.toArray 37 (0, 0)) := by rw [← sU]; exact heap_alloc_new _ _
  have W0 : Hid (Cb (((w2.alloc (.cells #[.int .u8 120] 5 (1, 2))).alloc (.cells ZE.toArray 37)).setRow r ev.toArray) r 37 ev ∧ BsB w.heap.size (((w2.alloc (.cells #[.int .u8 120] 5 (1, 2))).alloc (.cells ZE.toArray 37)).setRow r ev.toArray) AA 1 1 [120] ∧ Ext w2 (((w2.alloc (.cells #[.int .u8 120] 5 (1, 2))).alloc (.cells ZE.toArray 37)).setRow r ev.toArray)) := by
    have x : Ext (w2.alloc (.cells #[.int .u8 120] 5 (1, 2))) (((w2.alloc (.cells #[.int .u8 120] 5 (1, 2))).alloc (.cells ZE.toArray 37)).setRow r ev.toArray) := below_setRow ((Ext.refl _).alloc _) (by rw [sU]; exact Nat.le_refl _) _
    exact ⟨setRow_heap _ _ _ _ _ _ k0, EBL.out.ext x, XB.out.trans x⟩
  replace hAA := Lib.hid (fun _ : Unit => hAA)
  clear XB EBL
  have sU' := hr
  replace hr := Lib.hid (fun _ : Unit => hr)
  go_upto_region 6 with (first
    | (refine wpList_build_as rfl _ _ rfl ev.toArray (by simp only [List.map_toArray, List.map_cons, List.map_nil]; exact BEc.out) ?_; go_frame)
    | (refine wpList_store_row rfl 37 _ _ rfl r ev.toArray (by rw [sU']; rfl) rfl 37 ZE.toArray k0 (by rw [S_ev]; rfl) (by rw [S_ev, S_ZE]) O_ev ?_; simp only [Act.put]))
  refine wp_gen (fun W => Cb W r 37 ev ∧ BsB w.heap.size W AA 1 1 [120] ∧ Ext w2 W) W0.out ?_
  rw [← hr.out ()]
  clear W0 k0 sU sU' BEc O_ev hr
  rintro w3 ⟨k_ev, b_ev, x_ev⟩
  have LP3 : Hid (Lp w w3 g root f 0) := LP.out.ext x_ev
  have szr : r < w3.heap.size := k_ev.lt
  replace k_ev := Lib.hid k_ev
  replace b_ev := Lib.hid b_ev
  clear LP x_ev hAA
  have EBL : Hid (BsB w.heap.size (w3.alloc (.cells #[.int .u8 121] 5 (1, 2))) (some ⟨w3.heap.size, 0, none⟩) 1 1 [121]) := BsB.boxed8 w3 121 121 rfl (1, 2)
  have XB : Hid (Ext w3 (w3.alloc (.cells #[.int .u8 121] 5 (1, 2)))) := (Ext.refl _).alloc _
  have BEc := Lib.hid (xv_built0 (some ⟨w3.heap.size, 0, none⟩))
  have L_eu := xvC_len 0 1 (some ⟨w3.heap.size, 0, none⟩)
  have O_eu := xvC_one 0 1 (some ⟨w3.heap.size, 0, none⟩)
  obtain ⟨AU, hAA⟩ : ∃ AA : Option Addr, AA = some ⟨w3.heap.size, 0, none⟩ := ⟨_, rfl⟩
  obtain ⟨eu, heu⟩ : ∃ ev, ev = xvC 0 1 AU := ⟨_, rfl⟩
  rw [← hAA] at EBL BEc L_eu O_eu
  rw [← heu] at BEc L_eu O_eu
  have S_eu : eu.toArray.size = 69 := by rw [List.size_toArray, L_eu]
  replace heu := Lib.hid (fun _ : Unit => heu)
  rw [hAA] at BEc
  obtain ⟨ru, hr⟩ : ∃ r, r = w3.heap.size + 1 := ⟨_, rfl⟩
  have sU : (w3.alloc (.cells #[.int .u8 121] 5 (1, 2))).heap.size = ru := by rw [hr]; simp
  have k0 : ((w3.alloc (.cells #[.int .u8 121] 5 (1, 2))).alloc (.cells ZE.toArray 37)).heap[ru]? = some (.cells ZE.toArray 37 (0, 0)) := by rw [← sU]; exact heap_alloc_new _ _
  have W0 : Hid (Cb (((w3.alloc (.cells #[.int .u8 121] 5 (1, 2))).alloc (.cells ZE.toArray 37)).setRow ru eu.toArray) ru 37 eu ∧ BsB w.heap.size (((w3.alloc (.cells #[.int .u8 121] 5 (1, 2))).alloc (.cells ZE.toArray 37)).setRow ru eu.toArray) AU 1 1 [121] ∧ Ext w3 (((w3.alloc (.cells #[.int .u8 121] 5 (1, 2))).alloc (.cells ZE.toArray 37)).setRow ru eu.toArray)) := by
    have x : Ext (w3.alloc (.cells #[.int .u8 121] 5 (1, 2))) (((w3.alloc (.cells #[.int .u8 121] 5 (1, 2))).alloc (.cells ZE.toArray 37)).setRow ru eu.toArray) := below_setRow ((Ext.refl _).alloc _) (by rw [sU]; exact Nat.le_refl _) _
    exact ⟨setRow_heap _ _ _ _ _ _ k0, EBL.out.ext x, XB.out.trans x⟩
  replace hAA := Lib.hid (fun _ : Unit => hAA)
  clear XB EBL
  have sU' := hr
  replace hr := Lib.hid (fun _ : Unit => hr)
  go_upto_region 7 with (first
    | (refine wpList_build_as rfl _ _ rfl eu.toArray (by simp only [List.map_toArray, List.map_cons, List.map_nil]; exact BEc.out) ?_; go_frame)
    | (refine wpList_store_row rfl 37 _ _ rfl ru eu.toArray (by rw [sU']; rfl) rfl 37 ZE.toArray k0 (by rw [S_eu]; rfl) (by rw [S_eu, S_ZE]) O_eu ?_; simp only [Act.put]))
  refine wp_gen (fun W => Cb W ru 37 eu ∧ BsB w.heap.size W AU 1 1 [121] ∧ Ext w3 W) W0.out ?_
  rw [← hr.out ()]
  clear W0 k0 sU sU' BEc O_eu hr
  rintro w4 ⟨k_eu, b_eu, x_eu⟩
  have LP4 : Hid (Lp w w4 g root f 0) := LP3.out.ext x_eu
  have k_ev4 : Hid (Cb w4 r 37 ev) := k_ev.out.ext x_eu
  have b_ev4 : Hid (BsB w.heap.size w4 AA 1 1 [120]) := b_ev.out.ext x_eu
  clear LP3 k_ev b_ev x_eu hAA
  have ENV : Hid (∀ u, Ext w4 u → Cb u r 37 ev) := fun u x => k_ev4.out.ext x
  have TG : Hid (∀ u, Ext w4 u → Calls Tryd.prog 23 #[.agg (cellsOf lk).toArray, .agg ev.toArray] u fun e w' => e = .returned (.tuple #[.agg (cellsOf tag).toArray, .int .i64 0]) ∧ Ext u w') := fun u x => by
    rw [hev.out ()]
    exact TGc.out u AA (GE.out u (LP4.out.xt.trans x)) (b_ev4.out.ext x).1
  have k_eu4 := Lib.hid k_eu
  have b_eu4 := Lib.hid b_eu
  clear k_eu b_eu TGc
  go_cut [9, 10] (fun sP sE wx => ∃ gT : Nat, sP = .pointer (some ⟨gT, 0, none⟩) ∧ sE = .int .i64 0 ∧ Ext w4 wx ∧ Ky wx gT tag ∧ w4.heap.size ≤ gT)
  case first =>
    refine qgT (R := Below w4.heap.size) (Below.refl _) (fun _ _ _ => Below.trans) (.rd 1 (.alt 0 (.alt 2 (.rd 3 (.rd 4 (.rd 5 (.alt 6 (.alt 7 (.rd 8 .nil) .stop) .stop)))) (.alt 6 (.alt 2 (.rd 3 (.rd 4 (.rd 5 (.alt 7 (.rd 8 .nil) .stop)))) .stop) .stop)) (.alt 6 (.alt 0 (.alt 2 (.rd 3 (.rd 4 (.rd 5 (.alt 7 (.rd 8 .nil) .stop)))) .stop) .stop) .stop))) 9 ?_
    refine qtV rfl (fun w' => w'.heap[r]? = some (.cells ev.toArray 37 (0, 0))) (fun w' e => ENV.out w' (Ext.trans (Ext.refl _).drew e)) (.agg ev.toArray) (fun w' hF => exec_load_row rfl rfl hF rfl rfl (by rw [S_ev]; rfl)) ?_
    go_frame
    repeat ((first | refine qtR0 ?_ | refine qtS ?_); go_frame)
    have SE : Hid (Ext w4 w4.drew) := (Ext.refl w4).drew
    generalize w4.drew = WC at *
    repeat' (first
      | exact seqT_stop
      | (refine seqT_do (i := 0) _ rfl ?_ ?_ (fun K1 hK1 => ?_)
         (· rfl)
         rotate_left
         go_simp
         refine (LK.out _).mono ?_
         rintro e0 WC ⟨rfl, e⟩
         refine hK1.out _ _ (e.mono SE.out.size) ?_
         clear hK1 K1
         (try replace hL := Lib.hid ((e.block _ (heap_lt hL.out)).trans hL.out))
         replace SE := Lib.hid (SE.out.trans e)
         clear e
         (try go_frame)
         repeat ((first | refine qtR0 ?_ | refine qtS ?_); go_frame)
         skip)
      | (refine seqT_do (i := 2) _ rfl ?_ ?_ (fun K1 hK1 => ?_)
         (· rfl)
         rotate_left
         go_simp
         refine (TG.out _ SE.out).mono ?_
         rintro e0 WC ⟨rfl, e⟩
         refine hK1.out _ _ (e.mono SE.out.size) ?_
         clear hK1 K1
         (try replace hL := Lib.hid ((e.block _ (heap_lt hL.out)).trans hL.out))
         replace SE := Lib.hid (SE.out.trans e)
         clear e
         (try go_frame)
         repeat ((first | refine qtR0 ?_ | refine qtS ?_); go_frame)
         skip)
      | (refine seqT_do (i := 6) _ rfl ?_ ?_ (fun K1 hK1 => ?_)
         (· rfl)
         rotate_left
         go_simp
         have e : Ext WC (WC.alloc (Obj.cells Z 23)) := (Ext.refl WC).alloc _
         obtain ⟨gT, hgT⟩ : ∃ g, g = WC.heap.size := ⟨_, rfl⟩
         have hL := Lib.hid (heap_alloc_new WC (Obj.cells Z 23))
         rw [← hgT] at hL ⊢
         have zl : w4.heap.size ≤ gT := by rw [hgT]; exact SE.out.size
         refine hK1.out _ (WC.alloc (Obj.cells Z 23)) (e.mono SE.out.size) ?_
         clear hK1 K1
         replace SE := Lib.hid (SE.out.trans e)
         clear e
         replace hgT := Lib.hid hgT
         generalize WC.alloc (Obj.cells Z 23) = WC at *
         (try go_frame)
         repeat ((first | refine qtR0 ?_ | refine qtS ?_); go_frame)
         skip)
      | (refine seqT_do (i := 7) _ rfl ?_ ?_ (fun K1 hK1 => ?_)
         (· rfl)
         rotate_left
         refine wp_store_row _ _ _ rfl gT (cellsOf tag).toArray rfl rfl 23 Z hL.out (by rw [S_tag]; rfl) (by rw [S_tag]; exact S_Z) O_tag ?_
         refine hK1.out _ _ (below_setRow (Below.refl _ _) zl _) ?_
         clear hK1 K1
         replace SE : Hid (Ext w4 (WC.setRow gT (cellsOf tag).toArray)) := below_setRow SE.out zl _
         replace hL : Hid (Ky (WC.setRow gT (cellsOf tag).toArray) gT tag) := ⟨setRow_heap _ _ _ _ _ _ hL.out, L_tag⟩
         generalize WC.setRow gT (cellsOf tag).toArray = WC at *
         (try simp only [Act.put])
         repeat ((first | refine qtR0 ?_ | refine qtS ?_); go_frame)
         skip)
      | (refine seqT_done ?_
         go_wp2_with fail
         go_meet
         exact ⟨gT, rfl, rfl, SE.out, hL.out, zl⟩))
  case rest =>
    obtain ⟨gT, rfl, rfl, x5, kT, zT⟩ := hcut
    have EP : Hid (Ep w wc r 1 2 AA 120 gT tag) := ⟨by rw [← hev.out ()]; exact ENV.out wc x5, b_ev4.out.ext x5, kT⟩
    have LP5 : Hid (Lp w wc g root f 0) := LP4.out.ext x5
    have k_eu5 : Hid (Cb wc ru 37 eu) := k_eu4.out.ext x5
    have b_eu5 : Hid (BsB w.heap.size wc AU 1 1 [121]) := b_eu4.out.ext x5
    clear LP4 ENV TG LK k_ev4 b_ev4 k_eu4 b_eu4 x5 kT zT
    have hTM : Hid (macL (linkL ((1 : Nat) : Int)) (xvL 1 2 120) = tag) := (htag.out ()).symm
    clear htag
    have ENV : Hid (∀ u, Ext wc u → Cb u ru 37 eu) := fun u x => k_eu5.out.ext x
    have TG : Hid (∀ u, Ext wc u → Calls Tryd.prog 23 #[.agg (cellsOf lkb).toArray, .agg eu.toArray] u fun e w' => e = .returned (.tuple #[.agg (cellsOf tgb).toArray, .int .i64 0]) ∧ Ext u w') := fun u x => by
      rw [heu.out ()]
      exact TGcb.out u AU (GE.out u (LP5.out.xt.trans x)) (b_eu5.out.ext x).1
    clear TGcb
    generalize wc = wd at *
    go_upto_region 8 with fail
    go_cut [11, 12] (fun sP sE wx => ∃ gU : Nat, sP = .pointer (some ⟨gU, 0, none⟩) ∧ sE = .int .i64 0 ∧ Ext wd wx ∧ Ky wx gU tgb ∧ wd.heap.size ≤ gU)
    case first =>
      refine qgT (R := Below wd.heap.size) (Below.refl _) (fun _ _ _ => Below.trans) (.rd 1 (.alt 0 (.alt 2 (.rd 3 (.rd 4 (.rd 5 (.alt 6 (.alt 7 (.rd 8 .nil) .stop) .stop)))) (.alt 6 (.alt 2 (.rd 3 (.rd 4 (.rd 5 (.alt 7 (.rd 8 .nil) .stop)))) .stop) .stop)) (.alt 6 (.alt 0 (.alt 2 (.rd 3 (.rd 4 (.rd 5 (.alt 7 (.rd 8 .nil) .stop)))) .stop) .stop) .stop))) 9 ?_
      refine qtV rfl (fun w' => w'.heap[ru]? = some (.cells eu.toArray 37 (0, 0))) (fun w' e => ENV.out w' (Ext.trans (Ext.refl _).drew e)) (.agg eu.toArray) (fun w' hF => exec_load_row rfl rfl hF rfl rfl (by rw [S_eu]; rfl)) ?_
      go_frame
      repeat ((first | refine qtR0 ?_ | refine qtS ?_); go_frame)
      have SE : Hid (Ext wd wd.drew) := (Ext.refl wd).drew
      generalize wd.drew = WC at *
      repeat' (first
        | exact seqT_stop
        | (refine seqT_do (i := 0) _ rfl ?_ ?_ (fun K1 hK1 => ?_)
           (· rfl)
           rotate_left
           go_simp
           refine (LKb.out _).mono ?_
           rintro e0 WC ⟨rfl, e⟩
           refine hK1.out _ _ (e.mono SE.out.size) ?_
           clear hK1 K1
           (try replace hL := Lib.hid ((e.block _ (heap_lt hL.out)).trans hL.out))
           replace SE := Lib.hid (SE.out.trans e)
           clear e
           (try go_frame)
           repeat ((first | refine qtR0 ?_ | refine qtS ?_); go_frame)
           skip)
        | (refine seqT_do (i := 2) _ rfl ?_ ?_ (fun K1 hK1 => ?_)
           (· rfl)
           rotate_left
           go_simp
           refine (TG.out _ SE.out).mono ?_
           rintro e0 WC ⟨rfl, e⟩
           refine hK1.out _ _ (e.mono SE.out.size) ?_
           clear hK1 K1
           (try replace hL := Lib.hid ((e.block _ (heap_lt hL.out)).trans hL.out))
           replace SE := Lib.hid (SE.out.trans e)
           clear e
           (try go_frame)
           repeat ((first | refine qtR0 ?_ | refine qtS ?_); go_frame)
           skip)
        | (refine seqT_do (i := 6) _ rfl ?_ ?_ (fun K1 hK1 => ?_)
           (· rfl)
           rotate_left
           go_simp
           have e : Ext WC (WC.alloc (Obj.cells Z 23)) := (Ext.refl WC).alloc _
           obtain ⟨gU, hgU⟩ : ∃ g, g = WC.heap.size := ⟨_, rfl⟩
           have hL := Lib.hid (heap_alloc_new WC (Obj.cells Z 23))
           rw [← hgU] at hL ⊢
           have zl : wd.heap.size ≤ gU := by rw [hgU]; exact SE.out.size
           refine hK1.out _ (WC.alloc (Obj.cells Z 23)) (e.mono SE.out.size) ?_
           clear hK1 K1
           replace SE := Lib.hid (SE.out.trans e)
           clear e
           replace hgU := Lib.hid hgU
           generalize WC.alloc (Obj.cells Z 23) = WC at *
           (try go_frame)
           repeat ((first | refine qtR0 ?_ | refine qtS ?_); go_frame)
           skip)
        | (refine seqT_do (i := 7) _ rfl ?_ ?_ (fun K1 hK1 => ?_)
           (· rfl)
           rotate_left
           refine wp_store_row _ _ _ rfl gU (cellsOf tgb).toArray rfl rfl 23 Z hL.out (by rw [S_tgb]; rfl) (by rw [S_tgb]; exact S_Z) O_tgb ?_
           refine hK1.out _ _ (below_setRow (Below.refl _ _) zl _) ?_
           clear hK1 K1
           replace SE : Hid (Ext wd (WC.setRow gU (cellsOf tgb).toArray)) := below_setRow SE.out zl _
           replace hL : Hid (Ky (WC.setRow gU (cellsOf tgb).toArray) gU tgb) := ⟨setRow_heap _ _ _ _ _ _ hL.out, L_tgb⟩
           generalize WC.setRow gU (cellsOf tgb).toArray = WC at *
           (try simp only [Act.put])
           repeat ((first | refine qtR0 ?_ | refine qtS ?_); go_frame)
           skip)
        | (refine seqT_done ?_
           go_wp2_with fail
           go_meet
           exact ⟨gU, rfl, rfl, SE.out, hL.out, zl⟩))
    case rest =>
      obtain ⟨gU, rfl, rfl, x6, kU, zU⟩ := hcut
      have EU : Hid (Ep w wc ru 0 1 AU 121 gU tgb) := ⟨by rw [← heu.out ()]; exact ENV.out wc x6, b_eu5.out.ext x6, kU⟩
      have EP6 : Hid (Ep w wc r 1 2 AA 120 gT tag) := EP.out.ext x6
      have LP6 : Hid (Lp w wc g root f 0) := LP5.out.ext x6
      have hTU : Hid (macL (linkL ((0 : Nat) : Int)) (xvL 0 1 121) = tgb) := (htgb.out ()).symm
      clear htgb LP5 EP ENV TG LKb x6 kU zU k_eu5 b_eu5 GE
      go_wp2_with fail
      go_loopw [13] (fun iv wr => ∃ (k N : Nat) (f : Nat → Option Ac) (o : Bool), k ≤ sn ∧ iv = .int .i64 (k : Int) ∧ N ≤ 2 * k ∧ Lp w wr g root f N ∧ Ep w wr r 1 2 AA 120 gT tag ∧ Ep w wr ru 0 1 AU 121 gU tgb ∧ SuI f (20 * (k : Int)) o false false) (fun iv _ => sn - (intOf iv).toNat)
      case atStart => exact ⟨0, 0, f, false, Nat.zero_le _, rfl, by omega, LP6.out, EP6.out, EU.out, BI.out⟩
      case round =>
        clear LP6 EP6 EU BI
        obtain ⟨k, N, f, o, hk, rfl, hN, lp, ep, eu, su⟩ := hrel
        by_cases hlt : k < sn
        · have hi1 : IntKind.i64.wrap ((k : Int) + 1) = (k : Int) + 1 := IntWalk.i64_in _ (by omega)
          have hi3 : IntKind.i64.wrap (20 * (k : Int)) = 20 * (k : Int) := IntWalk.i64_in _ (by omega)
          replace su := Lib.hid su
          obtain ⟨bb, boff, rfl, hbb, hbc⟩ := hbl.out.2.2 (by omega)
          have hbk := hbc k hlt
          clear hbc
          rcases hfb : fb k with _ | _
          · have HB : Hid (∀ W, Ext w W → W.cell? ⟨bb, boff + k, none⟩ = some (.bool false)) := fun W x => by rw [← hfb]; exact (x.cell hbb).trans hbk
            clear hbk hfb
            obtain ⟨b1, hb1, su7⟩ := su.out.suspend false
            have SP := Lib.hid (suspend_ok lp.ry hb1 (by omega) false)
            have LPX : Hid (∀ W f', RY w.heap.size W g root 5 f' N → Tm w.heap.size tagY wr W → Lp w W g root f' N ∧ Ep w W r 1 2 AA 120 gT tag ∧ Ep w W ru 0 1 AU 121 gU tgb) := fun W f' q1 q2 => ⟨lp.tm q1 q2, ep.tm q2, eu.tm q2⟩
            have hS0 := HB.out wr lp.xt
            generalize upd f 1 (some { b1 with out := false }) = f7 at *
            clear lp ep eu su hb1
            go_wp2_with fail
            refine SP.out.mono ?_
            rintro e w7 ⟨rfl, r7, t7⟩
            obtain ⟨lp7, ep7, eu7⟩ := LPX.out w7 f7 r7 t7
            obtain ⟨y1, hy1, ly1, y2, hy2⟩ : ∃ a, f7 1 = some a ∧ a.lk = linkL ((1 : Nat) : Int) ∧ ∃ b, f7 2 = some b := by
              obtain ⟨_, b0, c0, _, _, _, _, q1, q2, _, _, _, q3, _⟩ := su7
              exact ⟨b0, q1, q2, c0, q3⟩
            have SN := Lib.hid (lp7.send ep7 (by omega) hy1 ly1 hy2 (by omega) (by omega) (by omega) (now := 20 * (k : Int)) (by omega) (by omega) hGH.out)
            rw [← hev.out ()] at SN
            have AFT := fun f' s er => su7.one (f' := f') (root := root) (tag := tag) (x := 120) (s := s) (er := er) hy1 hy2 (by omega) (by omega) hTM.out
            replace AFT := Lib.hid AFT
            have kE := ep7.ev
            rw [← hev.out ()] at kE
            have kT1 := ep7.kt.1
            have EP7 := Lib.hid ep7
            have EU7 := Lib.hid eu7
            clear SP LPX lp7 ep7 eu7 hy1 hy2 ly1 su7 r7 t7 hS0
            go_wp2_with (first | ((with_reducible refine wpList_load_rowW (o := ⟨some 70, _, _, _, _, _⟩) ?_ 37 _ rfl r ?_ 37 ev.toArray (0, 0) _ ?_ Tryd.underlying37 ?_ ?_ ?_); (· rfl); (· rfl); (· exact kE); (· rfl); (· rw [S_ev]; rfl); go_frame) | ((with_reducible refine wpList_load_rowW (o := ⟨some 71, _, _, _, _, _⟩) ?_ 23 _ rfl gT ?_ 23 (cellsOf tag).toArray (0, 0) _ ?_ Tryd.underlying23 ?_ ?_ ?_); (· rfl); (· rfl); (· exact kT1); (· rfl); (· rw [S_tag]; rfl); go_frame))
            refine SN.out.mono ?_
            rintro e w8 ⟨s, er, f8, rfl, sok, lp8, t8, st⟩
            have AF := AFT.out f8 s er st
            have L_s := Sm.C_len sok
            have O_s := one_cells s.one
            generalize s.C = SC at *
            have S_s : SC.toArray.size = 68 := by rw [List.size_toArray, L_s]
            have kS : (w8.alloc (.cells ZS.toArray 67)).heap[w8.heap.size]? = some (.cells ZS.toArray 67 (0, 0)) := heap_alloc_new _ _
            have X9 : Ext w8 ((w8.alloc (.cells ZS.toArray 67)).setRow w8.heap.size SC.toArray) := Ext.newRow _ _ _
            have N9 : Hid (Lp w ((w8.alloc (.cells ZS.toArray 67)).setRow w8.heap.size SC.toArray) g root f8 (N + 1) ∧ Ep w ((w8.alloc (.cells ZS.toArray 67)).setRow w8.heap.size SC.toArray) r 1 2 AA 120 gT tag ∧ Ep w ((w8.alloc (.cells ZS.toArray 67)).setRow w8.heap.size SC.toArray) ru 0 1 AU 121 gU tgb) := ⟨lp8.ext X9, (EP7.out.tm t8).ext X9, (EU7.out.tm t8).ext X9⟩
            obtain ⟨her, a0, b0, c0, h0, l0, o0, k0, h1, l1, o1, k1, x1, h2, x2⟩ : er = 0 ∧ ∃ a b c, f8 0 = some a ∧ a.lk = linkL ((0 : Nat) : Int) ∧ a.out = false ∧ Bok a (20 * (k : Int)) ∧ f8 1 = some b ∧ b.lk = linkL ((1 : Nat) : Int) ∧ b.out = false ∧ Bok b (20 * (k : Int) + 20) ∧ Bx b false ∧ f8 2 = some c ∧ Bx c true := by
              rcases AF with ⟨z1, z2, ⟨a0, b0, c0, h0, l0, o0, k0, h1, l1, o1, k1, x1, h2, x2⟩, b', hb', kb'⟩ | ⟨z1, z2, a', b', c', z3⟩
              · cases z1
              · exact ⟨z2, a', b', c', z3⟩
            subst her
            clear SN AFT AF st lp8 t8 kE kT1 EP7 EU7 sok X9
            go_upto_region 14 with (first
              | (refine wpList_store_row rfl 67 _ _ rfl w8.heap.size SC.toArray rfl rfl 67 ZS.toArray kS (by rw [S_s]; rfl) (by rw [S_s, S_ZS]) O_s ?_; simp only [Act.put]))
            refine wp_gen (fun W => Lp w W g root f8 (N + 1) ∧ Ep w W r 1 2 AA 120 gT tag ∧ Ep w W ru 0 1 AU 121 gU tgb) N9.out ?_
            clear N9 kS
            rintro w9 ⟨lp9, ep9, eu9⟩
            have SN := Lib.hid (lp9.send eu9 (by omega) h0 l0 h1 (by omega) (by omega) (by omega) (now := 20 * (k : Int)) (by omega) (by omega) hGH.out)
            rw [← heu.out ()] at SN
            have AFT := fun f' s er => su_two (f' := f') (root := root) (tag := tgb) (x := 121) (s := s) (er := er) h0 l0 o0 k0 h1 l1 k1 x1 h2 x2 (by omega) (by omega) hTU.out
            rw [o1] at AFT
            replace AFT := Lib.hid AFT
            have kE := eu9.ev
            rw [← heu.out ()] at kE
            have kT1 := eu9.kt.1
            have EP9 := Lib.hid ep9
            have EU9 := Lib.hid eu9
            clear lp9 ep9 eu9 h0 l0 o0 k0 h1 l1 o1 k1 x1 h2 x2
            go_wp2_with (first | ((with_reducible refine wpList_load_rowW (o := ⟨some 79, _, _, _, _, _⟩) ?_ 37 _ rfl ru ?_ 37 eu.toArray (0, 0) _ ?_ Tryd.underlying37 ?_ ?_ ?_); (· rfl); (· rfl); (· exact kE); (· rfl); (· rw [S_eu]; rfl); go_frame) | ((with_reducible refine wpList_load_rowW (o := ⟨some 80, _, _, _, _, _⟩) ?_ 23 _ rfl gU ?_ 23 (cellsOf tgb).toArray (0, 0) _ ?_ Tryd.underlying23 ?_ ?_ ?_); (· rfl); (· rfl); (· exact kT1); (· rfl); (· rw [S_tgb]; rfl); go_frame))
            refine SN.out.mono ?_
            rintro e wa ⟨s, er, fa, rfl, sok, lpa, ta, st⟩
            obtain ⟨rfl, sua⟩ := AFT.out fa s er st
            have L_s := Sm.C_len sok
            have O_s := one_cells s.one
            generalize s.C = SC2 at *
            have S_s : SC2.toArray.size = 68 := by rw [List.size_toArray, L_s]
            have kS : (wa.alloc (.cells ZS.toArray 67)).heap[wa.heap.size]? = some (.cells ZS.toArray 67 (0, 0)) := heap_alloc_new _ _
            have X9 : Ext wa ((wa.alloc (.cells ZS.toArray 67)).setRow wa.heap.size SC2.toArray) := Ext.newRow _ _ _
            have Na : Hid (Lp w ((wa.alloc (.cells ZS.toArray 67)).setRow wa.heap.size SC2.toArray) g root fa (N + 1 + 1) ∧ Ep w ((wa.alloc (.cells ZS.toArray 67)).setRow wa.heap.size SC2.toArray) r 1 2 AA 120 gT tag ∧ Ep w ((wa.alloc (.cells ZS.toArray 67)).setRow wa.heap.size SC2.toArray) ru 0 1 AU 121 gU tgb) := ⟨lpa.ext X9, (EP9.out.tm ta).ext X9, (EU9.out.tm ta).ext X9⟩
            clear SN AFT st lpa ta kE kT1 EP9 EU9 sok X9
            go_upto_region 15 with (first
              | (refine wpList_store_row rfl 67 _ _ rfl wa.heap.size SC2.toArray rfl rfl 67 ZS.toArray kS (by rw [S_s]; rfl) (by rw [S_s, S_ZS]) O_s ?_; simp only [Act.put]))
            refine wp_gen (fun W => Lp w W g root fa (N + 1 + 1) ∧ Ep w W r 1 2 AA 120 gT tag ∧ Ep w W ru 0 1 AU 121 gU tgb) Na.out ?_
            clear Na kS
            rintro wb ⟨lpb, epb, eub⟩
            have hS := HB.out wb lpb.xt
            have LPb := Lib.hid lpb
            have EPb := Lib.hid epb
            have EUb := Lib.hid eub
            replace sua := Lib.hid sua
            obtain ⟨now2, hnow2⟩ : ∃ x, x = 20 * (k : Int) + 20 := ⟨_, rfl⟩
            rw [← hnow2] at sua
            replace hnow2 := Lib.hid (fun _ : Unit => hnow2)
            clear lpb epb eub
            go_wp2_with fail
            go_loopw [19] (fun nv wr => ∃ (n : Nat) (f : Nat → Option Ac) (N2 : Nat), n ≤ 3 ∧ nv = .int .i64 (n : Int) ∧ Lp w wr g root f N2 ∧ Ep w wr r 1 2 AA 120 gT tag ∧ Ep w wr ru 0 1 AU 121 gU tgb ∧ N2 ≤ N + 2 ∧ ((n = 1 ∧ SuI f now2 false true true) ∨ (n = 2 ∧ SuI f now2 false false true) ∨ (n = 3 ∧ SuI f now2 false false false))) (fun nv _ => 3 - (intOf nv).toNat)
            case atStart => exact ⟨1, fa, N + 1 + 1, by omega, rfl, LPb.out, EPb.out, EUb.out, by omega, .inl ⟨rfl, sua.out⟩⟩
            case round =>
              clear LPb EPb EUb sua hS
              obtain ⟨n, f, N2, hn3, rfl, lpn, epn, eun, hN2, hcase⟩ := hrel
              rcases hcase with ⟨rfl, su⟩ | ⟨rfl, su⟩ | ⟨rfl, su⟩
              · rw [show ((1 : Nat) : Int) = 1 from rfl]
                obtain ⟨a0, b0, c0, h0, l0, o0, k0, h1, l1, o1, k1, x1, h2, x2⟩ := su
                have ML := Lib.hid (mails_ok lpn.ry h1 (by omega))
                have lenL : b0.L.length = 1 := x1.len
                rw [lenL] at ML
                have KN : Hid (∀ W, Ext wr W → Lp w W g root f N2 ∧ Ep w W r 1 2 AA 120 gT tag ∧ Ep w W ru 0 1 AU 121 gU tgb) := fun W x => ⟨lpn.ext x, epn.ext x, eun.ext x⟩
                obtain ⟨xx, hxx, hxi, hx1⟩ : ∃ x, b0.L = [x] ∧ x.d.id = b0.last ∧ 1 ≤ b0.last := by
                  rcases x1.2 with ⟨q, _⟩ | ⟨_, q⟩
                  · cases q
                  · exact q
                have AKX := x1.ack (id := xx.d.id) (fun x hx => by rw [hxx] at hx; injection hx with hx; rw [hx])
                have SU2 : Hid (SuI (upd f 1 (some { b0 with L := akL b0.L b0.last xx.d.id })) now2 false false true) := ⟨a0, _, c0, (upd_other _ _ (by decide)).trans h0, l0, o0, k0, upd_same _ _ _, l1, o1, k1, AKX.2, (upd_other _ _ (by decide)).trans h2, x2⟩
                have ACK : Hid (∀ W, Ext wr W → Calls Tryd.prog 28 #[.pointer (some ⟨g, 0, none⟩), .int .i64 1, .int .i64 xx.d.id] W fun e w' => e = .returned (.int .i64 0) ∧ Lp w w' g root (upd f 1 (some { b0 with L := akL b0.L b0.last xx.d.id })) N2 ∧ Tm w.heap.size tagY W w') := fun W x => by
                  have l := lpn.ext x
                  refine (ryack_ok l.ry l.size h1 (by omega) xx.d.id).mono ?_
                  rintro e w' ⟨rfl, r6, t6⟩
                  exact ⟨by rw [AKX.1], l.tm r6 t6, t6⟩
                have LDX : Hid (∀ (W : World) (qb : Nat) (L' : List Wm), Cb W qb 73 (L'.map Wm.C).flatten → L'.map (·.d) = b0.L.map (·.d) → Cb W qb 73 (L'.map Wm.C).flatten ∧ (L'.map Wm.C).flatten[0]? = some (.int .i64 xx.d.id)) := fun W qb L' h1 h2 => by
                  refine ⟨h1, ?_⟩
                  rw [hxx] at h2
                  obtain ⟨y, l2, rfl, hy, h4⟩ := List.map_eq_cons_iff.1 h2
                  obtain rfl := List.map_eq_nil_iff.1 h4
                  rw [List.map_cons, List.map_nil, List.flatten_cons, List.flatten_nil, List.append_nil, y.c0, hy]
                clear lpn epn eun AKX hxi hx1
                generalize upd f 1 (some { b0 with L := akL b0.L b0.last xx.d.id }) = f2 at *
                obtain ⟨idx, hidx⟩ : ∃ i, i = xx.d.id := ⟨_, rfl⟩
                rw [← hidx] at ACK LDX
                clear hidx
                go_wp2_with fail
                refine ML.out.mono ?_
                rintro e wq ⟨qb, L8, rfl, hqb, c8, d8, _, x8⟩
                obtain ⟨cq, iq⟩ := LDX.out wq qb L8 c8 d8
                obtain ⟨lp8, ep8, eu8⟩ := KN.out wq x8
                have ACK8 := Lib.hid (ACK.out wq x8)
                have hqbw : w.heap.size ≤ qb := Nat.le_trans ((KN.out wr (Ext.refl _)).1.size) hqb
                have cQ : Hid (Cb wq qb 73 (L8.map Wm.C).flatten) := cq
                have cI := cq.cell iq
                have LP8 := Lib.hid lp8
                have EP8 := Lib.hid ep8
                have EU8 := Lib.hid eu8
                clear ML KN LDX ACK x8 lp8 ep8 eu8 c8 d8 cq hxx h0 h1 h2 l0 l1 o0 o1 k0 k1 x1 x2 lenL iq
                go_wp2_with fail
                go_loopw [22] (fun qv wv => ∃ d : Nat, d ≤ 1 ∧ qv = .int .i64 (d : Int) ∧ ((d = 0 ∧ wv = wq) ∨ (d = 1 ∧ Lp w wv g root f2 N2 ∧ Tm w.heap.size tagY wq wv))) (fun qv _ => 1 - (intOf qv).toNat)
                case atStart => exact ⟨0, by omega, rfl, .inl ⟨rfl, rfl⟩⟩
                case round =>
                  obtain ⟨d, hd1, rfl, hd⟩ := hrel
                  rcases hd with ⟨rfl, rfl⟩ | ⟨rfl, lp9, t9⟩
                  · rw [show ((0 : Nat) : Int) = 0 from rfl]
                    go_wp2_with fail
                    refine ACK8.out.mono ?_
                    rintro e w9 ⟨rfl, lp9, t9⟩
                    have LP9 := Lib.hid lp9
                    have T9 := Lib.hid t9
                    clear lp9 t9 ACK8 LP8 EP8 EU8 cI cQ
                    go_wp2_with fail
                    go_round
                    case rel => exact ⟨1, by omega, rfl, .inr ⟨rfl, LP9.out, T9.out⟩⟩
                    case measure => simp [intOf]
                  · rw [show ((1 : Nat) : Int) = 1 from rfl]
                    have EP9 : Hid (Ep w wr r 1 2 AA 120 gT tag) := EP8.out.tm t9
                    have EU9 : Hid (Ep w wr ru 0 1 AU 121 gU tgb) := EU8.out.tm t9
                    have hS := HB.out wr lp9.xt
                    have LP9 := Lib.hid lp9
                    clear lp9 t9 LP8 EP8 EU8 cI cQ ACK8
                    go_wp2_with fail
                    go_round
                    case rel => exact ⟨2, f2, N2, by omega, rfl, LP9.out, EP9.out, EU9.out, hN2, .inr (.inl ⟨rfl, SU2.out⟩)⟩
                    case measure => simp [intOf]
              · rw [show ((2 : Nat) : Int) = 2 from rfl]
                obtain ⟨a0, b0, c0, h0, l0, o0, k0, h1, l1, o1, k1, x1, h2, x2⟩ := su
                have ML := Lib.hid (mails_ok lpn.ry h2 (by omega))
                have lenL : c0.L.length = 1 := x2.len
                rw [lenL] at ML
                have KN : Hid (∀ W, Ext wr W → Lp w W g root f N2 ∧ Ep w W r 1 2 AA 120 gT tag ∧ Ep w W ru 0 1 AU 121 gU tgb) := fun W x => ⟨lpn.ext x, epn.ext x, eun.ext x⟩
                obtain ⟨xx, hxx, hxi, hx1⟩ : ∃ x, c0.L = [x] ∧ x.d.id = c0.last ∧ 1 ≤ c0.last := by
                  rcases x2.2 with ⟨q, _⟩ | ⟨_, q⟩
                  · cases q
                  · exact q
                have AKX := x2.ack (id := xx.d.id) (fun x hx => by rw [hxx] at hx; injection hx with hx; rw [hx])
                have SU2 : Hid (SuI (upd f 2 (some { c0 with L := akL c0.L c0.last xx.d.id })) now2 false false false) := ⟨a0, b0, _, (upd_other _ _ (by decide)).trans h0, l0, o0, k0, (upd_other _ _ (by decide)).trans h1, l1, o1, k1, x1, upd_same _ _ _, AKX.2⟩
                have ACK : Hid (∀ W, Ext wr W → Calls Tryd.prog 28 #[.pointer (some ⟨g, 0, none⟩), .int .i64 2, .int .i64 xx.d.id] W fun e w' => e = .returned (.int .i64 0) ∧ Lp w w' g root (upd f 2 (some { c0 with L := akL c0.L c0.last xx.d.id })) N2 ∧ Tm w.heap.size tagY W w') := fun W x => by
                  have l := lpn.ext x
                  refine (ryack_ok l.ry l.size h2 (by omega) xx.d.id).mono ?_
                  rintro e w' ⟨rfl, r6, t6⟩
                  exact ⟨by rw [AKX.1], l.tm r6 t6, t6⟩
                have LDX : Hid (∀ (W : World) (qb : Nat) (L' : List Wm), Cb W qb 73 (L'.map Wm.C).flatten → L'.map (·.d) = c0.L.map (·.d) → Cb W qb 73 (L'.map Wm.C).flatten ∧ (L'.map Wm.C).flatten[0]? = some (.int .i64 xx.d.id)) := fun W qb L' h1 h2 => by
                  refine ⟨h1, ?_⟩
                  rw [hxx] at h2
                  obtain ⟨y, l2, rfl, hy, h4⟩ := List.map_eq_cons_iff.1 h2
                  obtain rfl := List.map_eq_nil_iff.1 h4
                  rw [List.map_cons, List.map_nil, List.flatten_cons, List.flatten_nil, List.append_nil, y.c0, hy]
                clear lpn epn eun AKX hxi hx1
                generalize upd f 2 (some { c0 with L := akL c0.L c0.last xx.d.id }) = f2 at *
                obtain ⟨idx, hidx⟩ : ∃ i, i = xx.d.id := ⟨_, rfl⟩
                rw [← hidx] at ACK LDX
                clear hidx
                go_wp2_with fail
                refine ML.out.mono ?_
                rintro e wq ⟨qb, L8, rfl, hqb, c8, d8, _, x8⟩
                obtain ⟨cq, iq⟩ := LDX.out wq qb L8 c8 d8
                obtain ⟨lp8, ep8, eu8⟩ := KN.out wq x8
                have ACK8 := Lib.hid (ACK.out wq x8)
                have hqbw : w.heap.size ≤ qb := Nat.le_trans ((KN.out wr (Ext.refl _)).1.size) hqb
                have cQ : Hid (Cb wq qb 73 (L8.map Wm.C).flatten) := cq
                have cI := cq.cell iq
                have LP8 := Lib.hid lp8
                have EP8 := Lib.hid ep8
                have EU8 := Lib.hid eu8
                clear ML KN LDX ACK x8 lp8 ep8 eu8 c8 d8 cq hxx h0 h1 h2 l0 l1 o0 o1 k0 k1 x1 x2 lenL iq
                go_wp2_with fail
                go_loopw [22] (fun qv wv => ∃ d : Nat, d ≤ 1 ∧ qv = .int .i64 (d : Int) ∧ ((d = 0 ∧ wv = wq) ∨ (d = 1 ∧ Lp w wv g root f2 N2 ∧ Tm w.heap.size tagY wq wv))) (fun qv _ => 1 - (intOf qv).toNat)
                case atStart => exact ⟨0, by omega, rfl, .inl ⟨rfl, rfl⟩⟩
                case round =>
                  obtain ⟨d, hd1, rfl, hd⟩ := hrel
                  rcases hd with ⟨rfl, rfl⟩ | ⟨rfl, lp9, t9⟩
                  · rw [show ((0 : Nat) : Int) = 0 from rfl]
                    go_wp2_with fail
                    refine ACK8.out.mono ?_
                    rintro e w9 ⟨rfl, lp9, t9⟩
                    have LP9 := Lib.hid lp9
                    have T9 := Lib.hid t9
                    clear lp9 t9 ACK8 LP8 EP8 EU8 cI cQ
                    go_wp2_with fail
                    go_round
                    case rel => exact ⟨1, by omega, rfl, .inr ⟨rfl, LP9.out, T9.out⟩⟩
                    case measure => simp [intOf]
                  · rw [show ((1 : Nat) : Int) = 1 from rfl]
                    have EP9 : Hid (Ep w wr r 1 2 AA 120 gT tag) := EP8.out.tm t9
                    have EU9 : Hid (Ep w wr ru 0 1 AU 121 gU tgb) := EU8.out.tm t9
                    have hS := HB.out wr lp9.xt
                    have LP9 := Lib.hid lp9
                    clear lp9 t9 LP8 EP8 EU8 cI cQ ACK8
                    go_wp2_with fail
                    go_round
                    case rel => exact ⟨3, f2, N2, by omega, rfl, LP9.out, EP9.out, EU9.out, hN2, .inr (.inr ⟨rfl, SU2.out⟩)⟩
                    case measure => simp [intOf]
              · rw [show ((3 : Nat) : Int) = 3 from rfl]
                have SUk : Hid (SuI f (20 * ((k + 1 : Nat) : Int)) false false false) := by
                  unfold Hid
                  rw [show 20 * ((k + 1 : Nat) : Int) = now2 by rw [hnow2.out ()]; omega]
                  exact su
                have LPn := Lib.hid lpn
                have EPn := Lib.hid epn
                have EUn := Lib.hid eun
                clear lpn epn eun su
                go_wp2_with fail
                go_round
                case rel => exact ⟨k + 1, N2, f, false, by omega, by go_num, by omega, LPn.out, EPn.out, EUn.out, SUk.out⟩
                case measure => simp [intOf]; omega
          · have HB : Hid (∀ W, Ext w W → W.cell? ⟨bb, boff + k, none⟩ = some (.bool true)) := fun W x => by rw [← hfb]; exact (x.cell hbb).trans hbk
            clear hbk hfb
            obtain ⟨b1, hb1, su7⟩ := su.out.suspend true
            have SP := Lib.hid (suspend_ok lp.ry hb1 (by omega) true)
            have LPX : Hid (∀ W f', RY w.heap.size W g root 5 f' N → Tm w.heap.size tagY wr W → Lp w W g root f' N ∧ Ep w W r 1 2 AA 120 gT tag ∧ Ep w W ru 0 1 AU 121 gU tgb) := fun W f' q1 q2 => ⟨lp.tm q1 q2, ep.tm q2, eu.tm q2⟩
            have hS0 := HB.out wr lp.xt
            generalize upd f 1 (some { b1 with out := true }) = f7 at *
            clear lp ep eu su hb1
            go_wp2_with fail
            refine SP.out.mono ?_
            rintro e w7 ⟨rfl, r7, t7⟩
            obtain ⟨lp7, ep7, eu7⟩ := LPX.out w7 f7 r7 t7
            obtain ⟨y1, hy1, ly1, y2, hy2⟩ : ∃ a, f7 1 = some a ∧ a.lk = linkL ((1 : Nat) : Int) ∧ ∃ b, f7 2 = some b := by
              obtain ⟨_, b0, c0, _, _, _, _, q1, q2, _, _, _, q3, _⟩ := su7
              exact ⟨b0, q1, q2, c0, q3⟩
            have SN := Lib.hid (lp7.send ep7 (by omega) hy1 ly1 hy2 (by omega) (by omega) (by omega) (now := 20 * (k : Int)) (by omega) (by omega) hGH.out)
            rw [← hev.out ()] at SN
            have AFT := fun f' s er => su7.one (f' := f') (root := root) (tag := tag) (x := 120) (s := s) (er := er) hy1 hy2 (by omega) (by omega) hTM.out
            replace AFT := Lib.hid AFT
            have kE := ep7.ev
            rw [← hev.out ()] at kE
            have kT1 := ep7.kt.1
            have EP7 := Lib.hid ep7
            have EU7 := Lib.hid eu7
            clear SP LPX lp7 ep7 eu7 hy1 hy2 ly1 su7 r7 t7 hS0
            go_wp2_with (first | ((with_reducible refine wpList_load_rowW (o := ⟨some 70, _, _, _, _, _⟩) ?_ 37 _ rfl r ?_ 37 ev.toArray (0, 0) _ ?_ Tryd.underlying37 ?_ ?_ ?_); (· rfl); (· rfl); (· exact kE); (· rfl); (· rw [S_ev]; rfl); go_frame) | ((with_reducible refine wpList_load_rowW (o := ⟨some 71, _, _, _, _, _⟩) ?_ 23 _ rfl gT ?_ 23 (cellsOf tag).toArray (0, 0) _ ?_ Tryd.underlying23 ?_ ?_ ?_); (· rfl); (· rfl); (· exact kT1); (· rfl); (· rw [S_tag]; rfl); go_frame))
            refine SN.out.mono ?_
            rintro e w8 ⟨s, er, f8, rfl, sok, lp8, t8, st⟩
            have AF := AFT.out f8 s er st
            have L_s := Sm.C_len sok
            have O_s := one_cells s.one
            generalize s.C = SC at *
            have S_s : SC.toArray.size = 68 := by rw [List.size_toArray, L_s]
            have kS : (w8.alloc (.cells ZS.toArray 67)).heap[w8.heap.size]? = some (.cells ZS.toArray 67 (0, 0)) := heap_alloc_new _ _
            have X9 : Ext w8 ((w8.alloc (.cells ZS.toArray 67)).setRow w8.heap.size SC.toArray) := Ext.newRow _ _ _
            have N9 : Hid (Lp w ((w8.alloc (.cells ZS.toArray 67)).setRow w8.heap.size SC.toArray) g root f8 (N + 1) ∧ Ep w ((w8.alloc (.cells ZS.toArray 67)).setRow w8.heap.size SC.toArray) r 1 2 AA 120 gT tag ∧ Ep w ((w8.alloc (.cells ZS.toArray 67)).setRow w8.heap.size SC.toArray) ru 0 1 AU 121 gU tgb) := ⟨lp8.ext X9, (EP7.out.tm t8).ext X9, (EU7.out.tm t8).ext X9⟩
            obtain ⟨her, a0, b0, c0, h0, l0, o0, k0, h1, l1, o1, k1, x1, h2, x2⟩ : er = 11 ∧ ∃ a b c, f8 0 = some a ∧ a.lk = linkL ((0 : Nat) : Int) ∧ a.out = false ∧ Bok a (20 * (k : Int)) ∧ f8 1 = some b ∧ b.lk = linkL ((1 : Nat) : Int) ∧ b.out = true ∧ Bok b (20 * (k : Int) + 20) ∧ Bx b false ∧ f8 2 = some c ∧ Bx c false := by
              rcases AF with ⟨z1, z2, ⟨a0, b0, c0, h0, l0, o0, k0, h1, l1, o1, k1, x1, h2, x2⟩, b', hb', kb'⟩ | ⟨z1, z2, a', b', c', z3⟩
              · exact ⟨z2, a0, b0, c0, h0, l0, o0, k0, h1, l1, o1, by rw [hb'] at h1; rw [← Option.some.inj h1]; exact kb', x1, h2, x2⟩
              · cases z1
            subst her
            clear SN AFT AF st lp8 t8 kE kT1 EP7 EU7 sok X9
            go_upto_region 14 with (first
              | (refine wpList_store_row rfl 67 _ _ rfl w8.heap.size SC.toArray rfl rfl 67 ZS.toArray kS (by rw [S_s]; rfl) (by rw [S_s, S_ZS]) O_s ?_; simp only [Act.put]))
            refine wp_gen (fun W => Lp w W g root f8 (N + 1) ∧ Ep w W r 1 2 AA 120 gT tag ∧ Ep w W ru 0 1 AU 121 gU tgb) N9.out ?_
            clear N9 kS
            rintro w9 ⟨lp9, ep9, eu9⟩
            have SN := Lib.hid (lp9.send eu9 (by omega) h0 l0 h1 (by omega) (by omega) (by omega) (now := 20 * (k : Int)) (by omega) (by omega) hGH.out)
            rw [← heu.out ()] at SN
            have AFT := fun f' s er => su_two (f' := f') (root := root) (tag := tgb) (x := 121) (s := s) (er := er) h0 l0 o0 k0 h1 l1 k1 x1 h2 x2 (by omega) (by omega) hTU.out
            rw [o1] at AFT
            replace AFT := Lib.hid AFT
            have kE := eu9.ev
            rw [← heu.out ()] at kE
            have kT1 := eu9.kt.1
            have EP9 := Lib.hid ep9
            have EU9 := Lib.hid eu9
            clear lp9 ep9 eu9 h0 l0 o0 k0 h1 l1 o1 k1 x1 h2 x2
            go_wp2_with (first | ((with_reducible refine wpList_load_rowW (o := ⟨some 79, _, _, _, _, _⟩) ?_ 37 _ rfl ru ?_ 37 eu.toArray (0, 0) _ ?_ Tryd.underlying37 ?_ ?_ ?_); (· rfl); (· rfl); (· exact kE); (· rfl); (· rw [S_eu]; rfl); go_frame) | ((with_reducible refine wpList_load_rowW (o := ⟨some 80, _, _, _, _, _⟩) ?_ 23 _ rfl gU ?_ 23 (cellsOf tgb).toArray (0, 0) _ ?_ Tryd.underlying23 ?_ ?_ ?_); (· rfl); (· rfl); (· exact kT1); (· rfl); (· rw [S_tgb]; rfl); go_frame))
            refine SN.out.mono ?_
            rintro e wa ⟨s, er, fa, rfl, sok, lpa, ta, st⟩
            obtain ⟨rfl, sua⟩ := AFT.out fa s er st
            have L_s := Sm.C_len sok
            have O_s := one_cells s.one
            generalize s.C = SC2 at *
            have S_s : SC2.toArray.size = 68 := by rw [List.size_toArray, L_s]
            have kS : (wa.alloc (.cells ZS.toArray 67)).heap[wa.heap.size]? = some (.cells ZS.toArray 67 (0, 0)) := heap_alloc_new _ _
            have X9 : Ext wa ((wa.alloc (.cells ZS.toArray 67)).setRow wa.heap.size SC2.toArray) := Ext.newRow _ _ _
            have Na : Hid (Lp w ((wa.alloc (.cells ZS.toArray 67)).setRow wa.heap.size SC2.toArray) g root fa (N + 1 + 1) ∧ Ep w ((wa.alloc (.cells ZS.toArray 67)).setRow wa.heap.size SC2.toArray) r 1 2 AA 120 gT tag ∧ Ep w ((wa.alloc (.cells ZS.toArray 67)).setRow wa.heap.size SC2.toArray) ru 0 1 AU 121 gU tgb) := ⟨lpa.ext X9, (EP9.out.tm ta).ext X9, (EU9.out.tm ta).ext X9⟩
            clear SN AFT st lpa ta kE kT1 EP9 EU9 sok X9
            go_upto_region 15 with (first
              | (refine wpList_store_row rfl 67 _ _ rfl wa.heap.size SC2.toArray rfl rfl 67 ZS.toArray kS (by rw [S_s]; rfl) (by rw [S_s, S_ZS]) O_s ?_; simp only [Act.put]))
            refine wp_gen (fun W => Lp w W g root fa (N + 1 + 1) ∧ Ep w W r 1 2 AA 120 gT tag ∧ Ep w W ru 0 1 AU 121 gU tgb) Na.out ?_
            clear Na kS
            rintro wb ⟨lpb, epb, eub⟩
            have hS := HB.out wb lpb.xt
            have LPb := Lib.hid lpb
            have EPb := Lib.hid epb
            have EUb := Lib.hid eub
            replace sua := Lib.hid sua
            obtain ⟨now2, hnow2⟩ : ∃ x, x = 20 * (k : Int) + 20 := ⟨_, rfl⟩
            rw [← hnow2] at sua
            replace hnow2 := Lib.hid (fun _ : Unit => hnow2)
            clear lpb epb eub
            go_wp2_with fail
            go_loopw [19] (fun nv wr => ∃ (n : Nat) (f : Nat → Option Ac) (N2 : Nat), n ≤ 3 ∧ nv = .int .i64 (n : Int) ∧ Lp w wr g root f N2 ∧ Ep w wr r 1 2 AA 120 gT tag ∧ Ep w wr ru 0 1 AU 121 gU tgb ∧ N2 ≤ N + 2 ∧ ((n = 1 ∧ SuI f now2 true true false) ∨ (n = 2 ∧ SuI f now2 true false false) ∨ (n = 3 ∧ SuI f now2 true false false))) (fun nv _ => 3 - (intOf nv).toNat)
            case atStart => exact ⟨1, fa, N + 1 + 1, by omega, rfl, LPb.out, EPb.out, EUb.out, by omega, .inl ⟨rfl, sua.out⟩⟩
            case round =>
              clear LPb EPb EUb sua hS
              obtain ⟨n, f, N2, hn3, rfl, lpn, epn, eun, hN2, hcase⟩ := hrel
              rcases hcase with ⟨rfl, su⟩ | ⟨rfl, su⟩ | ⟨rfl, su⟩
              · rw [show ((1 : Nat) : Int) = 1 from rfl]
                obtain ⟨a0, b0, c0, h0, l0, o0, k0, h1, l1, o1, k1, x1, h2, x2⟩ := su
                have ML := Lib.hid (mails_ok lpn.ry h1 (by omega))
                have lenL : b0.L.length = 1 := x1.len
                rw [lenL] at ML
                have KN : Hid (∀ W, Ext wr W → Lp w W g root f N2 ∧ Ep w W r 1 2 AA 120 gT tag ∧ Ep w W ru 0 1 AU 121 gU tgb) := fun W x => ⟨lpn.ext x, epn.ext x, eun.ext x⟩
                obtain ⟨xx, hxx, hxi, hx1⟩ : ∃ x, b0.L = [x] ∧ x.d.id = b0.last ∧ 1 ≤ b0.last := by
                  rcases x1.2 with ⟨q, _⟩ | ⟨_, q⟩
                  · cases q
                  · exact q
                have AKX := x1.ack (id := xx.d.id) (fun x hx => by rw [hxx] at hx; injection hx with hx; rw [hx])
                have SU2 : Hid (SuI (upd f 1 (some { b0 with L := akL b0.L b0.last xx.d.id })) now2 true false false) := ⟨a0, _, c0, (upd_other _ _ (by decide)).trans h0, l0, o0, k0, upd_same _ _ _, l1, o1, k1, AKX.2, (upd_other _ _ (by decide)).trans h2, x2⟩
                have ACK : Hid (∀ W, Ext wr W → Calls Tryd.prog 28 #[.pointer (some ⟨g, 0, none⟩), .int .i64 1, .int .i64 xx.d.id] W fun e w' => e = .returned (.int .i64 0) ∧ Lp w w' g root (upd f 1 (some { b0 with L := akL b0.L b0.last xx.d.id })) N2 ∧ Tm w.heap.size tagY W w') := fun W x => by
                  have l := lpn.ext x
                  refine (ryack_ok l.ry l.size h1 (by omega) xx.d.id).mono ?_
                  rintro e w' ⟨rfl, r6, t6⟩
                  exact ⟨by rw [AKX.1], l.tm r6 t6, t6⟩
                have LDX : Hid (∀ (W : World) (qb : Nat) (L' : List Wm), Cb W qb 73 (L'.map Wm.C).flatten → L'.map (·.d) = b0.L.map (·.d) → Cb W qb 73 (L'.map Wm.C).flatten ∧ (L'.map Wm.C).flatten[0]? = some (.int .i64 xx.d.id)) := fun W qb L' h1 h2 => by
                  refine ⟨h1, ?_⟩
                  rw [hxx] at h2
                  obtain ⟨y, l2, rfl, hy, h4⟩ := List.map_eq_cons_iff.1 h2
                  obtain rfl := List.map_eq_nil_iff.1 h4
                  rw [List.map_cons, List.map_nil, List.flatten_cons, List.flatten_nil, List.append_nil, y.c0, hy]
                clear lpn epn eun AKX hxi hx1
                generalize upd f 1 (some { b0 with L := akL b0.L b0.last xx.d.id }) = f2 at *
                obtain ⟨idx, hidx⟩ : ∃ i, i = xx.d.id := ⟨_, rfl⟩
                rw [← hidx] at ACK LDX
                clear hidx
                go_wp2_with fail
                refine ML.out.mono ?_
                rintro e wq ⟨qb, L8, rfl, hqb, c8, d8, _, x8⟩
                obtain ⟨cq, iq⟩ := LDX.out wq qb L8 c8 d8
                obtain ⟨lp8, ep8, eu8⟩ := KN.out wq x8
                have ACK8 := Lib.hid (ACK.out wq x8)
                have hqbw : w.heap.size ≤ qb := Nat.le_trans ((KN.out wr (Ext.refl _)).1.size) hqb
                have cQ : Hid (Cb wq qb 73 (L8.map Wm.C).flatten) := cq
                have cI := cq.cell iq
                have LP8 := Lib.hid lp8
                have EP8 := Lib.hid ep8
                have EU8 := Lib.hid eu8
                clear ML KN LDX ACK x8 lp8 ep8 eu8 c8 d8 cq hxx h0 h1 h2 l0 l1 o0 o1 k0 k1 x1 x2 lenL iq
                go_wp2_with fail
                go_loopw [22] (fun qv wv => ∃ d : Nat, d ≤ 1 ∧ qv = .int .i64 (d : Int) ∧ ((d = 0 ∧ wv = wq) ∨ (d = 1 ∧ Lp w wv g root f2 N2 ∧ Tm w.heap.size tagY wq wv))) (fun qv _ => 1 - (intOf qv).toNat)
                case atStart => exact ⟨0, by omega, rfl, .inl ⟨rfl, rfl⟩⟩
                case round =>
                  obtain ⟨d, hd1, rfl, hd⟩ := hrel
                  rcases hd with ⟨rfl, rfl⟩ | ⟨rfl, lp9, t9⟩
                  · rw [show ((0 : Nat) : Int) = 0 from rfl]
                    go_wp2_with fail
                    refine ACK8.out.mono ?_
                    rintro e w9 ⟨rfl, lp9, t9⟩
                    have LP9 := Lib.hid lp9
                    have T9 := Lib.hid t9
                    clear lp9 t9 ACK8 LP8 EP8 EU8 cI cQ
                    go_wp2_with fail
                    go_round
                    case rel => exact ⟨1, by omega, rfl, .inr ⟨rfl, LP9.out, T9.out⟩⟩
                    case measure => simp [intOf]
                  · rw [show ((1 : Nat) : Int) = 1 from rfl]
                    have EP9 : Hid (Ep w wr r 1 2 AA 120 gT tag) := EP8.out.tm t9
                    have EU9 : Hid (Ep w wr ru 0 1 AU 121 gU tgb) := EU8.out.tm t9
                    have hS := HB.out wr lp9.xt
                    have LP9 := Lib.hid lp9
                    clear lp9 t9 LP8 EP8 EU8 cI cQ ACK8
                    go_wp2_with fail
                    go_round
                    case rel => exact ⟨2, f2, N2, by omega, rfl, LP9.out, EP9.out, EU9.out, hN2, .inr (.inl ⟨rfl, SU2.out⟩)⟩
                    case measure => simp [intOf]
              · rw [show ((2 : Nat) : Int) = 2 from rfl]
                obtain ⟨a0, b0, c0, h0, l0, o0, k0, h1, l1, o1, k1, x1, h2, x2⟩ := su
                have ML := Lib.hid (mails_ok lpn.ry h2 (by omega))
                have lenL : c0.L.length = 0 := x2.len
                rw [lenL] at ML
                have KN : Hid (∀ W, Ext wr W → Lp w W g root f N2 ∧ Ep w W r 1 2 AA 120 gT tag ∧ Ep w W ru 0 1 AU 121 gU tgb) := fun W x => ⟨lpn.ext x, epn.ext x, eun.ext x⟩
                have SU2 : Hid (SuI f now2 true false false) := ⟨a0, b0, c0, h0, l0, o0, k0, h1, l1, o1, k1, x1, h2, x2⟩
                clear lpn epn eun h0 h1 h2 l0 l1 o0 o1 k0 k1 x1 x2 lenL
                go_wp2_with fail
                refine ML.out.mono ?_
                rintro e wq ⟨qb, L8, rfl, hqb, c8, d8, _, x8⟩
                obtain ⟨lp8, ep8, eu8⟩ := KN.out wq x8
                have hS := HB.out wq lp8.xt
                have LP8 := Lib.hid lp8
                have EP8 := Lib.hid ep8
                have EU8 := Lib.hid eu8
                clear ML KN x8 lp8 ep8 eu8 c8 d8
                go_wp2_with fail
                go_loopw [22] (fun qv wv => qv = .int .i64 0 ∧ wv = wq) (fun _ _ => 0)
                case atStart => exact ⟨rfl, rfl⟩
                case round =>
                  obtain ⟨rfl, rfl⟩ := hrel
                  go_wp2_with fail
                  go_round
                  case rel => exact ⟨3, f, N2, by omega, rfl, LP8.out, EP8.out, EU8.out, hN2, .inr (.inr ⟨rfl, SU2.out⟩)⟩
                  case measure => simp [intOf]
              · rw [show ((3 : Nat) : Int) = 3 from rfl]
                have SUk : Hid (SuI f (20 * ((k + 1 : Nat) : Int)) true false false) := by
                  unfold Hid
                  rw [show 20 * ((k + 1 : Nat) : Int) = now2 by rw [hnow2.out ()]; omega]
                  exact su
                have LPn := Lib.hid lpn
                have EPn := Lib.hid epn
                have EUn := Lib.hid eun
                clear lpn epn eun su
                go_wp2_with fail
                go_round
                case rel => exact ⟨k + 1, N2, f, true, by omega, by go_num, by omega, LPn.out, EPn.out, EUn.out, SUk.out⟩
                case measure => simp [intOf]; omega
        · obtain rfl : k = sn := by omega
          have X := Lib.hid lp.xt
          clear lp ep eu su
          go_wp2_with fail
          go_ret
          exact ⟨rfl, X.out⟩
end Go.Proofs.YtbnjmmefnjoofaaDoor
