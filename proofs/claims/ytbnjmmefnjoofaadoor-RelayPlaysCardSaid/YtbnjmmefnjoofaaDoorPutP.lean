import Derived.Test.YtbnjmmefnjoofaaDoorPkN
/-
  Boxes that stand side by side: which blocks are a box's own is told by a predicate; mailbox.Put and mailbox.Ack.
-/
namespace Go.Proofs.YtbnjmmefnjoofaaDoor
open Go.ChangeShapes Go.WideShapes Go.ChangeAt Go.RowKit Go.Deep
set_option maxRecDepth 100000

/-- The state of a box at block g, whose row lies in a block of P. -/
def MBP (TB TM : TypeId) (P : Nat → Prop) (w : World) (g : Nat) (L : List Wm) (last : Int) : Prop :=
  ∃ A n c, Cb w g TB [.slice A n c, .int .i64 last] ∧ OwnC 0 w TM 138 A n c (L.map Wm.C) ∧ (∀ k, Value.ownBlock (.slice A n c) = some k → P k) ∧ ∀ x ∈ L, x.d.ok ∧ BsF 0 w x.A x.d.body.length x.c x.d.body
/-- Blocks are as they were, but those of P whose type is among S. -/
def TbP (P : Nat → Prop) (S : TypeId → Bool) (a b : World) : Prop := b.os = a.os ∧ b.tape = a.tape ∧ b.output = a.output ∧ a.heap.size ≤ b.heap.size ∧ ∀ i o, a.heap[i]? = some o → (¬ P i ∨ tagIn S o = false) → b.heap[i]? = some o
section
variable {TB TM : TypeId} {P Q : Nat → Prop} {S : TypeId → Bool} {w w' a b c : World} {g : Nat} {L : List Wm} {last : Int}
theorem MBP.mb (h : MBP TB TM P w g L last) : MB TB TM 0 w g L last := by
  obtain ⟨A, n, c, h1, h2, _, h3⟩ := h
  exact ⟨A, n, c, h1, h2, h3⟩
theorem MBP.keep (h : MBP TB TM P w g L last) (hQ : ∀ i, i < w.heap.size → P i → Q i) (K : ∀ i cs t, w.heap[i]? = some (.cells cs t (0, 0)) → (i = g ∧ t = TB ∨ P i ∧ t = TM ∨ t = 5) → w'.heap[i]? = some (.cells cs t (0, 0))) : MBP TB TM Q w' g L last := by
  obtain ⟨A, n, c, h1, h2, hp, h3⟩ := h
  refine ⟨A, n, c, K _ _ _ h1 (.inl ⟨rfl, rfl⟩), ?_, fun k hk => ?_, fun x hx => ⟨(h3 x hx).1, (h3 x hx).2.keep fun i cs hi hb => K i cs _ hi (.inr (.inr rfl))⟩⟩
  · refine ⟨⟨h2.1.1, ?_⟩, h2.2⟩
    rcases h2.1.2 with h | ⟨r, cap, cur, hv, hb, hg, q⟩
    · exact .inl h
    · exact .inr ⟨r, cap, cur, hv, hb, K _ _ _ hg (.inr (.inl ⟨hp r (by rw [hv]; rfl), rfl⟩)), q⟩
  · obtain ⟨_, o⟩ := h2.tag (S := fun x => x == TM) (by simp) k hk
    refine hQ k ?_ (hp k hk)
    rcases h2.1.2 with ⟨hv, _⟩ | ⟨r, cap, cur, hv, hb, hg, q⟩
    · rw [hv] at hk; cases hk
    · rw [hv] at hk
      injection hk with hk
      subst hk
      exact heap_lt hg
theorem MBP.ext (h : MBP TB TM P w g L last) (e : Ext w w') : MBP TB TM P w' g L last := h.keep (fun _ _ q => q) fun _ _ _ q _ => (e.block _ (heap_lt q)).trans q
theorem MBP.mono (h : MBP TB TM P w g L last) (hQ : ∀ i, i < w.heap.size → P i → Q i) : MBP TB TM Q w g L last := h.keep hQ fun _ _ _ q _ => q
theorem MBP.lt (h : MBP TB TM P w g L last) : g < w.heap.size := h.mb.lt
theorem TbP.refl (P : Nat → Prop) (S : TypeId → Bool) (w : World) : TbP P S w w := ⟨rfl, rfl, rfl, Nat.le_refl _, fun _ _ h _ => h⟩
theorem TbP.trans (h : TbP P S a b) (k : TbP P S b c) : TbP P S a c := ⟨k.1.trans h.1, k.2.1.trans h.2.1, k.2.2.1.trans h.2.2.1, Nat.le_trans h.2.2.2.1 k.2.2.2.1, fun i o hi hc => k.2.2.2.2 i o (h.2.2.2.2 i o hi hc) hc⟩
theorem TbP.of_ext (h : Ext a b) : TbP P S a b := ⟨h.os, h.tape, h.output, h.size, fun _ _ hi _ => (h.block _ (heap_lt hi)).trans hi⟩
theorem TbP.drew (h : TbP P S a b) : TbP P S a b.drew := h
theorem TbP.size (h : TbP P S a b) : a.heap.size ≤ b.heap.size := h.2.2.2.1
theorem TbP.cell {t : TypeId} {L : List Value} (o : Nat) (u : Value) (h : Cb a g t L) (hP : P g) (hS : S t = true) : TbP P S a (a.setCell ⟨g, o, none⟩ u) := ⟨rfl, rfl, rfl, by simp [World.setCell], fun i o' hi hc => by
  by_cases e : i = g
  · subst e
    rw [h] at hi
    injection hi with hi
    subst hi
    rcases hc with q | q
    · exact absurd hP q
    · rw [show tagIn S _ = S t from rfl, hS] at q; cases q
  · exact (Below.heap_setCell _ _ _ _ e).trans hi⟩
theorem TbP.grown {row : Option Nat} (h : a.grownBy b row) (hr : ∀ k, row = some k → P k ∧ ∀ o, a.heap[k]? = some o → tagIn S o = true) : TbP P S a b := ⟨h.os, h.tape, h.output, h.size, fun i o hi hc => by
  refine (h.block i (heap_lt hi) fun q => ?_).trans hi
  obtain ⟨h1, h2⟩ := hr i q.symm
  rcases hc with z | z
  · exact absurd h1 z
  · rw [h2 o hi] at z; cases z⟩
end
set_option maxHeartbeats 8000000 in
theorem putP_calls {w : World} {P : Nat → Prop} {g : Nat} {L : List Wm} {last : Int} {x : Wm} (h : MBP 126 73 P w g L last) (hx : x.d.ok) (hb : Bs w x.A x.d.body.length x.c x.d.body) (hl : 0 ≤ last) (hl2 : last < 1000000) (hL : L.length ≤ 8) (hP : ∀ i, w.heap.size ≤ i → P i) (hg : P g) :
    Calls Tryd.prog 47 #[.pointer (some ⟨g, 0, none⟩), .agg x.ev.toArray, .agg x.d.stm.toArray] w fun e w' => e = .returned (.tuple #[.int .i64 (pbI x.d L.length last), .int .i64 (pbE x.d L.length)]) ∧ (∃ A' c', MBP 126 73 P w' g (pbL x.d A' c' L last) (pbM x.d L.length last)) ∧ TbP P tagP w w' := by
  have HE : Hid (∀ W, Ext w W → Calls Tryd.prog 42 #[.agg x.ev.toArray] W fun e w' => ∃ A n c, e = .returned (.tuple #[.slice A n c, .int .i64 (if okM x.d then 0 else 1)]) ∧ Ext W w') := fun W e => (henv_calls hx.1.1 hx.1.2 (hb.ext e)).mono fun _ _ ⟨A, n, c, q1, _, q3⟩ => ⟨A, n, c, q1, q3⟩
  have CP : Hid (∀ W, Bs W x.A x.d.body.length x.c x.d.body → Calls Tryd.prog 62 #[.agg (⟨x.d.as (last + 1), x.A, x.c⟩ : Wm).C.toArray] W fun e w' => ∃ A c, e = .returned (.agg (⟨x.d.as (last + 1), A, c⟩ : Wm).C.toArray) ∧ BsF W.heap.size w' A x.d.body.length c x.d.body ∧ Ext W w') := fun W e => copied_calls (x := ⟨x.d.as (last + 1), x.A, x.c⟩) hx e
  have BL : Hid (Tryd.prog.built 73 [(0, .int .i64 (last + 1)), (1, .agg x.ev.toArray), (2, .agg x.d.stm.toArray)] = some (⟨x.d.as (last + 1), x.A, x.c⟩ : Wm).C.toArray) := mail_built (x.ev_len hx) (x.d.stm_len hx)
  have L_e := x.ev_len hx
  have L_s := x.d.stm_len hx
  have OKX : Hid ((x.d.as (last + 1)).ok) := hx
  have LC : Hid (∀ A c, (⟨x.d.as (last + 1), A, c⟩ : Wm).C.length = 138) := fun A c => Wm.C_len (x := ⟨x.d.as (last + 1), A, c⟩) hx
  have OC : Hid (∀ A c, ∀ v ∈ (⟨x.d.as (last + 1), A, c⟩ : Wm).C, v.oneCell' = true) := fun A c => Wm.one _
  have FIN : Hid (∀ (er i : Int) (LL : List Wm) (m : Int) (W : World), (∃ A' c', er = pbE x.d L.length ∧ i = pbI x.d L.length last ∧ LL = pbL x.d A' c' L last ∧ m = pbM x.d L.length last) → MBP 126 73 P W g LL m → TbP P tagP w W → Ending.returned (.tuple #[.int .i64 i, .int .i64 er]) = .returned (.tuple #[.int .i64 (pbI x.d L.length last), .int .i64 (pbE x.d L.length)]) ∧ (∃ A' c', MBP 126 73 P W g (pbL x.d A' c' L last) (pbM x.d L.length last)) ∧ TbP P tagP w W) := by
    rintro er i LL m W ⟨A', c', rfl, rfl, rfl, rfl⟩ k1 k2
    exact ⟨rfl, ⟨A', c', k1⟩, k2⟩
  have P_bad : Hid (okM x.d = false → pbE x.d L.length = 1 ∧ pbI x.d L.length last = 0 ∧ (∀ A c, pbL x.d A c L last = L) ∧ pbM x.d L.length last = last) := fun q => by
    have e : pbE x.d L.length = 1 := by unfold pbE; rw [q]; rfl
    refine ⟨e, ?_, fun A c => ?_, ?_⟩
    · unfold pbI; rw [e, if_neg (by decide)]
    · unfold pbL; rw [e, if_neg (by decide)]
    · unfold pbM; rw [e, if_neg (by decide)]
  have P_full : Hid (okM x.d = true → L.length = 8 → pbE x.d L.length = 8 ∧ pbI x.d L.length last = 0 ∧ (∀ A c, pbL x.d A c L last = L) ∧ pbM x.d L.length last = last) := fun q q2 => by
    have e : pbE x.d L.length = 8 := by unfold pbE; rw [q, q2]; rfl
    refine ⟨e, ?_, fun A c => ?_, ?_⟩
    · unfold pbI; rw [e, if_neg (by decide)]
    · unfold pbL; rw [e, if_neg (by decide)]
    · unfold pbM; rw [e, if_neg (by decide)]
  have P_in : Hid (okM x.d = true → L.length < 8 → pbE x.d L.length = 0 ∧ pbI x.d L.length last = last + 1 ∧ (∀ A c, pbL x.d A c L last = L ++ [⟨x.d.as (last + 1), A, c⟩]) ∧ pbM x.d L.length last = last + 1) := fun q q2 => by
    have e : pbE x.d L.length = 0 := by unfold pbE; rw [q, if_pos rfl, if_pos q2]
    refine ⟨e, ?_, fun A c => ?_, ?_⟩
    · unfold pbI; rw [e, if_pos rfl]
    · unfold pbL; rw [e, if_pos rfl]
    · unfold pbM; rw [e, if_pos rfl]
  replace hb := Lib.hid hb
  clear hx
  obtain ⟨A, n, c, hcb, how, how1, hbd⟩ := h
  replace how1 := Lib.hid how1
  have hLn := MB.len how
  have hcap := how.cap
  have glt := hcb.lt
  obtain ⟨n8, n8b⟩ : n ≤ 8 ∧ c ≤ 9223372036854775807 := ⟨by omega, by have := hcap.2; unfold maxLen at this; omega⟩
  obtain ⟨r, hr⟩ : ∃ r, r = w.heap.size := ⟨_, rfl⟩
  generalize hF : (fun (A : Option Addr) (c : Nat) => (⟨x.d.as (last + 1), A, c⟩ : Wm)) = F at *
  have hF' : ∀ A c, (⟨x.d.as (last + 1), A, c⟩ : Wm) = F A c := fun A c => by rw [← hF]
  have FD : Hid (∀ A c, (F A c).d.body = x.d.body ∧ (F A c).A = A ∧ (F A c).c = c) := fun A c => by rw [← hF' A c]; exact ⟨rfl, rfl, rfl⟩
  have OKD : Hid (∀ A c, (F A c).d.ok) := fun A c => by rw [← hF' A c]; exact OKX.out
  simp only [hF'] at CP BL LC OC P_in
  clear hF hF'
  generalize x.ev = EV at *
  generalize x.d.stm = ST at *
  have S_e : EV.toArray.size = 69 := by rw [List.size_toArray, L_e]
  have S_s : ST.toArray.size = 68 := by rw [List.size_toArray, L_s]
  have B1 : Hid (Cb ((w.alloc (Obj.cells EV.toArray 37)).alloc (Obj.cells ST.toArray 67)) r 37 EV ∧ Cb ((w.alloc (Obj.cells EV.toArray 37)).alloc (Obj.cells ST.toArray 67)) (r + 1) 67 ST ∧ Ext w ((w.alloc (Obj.cells EV.toArray 37)).alloc (Obj.cells ST.toArray 67))) := by
    rw [hr]; exact ⟨heap_alloc1 _ _ _, heap_alloc2 _ _ _, ((Ext.refl w).alloc _).alloc _⟩
  go_enter Tryd.func47, Tryd.ntmps47
  go_upto_region 1 with fail
  refine wp_gen (fun W => Cb W r 37 EV ∧ Cb W (r + 1) 67 ST ∧ Ext w W) B1.out ?_
  rw [← hr]
  have wr : w.heap.size ≤ r := Nat.le_of_eq hr.symm
  clear B1
  replace hr := Lib.hid hr
  rintro w0 ⟨k0, k1, x0⟩
  replace k0 := Lib.hid k0
  replace k1 := Lib.hid k1
  have HE0 := Lib.hid (HE.out w0 x0)
  replace x0 := Lib.hid x0
  clear HE
  go_wp2_with (first | ((with_reducible refine wpList_load_rowW (o := ⟨some 11, _, _, _, _, _⟩) ?_ 37 _ rfl r ?_ 37 EV.toArray (0, 0) _ ?_ Tryd.underlying37 ?_ ?_ ?_); (· rfl); (· rfl); (· exact k0.out); (· rfl); (· rw [S_e]; rfl); go_frame))
  refine HE0.out.mono ?_
  rintro e w1 ⟨Ah, nh, ch, rfl, e1⟩
  have x1 : Hid (Ext w w1) := x0.out.trans e1
  have K0 : Hid (Cb w1 r 37 EV ∧ Cb w1 (r + 1) 67 ST) := ⟨k0.out.ext e1, k1.out.ext e1⟩
  clear k0 k1 x0 e1 HE0
  have kc := hcb.ext x1.out
  replace how := Lib.hid (how.ext x1.out)
  replace hbd : Hid (∀ y ∈ L, y.d.ok ∧ BsF 0 w1 y.A y.d.body.length y.c y.d.body) := fun y hy => ⟨(hbd y hy).1, (hbd y hy).2.ext x1.out⟩
  clear hcb
  cases hk : okM x.d with
  | false =>
    obtain ⟨p1, p2, p3, p4⟩ := P_bad.out hk
    clear P_bad P_full P_in CP BL OKD LC OC K0 hb
    have FF := Lib.hid (FIN.out 1 0 L last w1 ⟨none, 0, p1.symm, p2.symm, (p3 _ _).symm, p4.symm⟩ ⟨A, n, c, kc, how.out, how1.out, hbd.out⟩ (TbP.of_ext x1.out))
    clear FIN p1 p2 p3 p4 kc how hbd x1 hk
    go_wp2_with fail
    go_ret2
    exact FF.out
  | true =>
    replace P_full := Lib.hid (P_full.out hk)
    replace P_in := Lib.hid (P_in.out hk)
    clear P_bad hk
    have c0 := kc.cell (j := 0) rfl
    by_cases hn : n = 8
    · subst hn
      obtain ⟨p1, p2, p3, p4⟩ := P_full.out hLn
      clear P_full P_in CP BL OKD LC OC K0 hb
      have FF := Lib.hid (FIN.out 8 0 L last w1 ⟨none, 0, p1.symm, p2.symm, (p3 _ _).symm, p4.symm⟩ ⟨A, 8, c, kc, how.out, how1.out, hbd.out⟩ (TbP.of_ext x1.out))
      clear FIN p1 p2 p3 p4 kc how hbd x1
      go_wp2_with fail
      go_ret2
      exact FF.out
    · have n7 : n < 8 := by omega
      obtain ⟨p1, p2, p3, p4⟩ := P_in.out (by omega)
      replace FIN : Hid (∀ (A' : Option Addr) (c' : Nat) (W : World), MBP 126 73 P W g (L ++ [F A' c']) (last + 1) → TbP P tagP w W → _) := fun A' c' W k1 k2 => FIN.out 0 (last + 1) _ _ W ⟨A', c', p1.symm, p2.symm, (p3 A' c').symm, p4.symm⟩ k1 k2
      clear P_full P_in p1 p2 p3 p4 hn
      generalize x.d.body = body at *
      have c1 := kc.cell (j := 1) rfl
      have f1 := kc.frozen 1
      have bx : Hid (Bs (w1.setCell ⟨g, 1, none⟩ (.int .i64 (last + 1))) x.A body.length x.c body) := (hb.out.ext x1.out).setOff c1 (fun z q => by cases q)
      have KK : Hid (Cb (w1.setCell ⟨g, 1, none⟩ (.int .i64 (last + 1))) g 126 [.slice A n c, .int .i64 (last + 1)] ∧ Cb (w1.setCell ⟨g, 1, none⟩ (.int .i64 (last + 1))) r 37 EV ∧ Cb (w1.setCell ⟨g, 1, none⟩ (.int .i64 (last + 1))) (r + 1) 67 ST ∧ TbP P tagP w (w1.setCell ⟨g, 1, none⟩ (.int .i64 (last + 1))) ∧ OwnC 0 (w1.setCell ⟨g, 1, none⟩ (.int .i64 (last + 1))) 73 138 A n c (L.map Wm.C) ∧ (∀ y ∈ L, y.d.ok ∧ BsF 0 (w1.setCell ⟨g, 1, none⟩ (.int .i64 (last + 1))) y.A y.d.body.length y.c y.d.body)) := by
        have ot : ∀ (i : Nat) (cs : Array Value) (t : TypeId), w1.heap[i]? = some (Obj.cells cs t (0, 0)) → t ≠ 126 → (w1.setCell ⟨g, 1, none⟩ (.int .i64 (last + 1))).heap[i]? = some (Obj.cells cs t (0, 0)) := fun i cs t hi ht => (Below.heap_setCell _ _ _ _ (show i ≠ g from fun q => by
          subst q
          rw [kc] at hi
          injection hi with hi
          injection hi with _ hi
          exact ht hi.symm)).trans hi
        exact ⟨kc.setCell, ot _ _ _ K0.out.1 (by decide), ot _ _ _ K0.out.2 (by decide), (TbP.of_ext x1.out).trans (TbP.cell 1 _ kc hg rfl), how.out.keep fun i cs hi _ => ot i cs _ hi (by decide), fun y hy => ⟨(hbd.out y hy).1, (hbd.out y hy).2.keep fun i cs hi _ => ot i cs _ hi (by decide)⟩⟩
      have sw : w.heap.size ≤ (w1.setCell ⟨g, 1, none⟩ (.int .i64 (last + 1))).heap.size := KK.out.2.2.2.1.size
      clear kc how hbd K0
      go_upto_region 7 with fail
      refine wp_gen (fun W => Cb W g 126 [.slice A n c, .int .i64 (last + 1)] ∧ Cb W r 37 EV ∧ Cb W (r + 1) 67 ST ∧ TbP P tagP w W ∧ OwnC 0 W 73 138 A n c (L.map Wm.C) ∧ (∀ y ∈ L, y.d.ok ∧ BsF 0 W y.A y.d.body.length y.c y.d.body) ∧ Bs W x.A body.length x.c body) ⟨KK.out.1, KK.out.2.1, KK.out.2.2.1, KK.out.2.2.2.1, KK.out.2.2.2.2.1, KK.out.2.2.2.2.2, bx.out⟩ ?_
      clear KK c0 c1 f1 sw bx hb x1 w1
      rintro W ⟨k0, k1, k2, t0, how, hbd, bx⟩
      have P7 : Hid (∀ s, W.drew.grownBy s (Value.ownBlock (.slice A n c)) → s.cell? ⟨g, 0, none⟩ = some (.slice A n c) ∧ s.cell? ⟨g, 1, none⟩ = some (.int .i64 (last + 1))) := fun s q =>
        ⟨(Cb.grown q k0 (how.ne k0 (by decide))).cell rfl, (Cb.grown q k0 (how.ne k0 (by decide))).cell rfl⟩
      have P7e : Hid (∀ s, W.drew.grownBy s (Value.ownBlock (.slice A n c)) → Cb s g 126 [.slice A n c, .int .i64 (last + 1)] ∧ Cb s r 37 EV ∧ Cb s (r + 1) 67 ST) := fun s q =>
        ⟨Cb.grown q k0 (how.ne k0 (by decide)), Cb.grown q k1 (how.ne k1 (by decide)), Cb.grown q k2 (how.ne k2 (by decide))⟩
      have CP7 := Lib.hid (CP.out W.drew bx)
      have sz : w.heap.size ≤ W.heap.size := t0.size
      clear CP bx k0 k1 k2
      replace t0 := Lib.hid t0.drew
      replace how : Hid (OwnC 0 W.drew 73 138 A n c (L.map Wm.C)) := how
      replace hbd : Hid (∀ y ∈ L, y.d.ok ∧ BsF 0 W.drew y.A y.d.body.length y.c y.d.body) := hbd
      replace sz : w.heap.size ≤ W.drew.heap.size := sz
      refine qgZ (R := fun a b => a.grownBy b (Value.ownBlock (.slice A n c))) (fun w => World.grownBy.refl w _) (fun _ _ _ => gr_trans) 17 [0, 1, 2, 3, 4, 5, 6, 7, 8, 9, 10, 11, 12, 13, 14, 15, 16, 17] [12, 13, 14, 17] ?_
      repeat (refine qzR _ (fun w' e => P7.out w' e) ?_; go_frame)
      refine qzV rfl (fun w' => w'.heap[r]? = some (.cells EV.toArray 37 (0, 0))) (fun w' e => (P7e.out w' e).2.1) (.agg EV.toArray) (fun w' hF => exec_load_row rfl rfl hF rfl rfl (by rw [S_e]; rfl)) ?_
      go_frame
      refine qzV rfl (fun w' => w'.heap[(r + 1)]? = some (.cells ST.toArray 67 (0, 0))) (fun w' e => (P7e.out w' e).2.2) (.agg ST.toArray) (fun w' hF => exec_load_row rfl rfl hF rfl rfl (by rw [S_s]; rfl)) ?_
      go_frame
      refine qzV rfl (fun _ => True) (fun _ _ => trivial) (.agg (F x.A x.c).C.toArray) (fun w' _ => exec_build_as rfl (by simp only [List.map_toArray, List.map_cons, List.map_nil]; exact BL.out)) ?_
      go_frame
      generalize W.drew = V at *
      refine qzD fun K hK => ?_
      go_simp
      refine CP7.out.mono ?_
      rintro e2 w2 ⟨A2, c2, rfl, b2, x2⟩
      have o2 := Lib.hid (how.out.ext x2)
      refine hK.out _ _ (Or.inr (grown_ofE x2)) ?_
      clear hK K
      try go_frame
      refine qzD fun K hK => ?_
      refine wp_slice_c (t := 42) (e := 73) (s := 138) Tryd.underlying42 infoM zM_cells (by omega) (by omega) (cs := (F A2 c2).C) (LC.out A2 c2) rfl rfl ?_
      have k3 : Hid (Cb (w2.alloc (.cells (F A2 c2).C.toArray 73)) w2.heap.size 73 (F A2 c2).C) := Cb.new _ _ _
      have o3 : Hid (OwnC 0 (w2.alloc (.cells (F A2 c2).C.toArray 73)) 73 138 A n c (L.map Wm.C)) := o2.out.ext ((Ext.refl _).alloc _)
      have b3 : Hid (BsF V.heap.size (w2.alloc (.cells (F A2 c2).C.toArray 73)) A2 body.length c2 body) := b2.ext ((Ext.refl _).alloc _)
      have x3 : Hid (Ext V (w2.alloc (.cells (F A2 c2).C.toArray 73))) := x2.alloc _
      refine hK.out _ _ (Or.inr (grown_ofE ((Ext.refl _).alloc _))) ?_
      clear hK K
      try go_frame
      clear o2 b2 x2
      generalize w2.alloc (.cells (F A2 c2).C.toArray 73) = w3 at *
      generalize w2.heap.size = s2 at *
      clear w2
      have cs3 := cs_one k3.out
      rw [LC.out A2 c2] at cs3
      replace cs3 := Lib.hid cs3
      have sz3 := x3.out.size
      refine qzD fun K hK => ?_
      refine wp_append_cc2 (t := 42) (e := 73) (s := 138) Tryd.underlying42 infoM zM_cells (by omega) bytesM rfl rfl rfl o3.out cs3.out (fun x hx u hu => by rw [List.mem_singleton.1 hx] at hu; exact OC.out A2 c2 u hu) (by omega) (by omega) ?_
      intro A4 c4 w4 o4 g4 _ own4
      refine hK.out _ _ (Or.inr g4) ?_
      clear hK K
      try go_frame
      have gg : Hid (V.grownBy w4 (Value.ownBlock (.slice A n c))) := gr_trans (grown_ofE x3.out) g4
      have kg := (P7e.out w4 gg.out).1
      have c4_ := kg.cell (j := 0) rfl
      have f4_ := kg.frozen 0
      have M4 : Hid (MBP 126 73 P (w4.setCell ⟨g, 0, none⟩ (.slice A4 (n + 1) c4)) g (L ++ [F A2 c2]) (last + 1) ∧ Cb (w4.setCell ⟨g, 0, none⟩ (.slice A4 (n + 1) c4)) g 126 [.slice A4 (n + 1) c4, .int .i64 (last + 1)] ∧ TbP P tagP w (w4.setCell ⟨g, 0, none⟩ (.slice A4 (n + 1) c4))) := by
        have kg' : Cb (w4.setCell ⟨g, 0, none⟩ (.slice A4 (n + 1) c4)) g 126 [.slice A4 (n + 1) c4, .int .i64 (last + 1)] := kg.setCell
        have ot : ∀ (i : Nat) (cs : Array Value) (t : TypeId), w4.heap[i]? = some (Obj.cells cs t (0, 0)) → t ≠ 126 → (w4.setCell ⟨g, 0, none⟩ (.slice A4 (n + 1) c4)).heap[i]? = some (Obj.cells cs t (0, 0)) := fun i cs t hi ht => (Below.heap_setCell _ _ _ _ (show i ≠ g from fun q => by
          subst q
          rw [kg] at hi
          injection hi with hi
          injection hi with _ hi
          exact ht hi.symm)).trans hi
        have nd : (F A2 c2).d.body = body ∧ (F A2 c2).A = A2 ∧ (F A2 c2).c = c2 := FD.out A2 c2
        have own5 : ∀ k, Value.ownBlock (.slice A4 (n + 1) c4) = some k → P k := fun k hk => by
          rcases own4 with q | q
          · exact how1.out k (q.symm.trans hk)
          · rw [q] at hk
            injection hk with hk
            exact hP k (by omega)
        refine ⟨⟨A4, n + 1, c4, kg', ?_, own5, fun y hy => ?_⟩, kg', ?_⟩
        · rw [List.map_append]
          exact o4.keep fun i cs hi _ => ot i cs _ hi (by decide)
        · rcases List.mem_append.1 hy with hy | hy
          · have h1 := (hbd.out y hy).2.grown gg.out (fun i cs hi _ => how.out.ne' hi (by decide))
            exact ⟨(hbd.out y hy).1, h1.keep fun i cs hi _ => ot i cs _ hi (by decide)⟩
          · rw [List.mem_singleton.1 hy]
            refine ⟨OKD.out A2 c2, ?_⟩
            rw [nd.1, nd.2.1, nd.2.2]
            have h1 := (b3.out.mono (B' := 0) (Nat.zero_le _)).grown g4 (fun i cs hi _ => o3.out.ne' hi (by decide))
            exact h1.keep fun i cs hi _ => ot i cs _ hi (by decide)
        · exact (t0.out.trans (TbP.grown gg.out fun k hk => ⟨how1.out k hk, (how.out.tag (S := tagP) rfl k hk).2⟩)).trans (TbP.cell 0 _ kg hg rfl)
      clear k3 o3 b3 x3 cs3 o4 g4 own4 gg kg how how1 hbd P7 P7e t0 CP7
      repeat (refine qzR0 ?_; go_frame)
      refine qzD fun K hK => ?_
      go_simp
      refine hK.out _ _ (Or.inl rfl) ?_
      clear hK K
      try go_frame
      refine seqZ_done ?_
      refine gen_q (fun W => MBP 126 73 P W g (L ++ [F A2 c2]) (last + 1) ∧ Cb W g 126 [.slice A4 (n + 1) c4, .int .i64 (last + 1)] ∧ TbP P tagP w W) M4.out ?_
      clear M4 c4_ f4_
      rintro w5 ⟨m5, k5, t5⟩
      have c5 := k5.cell (j := 1) rfl
      have FF := Lib.hid (FIN.out A2 c2 w5 m5 t5)
      clear FIN m5 k5 t5
      go_wp2_with fail
      go_ret2
      exact FF.out
theorem MBP.put {TB TM : TypeId} {P : Nat → Prop} {g : Nat} {S : TypeId → Bool} {w w1 : World} {L L' : List Wm} {last : Int} (h : MBP TB TM P w g L last) (e : Ext w w1) {A : Option Addr} {n c : Nat} (ho : OwnC w.heap.size w1 TM 138 A n c (L'.map Wm.C)) (hs : ∀ x ∈ L', x ∈ L) (hP : ∀ i, w.heap.size ≤ i → P i) (h0 : P g) (hS : S TB = true) (ht : TB ≠ TM) (hu : TB ≠ 5) :
    MBP TB TM P (w1.setCell ⟨g, 0, none⟩ (.slice A n c)) g L' last ∧ TbP P S w (w1.setCell ⟨g, 0, none⟩ (.slice A n c)) := by
  obtain ⟨A0, n0, c0, h1, h2, _, h3⟩ := h
  have kg := h1.ext e
  have ot : ∀ (i : Nat) (cs : Array Value) (t : TypeId), w1.heap[i]? = some (Obj.cells cs t (0, 0)) → TB ≠ t → (w1.setCell ⟨g, 0, none⟩ (.slice A n c)).heap[i]? = some (Obj.cells cs t (0, 0)) := fun i cs t hi ht => (Below.heap_setCell _ _ _ _ (show i ≠ g from fun q => by
    subst q
    rw [kg] at hi
    injection hi with hi
    injection hi with _ hi
    exact ht hi)).trans hi
  exact ⟨⟨A, n, c, kg.setCell, (ho.mono (Nat.zero_le _)).keep fun i cs hi _ => ot i cs _ hi ht, fun k hk => hP k (ho.ge k hk), fun x hx => ⟨(h3 x (hs x hx)).1, ((h3 x (hs x hx)).2.ext e).keep fun i cs hi _ => ot i cs _ hi hu⟩⟩, (TbP.of_ext e).trans (TbP.cell 0 _ kg h0 hS)⟩
/-- Just block g turns. -/
def Gw (g : Nat) (w w' : World) : Prop := w.grownBy w' (some g)
set_option maxHeartbeats 8000000 in
theorem ackP_calls {w : World} {P : Nat → Prop} {g : Nat} {L : List Wm} {last id : Int} (h : MBP 126 73 P w g L last) (hL : L.length ≤ 8) (hP : ∀ i, w.heap.size ≤ i → P i) (hg : P g) :
    Calls Tryd.prog 53 #[.pointer (some ⟨g, 0, none⟩), .int .i64 id] w fun e w' => e = .returned (.int .i64 (akE L last id)) ∧ MBP 126 73 P w' g (akL L last id) last ∧ Gw g w w' := by
  have PUT : Hid (∀ w1 A n c (L' : List Wm), Ext w w1 → OwnC w.heap.size w1 73 138 A n c (L'.map Wm.C) → (∀ x ∈ L', x ∈ L) → MBP 126 73 P (w1.setCell ⟨g, 0, none⟩ (.slice A n c)) g L' last ∧ Gw g w (w1.setCell ⟨g, 0, none⟩ (.slice A n c))) := fun w1 A n c L' e ho hs => ⟨(h.put (S := tagP) e ho hs hP hg rfl (by decide) (by decide)).1, gr_trans (grown_ofE e) (grown_setCells (vs := [.slice A n c]))⟩
  by_cases hin : id < 1 ∨ last < id
  · have E : akE L last id = 7 ∧ akL L last id = L := ⟨if_pos hin, if_pos hin⟩
    rw [E.1, E.2]
    have FIN : Hid (MBP 126 73 P w g L last ∧ Gw g w w) := ⟨h, World.grownBy.refl w _⟩
    obtain ⟨A, n, c, hcb, how, _, hbd⟩ := h
    have c1 := hcb.cell (j := 1) rfl
    clear E hcb how hbd PUT
    by_cases h1 : id < 1
    · clear hin
      go_enter Tryd.func53, Tryd.ntmps53
      go_wp2_with fail
      go_step3
      go_wp2_with fail
      (try simp only [Exit.inBlock, Exit.then])
      rw [Exit.noGoto_ret]
      go_ret
      exact ⟨rfl, FIN.out⟩
    · have h2 : last < id := hin.resolve_left h1
      clear hin
      go_enter Tryd.func53, Tryd.ntmps53
      go_wp2_with fail
      go_step3
      go_wp2_with fail
      (try simp only [Exit.inBlock, Exit.then])
      rw [Exit.noGoto_ret]
      go_ret
      exact ⟨rfl, FIN.out⟩
  · have i1 : ¬ id < 1 := fun q => hin (.inl q)
    have i2 : ¬ last < id := fun q => hin (.inr q)
    have E : akE L last id = (if hasI id L then 0 else 5) ∧ akL L last id = dropI id L := ⟨if_neg hin, if_neg hin⟩
    rw [E.1, E.2]
    clear E hin
    obtain ⟨ee, hee⟩ : ∃ ee : Int, ee = (if hasI id L then 0 else 5) := ⟨_, rfl⟩
    rw [← hee]
    replace hee := Lib.hid (fun _ : Unit => hee)
    have FIN : Hid (∀ (er : Int) (LL : List Wm) (W : World), er = ee → LL = dropI id L → MBP 126 73 P W g LL last ∧ Gw g w W → Ending.returned (.int .i64 er) = .returned (.int .i64 ee) ∧ MBP 126 73 P W g (dropI id L) last ∧ Gw g w W) := by
      rintro er LL W rfl rfl q
      exact ⟨rfl, q.1, q.2⟩
    obtain ⟨A, n, c, hcb, how, _, hbd⟩ := h
    have hLn := MB.len how
    have hcap := how.cap
    have n8 : c ≤ 9223372036854775807 := by have := hcap.2; unfold maxLen at this; omega
    have hcap1 := hcap.1
    have hal := mail_alloc
    have c0 := hcb.cell (j := 0) rfl
    have c1 := hcb.cell (j := 1) rfl
    have cs := Lib.hid how.cs
    replace hcb := Lib.hid hcb
    have hok : Hid (∀ x ∈ L, x.d.ok) := fun x hx => (hbd x hx).1
    clear how hbd
    go_enter Tryd.func53, Tryd.ntmps53
    go_wp2_with fail
    go_step3
    go_wp2_with fail
    go_step3
    go_wp2_with fail
    go_loopw [5, 6, 24] (fun lv fv v wr => ∃ (k : Nat) (D : Option Addr) (cc : Nat), k ≤ n ∧ v = .int .i64 (k : Int) ∧ fv = .int .i64 5 ∧ lv = .slice D k cc ∧ OwnC w.heap.size wr 73 138 D k cc ((L.take k).map Wm.C) ∧ (∀ x ∈ L.take k, x.d.id ≠ id) ∧ Ext w wr) (fun _ _ v _ => n - (intOf v).toNat)
    case atStart => exact ⟨0, none, 0, Nat.zero_le _, rfl, rfl, rfl, OwnC.nil _ _ _ _, (fun x hx => by simp at hx), Ext.refl w⟩
    case round =>
      obtain ⟨k, D, cc, hkn, rfl, rfl, rfl, own, hne, xk⟩ := hrel
      have kg := hcb.out.ext xk
      by_cases hlt : k < n
      · obtain ⟨b, off, hA, hb, hc⟩ := (cs.out.ext xk).at hlt
        subst hA
        have e1 : (L.map Wm.C).getD k [] = (L[k]'(by omega)).C := by rw [List.getD_eq_getElem?_getD, List.getElem?_map, List.getElem?_eq_getElem (by omega)]; rfl
        rw [e1] at hc
        obtain ⟨y, hy⟩ : ∃ y, y = L[k]'(by omega) := ⟨_, rfl⟩
        have hm : y ∈ L := by rw [hy]; exact List.getElem_mem _
        have tk : L.take (k + 1) = L.take k ++ [y] := by rw [hy, List.take_succ_eq_append_getElem (by omega)]
        have dk : L = L.take k ++ y :: L.drop (k + 1) := by
          rw [hy, ← List.drop_eq_getElem_cons (by omega), List.take_append_drop]
        rw [← hy] at hc
        have L_y : y.C.length = 138 := Wm.C_len (hok.out y hm)
        have O_y := one_cells y.one
        have O_y' := Lib.hid y.one
        have G0 : Hid (y.C[0]? = some (.int .i64 y.d.id)) := y.c0
        replace tk := Lib.hid (fun _ : Unit => tk)
        replace dk := Lib.hid (fun _ : Unit => dk)
        replace hne := Lib.hid hne
        replace own := Lib.hid own
        replace xk := Lib.hid xk
        obtain ⟨YC, hyc⟩ : ∃ YC, YC = y.C := ⟨_, rfl⟩
        rw [← hyc] at hc L_y O_y O_y' G0
        obtain ⟨iy, hiy⟩ : ∃ iy, iy = y.d.id := ⟨_, rfl⟩
        rw [← hiy] at G0
        replace hiy := Lib.hid (fun _ : Unit => hiy)
        replace hyc := Lib.hid (fun _ : Unit => hyc)
        clear hy e1 hm
        replace hc : Hid (∀ i v, YC[i]? = some v → wr.cell? ⟨b, off + k * 138 + i, none⟩ = some v) := hc
        have S_y : YC.toArray.size = 138 := by rw [List.size_toArray, L_y]
        have Lz := zM_len
        have IM := infoM
        have ZC := zM_cells
        generalize zM = Z at *
        have S_z : Z.toArray.size = 138 := by rw [List.size_toArray, Lz]
        obtain ⟨s, hs⟩ : ∃ s, s = wr.heap.size := ⟨_, rfl⟩
        have B4 : Hid ((wr.alloc (.cells Z.toArray 73)).heap[s]? = some (.cells Z.toArray 73 (0, 0))) := by unfold Hid; rw [hs]; exact heap_alloc_new _ _
        have B5 : Hid (Cb ((wr.alloc (.cells Z.toArray 73)).setRow s YC.toArray) s 73 YC ∧ Ext wr ((wr.alloc (.cells Z.toArray 73)).setRow s YC.toArray)) := ⟨setRow_heap _ _ _ _ _ _ B4.out, below_setRow ((Ext.refl wr).alloc _) (Nat.le_of_eq hs.symm) _⟩
        have kg' := Lib.hid kg
        clear kg c0 c1
        go_upto_region 9 with (first
          | ((with_reducible refine wpList_load_mid (o := ⟨some 28, _, _, _, _, _⟩) (ty := 73) (g := b) (off := off + k * 138) (ys := YC) ?_ rfl ?_ ?_ Tryd.underlying73 ?_ ?_ ?_); (· rfl); (· rfl); (· exact hc.out); (· rfl); (· rw [L_y]; rfl); go_frame)
          | (refine wpList_store_row rfl 73 _ _ rfl s YC.toArray (by rw [hs]; rfl) rfl 73 Z.toArray B4.out (by rw [S_y]; rfl) (by rw [S_y, S_z]) O_y ?_; go_frame))
        refine wp_gen (fun W => Cb W s 73 YC ∧ Ext wr W) B5.out ?_
        rw [← hs]
        clear B4 B5 hc hs
        rintro w2 ⟨k2, x2⟩
        have g2 := k2.cell G0.out
        replace k2 := Lib.hid k2
        have k2g := kg'.out.ext x2
        have c0 := k2g.cell (j := 0) rfl
        have X2 := Lib.hid (xk.out.trans x2)
        replace own := Lib.hid (own.out.ext x2)
        have sz2 := X2.out.size
        clear kg' k2g xk x2 hal
        by_cases hq : iy = id
        · have CUT := Lib.hid ((cs.out.ext X2.out).cut (k := k + 1) hlt)
          have D0 := fun _ : Unit => dropI_at (P := L.take k) (x := y) (R := L.drop (k + 1)) hne.out ((hiy.out ()).symm.trans hq)
          have D1 : Hid (dropI id L = L.take k ++ L.drop (k + 1) ∧ hasI id L = true) := by
            unfold Hid
            rw [dk.out ()]
            have := D0 ()
            rw [← dk.out ()] at this ⊢
            exact this
          have ALL : Hid (∀ x ∈ L.take k ++ L.drop (k + 1), x ∈ L) := fun x hx => by
            rcases List.mem_append.1 hx with q | q
            · exact List.mem_of_mem_take q
            · exact List.mem_of_mem_drop q
          have OD : Hid (∀ x ∈ (L.map Wm.C).drop (k + 1), ∀ u ∈ x, u.oneCell' = true) := fun x hx u hu => by
            obtain ⟨z, _, rfl⟩ := List.mem_map.1 (List.mem_of_mem_drop hx)
            exact z.one u hu
          have ed : (L.map Wm.C).drop (k + 1) = (L.drop (k + 1)).map Wm.C := List.map_drop.symm
          rw [ed] at CUT OD
          replace FIN : Hid (∀ W, MBP 126 73 P W g (L.take k ++ L.drop (k + 1)) last ∧ Gw g w W → _) := fun W q => FIN.out 0 _ W (by rw [hee.out (), D1.out.2]; rfl) D1.out.1.symm q
          replace PUT : Hid (∀ w1 A n c, Ext w w1 → OwnC w.heap.size w1 73 138 A n c ((L.take k).map Wm.C ++ (L.drop (k + 1)).map Wm.C) → MBP 126 73 P (w1.setCell ⟨g, 0, none⟩ (.slice A n c)) g (L.take k ++ L.drop (k + 1)) last ∧ Gw g w (w1.setCell ⟨g, 0, none⟩ (.slice A n c))) := fun w1 A n c e o => PUT.out w1 A n c _ e (by rw [List.map_append]; exact o) ALL.out
          clear D0 D1 ALL hee dk tk hne ed k2 O_y O_y' S_y L_y G0 hiy hyc
          have hqt : (iy == id) = true := by simp [hq]
          go_upto_region 13 with (first
            | (refine wpList_exec rfl (exec_fromC (s := 138) Tryd.underlying42 (by kernel_rfl) (k := k + 1) rfl rfl (by go_num) hlt hcap1) ?_; go_frame)
            | (refine wpList_append_cc rfl (t := 42) (e := 73) (s := 138) Tryd.underlying42 IM ZC (by omega) bytesM rfl rfl rfl own.out CUT.out OD.out (by omega) sz2 ?_; intro A4 c4 w4 o4 g4 b4; go_frame))
          all_goals (
            have X4 : Hid (Ext w w4) := Below.trans X2.out b4
            have P4 := Lib.hid (FIN.out _ (PUT.out w4 A4 _ c4 X4.out o4))
            have kg4 := hcb.out.ext X4.out
            have c4_ := kg4.cell (j := 0) rfl
            have f4_ := kg4.frozen 0
            clear PUT FIN X4 kg4 o4 g4 b4 CUT OD own X2 hok cs hcb c0 g2
            go_wp2_with fail
            all_goals (
              (try simp only [Exit.inBlock, Exit.then])
              (try rw [Exit.noGoto_ret])
              go_ret
              exact P4.out))
        · have OW5 : Hid (OwnC w.heap.size (w2.alloc (.cells YC.toArray 73)) 73 138 D k cc ((L.take k).map Wm.C)) := own.out.ext ((Ext.refl _).alloc _)
          have CS5 : Hid (Cs (w2.alloc (.cells YC.toArray 73)) 138 (some ⟨w2.heap.size, 0, none⟩) 1 1 [YC]) := by
            have := cs_one (Cb.new w2 73 YC)
            rwa [L_y] at this
          have sz5 : w.heap.size ≤ (w2.alloc (.cells YC.toArray 73)).heap.size := ((X2.out.alloc _).size)
          have X5 : Hid (Ext w (w2.alloc (.cells YC.toArray 73))) := X2.out.alloc _
          have TK : Hid ((L.take k).map Wm.C ++ [YC] = (L.take (k + 1)).map Wm.C) := by
            unfold Hid; rw [tk.out (), List.map_append, hyc.out ()]; rfl
          have NE : Hid (∀ x ∈ L.take (k + 1), x.d.id ≠ id) := fun x hx => by
            rw [tk.out ()] at hx
            rcases List.mem_append.1 hx with q | q
            · exact hne.out x q
            · rw [List.mem_singleton.1 q, ← hiy.out ()]; exact hq
          have O5 : Hid (∀ x ∈ [YC], ∀ u ∈ x, u.oneCell' = true) := fun x hx u hu => by rw [List.mem_singleton.1 hx] at hu; exact O_y'.out u hu
          have hqf : (iy == id) = false := by simp [hq]
          clear PUT FIN hee own X2 hok cs hcb c0 dk tk hne hiy hyc O_y O_y' G0 hq
          go_wp2_with (first
            | ((with_reducible refine wpList_load_rowW (o := ⟨some 30, _, _, _, _, _⟩) ?_ 73 _ rfl s ?_ 73 YC.toArray (0, 0) _ ?_ Tryd.underlying73 ?_ ?_ ?_); (· rfl); (· rfl); (· exact k2.out); (· rfl); (· rw [S_y]; rfl); go_frame)
            | (refine wpList_slice_c rfl (t := 42) (e := 73) (s := 138) Tryd.underlying42 IM ZC (by omega) (by omega) (cs := YC) L_y rfl rfl rfl ?_; go_frame)
            | (refine wpList_append_cc rfl (t := 42) (e := 73) (s := 138) Tryd.underlying42 IM ZC (by omega) bytesM rfl rfl rfl OW5.out CS5.out O5.out (by omega) sz5 ?_; intro A4 c4 w4 o4 g4 b4; go_frame))
          go_round
          case rel => exact ⟨k + 1, A4, c4, by omega, by go_num, rfl, rfl, by rw [← TK.out]; exact o4, NE.out, Below.trans X5.out b4⟩
          case measure => simp [intOf]; omega
      · obtain rfl : k = n := by omega
        have D1 := dropI_none (L := L) (id := id) (fun x hx => hne x (by rw [← hLn, List.take_length]; exact hx))
        have P4 := Lib.hid (FIN.out 5 _ _ (by rw [hee.out (), D1.2]; rfl) D1.1.symm (PUT.out wr D k cc L xk (by rw [← hLn, List.take_length, hLn] at own; exact own) (fun x hx => hx)))
        have c4_ := kg.cell (j := 0) rfl
        have f4_ := kg.frozen 0
        clear PUT FIN D1 hee own hne xk kg hok cs hcb c0 c1
        go_wp2_with fail
        (try simp only [Exit.inBlock, Exit.then])
        (try rw [Exit.noGoto_ret])
        go_ret
        exact P4.out
end Go.Proofs.YtbnjmmefnjoofaaDoor
