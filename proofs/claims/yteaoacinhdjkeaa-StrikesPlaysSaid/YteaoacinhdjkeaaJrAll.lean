import Derived.Test.YteaoacinhdjkeaaPkL
/-
  The law's all: a journal's records, in memory of its own.
-/
namespace Go.Proofs.Yteaoacinhdjkeaa
open Go.ChangeShapes Go.WideShapes Go.ChangeAt Go.RowKit Go.Deep Go.Maps Go.Shelf
set_option maxRecDepth 100000
attribute [local go_sem] Oper.semAt_some

theorem seq_some {f : FuncId} {cap : Array Value} (W : World) : (binOp BinOp.eql 108 (.func (.func f) #[] cap) Value.nilFunc).run Try.prog W = .ok (.bool false) W := by
  kernel_rfl
theorem results_cell_one {fn : Func} {p : Tmp} (h : fn.results = #[.cell p 50]) (tmps : Array Value) (w : World) {g : Nat} {v : Value} (hp : tmps.getD p undef = .pointer (some ⟨g, 0, none⟩)) (hc : w.cell? ⟨g, 0, none⟩ = some v) (hf : w.frozen? ⟨g, 0, none⟩ = false) : (results fn tmps).run Try.prog w = .ok v w := by
  have hp' : tmps[p]?.getD undef = .pointer (some ⟨g, 0, none⟩) := by simpa using hp
  have hl : (loadVar 50 ⟨g, 0, none⟩).run Try.prog w = .ok v w := by go_simp
  simp [results, h, hp', asAddr, hl, Sem.run_bind, Result.andThen]
/-- What holds between two rounds of all. -/
def Ja22 (w : World) (g bd l Db : Nat) (rec : Rec) (L : List (List UInt8)) (k : Nat) (W : World) : Prop :=
  Ext w W ∧ W.heap[l]? = some (rec.at .ready none) ∧ W.heap[Db]? = some (.deferred (some [])) ∧ Cb W w.heap.size 50 [.slice none 0 0] ∧ Cb W bd 31 [.pointer (some ⟨g, 0, none⟩)] ∧ ∃ D c, Cb W (w.heap.size + 1) 50 [.slice D k c] ∧ OwnG w.heap.size W D k c (L.take k)
theorem Ja22.ext {w W W' : World} {g bd l Db : Nat} {rec : Rec} {L : List (List UInt8)} {k : Nat} (h : Ja22 w g bd l Db rec L k W) (x : Ext W W') : Ja22 w g bd l Db rec L k W' := by
  obtain ⟨h1, h2, h3, h4, h5, D, c, h6, h7⟩ := h
  exact ⟨h1.trans x, (x.block _ (heap_lt h2)).trans h2, (x.block _ (heap_lt h3)).trans h3, h4.ext x, h5.ext x, D, c, h6.ext x, h7.ext x⟩
set_option maxHeartbeats 4000000 in
theorem lall_calls {w : World} {B g dg : Nat} {R : Nat → Prop} {D : Option Addr} {c : Nat} {L : List (List UInt8)} (hj : JS B R w g dg D c L) (hL : L.length ≤ 100) (hlen : ∀ k, k < L.length → (L.getD k []).length ≤ 1000000) :
    Calls Try.prog 25 #[.pointer (some ⟨g, 0, none⟩)] w fun e w' => ∃ D' c', e = .returned (.slice D' L.length c') ∧ OwnG w.heap.size w' D' L.length c' L ∧ Ext w w' := by
  refine (callsIn_wide (n := 5)).1 ?_
  refine callsIn_of_wp_marks Try.func25 rfl trivial ?_
  simp only [Try.ntmps25, List.size_toArray, List.length_cons, List.length_nil, Nat.reduceAdd, Nat.reduceSub, Array.replicate_succ, Array.replicate_zero, List.push_toArray, List.append_toArray, List.nil_append, List.cons_append]
  replace hj := Lib.hid hj
  replace hlen := Lib.hid hlen
  have A0 : Hid (Cb ((w.alloc (.cells #[.slice none 0 0] 50)).alloc (.cells #[.slice none 0 0] 50)) w.heap.size 50 [.slice none 0 0] ∧ Cb ((w.alloc (.cells #[.slice none 0 0] 50)).alloc (.cells #[.slice none 0 0] 50)) (w.heap.size + 1) 50 [.slice none 0 0] ∧ Ext w ((w.alloc (.cells #[.slice none 0 0] 50)).alloc (.cells #[.slice none 0 0] 50))) :=
    ⟨heap_alloc1 _ _ _, heap_alloc2 _ _ _, ((Ext.refl w).alloc _).alloc _⟩
  gi_wp2
  refine ⟨trivial, ?_⟩
  generalize (w.alloc (.cells #[.slice none 0 0] 50)).alloc (.cells #[.slice none 0 0] 50) = w0 at *
  refine (callsIn_wide.2 jall_calls).mono ?_
  rintro e w1 ⟨rfl, kb, x1⟩
  obtain ⟨kg, k4, x0⟩ := A0.out
  replace kg := Lib.hid (kg.ext x1)
  replace k4 := Lib.hid (k4.ext x1)
  have X1 := Lib.hid (x0.trans x1)
  replace kb := Lib.hid kb
  have b0 : Hid (w.heap.size ≤ w0.heap.size) := x0.size
  clear A0 x0 x1
  generalize w0.heap.size = bd at *
  clear w0
  have hns := fun W : World => seq_some (f := 68) (cap := #[.pointer (some ⟨bd, 0, none⟩)]) W
  gi_wp2
  clear hns
  refine range_fn (gf := 68) (lb := #[.pointer (some ⟨bd, 0, none⟩)]) rfl (enters_of Try.func68 (by kernel_rfl) rfl) ?_
  intro fn rec hrec
  have J0 : Ja22 w g bd (w1.heap.size + 1) w1.heap.size rec L 0 ((w1.alloc (.deferred (some []))).alloc (rec.at .ready none)) := by
    have e : Ext w1 ((w1.alloc (.deferred (some []))).alloc (rec.at .ready none)) := ((Ext.refl w1).alloc _).alloc _
    exact ⟨X1.out.trans e, heap_alloc2 _ _ _, heap_alloc1 _ _ _, kg.out.ext e, kb.out.ext e, none, 0, k4.out.ext e, OwnG.nil _ _⟩
  refine (jall1_in (n := 4) (J := Ja22 w g bd (w1.heap.size + 1) w1.heap.size rec L) (Jx := fun _ => False) (by omega) hlen.out (fun k w w' h x => h.ext x) (fun k W hk => ⟨hj.out.ext hk.1, hk.2.2.2.2.1⟩) ?hY J0).mono ?fin
  case hY =>
    rintro k v W A m c hk hkl hv how
    obtain ⟨D, c', jk0, jo0⟩ := hk.2.2.2.2.2
    obtain ⟨X, hl, hd, jr, jb, _⟩ := hk.ext hv
    have hfar := far_of_newG how jo0 hk.1.size
    have jg := jk0.ext hv
    have jo := jo0.ext hv
    have hb := how.bs
    refine yield_round hl (by rw [hrec]; rfl) ?_
    have lw : w.heap.size ≤ w1.heap.size := X1.out.size
    have g4 : w.heap.size + 1 ≠ w1.heap.size + 1 := by have := k4.out.lt; omega
    have gg : w.heap.size ≠ w1.heap.size + 1 := by omega
    have gd : w1.heap.size ≠ w1.heap.size + 1 := by omega
    have gb : bd ≠ w1.heap.size + 1 := by have := kb.out.lt; omega
    have B0 : Hid (Ext w (W.putObj (w1.heap.size + 1) (rec.at .busy none)) ∧ (W.putObj (w1.heap.size + 1) (rec.at .busy none)).heap[w1.heap.size + 1]? = some (rec.at .busy none) ∧ (W.putObj (w1.heap.size + 1) (rec.at .busy none)).heap[w1.heap.size]? = some (.deferred (some [])) ∧ Cb (W.putObj (w1.heap.size + 1) (rec.at .busy none)) w.heap.size 50 [.slice none 0 0] ∧ Cb (W.putObj (w1.heap.size + 1) (rec.at .busy none)) bd 31 [.pointer (some ⟨g, 0, none⟩)] ∧ Cb (W.putObj (w1.heap.size + 1) (rec.at .busy none)) (w.heap.size + 1) 50 [.slice D k c'] ∧ OwnG w.heap.size (W.putObj (w1.heap.size + 1) (rec.at .busy none)) D k c' (L.take k) ∧ Bs (W.putObj (w1.heap.size + 1) (rec.at .busy none)) A m c (L.getD k [])) := by
      have gr := grown_obj W (w1.heap.size + 1) (rec.at .busy none)
      refine ⟨?_, World.putObj_heap_same (heap_lt hl), (World.putObj_heap_other gd).trans hd, (World.putObj_heap_other gg).trans jr, (World.putObj_heap_other gb).trans jb, (World.putObj_heap_other g4).trans jg, jo.turn2 (jo.ne_obj hl (rec_no _ _ _)) (fun i x => no_cell hl (rec_no _ _ _) i _) gr, hb.grownG gr (fun h0 a ha q => ?_)⟩
      · exact Ot.ext (p := fun i => i = w1.heap.size + 1) X (Ot.of_grown gr rfl) (fun i q => by omega)
      · obtain ⟨b, off, e4, _, hc⟩ := hb.pos h0
        rw [e4] at ha
        injection ha with ha
        subst ha
        have q := Option.some.inj q
        simp only at q
        subst q
        exact no_cell hl (rec_no _ _ _) _ _ (hc 0 h0)
    replace hfar := Lib.hid hfar
    clear jg jo jo0 jk0 hb hl hd jr jb X hk how hv
    have e1 := congrArg Rec.tmps hrec
    have e2 := congrArg Rec.ps hrec
    have e3 := congrArg Rec.assign hrec
    have e4 := congrArg Rec.body hrec
    dsimp only at e1 e2 e3 e4
    simp only [e1, e2, e3, e4]
    clear e1 e2 e3 e4 hrec
    gi_wp2
    refine ⟨trivial, ?_⟩
    refine wpIn_gen (fun V => Ext w V ∧ V.heap[w1.heap.size + 1]? = some (rec.at .busy none) ∧ V.heap[w1.heap.size]? = some (.deferred (some [])) ∧ Cb V w.heap.size 50 [.slice none 0 0] ∧ Cb V bd 31 [.pointer (some ⟨g, 0, none⟩)] ∧ Cb V (w.heap.size + 1) 50 [.slice D k c'] ∧ OwnG w.heap.size V D k c' (L.take k) ∧ Bs V A m c (L.getD k [])) B0.out ?_
    clear B0
    rintro w2 ⟨x2, l2, d2, jr2, jb2, jg2, jo2, b2⟩
    have c3 := jg2.cell (j := 0) rfl
    have l100 : decide ((100 : Int) < (k : Int)) = false := decide_eq_false (by omega)
    have n3 := jo2.ne_of jg2 (by decide)
    have nr := jo2.ne_of jr2 (by decide)
    have nb := jo2.ne_of jb2 (by decide)
    have nl := jo2.ne_obj l2 (rec_no _ _ _)
    have nd := jo2.ne_obj d2 (fun _ _ _ q => by cases q)
    have XA := (Ext.refl w2).alloc (.cells #[.slice A m c] 37)
    have hc := Lib.hid ((Cb.new w2 37 [.slice A m c]).cell (j := 0) rfl)
    have KQ : Hid (∀ s, (w2.alloc (.cells #[.slice A m c] 37)).grownBy s (Value.ownBlock (.slice D k c')) → s.heap[w1.heap.size + 1]? = some (rec.at .busy none) ∧ s.heap[w1.heap.size]? = some (.deferred (some [])) ∧ Cb s w.heap.size 50 [.slice none 0 0] ∧ Cb s bd 31 [.pointer (some ⟨g, 0, none⟩)] ∧ Cb s (w.heap.size + 1) 50 [.slice D k c'] ∧ Ext w s) := fun s e0 => by
      have e := gr_trans (World.grownBy_alloc w2 (.cells #[.slice A m c] 37) (Value.ownBlock (.slice D k c'))) e0
      exact ⟨(e.block _ (heap_lt l2) (fun q => nl q.symm)).trans l2, (e.block _ (heap_lt d2) (fun q => nd q.symm)).trans d2, (e.block _ (heap_lt jr2) (fun q => nr q.symm)).trans jr2, (e.block _ (heap_lt jb2) (fun q => nb q.symm)).trans jb2, (e.block _ (heap_lt jg2) (fun q => n3 q.symm)).trans jg2,
        Ot.ext (p := fun i => Value.ownBlock (.slice D k c') = some i) x2 ⟨e.os, e.tape, e.output, e.size, fun i hi hn => e.block i hi (fun q => hn q.symm)⟩ (fun i q => jo2.ge _ q)⟩
    have jo3 := Lib.hid (jo2.ext XA)
    have b3 := Lib.hid (b2.ext XA)
    have sz3 : Hid (w.heap.size ≤ (w2.alloc (.cells #[.slice A m c] 37)).heap.size) := by unfold Hid; rw [World.size_alloc]; have := x2.size; omega
    have TK : Hid (L.take k ++ [L.getD k []] = L.take (k + 1)) := by
      unfold Hid
      rw [List.getD_eq_getElem?_getD, List.getElem?_eq_getElem hkl]
      simp
    replace jg2 := Lib.hid jg2
    clear jo2 b2 x2 l2 d2 jr2 jb2 n3 nr nb nl nd XA
    gi_upto_region 10 with fail
    clear c3
    have c3 := jg2.out.cell (j := 0) rfl
    gi_wp2_with (refine in_of_wpR rfl (by intro c q; cases q) fun K hK => ?_; refine wp_append_rg2 (B := w.heap.size) (b := w2.heap.size) rfl rfl rfl jo3.out hc.out b3.out hfar.out (by omega) sz3.out ?_; intro D2 c2 w3 o3 g3 e3; have q3 := KQ.out w3 g3; have cc3 := q3.2.2.2.2.1.cell (j := 0) rfl; have ff3 := q3.2.2.2.2.1.frozen 0; replace q3 := Lib.hid q3; replace o3 := Lib.hid o3; refine hK _ _ ?_)
    clear cc3 ff3
    obtain ⟨l3, d3, jr3, jb3, jg3, x3⟩ := q3.out
    have gr1 := gr_cell22 w3 (w.heap.size + 1) 0 (.slice D2 (k + 1) c2)
    have jg4 : Cb (w3.setCell ⟨w.heap.size + 1, 0, none⟩ (.slice D2 (k + 1) c2)) (w.heap.size + 1) 50 [.slice D2 (k + 1) c2] := jg3.setCell
    have o4 := o3.out.turn jg3 (by decide) (by rintro v hv i rfl; simp at hv) gr1
    have l4 : (w3.setCell ⟨w.heap.size + 1, 0, none⟩ (.slice D2 (k + 1) c2)).heap[w1.heap.size + 1]? = some (rec.at .busy none) := (Below.heap_setCell _ _ _ _ (fun q => g4 q.symm)).trans l3
    have d4 : (w3.setCell ⟨w.heap.size + 1, 0, none⟩ (.slice D2 (k + 1) c2)).heap[w1.heap.size]? = some (.deferred (some [])) := (Below.heap_setCell _ _ _ _ (fun q => by have q : w1.heap.size = w.heap.size + 1 := q; have := k4.out.lt; omega)).trans d3
    have jr4 : Cb (w3.setCell ⟨w.heap.size + 1, 0, none⟩ (.slice D2 (k + 1) c2)) w.heap.size 50 [.slice none 0 0] := (Below.heap_setCell _ _ _ _ (fun q => by have q : w.heap.size = w.heap.size + 1 := q; omega)).trans jr3
    have jb4 : Cb (w3.setCell ⟨w.heap.size + 1, 0, none⟩ (.slice D2 (k + 1) c2)) bd 31 [.pointer (some ⟨g, 0, none⟩)] := (Below.heap_setCell _ _ _ _ (fun q => cb_differ jb3 jg3 (by decide) q)).trans jb3
    have x4 : Ext w (w3.setCell ⟨w.heap.size + 1, 0, none⟩ (.slice D2 (k + 1) c2)) := Ot.ext (p := fun i => i = w.heap.size + 1) x3 (Ot.of_grown gr1 rfl) (fun i q => by omega)
    clear l3 d3 jr3 jb3 jg3 x3 o3 gr1 q3
    generalize w3.setCell ⟨w.heap.size + 1, 0, none⟩ (.slice D2 (k + 1) c2) = w4 at *
    refine ⟨l4, .inl ⟨rfl, ?_⟩⟩
    have gr := grown_obj w4 (w1.heap.size + 1) (rec.at .ready none)
    refine ⟨Ot.ext (p := fun i => i = w1.heap.size + 1) x4 (Ot.of_grown gr rfl) (fun i q => by omega), World.putObj_heap_same (heap_lt l4), (World.putObj_heap_other gd).trans d4, (World.putObj_heap_other gg).trans jr4, (World.putObj_heap_other gb).trans jb4, D2, c2, (World.putObj_heap_other g4).trans jg4, ?_⟩
    rw [TK.out] at o4
    exact o4.turn2 (o4.ne_obj l4 (rec_no _ _ _)) (fun i x => no_cell l4 (rec_no _ _ _) i _) gr
  case fin =>
    clear J0
    rintro e w5 ⟨hv, hk | hf⟩
    · refine ⟨hv, .ready, none, by decide, hk.2.1, ?_⟩
      obtain ⟨x5, l5, d5, jr5, jb5, D, c, jg5, o5⟩ := hk
      rw [List.take_length] at o5
      have lw : w.heap.size ≤ w1.heap.size := X1.out.size
      have g4 : w.heap.size + 1 ≠ w1.heap.size + 1 := by have := k4.out.lt; omega
      have gg : w.heap.size ≠ w1.heap.size + 1 := by omega
      have gd : w1.heap.size ≠ w1.heap.size + 1 := by omega
      have gD : w.heap.size ≠ w1.heap.size := by have := kg.out.lt; omega
      have gr := grown_obj w5 (w1.heap.size + 1) (rec.at .exhausted none)
      have x6 : Ext w (w5.putObj (w1.heap.size + 1) (rec.at .exhausted none)) := Ot.ext (p := fun i => i = w1.heap.size + 1) x5 (Ot.of_grown gr rfl) (fun i q => by omega)
      have d6 : (w5.putObj (w1.heap.size + 1) (rec.at .exhausted none)).heap[w1.heap.size]? = some (.deferred (some [])) := (World.putObj_heap_other gd).trans d5
      have jr6 : Cb (w5.putObj (w1.heap.size + 1) (rec.at .exhausted none)) w.heap.size 50 [.slice none 0 0] := (World.putObj_heap_other gg).trans jr5
      have jg6 : Cb (w5.putObj (w1.heap.size + 1) (rec.at .exhausted none)) (w.heap.size + 1) 50 [.slice D L.length c] := (World.putObj_heap_other g4).trans jg5
      have o6 := o5.turn2 (o5.ne_obj l5 (rec_no _ _ _)) (fun i x => no_cell l5 (rec_no _ _ _) i _) gr
      dsimp only
      clear x5 l5 d5 jr5 jb5 jg5 o5 gr hv hrec
      generalize w5.putObj (w1.heap.size + 1) (rec.at .exhausted none) = w6 at *
      have c6 := jg6.cell (j := 0) rfl
      have r6 := jr6.cell (j := 0) rfl
      have f6 := jr6.frozen 0
      have gr1 := gr_cell22 w6 w.heap.size 0 (.slice D L.length c)
      have jr7 : Cb (w6.setCell ⟨w.heap.size, 0, none⟩ (.slice D L.length c)) w.heap.size 50 [.slice D L.length c] := jr6.setCell
      have d7 : (w6.setCell ⟨w.heap.size, 0, none⟩ (.slice D L.length c)).heap[w1.heap.size]? = some (.deferred (some [])) := (Below.heap_setCell _ _ _ _ (fun q => gD q.symm)).trans d6
      have o7 := o6.turn jr6 (by decide) (by rintro v hv i rfl; simp at hv) gr1
      have x7 : Ext w (w6.setCell ⟨w.heap.size, 0, none⟩ (.slice D L.length c)) := Ot.ext (p := fun i => i = w.heap.size) x6 (Ot.of_grown gr1 rfl) (fun i q => by omega)
      clear gr1 o6 x6 d6 jr6 jg6
      replace jr7 := Lib.hid jr7
      replace d7 := Lib.hid d7
      replace o7 := Lib.hid o7
      replace x7 := Lib.hid x7
      gi_wp2
      refine ⟨by simp, .inl ⟨_, _, rfl, run_takeDeferred d7.out, ?_⟩⟩
      clear c6 r6 f6
      generalize w6.setCell ⟨w.heap.size, 0, none⟩ (.slice D L.length c) = w7 at *
      have gr := grown_obj w7 w1.heap.size (.deferred none)
      have jr8 : Cb (w7.putObj w1.heap.size (.deferred none)) w.heap.size 50 [.slice D L.length c] := (World.putObj_heap_other gD).trans jr7.out
      have o8 := o7.out.turn2 (o7.out.ne_obj d7.out (fun _ _ _ q => by cases q)) (fun i x => no_cell d7.out (fun _ _ _ q => by cases q) i _) gr
      have x8 : Ext w (w7.putObj w1.heap.size (.deferred none)) := Ot.ext (p := fun i => i = w1.heap.size) x7.out (Ot.of_grown gr rfl) (fun i q => by omega)
      exact ⟨_, results_cell_one rfl _ _ rfl (jr8.cell (j := 0) rfl) (jr8.frozen 0), D, c, rfl, o8, x8⟩
    · exact hf.elim
end Go.Proofs.Yteaoacinhdjkeaa
