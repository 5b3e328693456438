import Derived.Test.YteaoacinhdjkeaaPkM
/-
  The journal: Open.
-/
namespace Go.Proofs.Yteaoacinhdjkeaa
open Go.ChangeShapes Go.WideShapes Go.ChangeAt Go.RowKit Go.Deep Go.Maps Go.Shelf
set_option maxRecDepth 100000
attribute [local go_sem] Oper.semAt_some

/-- A journal at block g, of the disk at block dg: its records. -/
def JK (B : Nat) (w : World) (g dg : Nat) (D : Option Addr) (c : Nat) (L : List (List UInt8)) : Prop := Cb w g 91 [.pointer (some ⟨dg, 0, none⟩), .slice D L.length c] ∧ OwnG B w D L.length c L ∧ B ≤ g
theorem JK.ext {B : Nat} {w w' : World} {g dg : Nat} {D : Option Addr} {c : Nat} {L : List (List UInt8)} (h : JK B w g dg D c L) (x : Ext w w') : JK B w' g dg D c L := ⟨h.1.ext x, h.2.1.ext x, h.2.2⟩

theorem gr_cell22 (w : World) (g o : Nat) (v : Value) : w.grownBy (w.setCell ⟨g, o, none⟩ v) (some g) := ⟨rfl, rfl, rfl, by simp [World.setCell], fun i _ h => Below.heap_setCell _ _ _ _ (fun q => h (by rw [q]))⟩
/-- What holds between two rounds of Open. -/
def Jo22 (w : World) (g dg b4 bd l Db : Nat) (rec : Rec) (pre : List (List UInt8)) (W : World) : Prop :=
  Ext w W ∧ W.heap[l]? = some (rec.at .ready none) ∧ W.heap[Db]? = some (.deferred (some [])) ∧ Cb W b4 31 [.pointer (some ⟨g, 0, none⟩)] ∧ Cb W bd 24 [.pointer (some ⟨dg, 0, none⟩)] ∧ ∃ D c, JK w.heap.size W g dg D c pre
theorem Jo22.ext {w W W' : World} {g dg b4 bd l Db : Nat} {rec : Rec} {pre : List (List UInt8)} (h : Jo22 w g dg b4 bd l Db rec pre W) (x : Ext W W') : Jo22 w g dg b4 bd l Db rec pre W' := by
  obtain ⟨h1, h2, h3, h4, h5, D, c, h6⟩ := h
  exact ⟨h1.trans x, (x.block _ (heap_lt h2)).trans h2, (x.block _ (heap_lt h3)).trans h3, h4.ext x, h5.ext x, D, c, h6.ext x⟩
theorem stored_calls {w : World} {v : Option Addr} : Calls Try.prog 40 #[.pointer v] w fun e w' => e = .returned (.func (.func 63) #[] #[.pointer (some ⟨w.heap.size, 0, none⟩)]) ∧ Cb w' w.heap.size 24 [.pointer v] ∧ Ext w w' := by
  go_enter Try.func40, Try.ntmps40
  go_wp2_with fail
  go_ret
  exact ⟨rfl, Cb.new _ _ [_], (Ext.refl w).alloc _⟩
theorem jopen_none {w : World} : Calls Try.prog 14 #[.pointer none] w fun e w' => e = .returned (.tuple #[.pointer none, .int .i64 1]) ∧ w' = w := by
  refine (callsIn_wide (n := 5)).1 ?_
  refine callsIn_of_wp_marks Try.func14 rfl trivial ?_
  simp only [Try.ntmps14, List.size_toArray, List.length_cons, List.length_nil, Nat.reduceAdd, Nat.reduceSub, Array.replicate_succ, Array.replicate_zero, List.push_toArray, List.append_toArray, List.nil_append, List.cons_append]
  gi_wp2
  exact ⟨_, results_tmp2 rfl _ _ _, rfl, rfl⟩
set_option maxHeartbeats 4000000 in
theorem jopen_calls {w : World} {dg r mb : Nat} {d : Ds} (h : DK w dg r mb d) (hm : d.S.length ≤ 64) (h64 : ∀ i : Int, (d.read i).length = 64) :
    Calls Try.prog 14 #[.pointer (some ⟨dg, 0, none⟩)] w fun e w' => ∃ g D c, e = .returned (.tuple #[.pointer (some ⟨g, 0, none⟩), .int .i64 0]) ∧ JK w.heap.size w' g dg D c d.recs ∧ Ext w w' := by
  refine (callsIn_wide (n := 5)).1 ?_
  refine callsIn_of_wp_marks Try.func14 rfl trivial ?_
  simp only [Try.ntmps14, List.size_toArray, List.length_cons, List.length_nil, Nat.reduceAdd, Nat.reduceSub, Array.replicate_succ, Array.replicate_zero, List.push_toArray, List.append_toArray, List.nil_append, List.cons_append]
  replace h := Lib.hid h
  replace h64 := Lib.hid h64
  have A0 : Hid (Cb ((w.alloc (.cells #[.pointer (some ⟨dg, 0, none⟩), .slice none 0 0] 91)).alloc (.cells #[.pointer (some ⟨w.heap.size, 0, none⟩)] 31)) w.heap.size 91 [.pointer (some ⟨dg, 0, none⟩), .slice none 0 0] ∧ Cb ((w.alloc (.cells #[.pointer (some ⟨dg, 0, none⟩), .slice none 0 0] 91)).alloc (.cells #[.pointer (some ⟨w.heap.size, 0, none⟩)] 31)) (w.heap.size + 1) 31 [.pointer (some ⟨w.heap.size, 0, none⟩)] ∧ Ext w ((w.alloc (.cells #[.pointer (some ⟨dg, 0, none⟩), .slice none 0 0] 91)).alloc (.cells #[.pointer (some ⟨w.heap.size, 0, none⟩)] 31))) :=
    ⟨heap_alloc1 _ _ _, heap_alloc2 _ _ _, ((Ext.refl w).alloc _).alloc _⟩
  gi_wp2
  refine ⟨trivial, ?_⟩
  generalize (w.alloc (.cells #[.pointer (some ⟨dg, 0, none⟩), .slice none 0 0] 91)).alloc (.cells #[.pointer (some ⟨w.heap.size, 0, none⟩)] 31) = w0 at *
  refine (callsIn_wide.2 stored_calls).mono ?_
  rintro e w1 ⟨rfl, kb, x1⟩
  obtain ⟨kg, k4, x0⟩ := A0.out
  replace kg := Lib.hid (kg.ext x1)
  replace k4 := Lib.hid (k4.ext x1)
  have X1 := Lib.hid (x0.trans x1)
  replace kb := Lib.hid kb
  have b0 : Hid (w.heap.size ≤ w0.heap.size) := x0.size
  clear A0 x0 x1
  generalize w0.heap.size = bd at *
  clear w0
  gi_wp2
  refine range_fn (gf := 63) (lb := #[.pointer (some ⟨bd, 0, none⟩)]) rfl (enters_of Try.func63 (by kernel_rfl) rfl) ?_
  intro fn rec hrec
  have J0 : Jo22 w w.heap.size dg (w.heap.size + 1) bd (w1.heap.size + 1) w1.heap.size rec [] ((w1.alloc (.deferred (some []))).alloc (rec.at .ready none)) := by
    have e : Ext w1 ((w1.alloc (.deferred (some []))).alloc (rec.at .ready none)) := ((Ext.refl w1).alloc _).alloc _
    exact ⟨X1.out.trans e, heap_alloc2 _ _ _, heap_alloc1 _ _ _, k4.out.ext e, kb.out.ext e, none, 0, kg.out.ext e, OwnG.nil _ _, Nat.le_refl _⟩
  refine (stored1_in (n := 4) (J := Jo22 w w.heap.size dg (w.heap.size + 1) bd (w1.heap.size + 1) w1.heap.size rec) (Jx := fun _ => False) hm h64.out (fun pre w w' h x => h.ext x) (fun pre W hj => ⟨h.out.ext hj.1, hj.2.2.2.2.1⟩) ?hY J0).mono ?fin
  case hY =>
    rintro pre v W A m c x hj hv how hp1
    obtain ⟨D, c', jk0⟩ := hj.2.2.2.2.2
    obtain ⟨X, hl, hd, j4, jb, _⟩ := hj.ext hv
    have hfar := far_of_newG how jk0.2.1 hj.1.size
    obtain ⟨jg, jo, _⟩ := jk0.ext hv
    have hb := how.bs
    refine yield_round hl (by rw [hrec]; rfl) ?_
    have hm1 : pre.length ≤ 1000000 := by have := hp1.1; simp at this; omega
    have lw : w.heap.size ≤ w1.heap.size := X1.out.size
    have g4 : w.heap.size + 1 ≠ w1.heap.size + 1 := by have := k4.out.lt; omega
    have gg : w.heap.size ≠ w1.heap.size + 1 := by omega
    have gd : w1.heap.size ≠ w1.heap.size + 1 := by omega
    have gb : bd ≠ w1.heap.size + 1 := by have := kb.out.lt; omega
    have B0 : Hid (Ext w (W.putObj (w1.heap.size + 1) (rec.at .busy none)) ∧ (W.putObj (w1.heap.size + 1) (rec.at .busy none)).heap[w1.heap.size + 1]? = some (rec.at .busy none) ∧ (W.putObj (w1.heap.size + 1) (rec.at .busy none)).heap[w1.heap.size]? = some (.deferred (some [])) ∧ Cb (W.putObj (w1.heap.size + 1) (rec.at .busy none)) (w.heap.size + 1) 31 [.pointer (some ⟨w.heap.size, 0, none⟩)] ∧ Cb (W.putObj (w1.heap.size + 1) (rec.at .busy none)) bd 24 [.pointer (some ⟨dg, 0, none⟩)] ∧ Cb (W.putObj (w1.heap.size + 1) (rec.at .busy none)) w.heap.size 91 [.pointer (some ⟨dg, 0, none⟩), .slice D pre.length c'] ∧ OwnG w.heap.size (W.putObj (w1.heap.size + 1) (rec.at .busy none)) D pre.length c' pre ∧ Bs (W.putObj (w1.heap.size + 1) (rec.at .busy none)) A m c x) := by
      have gr := grown_obj W (w1.heap.size + 1) (rec.at .busy none)
      refine ⟨?_, World.putObj_heap_same (heap_lt hl), (World.putObj_heap_other gd).trans hd, (World.putObj_heap_other g4).trans j4, (World.putObj_heap_other gb).trans jb, (World.putObj_heap_other gg).trans jg, jo.turn2 (jo.ne_obj hl (rec_no _ _ _)) (fun i x => no_cell hl (rec_no _ _ _) i _) gr, hb.grownG gr (fun h0 a ha q => ?_)⟩
      · exact Ot.ext (p := fun i => i = w1.heap.size + 1) X (Ot.of_grown gr rfl) (fun i q => by omega)
      · obtain ⟨b, off, e4, _, hc⟩ := hb.pos h0
        rw [e4] at ha
        injection ha with ha
        subst ha
        have q := Option.some.inj q
        simp only at q
        subst q
        exact no_cell hl (rec_no _ _ _) _ _ (hc 0 h0)
    replace hfar := Lib.hid hfar
    clear jg jo hb hl hd j4 jb X hj how hv
    have e1 := congrArg Rec.tmps hrec
    have e2 := congrArg Rec.ps hrec
    have e3 := congrArg Rec.assign hrec
    have e4 := congrArg Rec.body hrec
    dsimp only at e1 e2 e3 e4
    simp only [e1, e2, e3, e4]
    clear e1 e2 e3 e4 hrec
    gi_wp2
    refine ⟨trivial, ?_⟩
    gi_wp2
    refine wpIn_gen (fun V => Ext w V ∧ V.heap[w1.heap.size + 1]? = some (rec.at .busy none) ∧ V.heap[w1.heap.size]? = some (.deferred (some [])) ∧ Cb V (w.heap.size + 1) 31 [.pointer (some ⟨w.heap.size, 0, none⟩)] ∧ Cb V bd 24 [.pointer (some ⟨dg, 0, none⟩)] ∧ Cb V w.heap.size 91 [.pointer (some ⟨dg, 0, none⟩), .slice D pre.length c'] ∧ OwnG w.heap.size V D pre.length c' pre ∧ Bs V A m c x) B0.out ?_
    clear B0
    rintro w2 ⟨x2, l2, d2, j2, jb2, jg2, jo2, b2⟩
    have n4 := jo2.ne_of j2 (by decide)
    have nb := jo2.ne_of jb2 (by decide)
    have ng := jo2.ne_of jg2 (by decide)
    have nl := jo2.ne_obj l2 (rec_no _ _ _)
    have nd := jo2.ne_obj d2 (fun _ _ _ q => by cases q)
    have KP : Hid (∀ s, w2.drew.grownBy s (Value.ownBlock (.slice D pre.length c')) → (s.cell? ⟨w.heap.size + 1, 0, none⟩ = some (.pointer (some ⟨w.heap.size, 0, none⟩)) ∧ s.cell? ⟨w.heap.size, 1, none⟩ = some (.slice D pre.length c'))) := fun s e => by
      have a1 : Cb s (w.heap.size + 1) 31 [.pointer (some ⟨w.heap.size, 0, none⟩)] := (e.block _ (heap_lt j2) (fun q => n4 q.symm)).trans j2
      have a2 : Cb s w.heap.size 91 [.pointer (some ⟨dg, 0, none⟩), .slice D pre.length c'] := (e.block _ (heap_lt jg2) (fun q => ng q.symm)).trans jg2
      exact ⟨a1.cell rfl, a2.cell rfl⟩
    have KQ : Hid (∀ s, w2.drew.grownBy s (Value.ownBlock (.slice D pre.length c')) → s.heap[w1.heap.size + 1]? = some (rec.at .busy none) ∧ s.heap[w1.heap.size]? = some (.deferred (some [])) ∧ Cb s (w.heap.size + 1) 31 [.pointer (some ⟨w.heap.size, 0, none⟩)] ∧ Cb s bd 24 [.pointer (some ⟨dg, 0, none⟩)] ∧ Cb s w.heap.size 91 [.pointer (some ⟨dg, 0, none⟩), .slice D pre.length c'] ∧ Ext w s) := fun s e =>
      ⟨(e.block _ (heap_lt l2) (fun q => nl q.symm)).trans l2, (e.block _ (heap_lt d2) (fun q => nd q.symm)).trans d2, (e.block _ (heap_lt j2) (fun q => n4 q.symm)).trans j2, (e.block _ (heap_lt jb2) (fun q => nb q.symm)).trans jb2, (e.block _ (heap_lt jg2) (fun q => ng q.symm)).trans jg2,
        Ot.ext (p := fun i => Value.ownBlock (.slice D pre.length c') = some i) x2 ⟨e.os, e.tape, e.output, e.size, fun i hi hn => e.block i hi (fun q => hn q.symm)⟩ (fun i q => jo2.ge _ q)⟩
    replace jo2 : Hid (OwnG w.heap.size w2.drew D pre.length c' pre) := jo2.ext (Ext.refl w2).drew
    replace b2 : Hid (Bs w2.drew A m c x) := b2.ext (Ext.refl w2).drew
    replace x2 := Lib.hid x2
    clear l2 d2 j2 jb2 jg2 n4 nb ng nl nd
    refine qgZ_in (R := fun a b => a.grownBy b (Value.ownBlock (.slice D pre.length c'))) (fun w => World.grownBy.refl w _) (fun _ _ _ => gr_trans) 10 [0, 1, 2, 3, 4, 5, 6, 7, 8, 9, 10] [6, 7, 10] (fun ⟨_, _, h⟩ => h) ?_
    repeat (refine qzR _ (fun w' e => KP.out w' e) ?_; go_frame)
    have sz2 : w.heap.size ≤ w2.drew.heap.size := x2.out.size
    generalize w2.drew = V at *
    clear KP x2
    refine qzD fun K hK => ?_
    go_simp
    refine hK.out _ _ (.inr (World.grownBy_alloc _ _ _)) ?_
    clear hK K
    have hc := Lib.hid ((Cb.new V 37 [.slice A m c]).cell (j := 0) rfl)
    have jo3 := Lib.hid (jo2.out.ext ((Ext.refl V).alloc (.cells #[.slice A m c] 37)))
    have b3 := Lib.hid (b2.out.ext ((Ext.refl V).alloc (.cells #[.slice A m c] 37)))
    have g0 := Lib.hid (World.grownBy_alloc V (.cells #[.slice A m c] 37) (Value.ownBlock (.slice D pre.length c')))
    have sz3 : w.heap.size ≤ (V.alloc (.cells #[.slice A m c] 37)).heap.size := by rw [World.size_alloc]; omega
    clear jo2 b2
    refine qzD fun K hK => ?_
    refine wp_append_rg2 (B := w.heap.size) (b := V.heap.size) rfl rfl rfl jo3.out hc.out b3.out hfar.out hm1 sz3 ?_
    intro D2 c2 w3 o3 g3 _
    refine hK.out _ _ (.inr g3) ?_
    clear hK K
    obtain ⟨l3, d3, j3, jb3, jg3, x3⟩ := KQ.out w3 (gr_trans g0.out g3)
    clear KQ jo3 b3 hc g0 g3
    have cg := jg3.cell (j := 1) rfl
    have fg := jg3.frozen 1
    replace l3 := Lib.hid l3
    replace d3 := Lib.hid d3
    replace j3 := Lib.hid j3
    replace jb3 := Lib.hid jb3
    replace jg3 := Lib.hid jg3
    replace x3 := Lib.hid x3
    replace o3 := Lib.hid o3
    repeat (refine qzR0 ?_; go_frame)
    refine qzD fun K hK => ?_
    go_simp
    refine hK.out _ _ (.inl rfl) ?_
    clear hK K cg fg
    refine seqZ_done ?_
    have gr1 := gr_cell22 w3 w.heap.size 1 (.slice D2 (pre.length + 1) c2)
    have jg4 : Cb (w3.setCell ⟨w.heap.size, 1, none⟩ (.slice D2 (pre.length + 1) c2)) w.heap.size 91 [.pointer (some ⟨dg, 0, none⟩), .slice D2 (pre.length + 1) c2] := jg3.out.setCell
    have o4 := o3.out.turn jg3.out (by decide) (by rintro v hv i rfl; simp at hv) gr1
    have l4 : (w3.setCell ⟨w.heap.size, 1, none⟩ (.slice D2 (pre.length + 1) c2)).heap[w1.heap.size + 1]? = some (rec.at .busy none) := (Below.heap_setCell _ _ _ _ (fun q => gg q.symm)).trans l3.out
    have d4 : (w3.setCell ⟨w.heap.size, 1, none⟩ (.slice D2 (pre.length + 1) c2)).heap[w1.heap.size]? = some (.deferred (some [])) := (Below.heap_setCell _ _ _ _ (fun q => by have q : w1.heap.size = w.heap.size := q; have := k4.out.lt; omega)).trans d3.out
    have j4 : Cb (w3.setCell ⟨w.heap.size, 1, none⟩ (.slice D2 (pre.length + 1) c2)) (w.heap.size + 1) 31 [.pointer (some ⟨w.heap.size, 0, none⟩)] := (Below.heap_setCell _ _ _ _ (fun q => by have q : w.heap.size + 1 = w.heap.size := q; omega)).trans j3.out
    have jb4 : Cb (w3.setCell ⟨w.heap.size, 1, none⟩ (.slice D2 (pre.length + 1) c2)) bd 24 [.pointer (some ⟨dg, 0, none⟩)] := (Below.heap_setCell _ _ _ _ (fun q => cb_differ jb3.out jg3.out (by decide) q)).trans jb3.out
    have x4 : Ext w (w3.setCell ⟨w.heap.size, 1, none⟩ (.slice D2 (pre.length + 1) c2)) := Ot.ext (p := fun i => i = w.heap.size) x3.out (Ot.of_grown gr1 rfl) (fun i q => by omega)
    clear l3 d3 j3 jb3 jg3 x3 o3 gr1
    generalize w3.setCell ⟨w.heap.size, 1, none⟩ (.slice D2 (pre.length + 1) c2) = w4 at *
    refine ⟨l4, .inl ⟨rfl, ?_⟩⟩
    have gr := grown_obj w4 (w1.heap.size + 1) (rec.at .ready none)
    refine ⟨Ot.ext (p := fun i => i = w1.heap.size + 1) x4 (Ot.of_grown gr rfl) (fun i q => by omega), World.putObj_heap_same (heap_lt l4), (World.putObj_heap_other gd).trans d4, (World.putObj_heap_other g4).trans j4, (World.putObj_heap_other gb).trans jb4, D2, c2, ?_, ?_, Nat.le_refl _⟩
    · rw [show (pre ++ [x]).length = pre.length + 1 by simp]
      exact (World.putObj_heap_other gg).trans jg4
    · rw [show (pre ++ [x]).length = pre.length + 1 by simp]
      exact o4.turn2 (o4.ne_obj l4 (rec_no _ _ _)) (fun i x => no_cell l4 (rec_no _ _ _) i _) gr
  case fin =>
    clear J0
    rintro e w5 ⟨hv, hj | hf⟩
    · refine ⟨hv, .ready, none, by decide, hj.2.1, ?_⟩
      obtain ⟨x5, l5, d5, j5, jb5, D, c, jk5⟩ := hj
      have lw : w.heap.size ≤ w1.heap.size := X1.out.size
      have g4 : w.heap.size + 1 ≠ w1.heap.size + 1 := by have := k4.out.lt; omega
      have gg : w.heap.size ≠ w1.heap.size + 1 := by omega
      have gd : w1.heap.size ≠ w1.heap.size + 1 := by omega
      have gD : w.heap.size ≠ w1.heap.size := by have := kg.out.lt; omega
      have gr := grown_obj w5 (w1.heap.size + 1) (rec.at .exhausted none)
      have x6 : Ext w (w5.putObj (w1.heap.size + 1) (rec.at .exhausted none)) := Ot.ext (p := fun i => i = w1.heap.size + 1) x5 (Ot.of_grown gr rfl) (fun i q => by omega)
      have d6 : (w5.putObj (w1.heap.size + 1) (rec.at .exhausted none)).heap[w1.heap.size]? = some (.deferred (some [])) := (World.putObj_heap_other gd).trans d5
      have j6 : Cb (w5.putObj (w1.heap.size + 1) (rec.at .exhausted none)) (w.heap.size + 1) 31 [.pointer (some ⟨w.heap.size, 0, none⟩)] := (World.putObj_heap_other g4).trans j5
      have jk6 : JK w.heap.size (w5.putObj (w1.heap.size + 1) (rec.at .exhausted none)) w.heap.size dg D c d.recs := ⟨(World.putObj_heap_other gg).trans jk5.1, jk5.2.1.turn2 (jk5.2.1.ne_obj l5 (rec_no _ _ _)) (fun i x => no_cell l5 (rec_no _ _ _) i _) gr, Nat.le_refl _⟩
      dsimp only
      clear x5 l5 d5 j5 jb5 jk5 gr hv hrec
      generalize w5.putObj (w1.heap.size + 1) (rec.at .exhausted none) = w6 at *
      have gr := grown_obj w6 w1.heap.size (.deferred none)
      have F : Hid (JK w.heap.size (w6.putObj w1.heap.size (.deferred none)) w.heap.size dg D c d.recs ∧ Ext w (w6.putObj w1.heap.size (.deferred none))) :=
        ⟨⟨(World.putObj_heap_other gD).trans jk6.1, jk6.2.1.turn2 (jk6.2.1.ne_obj d6 (fun _ _ _ q => by cases q)) (fun i x => no_cell d6 (fun _ _ _ q => by cases q) i _) gr, Nat.le_refl _⟩, Ot.ext (p := fun i => i = w1.heap.size) x6 (Ot.of_grown gr rfl) (fun i q => by omega)⟩
      have c6 := j6.cell (j := 0) rfl
      replace d6 := Lib.hid d6
      clear gr jk6 x6 j6
      gi_wp2
      refine ⟨by simp, .inl ⟨_, _, rfl, run_takeDeferred d6.out, ?_⟩⟩
      exact ⟨_, results_tmp2 rfl _ _ _, w.heap.size, D, c, rfl, F.out.1, F.out.2⟩
    · exact hf.elim
end Go.Proofs.Yteaoacinhdjkeaa
