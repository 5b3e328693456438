import Derived.Test.YteaoacinhdjkeaaPkC
import Derived.Test.YteaoacinhdjkeaaJrAll
/-
  Strikes: Open.
-/
namespace Go.Proofs.Yteaoacinhdjkeaa
open Go.ChangeShapes Go.WideShapes Go.ChangeAt Go.RowKit Go.Deep Go.Maps Go.Shelf
set_option maxRecDepth 100000
attribute [local go_sem] Oper.semAt_some

theorem sopen_none {w : World} : Calls Try.prog 55 #[.pointer none] w fun e w' => e = .returned (.tuple #[.pointer none, .int .i64 1]) ∧ w' = w := by
  go_enter Try.func55, Try.ntmps55
  go_wp2_with fail
  go_ret2
  exact ⟨rfl, rfl⟩
/-- What holds between two rounds of Open. -/
def Jo23 (w : World) (g bd l Db lg lv lb : Nat) (rec : Rec) (L : List (List UInt8)) (k : Nat) (W : World) : Prop :=
  Ext w W ∧ W.heap[l]? = some (rec.at .ready none) ∧ W.heap[Db]? = some (.deferred (some [])) ∧ Cb W lv 60 [.pointer (some ⟨lg, 0, none⟩)] ∧ Cb W bd 31 [.pointer (some ⟨g, 0, none⟩)] ∧ LG W lg g lb (kOf (L.take k))
theorem Jo23.ext {w W W' : World} {g bd l Db lg lv lb : Nat} {rec : Rec} {L : List (List UInt8)} {k : Nat} (h : Jo23 w g bd l Db lg lv lb rec L k W) (x : Ext W W') : Jo23 w g bd l Db lg lv lb rec L k W' := by
  obtain ⟨h1, h2, h3, h4, h5, h6⟩ := h
  exact ⟨h1.trans x, (x.block _ (heap_lt h2)).trans h2, (x.block _ (heap_lt h3)).trans h3, h4.ext x, h5.ext x, h6.ext x⟩
set_option maxHeartbeats 4000000 in
theorem sopen_calls {w : World} {B g dg : Nat} {R : Nat → Prop} {D : Option Addr} {c : Nat} {L : List (List UInt8)} (hj : JS B R w g dg D c L) (hL : L.length ≤ 100) (hlen : ∀ k, k < L.length → (L.getD k []).length ≤ 1000000) :
    Calls Try.prog 55 #[.pointer (some ⟨g, 0, none⟩)] w fun e w' => ∃ lg lb, e = .returned (.tuple #[.pointer (some ⟨lg, 0, none⟩), .int .i64 0]) ∧ LG w' lg g lb (kOf L) ∧ w.heap.size ≤ lg ∧ w.heap.size ≤ lb ∧ Ext w w' := by
  refine (callsIn_wide (n := 5)).1 ?_
  refine callsIn_of_wp_marks Try.func55 rfl trivial ?_
  simp only [Try.ntmps55, List.size_toArray, List.length_cons, List.length_nil, Nat.reduceAdd, Nat.reduceSub, Array.replicate_succ, Array.replicate_zero, List.push_toArray, List.append_toArray, List.nil_append, List.cons_append]
  replace hj := Lib.hid hj
  replace hlen := Lib.hid hlen
  have A0 : Hid (Cb (((w.alloc (.map #[] 0)).alloc (.cells #[.pointer (some ⟨g, 0, none⟩), .map (some w.heap.size)] 121)).alloc (.cells #[.pointer (some ⟨w.heap.size + 1, 0, none⟩)] 60)) (w.heap.size + 2) 60 [.pointer (some ⟨w.heap.size + 1, 0, none⟩)] ∧ LG (((w.alloc (.map #[] 0)).alloc (.cells #[.pointer (some ⟨g, 0, none⟩), .map (some w.heap.size)] 121)).alloc (.cells #[.pointer (some ⟨w.heap.size + 1, 0, none⟩)] 60)) (w.heap.size + 1) g w.heap.size [] ∧ Ext w (((w.alloc (.map #[] 0)).alloc (.cells #[.pointer (some ⟨g, 0, none⟩), .map (some w.heap.size)] 121)).alloc (.cells #[.pointer (some ⟨w.heap.size + 1, 0, none⟩)] 60))) := by
    have m1 := Mp.made w Try.prog 3
    have c1 := Cb.new (w.alloc (.map #[] 0)) 121 [.pointer (some ⟨g, 0, none⟩), .map (some w.heap.size)]
    rw [show (w.alloc (.map #[] 0)).heap.size = w.heap.size + 1 by simp] at c1
    have c2 := Cb.new ((w.alloc (.map #[] 0)).alloc (.cells #[.pointer (some ⟨g, 0, none⟩), .map (some w.heap.size)] 121)) 60 [.pointer (some ⟨w.heap.size + 1, 0, none⟩)]
    rw [show ((w.alloc (.map #[] 0)).alloc (.cells #[.pointer (some ⟨g, 0, none⟩), .map (some w.heap.size)] 121)).heap.size = w.heap.size + 2 by simp] at c2
    exact ⟨c2, ⟨c1.ext ((Ext.refl _).alloc _), m1.ext (((Ext.refl _).alloc _).alloc _), OkS.nil⟩, (((Ext.refl w).alloc _).alloc _).alloc _⟩
  have hb : Try.prog.built 121 [(0, .pointer (some ⟨g, 0, none⟩)), (1, .map (some w.heap.size))] = some #[.pointer (some ⟨g, 0, none⟩), .map (some w.heap.size)] := by kernel_rfl
  have hmm := @run_makeMap Try.prog
  gi_wp2
  refine ⟨trivial, ?_⟩
  generalize ((w.alloc (.map #[] 0)).alloc (.cells #[.pointer (some ⟨g, 0, none⟩), .map (some w.heap.size)] 121)).alloc (.cells #[.pointer (some ⟨w.heap.size + 1, 0, none⟩)] 60) = w0 at *
  refine (callsIn_wide.2 jall_calls).mono ?_
  rintro e w1 ⟨rfl, kb, x1⟩
  obtain ⟨kv, kl, x0⟩ := A0.out
  rw [show w.heap.size + 1 + 1 = w.heap.size + 2 from rfl]
  replace kv := Lib.hid (kv.ext x1)
  replace kl := Lib.hid (kl.ext x1)
  have X1 := Lib.hid (x0.trans x1)
  replace kb := Lib.hid kb
  have b0 : Hid (w.heap.size ≤ w0.heap.size) := x0.size
  clear A0 x0 x1 hb
  generalize w0.heap.size = bd at *
  clear w0
  obtain ⟨lb, hlb⟩ : ∃ q, q = w.heap.size := ⟨_, rfl⟩
  obtain ⟨lg, hlg⟩ : ∃ q, q = w.heap.size + 1 := ⟨_, rfl⟩
  obtain ⟨lv, hlv⟩ : ∃ q, q = w.heap.size + 2 := ⟨_, rfl⟩
  rw [← hlv] at kv ⊢
  rw [← hlg] at kv kl
  rw [← hlb] at kl
  have wlb : w.heap.size ≤ lb := by omega
  have wlg : w.heap.size ≤ lg := by omega
  have wlv : w.heap.size ≤ lv := by omega
  have ne1 : lb ≠ lg := by omega
  have ne2 : lb ≠ lv := by omega
  clear hlb hlg hlv
  gi_wp2
  refine range_fn (gf := 68) (lb := #[.pointer (some ⟨bd, 0, none⟩)]) rfl (enters_of Try.func68 (by kernel_rfl) rfl) ?_
  intro fn rec hrec
  have J0 : Jo23 w g bd (w1.heap.size + 1) w1.heap.size lg lv lb rec L 0 ((w1.alloc (.deferred (some []))).alloc (rec.at .ready none)) := by
    have e : Ext w1 ((w1.alloc (.deferred (some []))).alloc (rec.at .ready none)) := ((Ext.refl w1).alloc _).alloc _
    exact ⟨X1.out.trans e, heap_alloc2 _ _ _, heap_alloc1 _ _ _, kv.out.ext e, kb.out.ext e, kl.out.ext e⟩
  have llv := kv.out.lt
  have llb := kl.out.mp.lt
  have llg := kl.out.cb.lt
  have lbd := kb.out.lt
  have lw : w.heap.size ≤ w1.heap.size := X1.out.size
  refine (jall1_in (n := 4) (J := Jo23 w g bd (w1.heap.size + 1) w1.heap.size lg lv lb rec L) (Jx := fun _ => False) (by omega) hlen.out (fun k w w' h x => h.ext x) (fun k W hk => ⟨hj.out.ext hk.1, hk.2.2.2.2.1⟩) ?hY J0).mono ?fin
  case hY =>
    rintro k v W A m c hk hkl hv how
    obtain ⟨X, hl, hd, jv, jb, jl⟩ := hk.ext hv
    have hb := how.bs
    refine yield_round hl (by rw [hrec]; rfl) ?_
    have g4 : lv ≠ w1.heap.size + 1 := by omega
    have gd : w1.heap.size ≠ w1.heap.size + 1 := by omega
    have gb : bd ≠ w1.heap.size + 1 := by omega
    have gl : lg ≠ w1.heap.size + 1 := by omega
    have gm : lb ≠ w1.heap.size + 1 := by omega
    have gm2 : lb ≠ w1.heap.size := by omega
    have gm3 : lb ≠ bd := fun q => by
      obtain ⟨es, cl, q2⟩ := jl.mp.obj
      unfold Cb at jb
      rw [← q, q2] at jb
      cases jb
    have B0 : Hid (Ext w (W.putObj (w1.heap.size + 1) (rec.at .busy none)) ∧ (W.putObj (w1.heap.size + 1) (rec.at .busy none)).heap[w1.heap.size + 1]? = some (rec.at .busy none) ∧ (W.putObj (w1.heap.size + 1) (rec.at .busy none)).heap[w1.heap.size]? = some (.deferred (some [])) ∧ Cb (W.putObj (w1.heap.size + 1) (rec.at .busy none)) lv 60 [.pointer (some ⟨lg, 0, none⟩)] ∧ Cb (W.putObj (w1.heap.size + 1) (rec.at .busy none)) bd 31 [.pointer (some ⟨g, 0, none⟩)] ∧ LG (W.putObj (w1.heap.size + 1) (rec.at .busy none)) lg g lb (kOf (L.take k)) ∧ Bs (W.putObj (w1.heap.size + 1) (rec.at .busy none)) A m c (L.getD k [])) := by
      have gr := grown_obj W (w1.heap.size + 1) (rec.at .busy none)
      refine ⟨?_, World.putObj_heap_same (heap_lt hl), (World.putObj_heap_other gd).trans hd, (World.putObj_heap_other g4).trans jv, (World.putObj_heap_other gb).trans jb, jl.stay (World.putObj_heap_other gl) (World.putObj_heap_other gm), hb.grownG gr (fun h0 a ha q => ?_)⟩
      · exact Ot.ext (p := fun i => i = w1.heap.size + 1) X (Ot.of_grown gr rfl) (fun i q => by omega)
      · obtain ⟨b, off, e4, _, hc⟩ := hb.pos h0
        rw [e4] at ha
        injection ha with ha
        subst ha
        have q := Option.some.inj q
        simp only at q
        subst q
        exact no_cell hl (rec_no _ _ _) _ _ (hc 0 h0)
    clear hb hl hd jv jb jl X hk how hv
    have e1 := congrArg Rec.tmps hrec
    have e2 := congrArg Rec.ps hrec
    have e3 := congrArg Rec.assign hrec
    have e4 := congrArg Rec.body hrec
    dsimp only at e1 e2 e3 e4
    simp only [e1, e2, e3, e4]
    clear e1 e2 e3 e4 hrec
    have TK : Hid (kOf (L.take (k + 1)) = kAdd (kOf (L.take k)) (L.getD k [])) := by
      unfold Hid
      rw [← kOf_snoc]
      congr 1
      rw [List.getD_eq_getElem?_getD, List.getElem?_eq_getElem hkl]
      simp
    generalize L.getD k [] = xs at *
    have L_RC : (recV xs).C.length = 4 := rfl
    have O_RC : (recV xs).C.toArray.all (·.oneCell') = true := one_cells (fun v hv => by
      simp only [Rk.C, List.mem_cons, List.not_mem_nil, or_false] at hv
      rcases hv with rfl | rfl | rfl | rfl <;> rfl)
    have hal := rk_alloc
    have S_Z : zRk.toArray.size = 4 := rfl
    gi_wp2
    refine ⟨trivial, ?_⟩
    refine wpIn_gen (fun V => Ext w V ∧ V.heap[w1.heap.size + 1]? = some (rec.at .busy none) ∧ V.heap[w1.heap.size]? = some (.deferred (some [])) ∧ Cb V lv 60 [.pointer (some ⟨lg, 0, none⟩)] ∧ Cb V bd 31 [.pointer (some ⟨g, 0, none⟩)] ∧ LG V lg g lb (kOf (L.take k)) ∧ Bs V A m c xs) B0.out ?_
    clear B0
    rintro w2 ⟨x2, l2, d2, jv2, jb2, jl2, b2⟩
    have RO := Lib.hid (srecord_calls b2)
    have KF : Hid (∀ V, Ext w2 V → Ext w V ∧ V.heap[w1.heap.size + 1]? = some (rec.at .busy none) ∧ V.heap[w1.heap.size]? = some (.deferred (some [])) ∧ Cb V lv 60 [.pointer (some ⟨lg, 0, none⟩)] ∧ Cb V bd 31 [.pointer (some ⟨g, 0, none⟩)] ∧ LG V lg g lb (kOf (L.take k))) := fun V x => ⟨x2.trans x, (x.block _ (heap_lt l2)).trans l2, (x.block _ (heap_lt d2)).trans d2, jv2.ext x, jb2.ext x, jl2.ext x⟩
    have KA : Hid (∀ r, recR xs = some r → recV xs = r ∧ r.ok ∧ kAdd (kOf (L.take k)) xs = followL (kOf (L.take k)) r) := fun r q => by
      refine ⟨by unfold recV; rw [q]; rfl, ?_, by unfold kAdd; rw [q]⟩
      unfold recR at q
      split at q
      · rename_i z
        have := okR_iff.1 z.2
        rw [Option.some.inj q] at this
        exact this
      · cases q
    have KB : Hid (recR xs = none → kAdd (kOf (L.take k)) xs = kOf (L.take k)) := fun q => by unfold kAdd; rw [q]
    have jl2' := Lib.hid jl2
    clear x2 l2 d2 jv2 jb2 jl2 b2
    generalize zRk = ZZ at *
    obtain ⟨RC, hRC⟩ : ∃ q, q = (recV xs).C := ⟨_, rfl⟩
    rw [← hRC] at RO L_RC O_RC
    have S_RC : RC.toArray.size = 4 := by rw [List.size_toArray, L_RC]
    replace hRC := Lib.hid hRC
    obtain ⟨ro, hro⟩ : ∃ q, q = recR xs := ⟨_, rfl⟩
    rw [← hro] at RO KA KB
    clear hro
    gi_wp2
    refine ⟨trivial, ?_⟩
    refine (calls_in RO.out).mono ?_
    rintro e w3 ⟨rfl, x3⟩
    have k7 : Hid (Cb ((w3.alloc (.cells ZZ.toArray 124)).setRow w3.heap.size RC.toArray) w3.heap.size 124 RC ∧ Ext w2 ((w3.alloc (.cells ZZ.toArray 124)).setRow w3.heap.size RC.toArray)) := ⟨(Cb.new w3 _ ZZ).set, x3.trans (Ext.newRow _ _ _)⟩
    clear RO x3
    gi_upto_region 7 with (refine in_of_wpR rfl (by intro c q; cases q) fun K hK => ?_; refine wp_store_row _ _ _ rfl w3.heap.size RC.toArray rfl rfl 124 ZZ.toArray (heap_alloc_new _ _) (by rw [S_RC]; rfl) (by rw [S_RC, S_Z]) O_RC ?_; refine hK _ _ ?_; simp only [Act.put])
    refine wpIn_gen (fun V => Cb V w3.heap.size 124 RC ∧ Ext w2 V) k7.out ?_
    clear k7
    generalize w3.heap.size = g7 at *
    clear w3
    rintro w4 ⟨k7, x4⟩
    have FN := Lib.hid (KF.out w4 x4)
    replace k7 := Lib.hid k7
    replace x4 := Lib.hid x4
    clear KF
    cases ro with
    | none =>
      have TK2 := Lib.hid (KB.out rfl)
      rw [TK2.out] at TK
      gi_wp2
      have F9 : Jo23 w g bd (w1.heap.size + 1) w1.heap.size lg lv lb rec L (k + 1) (w4.putObj (w1.heap.size + 1) (rec.at .ready none)) := by
        obtain ⟨x9, l9, d9, jv9, jb9, jl9⟩ := FN.out
        have gr := grown_obj w4 (w1.heap.size + 1) (rec.at .ready none)
        refine ⟨Ot.ext (p := fun i => i = w1.heap.size + 1) x9 (Ot.of_grown gr rfl) (fun i q => by omega), World.putObj_heap_same (heap_lt l9), (World.putObj_heap_other gd).trans d9, (World.putObj_heap_other g4).trans jv9, (World.putObj_heap_other gb).trans jb9, ?_⟩
        rw [TK.out]
        exact jl9.stay (World.putObj_heap_other gl) (World.putObj_heap_other gm)
      first | exact ⟨FN.out.2.1, .inl ⟨rfl, F9⟩⟩ | exact ⟨FN.out.2.1, rfl, F9⟩
    | some r =>
      obtain ⟨rV, rok, rF⟩ := KA.out r rfl
      rw [rF] at TK
      have FO := sfollow_calls FN.out.2.2.2.2.2 rok
      rw [← rV, ← hRC.out] at FO
      replace FO := Lib.hid FO
      have cv := FN.out.2.2.2.1.cell (j := 0) rfl
      have nm4 := heap_lt FN.out.2.1
      replace rok := Lib.hid rok
      replace rV := Lib.hid rV
      replace rF := Lib.hid rF
      clear KA KB
      gi_wp2_with (refine in_of_wpR rfl (by intro c q; cases q) fun K hK => ?_; refine wp_exec22 (exec_load_row (ty := 124) (g := g7) (cs := RC.toArray) rfl rfl k7.out rfl rfl ?_) ?_; (rw [S_RC]; rfl); refine hK _ _ ?_; go_frame)
      refine ⟨trivial, ?_⟩
      refine (calls_in FO.out).mono ?_
      rintro e w5 ⟨rfl, jl5, k5⟩
      rw [rV.out] at jl5
      have FN5 : Hid (Ext w w5 ∧ w5.heap[w1.heap.size + 1]? = some (rec.at .busy none) ∧ w5.heap[w1.heap.size]? = some (.deferred (some [])) ∧ Cb w5 lv 60 [.pointer (some ⟨lg, 0, none⟩)] ∧ Cb w5 bd 31 [.pointer (some ⟨g, 0, none⟩)] ∧ LG w5 lg g lb (followL (kOf (L.take k)) r)) := by
        obtain ⟨x9, l9, d9, jv9, jb9, _⟩ := FN.out
        exact ⟨Ot.ext x9 k5 (fun i q => by omega), k5.block l9 (fun q => gm q.symm), k5.block d9 (fun q => gm2 q.symm), k5.block jv9 (fun q => ne2 q.symm), k5.block jb9 (fun q => gm3 q.symm), jl5⟩
      clear FN FO cv jl5 k5 k7 x4
      have FN := FN5
      clear FN5
      gi_wp2
      have F9 : Jo23 w g bd (w1.heap.size + 1) w1.heap.size lg lv lb rec L (k + 1) (w5.putObj (w1.heap.size + 1) (rec.at .ready none)) := by
        obtain ⟨x9, l9, d9, jv9, jb9, jl9⟩ := FN.out
        have gr := grown_obj w5 (w1.heap.size + 1) (rec.at .ready none)
        refine ⟨Ot.ext (p := fun i => i = w1.heap.size + 1) x9 (Ot.of_grown gr rfl) (fun i q => by omega), World.putObj_heap_same (heap_lt l9), (World.putObj_heap_other gd).trans d9, (World.putObj_heap_other g4).trans jv9, (World.putObj_heap_other gb).trans jb9, ?_⟩
        rw [TK.out]
        exact jl9.stay (World.putObj_heap_other gl) (World.putObj_heap_other gm)
      first | exact ⟨FN.out.2.1, .inl ⟨rfl, F9⟩⟩ | exact ⟨FN.out.2.1, rfl, F9⟩
  case fin =>
    clear J0
    rintro e w5 ⟨hv, hj5 | hf⟩
    · refine ⟨hv, .ready, none, by decide, hj5.2.1, ?_⟩
      obtain ⟨x5, l5, d5, jv5, jb5, jl5⟩ := hj5
      rw [List.take_length] at jl5
      have g4 : lv ≠ w1.heap.size + 1 := by omega
      have gd : w1.heap.size ≠ w1.heap.size + 1 := by omega
      have gl : lg ≠ w1.heap.size + 1 := by omega
      have gm : lb ≠ w1.heap.size + 1 := by omega
      have gr := grown_obj w5 (w1.heap.size + 1) (rec.at .exhausted none)
      have x6 : Ext w (w5.putObj (w1.heap.size + 1) (rec.at .exhausted none)) := Ot.ext (p := fun i => i = w1.heap.size + 1) x5 (Ot.of_grown gr rfl) (fun i q => by omega)
      have d6 : (w5.putObj (w1.heap.size + 1) (rec.at .exhausted none)).heap[w1.heap.size]? = some (.deferred (some [])) := (World.putObj_heap_other gd).trans d5
      have jv6 : Cb (w5.putObj (w1.heap.size + 1) (rec.at .exhausted none)) lv 60 [.pointer (some ⟨lg, 0, none⟩)] := (World.putObj_heap_other g4).trans jv5
      have jl6 : LG (w5.putObj (w1.heap.size + 1) (rec.at .exhausted none)) lg g lb (kOf L) := jl5.stay (World.putObj_heap_other gl) (World.putObj_heap_other gm)
      dsimp only
      clear x5 l5 d5 jv5 jb5 jl5 gr hv hrec
      generalize w5.putObj (w1.heap.size + 1) (rec.at .exhausted none) = w6 at *
      have gr := grown_obj w6 w1.heap.size (.deferred none)
      have F : Hid (LG (w6.putObj w1.heap.size (.deferred none)) lg g lb (kOf L) ∧ w.heap.size ≤ lg ∧ w.heap.size ≤ lb ∧ Ext w (w6.putObj w1.heap.size (.deferred none))) :=
        ⟨jl6.stay (World.putObj_heap_other (by omega)) (World.putObj_heap_other (by omega)), wlg, wlb, Ot.ext (p := fun i => i = w1.heap.size) x6 (Ot.of_grown gr rfl) (fun i q => by omega)⟩
      have c6 := jv6.cell (j := 0) rfl
      replace d6 := Lib.hid d6
      clear gr jl6 x6 jv6
      gi_wp2
      refine ⟨by simp, .inl ⟨_, _, rfl, run_takeDeferred d6.out, ?_⟩⟩
      exact ⟨_, results_tmp2 rfl _ _ _, lg, lb, rfl, F.out⟩
    · exact hf.elim
end Go.Proofs.Yteaoacinhdjkeaa
