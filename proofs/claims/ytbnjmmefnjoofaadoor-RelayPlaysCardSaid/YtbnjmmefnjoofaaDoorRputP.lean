/-
  The document's boxes that stand side by side: Put and Ack (written by genrputp.py).
-/
import Derived.Test.YtbnjmmefnjoofaaDoorPutP
import Derived.Test.YtbnjmmefnjoofaaDoorRack
namespace Go.Proofs.YtbnjmmefnjoofaaDoor
open Go.ChangeShapes Go.WideShapes Go.ChangeAt Go.RowKit Go.Deep
set_option maxRecDepth 100000

theorem TbP.setNew {P : Nat → Prop} {S : TypeId → Bool} {w a : World} (h : TbP P S w a) {p : Addr} (hp : w.heap.size ≤ p.block) (u : Value) : TbP P S w (a.setCell p u) := ⟨h.1, h.2.1, h.2.2.1, by simpa [World.setCell] using h.2.2.2.1, fun i o hi hc => (Below.heap_setCell _ _ _ _ (by have := heap_lt hi; omega)).trans (h.2.2.2.2 i o hi hc)⟩
/-- Another row is put into the box. -/
theorem MBP.put2 {TB TM : TypeId} {P : Nat → Prop} {g : Nat} {S : TypeId → Bool} {w1 : World} {L' : List Wm} {last : Int} {u : Value} (kg : Cb w1 g TB [u, .int .i64 last]) {A : Option Addr} {n c : Nat} (ho : OwnC 0 w1 TM 138 A n c (L'.map Wm.C)) (hp : ∀ k, Value.ownBlock (.slice A n c) = some k → P k) (hs : ∀ x ∈ L', x.d.ok ∧ BsF 0 w1 x.A x.d.body.length x.c x.d.body) (h0 : P g) (hS : S TB = true) (ht : TB ≠ TM) (hu : TB ≠ 5) :
    MBP TB TM P (w1.setCell ⟨g, 0, none⟩ (.slice A n c)) g L' last ∧ TbP P S w1 (w1.setCell ⟨g, 0, none⟩ (.slice A n c)) ∧ Cb (w1.setCell ⟨g, 0, none⟩ (.slice A n c)) g TB [.slice A n c, .int .i64 last] := by
  have ot : ∀ (i : Nat) (cs : Array Value) (t : TypeId), w1.heap[i]? = some (Obj.cells cs t (0, 0)) → TB ≠ t → (w1.setCell ⟨g, 0, none⟩ (.slice A n c)).heap[i]? = some (Obj.cells cs t (0, 0)) := fun i cs t hi ht => (Below.heap_setCell _ _ _ _ (show i ≠ g from fun q => by
    subst q
    rw [kg] at hi
    injection hi with hi
    injection hi with _ hi
    exact ht hi)).trans hi
  exact ⟨⟨A, n, c, kg.setCell, ho.keep fun i cs hi _ => ot i cs _ hi ht, hp, fun x hx => ⟨(hs x hx).1, (hs x hx).2.keep fun i cs hi _ => ot i cs _ hi hu⟩⟩, TbP.cell 0 _ kg h0 hS, kg.setCell⟩
set_option maxHeartbeats 8000000 in
theorem rputP_calls {w : World} {P : Nat → Prop} {g : Nat} {L : List Wm} {last : Int} {x : Wm} (h : MBP 96 101 P w g L last) (hx : x.d.ok) (hb : Bs w x.A x.d.body.length x.c x.d.body) (hl : 0 ≤ last) (hl2 : last < 1000000) (hL : L.length ≤ 8) (hP : ∀ i, w.heap.size ≤ i → P i) (hg : P g) :
    Calls Tryd.prog 61 #[.pointer (some ⟨g, 0, none⟩), .agg x.ev.toArray, .agg x.d.stm.toArray] w fun e w' => e = .returned (.tuple #[.int .i64 (pbI x.d L.length last), .int .i64 (pbE x.d L.length)]) ∧ (∃ A' c', MBP 96 101 P w' g (pbL x.d A' c' L last) (pbM x.d L.length last)) ∧ TbP P tagR w w' := by
  have HE : Hid (∀ W, Ext w W → Calls Tryd.prog 78 #[.agg x.ev.toArray] W fun e w' => e = .returned (.bool (okM x.d)) ∧ Ext W w') := fun W e => rightEnvelope_calls hx.1.1 hx.1.2 (by have := hx.2.2; omega)
  have BL : Hid (∀ A c, Tryd.prog.built 101 [(0, .int .i64 (last + 1)), (1, .agg (⟨x.d, A, c⟩ : Wm).ev.toArray), (2, .agg x.d.stm.toArray)] = some (⟨x.d.as (last + 1), A, c⟩ : Wm).C.toArray) := fun A c => mail_builtR (Wm.ev_len (x := ⟨x.d, A, c⟩) hx) (x.d.stm_len hx)
  have V68 : Hid (x.ev[68]? = some (.slice x.A x.d.body.length x.c)) := Wm.ev68 hx
  have EVS : Hid (∀ A c, x.ev.set 68 (.slice A x.d.body.length c) = (⟨x.d, A, c⟩ : Wm).ev) := fun A c => Wm.evset hx A c
  have L_g : Hid (∀ A c, (⟨x.d, A, c⟩ : Wm).ev.length = 69) := fun A c => Wm.ev_len (x := ⟨x.d, A, c⟩) hx
  have hbm : x.d.body.length ≤ 1000 := hx.2.2
  have L_e := x.ev_len hx
  have L_s := x.d.stm_len hx
  have OKX : Hid ((x.d.as (last + 1)).ok) := hx
  have LC : Hid (∀ A c, (⟨x.d.as (last + 1), A, c⟩ : Wm).C.length = 138) := fun A c => Wm.C_len (x := ⟨x.d.as (last + 1), A, c⟩) hx
  have OC : Hid (∀ A c, ∀ v ∈ (⟨x.d.as (last + 1), A, c⟩ : Wm).C, v.oneCell' = true) := fun A c => Wm.one _
  have FIN : Hid (∀ (er i : Int) (LL : List Wm) (m : Int) (W : World), (∃ A' c', er = pbE x.d L.length ∧ i = pbI x.d L.length last ∧ LL = pbL x.d A' c' L last ∧ m = pbM x.d L.length last) → MBP 96 101 P W g LL m → TbP P tagR w W → Ending.returned (.tuple #[.int .i64 i, .int .i64 er]) = .returned (.tuple #[.int .i64 (pbI x.d L.length last), .int .i64 (pbE x.d L.length)]) ∧ (∃ A' c', MBP 96 101 P W g (pbL x.d A' c' L last) (pbM x.d L.length last)) ∧ TbP P tagR w W) := by
    rintro er i LL m W ⟨A', c', rfl, rfl, rfl, rfl⟩ k1 k2
    exact ⟨rfl, ⟨A', c', k1⟩, k2⟩
  have P_bad : Hid (okM x.d = false → pbE x.d L.length = 1 ∧ pbI x.d L.length last = 0 ∧ (∀ A c, pbL x.d A c L last = L) ∧ pbM x.d L.length last = last) := fun q => by
    have e : pbE x.d L.length = 1 := by unfold pbE; rw [q]; rfl
    refine ⟨e, ?_, fun A c => ?_, ?_⟩
    · unfold pbI; rw [e, if_neg (by decide)]
    · unfold pbL; rw [e, if_neg (by decide)]
    · unfold pbM; rw [e, if_neg (by decide)]
  have P_full : Hid (okM x.d = true → L.length = 8 → pbE x.d L.length = 8 ∧ pbI x.d L.length last = 0 ∧ (∀ A c, pbL x.d A c L last = L) ∧ pbM x.d L.length last = last) := fun q q2 => by
    have e : pbE x.d L.length = 8 := by unfold pbE; rw [q, q2]; rfl
    refine ⟨e, ?_, fun A c => ?_, ?_⟩
    · unfold pbI; rw [e, if_neg (by decide)]
    · unfold pbL; rw [e, if_neg (by decide)]
    · unfold pbM; rw [e, if_neg (by decide)]
  have P_in : Hid (okM x.d = true → L.length < 8 → pbE x.d L.length = 0 ∧ pbI x.d L.length last = last + 1 ∧ (∀ A c, pbL x.d A c L last = L ++ [⟨x.d.as (last + 1), A, c⟩]) ∧ pbM x.d L.length last = last + 1) := fun q q2 => by
    have e : pbE x.d L.length = 0 := by unfold pbE; rw [q, if_pos rfl, if_pos q2]
    refine ⟨e, ?_, fun A c => ?_, ?_⟩
    · unfold pbI; rw [e, if_pos rfl]
    · unfold pbL; rw [e, if_pos rfl]
    · unfold pbM; rw [e, if_pos rfl]
  replace hb := Lib.hid hb
  clear hx
  obtain ⟨A, n, c, hcb, how, how1, hbd⟩ := h
  replace how1 := Lib.hid how1
  have hLn := MB.len how
  have hcap := how.cap
  have glt := hcb.lt
  obtain ⟨n8, n8b⟩ : n ≤ 8 ∧ c ≤ 9223372036854775807 := ⟨by omega, by have := hcap.2; unfold maxLen at this; omega⟩
  obtain ⟨r, hr⟩ : ∃ r, r = w.heap.size := ⟨_, rfl⟩
  generalize hF : (fun (A : Option Addr) (c : Nat) => (⟨x.d.as (last + 1), A, c⟩ : Wm)) = F at *
  have hF' : ∀ A c, (⟨x.d.as (last + 1), A, c⟩ : Wm) = F A c := fun A c => by rw [← hF]
  have FD : Hid (∀ A c, (F A c).d.body = x.d.body ∧ (F A c).A = A ∧ (F A c).c = c) := fun A c => by rw [← hF' A c]; exact ⟨rfl, rfl, rfl⟩
  have OKD : Hid (∀ A c, (F A c).d.ok) := fun A c => by rw [← hF' A c]; exact OKX.out
  simp only [hF'] at BL LC OC P_in
  clear hF hF'
  generalize x.ev = EV at *
  generalize hG : (fun (A : Option Addr) (c : Nat) => (⟨x.d, A, c⟩ : Wm).ev) = G at *
  have hG' : ∀ A c, (⟨x.d, A, c⟩ : Wm).ev = G A c := fun A c => by rw [← hG]
  simp only [hG'] at BL EVS L_g
  clear hG hG'
  generalize x.d.stm = ST at *
  have S_e : EV.toArray.size = 69 := by rw [List.size_toArray, L_e]
  have S_s : ST.toArray.size = 68 := by rw [List.size_toArray, L_s]
  have B1 : Hid (Cb ((w.alloc (Obj.cells EV.toArray 37)).alloc (Obj.cells ST.toArray 67)) r 37 EV ∧ Cb ((w.alloc (Obj.cells EV.toArray 37)).alloc (Obj.cells ST.toArray 67)) (r + 1) 67 ST ∧ Ext w ((w.alloc (Obj.cells EV.toArray 37)).alloc (Obj.cells ST.toArray 67))) := by
    rw [hr]; exact ⟨heap_alloc1 _ _ _, heap_alloc2 _ _ _, ((Ext.refl w).alloc _).alloc _⟩
  go_enter Tryd.func61, Tryd.ntmps61
  go_upto_region 1 with fail
  refine wp_gen (fun W => Cb W r 37 EV ∧ Cb W (r + 1) 67 ST ∧ Ext w W) B1.out ?_
  rw [← hr]
  have wr : w.heap.size ≤ r := Nat.le_of_eq hr.symm
  clear B1
  replace hr := Lib.hid hr
  rintro w0 ⟨k0, k1, x0⟩
  replace k0 := Lib.hid k0
  replace k1 := Lib.hid k1
  have HE0 := Lib.hid (HE.out w0 x0)
  replace x0 := Lib.hid x0
  clear HE
  go_wp2_with (first | ((with_reducible refine wpList_load_rowW (o := ⟨some 8, _, _, _, _, _⟩) ?_ 37 _ rfl r ?_ 37 EV.toArray (0, 0) _ ?_ Tryd.underlying37 ?_ ?_ ?_); (· rfl); (· rfl); (· exact k0.out); (· rfl); (· rw [S_e]; rfl); go_frame))
  refine HE0.out.mono ?_
  rintro e w1 ⟨rfl, e1⟩
  have x1 : Hid (Ext w w1) := x0.out.trans e1
  have K0 : Hid (Cb w1 r 37 EV ∧ Cb w1 (r + 1) 67 ST) := ⟨k0.out.ext e1, k1.out.ext e1⟩
  clear k0 k1 x0 e1 HE0
  have kc := hcb.ext x1.out
  replace how := Lib.hid (how.ext x1.out)
  replace hbd : Hid (∀ y ∈ L, y.d.ok ∧ BsF 0 w1 y.A y.d.body.length y.c y.d.body) := fun y hy => ⟨(hbd y hy).1, (hbd y hy).2.ext x1.out⟩
  clear hcb
  cases hk : okM x.d with
  | false =>
    obtain ⟨p1, p2, p3, p4⟩ := P_bad.out hk
    clear P_bad P_full P_in BL EVS L_g V68 OKD LC OC K0 hb
    have FF := Lib.hid (FIN.out 1 0 L last w1 ⟨none, 0, p1.symm, p2.symm, (p3 _ _).symm, p4.symm⟩ ⟨A, n, c, kc, how.out, how1.out, hbd.out⟩ (TbP.of_ext x1.out))
    clear FIN p1 p2 p3 p4 kc how hbd x1 hk
    go_wp2_with fail
    go_ret2
    exact FF.out
  | true =>
    replace P_full := Lib.hid (P_full.out hk)
    replace P_in := Lib.hid (P_in.out hk)
    clear P_bad hk
    have c0 := kc.cell (j := 0) rfl
    by_cases hn : n = 8
    · subst hn
      obtain ⟨p1, p2, p3, p4⟩ := P_full.out hLn
      clear P_full P_in BL EVS L_g V68 OKD LC OC K0 hb
      have FF := Lib.hid (FIN.out 8 0 L last w1 ⟨none, 0, p1.symm, p2.symm, (p3 _ _).symm, p4.symm⟩ ⟨A, 8, c, kc, how.out, how1.out, hbd.out⟩ (TbP.of_ext x1.out))
      clear FIN p1 p2 p3 p4 kc how hbd x1
      go_wp2_with fail
      go_ret2
      exact FF.out
    · have n7 : n < 8 := by omega
      obtain ⟨p1, p2, p3, p4⟩ := P_in.out (by omega)
      replace FIN : Hid (∀ (A' : Option Addr) (c' : Nat) (W : World), MBP 96 101 P W g (L ++ [F A' c']) (last + 1) → TbP P tagR w W → _) := fun A' c' W k1 k2 => FIN.out 0 (last + 1) _ _ W ⟨A', c', p1.symm, p2.symm, (p3 A' c').symm, p4.symm⟩ k1 k2
      clear P_full P_in p1 p2 p3 p4 hn
      generalize x.d.body = body at *
      have c1 := kc.cell (j := 1) rfl
      have f1 := kc.frozen 1
      have bx : Hid (Bs (w1.setCell ⟨g, 1, none⟩ (.int .i64 (last + 1))) x.A body.length x.c body) := (hb.out.ext x1.out).setOff c1 (fun z q => by cases q)
      have KK : Hid (Cb (w1.setCell ⟨g, 1, none⟩ (.int .i64 (last + 1))) g 96 [.slice A n c, .int .i64 (last + 1)] ∧ Cb (w1.setCell ⟨g, 1, none⟩ (.int .i64 (last + 1))) r 37 EV ∧ Cb (w1.setCell ⟨g, 1, none⟩ (.int .i64 (last + 1))) (r + 1) 67 ST ∧ TbP P tagR w (w1.setCell ⟨g, 1, none⟩ (.int .i64 (last + 1))) ∧ OwnC 0 (w1.setCell ⟨g, 1, none⟩ (.int .i64 (last + 1))) 101 138 A n c (L.map Wm.C) ∧ (∀ y ∈ L, y.d.ok ∧ BsF 0 (w1.setCell ⟨g, 1, none⟩ (.int .i64 (last + 1))) y.A y.d.body.length y.c y.d.body)) := by
        have ot : ∀ (i : Nat) (cs : Array Value) (t : TypeId), w1.heap[i]? = some (Obj.cells cs t (0, 0)) → t ≠ 96 → (w1.setCell ⟨g, 1, none⟩ (.int .i64 (last + 1))).heap[i]? = some (Obj.cells cs t (0, 0)) := fun i cs t hi ht => (Below.heap_setCell _ _ _ _ (show i ≠ g from fun q => by
          subst q
          rw [kc] at hi
          injection hi with hi
          injection hi with _ hi
          exact ht hi.symm)).trans hi
        exact ⟨kc.setCell, ot _ _ _ K0.out.1 (by decide), ot _ _ _ K0.out.2 (by decide), (TbP.of_ext x1.out).trans (TbP.cell 1 _ kc hg rfl), how.out.keep fun i cs hi _ => ot i cs _ hi (by decide), fun y hy => ⟨(hbd.out y hy).1, (hbd.out y hy).2.keep fun i cs hi _ => ot i cs _ hi (by decide)⟩⟩
      have sw : w.heap.size ≤ (w1.setCell ⟨g, 1, none⟩ (.int .i64 (last + 1))).heap.size := KK.out.2.2.2.1.size
      clear kc how hbd K0
      go_upto_region 6 with fail
      refine wp_gen (fun W => Cb W g 96 [.slice A n c, .int .i64 (last + 1)] ∧ Cb W r 37 EV ∧ Cb W (r + 1) 67 ST ∧ TbP P tagR w W ∧ OwnC 0 W 101 138 A n c (L.map Wm.C) ∧ (∀ y ∈ L, y.d.ok ∧ BsF 0 W y.A y.d.body.length y.c y.d.body) ∧ Bs W x.A body.length x.c body) ⟨KK.out.1, KK.out.2.1, KK.out.2.2.1, KK.out.2.2.2.1, KK.out.2.2.2.2.1, KK.out.2.2.2.2.2, bx.out⟩ ?_
      clear KK c0 c1 f1 sw bx hb x1 w1
      rintro W ⟨k0, k1, k2, t0, how, hbd, bx⟩
      have b68 := k1.cell V68.out
      have sz : w.heap.size ≤ W.heap.size := t0.size
      replace k0 := Lib.hid k0
      replace k1 := Lib.hid k1
      replace k2 := Lib.hid k2
      replace t0 := Lib.hid t0
      replace how := Lib.hid how
      replace hbd := Lib.hid hbd
      have ex1 : Hid (Ext W (W.alloc (.cells #[] 5))) := (Ext.refl W).alloc _
      have bx1 : Hid (Bs (W.alloc (.cells #[] 5)) x.A body.length x.c body) := bx.ext ex1.out
      have b68' : (W.alloc (.cells #[] 5)).cell? ⟨r, 68, none⟩ = _ := (k1.out.ext ex1.out).cell V68.out
      clear bx b68
      go_upto_region 7 with (refine wpList_append_emptyF rfl rfl rfl rfl bx1.out (by omega) ?_; intro A2 c2 w2 b2 x2; have c68 := (k1.out.ext (ex1.out.trans x2)).cell V68.out; have f68 := (k1.out.ext (ex1.out.trans x2)).frozen 68; go_frame)
      have X2 : Hid (Ext W w2) := ex1.out.trans x2
      have BF : Hid (BsF 0 w2 A2 body.length c2 body) := b2.mono (Nat.zero_le _)
      clear x2 b2 c68 f68 b68' bx1 ex1
      have k1' := k1.out.ext X2.out
      have KK : Hid (Cb (w2.setCell ⟨r, 68, none⟩ (.slice A2 body.length c2)) g 96 [.slice A n c, .int .i64 (last + 1)] ∧ Cb (w2.setCell ⟨r, 68, none⟩ (.slice A2 body.length c2)) r 37 (G A2 c2) ∧ Cb (w2.setCell ⟨r, 68, none⟩ (.slice A2 body.length c2)) (r + 1) 67 ST ∧ TbP P tagR w (w2.setCell ⟨r, 68, none⟩ (.slice A2 body.length c2)) ∧ OwnC 0 (w2.setCell ⟨r, 68, none⟩ (.slice A2 body.length c2)) 101 138 A n c (L.map Wm.C) ∧ (∀ y ∈ L, y.d.ok ∧ BsF 0 (w2.setCell ⟨r, 68, none⟩ (.slice A2 body.length c2)) y.A y.d.body.length y.c y.d.body) ∧ BsF 0 (w2.setCell ⟨r, 68, none⟩ (.slice A2 body.length c2)) A2 body.length c2 body) := by
        have ot : ∀ (i : Nat) (cs : Array Value) (t : TypeId), w2.heap[i]? = some (Obj.cells cs t (0, 0)) → t ≠ 37 → (w2.setCell ⟨r, 68, none⟩ (.slice A2 body.length c2)).heap[i]? = some (Obj.cells cs t (0, 0)) := fun i cs t hi ht => (Below.heap_setCell _ _ _ _ (show i ≠ r from fun q => by
          subst q
          rw [k1'] at hi
          injection hi with hi
          injection hi with _ hi
          exact ht hi.symm)).trans hi
        refine ⟨ot _ _ _ (k0.out.ext X2.out) (by decide), ?_, ot _ _ _ (k2.out.ext X2.out) (by decide), ?_, (how.out.ext X2.out).keep fun i cs hi _ => ot i cs _ hi (by decide), fun y hy => ⟨(hbd.out y hy).1, ((hbd.out y hy).2.ext X2.out).keep fun i cs hi _ => ot i cs _ hi (by decide)⟩, BF.out.keep fun i cs hi _ => ot i cs _ hi (by decide)⟩
        · rw [← EVS.out]
          exact k1'.setCell
        · exact (t0.out.trans (TbP.of_ext X2.out)).setNew wr _
      clear k0 k1 k2 t0 how hbd X2 BF k1' EVS V68
      refine wp_gen (fun W => Cb W g 96 [.slice A n c, .int .i64 (last + 1)] ∧ Cb W r 37 (G A2 c2) ∧ Cb W (r + 1) 67 ST ∧ TbP P tagR w W ∧ OwnC 0 W 101 138 A n c (L.map Wm.C) ∧ (∀ y ∈ L, y.d.ok ∧ BsF 0 W y.A y.d.body.length y.c y.d.body) ∧ BsF 0 W A2 body.length c2 body) KK.out ?_
      clear KK sz
      generalize W.heap.size = z6
      clear w2 W
      rintro W ⟨k0, k1, k2, t0, how, hbd, bf⟩
      have L_E := L_g.out A2 c2
      have BLT := Lib.hid (BL.out A2 c2)
      have O_C := Lib.hid (OC.out A2 c2)
      have L_C := LC.out A2 c2
      have OK_C := Lib.hid (OKD.out A2 c2)
      have F_C := Lib.hid (FD.out A2 c2)
      have FF := Lib.hid (FIN.out A2 c2)
      clear L_g BL OC LC OKD FD FIN
      generalize G A2 c2 = EG at *
      generalize F A2 c2 = y at *
      obtain ⟨f1, f2, f3⟩ := F_C.out
      replace bf : BsF 0 W y.A y.d.body.length y.c y.d.body := by rw [f1, f2, f3]; exact bf
      clear F_C f1 f2 f3
      have S_E : EG.toArray.size = 69 := by rw [List.size_toArray, L_E]
      have sz : w.heap.size ≤ W.heap.size := t0.size
      have gW : g < W.heap.size := k0.lt
      have P7 : Hid (∀ s, Ext W s → s.cell? ⟨g, 0, none⟩ = some (.slice A n c) ∧ s.cell? ⟨g, 1, none⟩ = some (.int .i64 (last + 1))) := fun s q => ⟨(k0.ext (w' := s) q).cell rfl, (k0.ext (w' := s) q).cell rfl⟩
      have P7e : Hid (∀ s, Ext W s → Cb s g 96 [.slice A n c, .int .i64 (last + 1)] ∧ Cb s r 37 EG ∧ Cb s (r + 1) 67 ST) := fun s q => ⟨k0.ext (w' := s) q, k1.ext (w' := s) q, k2.ext (w' := s) q⟩
      have CSL : Hid (∀ s, Ext W s → Cs s 138 A n c (L.map Wm.C)) := fun s q => how.cs.ext (w' := s) q
      have BDS : Hid (∀ s, Ext W s → ∀ z ∈ L ++ [y], z.d.ok ∧ BsF 0 s z.A z.d.body.length z.c z.d.body) := fun s q z hz => by
        rcases List.mem_append.1 hz with h | h
        · exact ⟨(hbd z h).1, (hbd z h).2.ext (w' := s) q⟩
        · rw [List.mem_singleton.1 h]
          exact ⟨OK_C.out, bf.ext (w' := s) q⟩
      have TBS : Hid (∀ s, Ext W s → TbP P tagR w s) := fun s q => t0.trans (TbP.of_ext (b := s) q)
      have O_L : Hid (∀ x ∈ L.map Wm.C, ∀ u ∈ x, u.oneCell' = true) := fun x hx u hu => by obtain ⟨z, _, rfl⟩ := List.mem_map.1 hx; exact z.one u hu
      clear k0 k1 k2 t0 how hbd bf OK_C
      have SE : Hid (Ext W W.drew) := (Ext.refl W).drew
      refine wp_region_treeZ (R := Below W.heap.size) (Below.refl _) (fun _ _ _ => Below.trans) 18 (.rd 0 (.rd 2 (.rd 3 (.rd 4 (.rd 5 (.rd 7 (.rd 8 (.rd 9 (.rd 10 (.rd 11 (.rd 12 (.rd 13 (.alt 1 (.alt 6 (.alt 14 (.alt 15 (.rd 16 (.rd 17 (.alt 18 .nil .stop))) .stop) .stop) (.alt 14 (.alt 6 (.alt 15 (.rd 16 (.rd 17 (.alt 18 .nil .stop))) .stop) .stop) .stop)) (.alt 14 (.alt 1 (.alt 6 (.alt 15 (.rd 16 (.rd 17 (.alt 18 .nil .stop))) .stop) .stop) .stop) .stop)))))))))))))) [(0, 30, 2), (0, 31, 0), (0, 32, 2), (4, 33, 4294967296), (8, 34, 8589934592), (16, 35, 17179869184), (34, 36, 36507222016), (0, 37, 2), (128, 38, 137438953472), (256, 39, 274877906944), (512, 40, 549755813888), (0, 41, 32), (0, 42, 64), (7168, 43, 7696581394432), (8192, 44, 8796093022208), (16448, 45, 17660905521152), (65535, 46, 1073741824), (131071, 47, 70368744177664), (196607, 0, 175921860444160)] 19 (by kernel_rfl) (by kernel_rfl) (by kernel_rfl) rfl (by kernel_rfl) (by kernel_rfl) (by kernel_rfl) (fun _ _ d _ _ h => by cases d <;> exact h) ?_
      repeat (refine seqTZ_read (by decide) _ (fun w' e => P7.out w' (Ext.trans (Ext.refl _).drew e)) _ (v := ?_) rfl ?_ ?_ ?_; rotate_left; (· rfl); (· intro w' hF; go_simp; (try with_reducible rfl)); go_frame)
      refine seqTZ_read (by decide) (fun w' => w'.heap[r]? = some (.cells EG.toArray 37 (0, 0))) (fun w' e => (P7e.out w' (Ext.trans (Ext.refl _).drew e)).2.1) _ (v := .agg EG.toArray) rfl (by rfl) (fun w' hF => exec_load_row rfl rfl hF rfl rfl (by rw [S_E]; rfl)) ?_
      go_frame
      refine seqTZ_read (by decide) (fun w' => w'.heap[(r + 1)]? = some (.cells ST.toArray 67 (0, 0))) (fun w' e => (P7e.out w' (Ext.trans (Ext.refl _).drew e)).2.2) _ (v := .agg ST.toArray) rfl (by rfl) (fun w' hF => exec_load_row rfl rfl hF rfl rfl (by rw [S_s]; rfl)) ?_
      go_frame
      refine seqTZ_read (by decide) (fun _ => True) (fun _ _ => trivial) _ (v := .agg y.C.toArray) rfl (by rfl) (fun w' _ => exec_build_as rfl (by simp only [List.map_toArray, List.map_cons, List.map_nil]; exact BLT.out)) ?_
      go_frame
      generalize W.drew = WC at *
      have TM : Hid (∀ s A c, Ext W s → OwnC W.heap.size s 101 138 A (n + 1) c (L.map Wm.C ++ [y.C]) → MBP 96 101 P (s.setCell ⟨g, 0, none⟩ (.slice A (n + 1) c)) g (L ++ [y]) (last + 1) ∧ TbP P tagR w (s.setCell ⟨g, 0, none⟩ (.slice A (n + 1) c)) ∧ Cb (s.setCell ⟨g, 0, none⟩ (.slice A (n + 1) c)) g 96 [.slice A (n + 1) c, .int .i64 (last + 1)]) := fun s A c q o => by
        have m := MBP.put2 (S := tagR) (P := P) (P7e.out s q).1 (L' := L ++ [y]) (by rw [List.map_append]; exact o.mono (Nat.zero_le _)) (fun k hk => hP k (Nat.le_trans sz (o.ge k hk))) (BDS.out s q) hg rfl (by decide) (by decide)
        exact ⟨m.1, (TBS.out s q).trans m.2.1, m.2.2⟩
      repeat' (first
        | exact seqTZ_stop
        | (refine seqTZ_do (i := 1) _ rfl ?_ ?_ (fun K1 hK1 => ?_)
           (· rfl)
           rotate_left
           go_simp
           have e : Ext WC (WC.alloc (Obj.cells #[] 101)) := (Ext.refl WC).alloc _
           have hO : Hid (OwnC W.heap.size (WC.alloc (Obj.cells #[] 101)) 101 138 (some ⟨WC.heap.size, 0, none⟩) 0 0 []) := ⟨World.ownsRow_lit WC #[] 0 SE.out.size (Nat.zero_le _) rfl, fun x hx => (by cases hx), rfl⟩
           (try have hn := Lib.hid (lit_ne (n := 0) (c := 0) hS.out.lt))
           refine hK1.out _ _ (Or.inr (e.mono SE.out.size)) ?_
           clear hK1 K1
           (try replace hS := Lib.hid (hS.out.ext e))
           replace SE := Lib.hid (SE.out.trans e)
           clear e
           generalize WC.alloc (Obj.cells #[] 101) = WC at *
           (try go_frame)
           repeat (refine seqTZ_read (by decide) (fun _ => True) (fun _ _ => trivial) _ (v := ?_) rfl ?_ ?_ ?_; rotate_left; (· rfl); (· intro w' hF; go_simp; (try with_reducible rfl)); go_frame)
           skip)
        | (refine seqTZ_do (i := 14) _ rfl ?_ ?_ (fun K1 hK1 => ?_)
           (· rfl)
           rotate_left
           refine wp_slice_c (t := 45) (e := 101) (s := 138) Tryd.underlying45 infoR zM_cells (by omega) (by omega) (cs := y.C) L_C rfl rfl ?_
           have e : Ext WC (WC.alloc (Obj.cells y.C.toArray 101)) := (Ext.refl WC).alloc _
           have hS := Lib.hid (Cb.new WC 101 y.C)
           (try have hn := Lib.hid (OwnC.ne_size hO.out))
           refine hK1.out _ _ (Or.inr (e.mono SE.out.size)) ?_
           clear hK1 K1
           (try replace hO := Lib.hid (hO.out.ext e))
           replace SE := Lib.hid (SE.out.trans e)
           clear e
           generalize WC.alloc (Obj.cells y.C.toArray 101) = WC at *
           (try go_frame)
           repeat (refine seqTZ_read (by decide) (fun _ => True) (fun _ _ => trivial) _ (v := ?_) rfl ?_ ?_ ?_; rotate_left; (· rfl); (· intro w' hF; go_simp; (try with_reducible rfl)); go_frame)
           skip)
        | (refine seqTZ_do (i := 6) _ rfl ?_ ?_ (fun K1 hK1 => ?_)
           (· rfl)
           rotate_left
           refine wp_append_cc2 (t := 45) (e := 101) (s := 138) Tryd.underlying45 infoR zM_cells (by omega) bytesR rfl rfl rfl hO.out (CSL.out _ SE.out) O_L.out (by omega) SE.out.size ?_
           intro A6 c6 WC o6 g6 b6 h6
           (try have hn' := Lib.hid (own_stepC hn.out hS.out.lt h6))
           (try have hS' := Lib.hid (Cb.grown g6 hS.out (fun q => hn.out q.symm)))
           (try clear hn)
           (try clear hS)
           (try have hn := hn')
           (try have hS := hS')
           (try clear hn')
           (try clear hS')
           refine hK1.out _ _ (Or.inr b6) ?_
           have SE' : Hid (Ext W WC) := Below.trans SE.out b6
           clear hK1 K1 h6 g6 b6 SE hO
           have SE := SE'
           clear SE'
           simp only [Nat.zero_add, List.nil_append] at o6 ⊢
           (try simp only [Nat.zero_add] at hn)
           have hO := Lib.hid o6
           clear o6
           (try go_frame)
           repeat (refine seqTZ_read (by decide) (fun _ => True) (fun _ _ => trivial) _ (v := ?_) rfl ?_ ?_ ?_; rotate_left; (· rfl); (· intro w' hF; go_simp; (try with_reducible rfl)); go_frame)
           skip)
        | (refine seqTZ_do (i := 15) _ rfl ?_ ?_ (fun K1 hK1 => ?_)
           (· rfl)
           rotate_left
           have cs3 := cs_one hS.out
           rw [L_C] at cs3
           refine wp_append_cc2 (t := 45) (e := 101) (s := 138) Tryd.underlying45 infoR zM_cells (by omega) bytesR rfl rfl rfl hO.out cs3 (fun x hx u hu => by rw [List.mem_singleton.1 hx] at hu; exact O_C.out u hu) (by omega) SE.out.size ?_
           intro A7 c7 w7 o7 g7 b7 h7
           refine hK1.out _ _ (Or.inr b7) ?_
           have SE' : Hid (Ext W w7) := Below.trans SE.out b7
           have m7 := Lib.hid (TM.out w7 A7 c7 SE'.out o7)
           have kg := (P7e.out w7 SE'.out).1
           have c0_ := kg.cell (j := 0) rfl
           have f0_ := kg.frozen 0
           clear hK1 K1 h7 g7 b7 SE hO o7 cs3 hn hS kg SE'
           (try go_frame)
           repeat (refine seqTZ_read (by decide) (fun _ => True) (fun _ _ => trivial) _ (v := ?_) rfl ?_ ?_ ?_; rotate_left; (· rfl); (· intro w' hF; go_simp; (try with_reducible rfl)); go_frame)
           skip)
        | (refine seqTZ_do (i := 18) _ rfl ?_ ?_ (fun K1 hK1 => ?_)
           (· rfl)
           rotate_left
           go_simp
           refine hK1.out _ _ (Or.inl rfl) ?_
           clear hK1 K1
           (try go_frame)
           refine seqTZ_done ?_
           refine gen_q (fun X => MBP 96 101 P X g (L ++ [y]) (last + 1) ∧ TbP P tagR w X ∧ Cb X g 96 [.slice A7 (n + 1) c7, .int .i64 (last + 1)]) m7.out ?_
           clear m7 c0_ f0_
           rintro w8 ⟨m8, t8, k8⟩
           have c8 := k8.cell (j := 1) rfl
           have F8 := Lib.hid (FF.out w8 m8 t8)
           clear FF m8 t8 k8 TM P7 P7e CSL BDS TBS
           go_wp2_with fail
           go_ret2
           exact F8.out))

set_option maxHeartbeats 8000000 in
theorem rackP_calls {w : World} {P : Nat → Prop} {g : Nat} {L : List Wm} {last id : Int} (h : MBP 96 101 P w g L last) (hL : L.length ≤ 8) (hP : ∀ i, w.heap.size ≤ i → P i) (hg : P g) :
    Calls Tryd.prog 55 #[.pointer (some ⟨g, 0, none⟩), .int .i64 id] w fun e w' => e = .returned (.int .i64 (akE L last id)) ∧ MBP 96 101 P w' g (akL L last id) last ∧ TbP P tagR w w' := by
  have PUT : Hid (∀ w1 A n c (L' : List Wm), Ext w w1 → OwnC w.heap.size w1 101 138 A n c (L'.map Wm.C) → (∀ x ∈ L', x ∈ L) → MBP 96 101 P (w1.setCell ⟨g, 0, none⟩ (.slice A n c)) g L' last ∧ TbP P tagR w (w1.setCell ⟨g, 0, none⟩ (.slice A n c))) := fun w1 A n c L' e ho hs => h.put e ho hs hP hg rfl (by decide) (by decide)
  by_cases hin : id < 1 ∨ last < id
  · have E : akE L last id = 7 ∧ akL L last id = L := ⟨if_pos hin, if_pos hin⟩
    rw [E.1, E.2]
    have FIN : Hid (MBP 96 101 P w g L last ∧ TbP P tagR w w) := ⟨h, TbP.refl _ _ _⟩
    obtain ⟨A, n, c, hcb, how, _, hbd⟩ := h
    have c1 := hcb.cell (j := 1) rfl
    clear E hcb how hbd PUT
    by_cases h1 : id < 1
    · clear hin
      go_enter Tryd.func55, Tryd.ntmps55
      go_wp2_with fail
      go_ret
      exact ⟨rfl, FIN.out⟩
    · have h2 : last < id := hin.resolve_left h1
      clear hin
      go_enter Tryd.func55, Tryd.ntmps55
      go_wp2_with fail
      go_ret
      exact ⟨rfl, FIN.out⟩
  · have i1 : ¬ id < 1 := fun q => hin (.inl q)
    have i2 : ¬ last < id := fun q => hin (.inr q)
    have E : akE L last id = (if hasI id L then 0 else 5) ∧ akL L last id = dropI id L := ⟨if_neg hin, if_neg hin⟩
    rw [E.1, E.2]
    clear E hin
    obtain ⟨ee, hee⟩ : ∃ ee : Int, ee = (if hasI id L then 0 else 5) := ⟨_, rfl⟩
    rw [← hee]
    replace hee := Lib.hid (fun _ : Unit => hee)
    have FIN : Hid (∀ (er : Int) (LL : List Wm) (W : World), er = ee → LL = dropI id L → MBP 96 101 P W g LL last ∧ TbP P tagR w W → Ending.returned (.int .i64 er) = .returned (.int .i64 ee) ∧ MBP 96 101 P W g (dropI id L) last ∧ TbP P tagR w W) := by
      rintro er LL W rfl rfl q
      exact ⟨rfl, q.1, q.2⟩
    have SAME : Hid (MBP 96 101 P w g L last ∧ TbP P tagR w w) := ⟨h, TbP.refl _ _ _⟩
    obtain ⟨A, n, c, hcb, how, _, hbd⟩ := h
    have hLn := MB.len how
    have hcap := how.cap
    have n8 : c ≤ 9223372036854775807 := by have := hcap.2; unfold maxLen at this; omega
    have hcap1 := hcap.1
    have c0 := hcb.cell (j := 0) rfl
    have c1 := hcb.cell (j := 1) rfl
    have cs := Lib.hid how.cs
    have glt := hcb.lt
    replace hcb := Lib.hid hcb
    clear how hbd
    go_enter Tryd.func55, Tryd.ntmps55
    go_wp2_with fail
    go_loopw [5] (fun v wr => ∃ k : Nat, k ≤ n ∧ v = .int .i64 (k : Int) ∧ (∀ x ∈ L.take k, x.d.id ≠ id) ∧ wr = w) (fun v _ => n - (intOf v).toNat)
    case atStart => exact ⟨0, Nat.zero_le _, rfl, (fun x hx => by simp at hx), rfl⟩
    case round =>
      obtain ⟨k, hkn, rfl, hne, rfl⟩ := hrel
      by_cases hlt : k < n
      · obtain ⟨b, off, hA, hb, hc⟩ := cs.out.at hlt
        have e1 : (L.map Wm.C).getD k [] = (L[k]'(by omega)).C := by rw [List.getD_eq_getElem?_getD, List.getElem?_map, List.getElem?_eq_getElem (by omega)]; rfl
        rw [e1] at hc
        obtain ⟨y, hy⟩ : ∃ y, y = L[k]'(by omega) := ⟨_, rfl⟩
        have tk : L.take (k + 1) = L.take k ++ [y] := by rw [hy, List.take_succ_eq_append_getElem (by omega)]
        have dk : L = L.take k ++ y :: L.drop (k + 1) := by
          rw [hy, ← List.drop_eq_getElem_cons (by omega), List.take_append_drop]
        rw [← hy] at hc
        subst hA
        have ci : wr.cell? ⟨b, off + k * 138, none⟩ = some (.int .i64 y.d.id) := hc 0 _ y.c0
        clear hc hy e1
        obtain ⟨iy, hiy⟩ : ∃ iy, iy = y.d.id := ⟨_, rfl⟩
        rw [← hiy] at ci
        replace hiy := Lib.hid (fun _ : Unit => hiy)
        replace tk := Lib.hid (fun _ : Unit => tk)
        replace dk := Lib.hid (fun _ : Unit => dk)
        replace hne := Lib.hid hne
        by_cases hq : iy = id
        · have CUT := Lib.hid (fun s (q : Ext wr s) => ((cs.out.ext q).cut (k := k + 1) hlt))
          have TAK := Lib.hid (fun s (q : Ext wr s) => ((cs.out.ext q).take (k := k) (by omega)))
          have D0 := fun _ : Unit => dropI_at (P := L.take k) (x := y) (R := L.drop (k + 1)) hne.out ((hiy.out ()).symm.trans hq)
          have D1 : Hid (dropI id L = L.take k ++ L.drop (k + 1) ∧ hasI id L = true) := by
            unfold Hid
            rw [dk.out ()]
            have := D0 ()
            rw [← dk.out ()] at this ⊢
            exact this
          have ALL : Hid (∀ x ∈ L.take k ++ L.drop (k + 1), x ∈ L) := fun x hx => by
            rcases List.mem_append.1 hx with q | q
            · exact List.mem_of_mem_take q
            · exact List.mem_of_mem_drop q
          have OD : Hid (∀ x ∈ (L.map Wm.C).drop (k + 1), ∀ u ∈ x, u.oneCell' = true) := fun x hx u hu => by
            obtain ⟨z, _, rfl⟩ := List.mem_map.1 (List.mem_of_mem_drop hx)
            exact z.one u hu
          have OT : Hid (∀ x ∈ (L.map Wm.C).take k, ∀ u ∈ x, u.oneCell' = true) := fun x hx u hu => by
            obtain ⟨z, _, rfl⟩ := List.mem_map.1 (List.mem_of_mem_take hx)
            exact z.one u hu
          have ed : (L.map Wm.C).drop (k + 1) = (L.drop (k + 1)).map Wm.C := List.map_drop.symm
          have et : (L.map Wm.C).take k = (L.take k).map Wm.C := List.map_take.symm
          rw [ed] at CUT OD
          rw [et] at TAK OT
          replace FIN : Hid (∀ W, MBP 96 101 P W g (L.take k ++ L.drop (k + 1)) last ∧ TbP P tagR wr W → _) := fun W q => FIN.out 0 _ W (by rw [hee.out (), D1.out.2]; rfl) D1.out.1.symm q
          replace PUT : Hid (∀ w1 A n c, Ext wr w1 → OwnC wr.heap.size w1 101 138 A n c ((L.take k).map Wm.C ++ (L.drop (k + 1)).map Wm.C) → MBP 96 101 P (w1.setCell ⟨g, 0, none⟩ (.slice A n c)) g (L.take k ++ L.drop (k + 1)) last ∧ TbP P tagR wr (w1.setCell ⟨g, 0, none⟩ (.slice A n c))) := fun w1 A n c e o => PUT.out w1 A n c _ e (by rw [List.map_append]; exact o) ALL.out
          clear D0 D1 ALL hee dk tk hne ed et hiy SAME
          have hqt : (iy == id) = true := by simp [hq]
          have wk : IntKind.i64.wrap ((k : Int) + 1) = ((k + 1 : Nat) : Int) := (IntWalk.i64_in _ (by omega)).trans rfl
          have P7 : Hid (∀ s, Ext wr s → s.cell? ⟨g, 0, none⟩ = some (.slice (some ⟨b, off, none⟩) n c)) := fun s q => (hcb.out.ext q).cell rfl
          have P7e : Hid (∀ s, Ext wr s → Cb s g 96 [.slice (some ⟨b, off, none⟩) n c, .int .i64 last]) := fun s q => hcb.out.ext q
          go_upto_region 7 with fail
          clear ci c0 c1
          refine qgZB wr.heap.size 19 [0, 2, 3, 4, 5, 6, 7, 9, 10, 11, 12, 13, 14, 15, 1, 8, 16, 17, 18, 19] [1, 8, 16, 19] ?_
          repeat (refine qzR _ (fun w' e => P7.out w' (Ext.trans (Ext.refl _).drew e)) ?_; go_frame)
          refine qzV rfl (fun _ => True) (fun _ _ => trivial) (.slice (some ⟨b, off, none⟩) k c) (fun w' _ => exec_toC (s := 138) Tryd.underlying45 (by kernel_rfl) (A := some ⟨b, off, none⟩) (n := n) (c := c) (k := k) rfl rfl rfl (by omega)) ?_
          go_frame
          repeat (refine qzR _ (fun w' e => P7.out w' (Ext.trans (Ext.refl _).drew e)) ?_; go_frame)
          refine qzV rfl (fun _ => True) (fun _ _ => trivial) (.slice (if c = k + 1 then some ⟨b, off, none⟩ else (some ⟨b, off, none⟩ : Option Addr).map (·.add ((k + 1) * 138))) (n - (k + 1)) (c - (k + 1))) (fun w' _ => exec_fromC (s := 138) Tryd.underlying45 (by kernel_rfl) (k := k + 1) rfl rfl (congrArg (Value.int .i64) (rfl : (k : Int) + 1 = ((k + 1 : Nat) : Int))) hlt hcap1) ?_
          go_frame
          have SE : Hid (Ext wr wr.drew) := (Ext.refl wr).drew
          obtain ⟨AC, hac⟩ : ∃ AC, AC = (if c = k + 1 then some ⟨b, off, none⟩ else (some ⟨b, off, none⟩ : Option Addr).map (·.add ((k + 1) * 138))) := ⟨_, rfl⟩
          rw [← hac] at CUT ⊢
          clear hac
          generalize wr.drew = WC at *
          refine qzD fun K hK => ?_
          go_simp
          have o1 : Hid (OwnC wr.heap.size (WC.alloc (Obj.cells #[] 101)) 101 138 (some ⟨WC.heap.size, 0, none⟩) 0 0 []) := ⟨World.ownsRow_lit WC #[] 0 SE.out.size (Nat.zero_le _) rfl, fun x hx => (by cases hx), rfl⟩
          have e1 : Ext WC (WC.alloc (Obj.cells #[] 101)) := (Ext.refl WC).alloc _
          have S1 : Hid (Ext wr (WC.alloc (Obj.cells #[] 101))) := SE.out.trans e1
          refine hK.out _ _ (Or.inr (e1.mono SE.out.size)) ?_
          clear hK K
          try go_frame
          clear e1 SE
          generalize WC.alloc (Obj.cells #[] 101) = W1 at *
          generalize WC.heap.size = s1 at *
          clear WC
          refine qzD fun K hK => ?_
          refine wp_append_cc (t := 45) (e := 101) (s := 138) Tryd.underlying45 infoR zM_cells (by omega) bytesR rfl rfl rfl o1.out (TAK.out _ S1.out) OT.out (by omega) S1.out.size ?_
          intro A2 c2 w2 o2 g2 b2
          simp only [Nat.zero_add, List.nil_append] at o2 ⊢
          refine hK.out _ _ (Or.inr b2) ?_
          clear hK K
          try go_frame
          have S2 : Hid (Ext wr w2) := Below.trans S1.out b2
          clear o1 S1 g2 b2 TAK
          refine qzD fun K hK => ?_
          refine wp_append_cc (t := 45) (e := 101) (s := 138) Tryd.underlying45 infoR zM_cells (by omega) bytesR rfl rfl rfl o2 (CUT.out _ S2.out) OD.out (by omega) S2.out.size ?_
          intro A3 c3 w3 o3 g3 b3
          refine hK.out _ _ (Or.inr b3) ?_
          clear hK K
          try go_frame
          have S3 : Hid (Ext wr w3) := Below.trans S2.out b3
          have P4 := Lib.hid (FIN.out _ (PUT.out w3 A3 _ c3 S3.out o3))
          have kg := P7e.out w3 S3.out
          have c0_ := kg.cell (j := 0) rfl
          have f0_ := kg.frozen 0
          clear o2 o3 g3 b3 S2 S3 CUT PUT FIN P7 P7e kg cs hcb OT OD
          repeat (refine qzR0 ?_; go_frame)
          refine qzD fun K hK => ?_
          go_simp
          refine hK.out _ _ (Or.inl rfl) ?_
          clear hK K
          try go_frame
          refine seqZ_done ?_
          clear c0_ f0_
          go_wp2_with fail
          go_ret
          exact P4.out
        · have hqf : (iy == id) = false := by simp [hq]
          have NE : Hid (∀ x ∈ L.take (k + 1), x.d.id ≠ id) := fun x hx => by
            rw [tk.out ()] at hx
            rcases List.mem_append.1 hx with q | q
            · exact hne.out x q
            · rw [List.mem_singleton.1 q, ← hiy.out ()]; exact hq
          clear PUT FIN hee SAME cs hcb dk tk hne hiy hq
          go_wp2_with fail
          go_round
          case rel => exact ⟨k + 1, by omega, by go_num, NE.out, trivial⟩
          case measure => simp [intOf]; omega
      · obtain rfl : k = n := by omega
        have D1 := dropI_none (L := L) (id := id) (fun x hx => hne x (by rw [← hLn, List.take_length]; exact hx))
        have P4 := Lib.hid (FIN.out 5 _ _ (by rw [hee.out (), D1.2]; rfl) D1.1.symm SAME.out)
        clear PUT FIN D1 hne hee SAME cs hcb
        go_wp2_with fail
        go_ret
        exact P4.out
end Go.Proofs.YtbnjmmefnjoofaaDoor
