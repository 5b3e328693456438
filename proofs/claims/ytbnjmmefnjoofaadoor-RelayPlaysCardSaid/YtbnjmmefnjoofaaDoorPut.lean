import Derived.Test.YtbnjmmefnjoofaaDoorPkO
import Derived.Test.YtbnjmmefnjoofaaDoorSeqZ
import Derived.Test.YtbnjmmefnjoofaaDoorMix
/-
  mailbox.Put.
-/
namespace Go.Proofs.YtbnjmmefnjoofaaDoor
open Go.ChangeShapes Go.WideShapes Go.ChangeAt Go.RowKit Go.Deep
set_option maxRecDepth 100000

def okM (d : Ml) : Bool := okE d.f d.t d.p d.n d.body.length
/-- The error's number, the number, those that are kept, the last number. -/
def pbE (d : Ml) (k : Nat) : Int := if okM d then (if k < 8 then 0 else 8) else 1
def pbI (d : Ml) (k : Nat) (last : Int) : Int := if pbE d k = 0 then last + 1 else 0
def pbM (d : Ml) (k : Nat) (last : Int) : Int := if pbE d k = 0 then last + 1 else last
def Ml.as (d : Ml) (i : Int) : Ml := { d with id := i }
def pbL (d : Ml) (A : Option Addr) (c : Nat) (L : List Wm) (last : Int) : List Wm := if pbE d L.length = 0 then L ++ [⟨d.as (last + 1), A, c⟩] else L
def tagP (t : TypeId) : Bool := t == 126 || t == 73
theorem infoM : (Tryd.prog.info? 73).map (fun i => (i.zero, i.size, i.bytes)) = some (some (.agg zM.toArray), 138, (Tryd.prog.info? 73).elim 0 (·.bytes)) := by kernel_rfl
theorem bytesM : (Tryd.prog.info? 73).elim 0 (·.bytes) ≤ 1000000 := by decide +kernel
theorem zM_cells : (Value.agg zM.toArray).cells.size = 138 := by rw [cells_agg, List.size_toArray, zM_len]
theorem fill_mail {pl : Nat → Option (Nat × Nat)} (h0 : pl 0 = some (0, 1)) (h1 : pl 1 = some (1, 69)) (h2 : pl 2 = some (70, 68)) {id : Int} {E S : List Value} (hE : E.length = 69) (hS : S.length = 68) :
    Instr.fill pl zM.toArray [(0, .int .i64 id), (1, .agg E.toArray), (2, .agg S.toArray)] = some ([Value.int .i64 id] ++ (E ++ S)).toArray := by
  have l1 : zWm.ev.length = 69 := Wm.ev_len ⟨⟨rfl, rfl⟩, ⟨rfl, rfl⟩, Nat.zero_le _⟩
  have l2 : zWm.d.stm.length = 68 := Ml.stm_len ⟨⟨rfl, rfl⟩, ⟨rfl, rfl⟩, Nat.zero_le _⟩
  have s0 : splice zM 0 [Value.int .i64 id] = [Value.int .i64 id] ++ (zWm.ev ++ zWm.d.stm) := rfl
  have s1 : splice ([Value.int .i64 id] ++ (zWm.ev ++ zWm.d.stm)) 1 E = ([Value.int .i64 id] ++ E) ++ (zWm.d.stm ++ []) := by
    refine (splice_mid (off := 1) (p := [Value.int .i64 id]) rfl (l1.trans hE.symm)).trans ?_
    simp
  have s2 : splice (([Value.int .i64 id] ++ E) ++ (zWm.d.stm ++ [])) 70 S = [Value.int .i64 id] ++ (E ++ S) := by
    refine (splice_mid (by simp [hE]) (l2.trans hS.symm)).trans ?_
    simp
  rw [fill_step h0 rfl (by rw [zM_len]; omega), show (Value.int .i64 id).cells.toList = [Value.int .i64 id] from rfl, s0]
  rw [fill_step h1 (by rw [cells_agg, List.size_toArray, hE]) (by simp [l1, l2]), cells_agg, List.toList_toArray, s1]
  rw [fill_step h2 (by rw [cells_agg, List.size_toArray, hS]) (by simp [hE, l2]), cells_agg, List.toList_toArray, s2]
  rfl
theorem mail_built {id : Int} {E S : List Value} (hE : E.length = 69) (hS : S.length = 68) : Tryd.prog.built 73 [(0, .int .i64 id), (1, .agg E.toArray), (2, .agg S.toArray)] = some ([Value.int .i64 id] ++ (E ++ S)).toArray := by
  have h : ∃ pl : Nat → Option (Nat × Nat), (pl 0 = some (0, 1) ∧ pl 1 = some (1, 69) ∧ pl 2 = some (70, 68)) ∧ ∀ ps, Tryd.prog.built 73 ps = Instr.fill pl zM.toArray ps := ⟨(#[(0, 1), (1, 69), (70, 68)][·]?), ⟨rfl, rfl, rfl⟩, fun ps => by kernel_rfl⟩
  obtain ⟨pl, ⟨h0, h1, h2⟩, hp⟩ := h
  rw [hp]
  exact fill_mail h0 h1 h2 hE hS
theorem grown_ofE {w w' : World} {r : Option Nat} (h : Ext w w') : w.grownBy w' r := ⟨h.os, h.tape, h.output, h.size, fun i hi _ => h.block i hi⟩
theorem run_built {o : Oper} {a : Act} {w : World} {t : TypeId} {parts : Array (Nat × Operand)} {cells : Array Value} (ho : o.op = .build t parts) (h : Tryd.prog.built t (parts.map fun (i, x) => (i, a.eval x)).toList = some cells) : (execOp a.eval o).run Tryd.prog w = .ok (.value (.agg cells)) w := exec_build_as ho h
theorem OwnC.ne' {B : Nat} {w : World} {e t : TypeId} {s i : Nat} {A : Option Addr} {n c : Nat} {L : List (List Value)} {K : Array Value} (h : OwnC B w e s A n c L) (k : w.heap[i]? = some (.cells K t (0, 0))) (ht : t ≠ e) : some i ≠ Value.ownBlock (.slice A n c) := fun q => by
  have := (h.tag (S := fun x => x == e) (by simp) i q.symm).2 _ k
  simp [tagIn] at this
  exact ht this
theorem OwnC.ne {B : Nat} {w : World} {e t : TypeId} {s i : Nat} {A : Option Addr} {n c : Nat} {L : List (List Value)} {K : List Value} (h : OwnC B w e s A n c L) (k : Cb w i t K) (ht : t ≠ e) : some i ≠ Value.ownBlock (.slice A n c) := fun q => by
  have := (h.tag (S := fun x => x == e) (by simp) i q.symm).2 _ k
  simp [tagIn] at this
  exact ht this
theorem Bs.setOff {w : World} {A : Option Addr} {n c : Nat} {xs : List UInt8} {p : Addr} {v u : Value} (h : Bs w A n c xs) (hp : w.cell? p = some v) (hv : ∀ z, v ≠ .int .u8 z) : Bs (w.setCell p u) A n c xs := ⟨h.1, h.2.1, h.2.2.1, fun h0 => by
  obtain ⟨b, off, rfl, hb, hc⟩ := h.2.2.2 h0
  refine ⟨b, off, rfl, by simpa [World.setCell] using hb, fun j hj => ?_⟩
  rw [World.cell?_setCell_other _ _ _ _ (fun q => by
    subst q
    have := hc j hj
    rw [hp] at this
    exact hv _ (Option.some.inj this))]
  exact hc j hj⟩
theorem Cb.grown {a b : World} {g : Nat} {t : TypeId} {K : List Value} {row : Option Nat} (h : a.grownBy b row) (k : Cb a g t K) (hne : some g ≠ row) : Cb b g t K := (h.block g (heap_lt k) hne).trans k
theorem BsF.grown {B : Nat} {a b : World} {A : Option Addr} {n c : Nat} {xs : List UInt8} {row : Option Nat} (k : BsF B a A n c xs) (h : a.grownBy b row) (hne : ∀ i cs, a.heap[i]? = some (.cells cs 5 (0, 0)) → B ≤ i → some i ≠ row) : BsF B b A n c xs := k.keep fun i cs hi hb => (h.block i (heap_lt hi) (hne i cs hi hb)).trans hi
set_option maxHeartbeats 8000000 in
theorem put_calls {w : World} {B0 B g : Nat} {L : List Wm} {last : Int} {x : Wm} (h : MB 126 73 B w g L last) (hx : x.d.ok) (hb : Bs w x.A x.d.body.length x.c x.d.body) (hl : 0 ≤ last) (hl2 : last < 1000000) (hL : L.length ≤ 8) (hB : B ≤ w.heap.size) (h0 : B0 ≤ B) (hg : B0 ≤ g) :
    Calls Tryd.prog 47 #[.pointer (some ⟨g, 0, none⟩), .agg x.ev.toArray, .agg x.d.stm.toArray] w fun e w' => e = .returned (.tuple #[.int .i64 (pbI x.d L.length last), .int .i64 (pbE x.d L.length)]) ∧ (∃ A' c', MB 126 73 B w' g (pbL x.d A' c' L last) (pbM x.d L.length last)) ∧ Tb B0 tagP w w' := by
  have HE : Hid (∀ W, Ext w W → Calls Tryd.prog 42 #[.agg x.ev.toArray] W fun e w' => ∃ A n c, e = .returned (.tuple #[.slice A n c, .int .i64 (if okM x.d then 0 else 1)]) ∧ Ext W w') := fun W e => (henv_calls hx.1.1 hx.1.2 (hb.ext e)).mono fun _ _ ⟨A, n, c, q1, _, q3⟩ => ⟨A, n, c, q1, q3⟩
  have CP : Hid (∀ W, Bs W x.A x.d.body.length x.c x.d.body → Calls Tryd.prog 62 #[.agg (⟨x.d.as (last + 1), x.A, x.c⟩ : Wm).C.toArray] W fun e w' => ∃ A c, e = .returned (.agg (⟨x.d.as (last + 1), A, c⟩ : Wm).C.toArray) ∧ BsF W.heap.size w' A x.d.body.length c x.d.body ∧ Ext W w') := fun W e => copied_calls (x := ⟨x.d.as (last + 1), x.A, x.c⟩) hx e
  have BL : Hid (Tryd.prog.built 73 [(0, .int .i64 (last + 1)), (1, .agg x.ev.toArray), (2, .agg x.d.stm.toArray)] = some (⟨x.d.as (last + 1), x.A, x.c⟩ : Wm).C.toArray) := mail_built (x.ev_len hx) (x.d.stm_len hx)
  have L_e := x.ev_len hx
  have L_s := x.d.stm_len hx
  have OKX : Hid ((x.d.as (last + 1)).ok) := hx
  have LC : Hid (∀ A c, (⟨x.d.as (last + 1), A, c⟩ : Wm).C.length = 138) := fun A c => Wm.C_len (x := ⟨x.d.as (last + 1), A, c⟩) hx
  have OC : Hid (∀ A c, ∀ v ∈ (⟨x.d.as (last + 1), A, c⟩ : Wm).C, v.oneCell' = true) := fun A c => Wm.one _
  have FIN : Hid (∀ (er i : Int) (LL : List Wm) (m : Int) (W : World), (∃ A' c', er = pbE x.d L.length ∧ i = pbI x.d L.length last ∧ LL = pbL x.d A' c' L last ∧ m = pbM x.d L.length last) → MB 126 73 B W g LL m → Tb B0 tagP w W → Ending.returned (.tuple #[.int .i64 i, .int .i64 er]) = .returned (.tuple #[.int .i64 (pbI x.d L.length last), .int .i64 (pbE x.d L.length)]) ∧ (∃ A' c', MB 126 73 B W g (pbL x.d A' c' L last) (pbM x.d L.length last)) ∧ Tb B0 tagP w W) := by
    rintro er i LL m W ⟨A', c', rfl, rfl, rfl, rfl⟩ k1 k2
    exact ⟨rfl, ⟨A', c', k1⟩, k2⟩
  have P_bad : Hid (okM x.d = false → pbE x.d L.length = 1 ∧ pbI x.d L.length last = 0 ∧ (∀ A c, pbL x.d A c L last = L) ∧ pbM x.d L.length last = last) := fun q => by
    have e : pbE x.d L.length = 1 := by unfold pbE; rw [q]; rfl
    refine ⟨e, ?_, fun A c => ?_, ?_⟩
    · unfold pbI; rw [e, if_neg (by decide)]
    · unfold pbL; rw [e, if_neg (by decide)]
    · unfold pbM; rw [e, if_neg (by decide)]
  have P_full : Hid (okM x.d = true → L.length = 8 → pbE x.d L.length = 8 ∧ pbI x.d L.length last = 0 ∧ (∀ A c, pbL x.d A c L last = L) ∧ pbM x.d L.length last = last) := fun q q2 => by
    have e : pbE x.d L.length = 8 := by unfold pbE; rw [q, q2]; rfl
    refine ⟨e, ?_, fun A c => ?_, ?_⟩
    · unfold pbI; rw [e, if_neg (by decide)]
    · unfold pbL; rw [e, if_neg (by decide)]
    · unfold pbM; rw [e, if_neg (by decide)]
  have P_in : Hid (okM x.d = true → L.length < 8 → pbE x.d L.length = 0 ∧ pbI x.d L.length last = last + 1 ∧ (∀ A c, pbL x.d A c L last = L ++ [⟨x.d.as (last + 1), A, c⟩]) ∧ pbM x.d L.length last = last + 1) := fun q q2 => by
    have e : pbE x.d L.length = 0 := by unfold pbE; rw [q, if_pos rfl, if_pos q2]
    refine ⟨e, ?_, fun A c => ?_, ?_⟩
    · unfold pbI; rw [e, if_pos rfl]
    · unfold pbL; rw [e, if_pos rfl]
    · unfold pbM; rw [e, if_pos rfl]
  replace hb := Lib.hid hb
  clear hx
  obtain ⟨A, n, c, hcb, how, hbd⟩ := h
  have hLn := MB.len how
  have hcap := how.cap
  have glt := hcb.lt
  obtain ⟨n8, n8b⟩ : n ≤ 8 ∧ c ≤ 9223372036854775807 := ⟨by omega, by have := hcap.2; unfold maxLen at this; omega⟩
  obtain ⟨r, hr⟩ : ∃ r, r = w.heap.size := ⟨_, rfl⟩
  generalize hF : (fun (A : Option Addr) (c : Nat) => (⟨x.d.as (last + 1), A, c⟩ : Wm)) = F at *
  have hF' : ∀ A c, (⟨x.d.as (last + 1), A, c⟩ : Wm) = F A c := fun A c => by rw [← hF]
  have FD : Hid (∀ A c, (F A c).d.body = x.d.body ∧ (F A c).A = A ∧ (F A c).c = c) := fun A c => by rw [← hF' A c]; exact ⟨rfl, rfl, rfl⟩
  have OKD : Hid (∀ A c, (F A c).d.ok) := fun A c => by rw [← hF' A c]; exact OKX.out
  simp only [hF'] at CP BL LC OC P_in
  clear hF hF'
  generalize x.ev = EV at *
  generalize x.d.stm = ST at *
  have S_e : EV.toArray.size = 69 := by rw [List.size_toArray, L_e]
  have S_s : ST.toArray.size = 68 := by rw [List.size_toArray, L_s]
  have B1 : Hid (Cb ((w.alloc (Obj.cells EV.toArray 37)).alloc (Obj.cells ST.toArray 67)) r 37 EV ∧ Cb ((w.alloc (Obj.cells EV.toArray 37)).alloc (Obj.cells ST.toArray 67)) (r + 1) 67 ST ∧ Ext w ((w.alloc (Obj.cells EV.toArray 37)).alloc (Obj.cells ST.toArray 67))) := by
    rw [hr]; exact ⟨heap_alloc1 _ _ _, heap_alloc2 _ _ _, ((Ext.refl w).alloc _).alloc _⟩
  go_enter Tryd.func47, Tryd.ntmps47
  go_upto_region 1 with fail
  refine wp_gen (fun W => Cb W r 37 EV ∧ Cb W (r + 1) 67 ST ∧ Ext w W) B1.out ?_
  rw [← hr]
  have wr : w.heap.size ≤ r := Nat.le_of_eq hr.symm
  clear B1
  replace hr := Lib.hid hr
  rintro w0 ⟨k0, k1, x0⟩
  replace k0 := Lib.hid k0
  replace k1 := Lib.hid k1
  have HE0 := Lib.hid (HE.out w0 x0)
  replace x0 := Lib.hid x0
  clear HE
  go_wp2_with (first | ((with_reducible refine wpList_load_rowW (o := ⟨some 11, _, _, _, _, _⟩) ?_ 37 _ rfl r ?_ 37 EV.toArray (0, 0) _ ?_ Tryd.underlying37 ?_ ?_ ?_); (· rfl); (· rfl); (· exact k0.out); (· rfl); (· rw [S_e]; rfl); go_frame))
  refine HE0.out.mono ?_
  rintro e w1 ⟨Ah, nh, ch, rfl, e1⟩
  have x1 : Hid (Ext w w1) := x0.out.trans e1
  have K0 : Hid (Cb w1 r 37 EV ∧ Cb w1 (r + 1) 67 ST) := ⟨k0.out.ext e1, k1.out.ext e1⟩
  clear k0 k1 x0 e1 HE0
  have kc := hcb.ext x1.out
  replace how := Lib.hid (how.ext x1.out)
  replace hbd : Hid (∀ y ∈ L, y.d.ok ∧ BsF B w1 y.A y.d.body.length y.c y.d.body) := fun y hy => ⟨(hbd y hy).1, (hbd y hy).2.ext x1.out⟩
  clear hcb
  cases hk : okM x.d with
  | false =>
    obtain ⟨p1, p2, p3, p4⟩ := P_bad.out hk
    clear P_bad P_full P_in CP BL OKD LC OC K0 hb
    have FF := Lib.hid (FIN.out 1 0 L last w1 ⟨none, 0, p1.symm, p2.symm, (p3 _ _).symm, p4.symm⟩ ⟨A, n, c, kc, how.out, hbd.out⟩ (Tb.of_ext x1.out))
    clear FIN p1 p2 p3 p4 kc how hbd x1 hk
    go_wp2_with fail
    go_ret2
    exact FF.out
  | true =>
    replace P_full := Lib.hid (P_full.out hk)
    replace P_in := Lib.hid (P_in.out hk)
    clear P_bad hk
    have c0 := kc.cell (j := 0) rfl
    by_cases hn : n = 8
    · subst hn
      obtain ⟨p1, p2, p3, p4⟩ := P_full.out hLn
      clear P_full P_in CP BL OKD LC OC K0 hb
      have FF := Lib.hid (FIN.out 8 0 L last w1 ⟨none, 0, p1.symm, p2.symm, (p3 _ _).symm, p4.symm⟩ ⟨A, 8, c, kc, how.out, hbd.out⟩ (Tb.of_ext x1.out))
      clear FIN p1 p2 p3 p4 kc how hbd x1
      go_wp2_with fail
      go_ret2
      exact FF.out
    · have n7 : n < 8 := by omega
      obtain ⟨p1, p2, p3, p4⟩ := P_in.out (by omega)
      replace FIN : Hid (∀ (A' : Option Addr) (c' : Nat) (W : World), MB 126 73 B W g (L ++ [F A' c']) (last + 1) → Tb B0 tagP w W → _) := fun A' c' W k1 k2 => FIN.out 0 (last + 1) _ _ W ⟨A', c', p1.symm, p2.symm, (p3 A' c').symm, p4.symm⟩ k1 k2
      clear P_full P_in p1 p2 p3 p4 hn
      generalize x.d.body = body at *
      have c1 := kc.cell (j := 1) rfl
      have f1 := kc.frozen 1
      have bx : Hid (Bs (w1.setCell ⟨g, 1, none⟩ (.int .i64 (last + 1))) x.A body.length x.c body) := (hb.out.ext x1.out).setOff c1 (fun z q => by cases q)
      have KK : Hid (Cb (w1.setCell ⟨g, 1, none⟩ (.int .i64 (last + 1))) g 126 [.slice A n c, .int .i64 (last + 1)] ∧ Cb (w1.setCell ⟨g, 1, none⟩ (.int .i64 (last + 1))) r 37 EV ∧ Cb (w1.setCell ⟨g, 1, none⟩ (.int .i64 (last + 1))) (r + 1) 67 ST ∧ Tb B0 tagP w (w1.setCell ⟨g, 1, none⟩ (.int .i64 (last + 1))) ∧ OwnC B (w1.setCell ⟨g, 1, none⟩ (.int .i64 (last + 1))) 73 138 A n c (L.map Wm.C) ∧ (∀ y ∈ L, y.d.ok ∧ BsF B (w1.setCell ⟨g, 1, none⟩ (.int .i64 (last + 1))) y.A y.d.body.length y.c y.d.body)) := by
        have ot : ∀ (i : Nat) (cs : Array Value) (t : TypeId), w1.heap[i]? = some (Obj.cells cs t (0, 0)) → t ≠ 126 → (w1.setCell ⟨g, 1, none⟩ (.int .i64 (last + 1))).heap[i]? = some (Obj.cells cs t (0, 0)) := fun i cs t hi ht => (Below.heap_setCell _ _ _ _ (show i ≠ g from fun q => by
          subst q
          rw [kc] at hi
          injection hi with hi
          injection hi with _ hi
          exact ht hi.symm)).trans hi
        exact ⟨kc.setCell, ot _ _ _ K0.out.1 (by decide), ot _ _ _ K0.out.2 (by decide), (Tb.of_ext x1.out).trans (Tb.cell 1 _ kc hg rfl), how.out.keep fun i cs hi _ => ot i cs _ hi (by decide), fun y hy => ⟨(hbd.out y hy).1, (hbd.out y hy).2.keep fun i cs hi _ => ot i cs _ hi (by decide)⟩⟩
      have sw : w.heap.size ≤ (w1.setCell ⟨g, 1, none⟩ (.int .i64 (last + 1))).heap.size := KK.out.2.2.2.1.size
      clear kc how hbd K0
      go_upto_region 7 with fail
      refine wp_gen (fun W => Cb W g 126 [.slice A n c, .int .i64 (last + 1)] ∧ Cb W r 37 EV ∧ Cb W (r + 1) 67 ST ∧ Tb B0 tagP w W ∧ OwnC B W 73 138 A n c (L.map Wm.C) ∧ (∀ y ∈ L, y.d.ok ∧ BsF B W y.A y.d.body.length y.c y.d.body) ∧ Bs W x.A body.length x.c body) ⟨KK.out.1, KK.out.2.1, KK.out.2.2.1, KK.out.2.2.2.1, KK.out.2.2.2.2.1, KK.out.2.2.2.2.2, bx.out⟩ ?_
      clear KK c0 c1 f1 sw bx hb x1 w1
      rintro W ⟨k0, k1, k2, t0, how, hbd, bx⟩
      have P7 : Hid (∀ s, W.drew.grownBy s (Value.ownBlock (.slice A n c)) → s.cell? ⟨g, 0, none⟩ = some (.slice A n c) ∧ s.cell? ⟨g, 1, none⟩ = some (.int .i64 (last + 1))) := fun s q =>
        ⟨(Cb.grown q k0 (how.ne k0 (by decide))).cell rfl, (Cb.grown q k0 (how.ne k0 (by decide))).cell rfl⟩
      have P7e : Hid (∀ s, W.drew.grownBy s (Value.ownBlock (.slice A n c)) → Cb s g 126 [.slice A n c, .int .i64 (last + 1)] ∧ Cb s r 37 EV ∧ Cb s (r + 1) 67 ST) := fun s q =>
        ⟨Cb.grown q k0 (how.ne k0 (by decide)), Cb.grown q k1 (how.ne k1 (by decide)), Cb.grown q k2 (how.ne k2 (by decide))⟩
      have CP7 := Lib.hid (CP.out W.drew bx)
      have sz : w.heap.size ≤ W.heap.size := t0.size
      clear CP bx k0 k1 k2
      replace t0 := Lib.hid t0.drew
      replace how : Hid (OwnC B W.drew 73 138 A n c (L.map Wm.C)) := how
      replace hbd : Hid (∀ y ∈ L, y.d.ok ∧ BsF B W.drew y.A y.d.body.length y.c y.d.body) := hbd
      replace sz : w.heap.size ≤ W.drew.heap.size := sz
      refine qgZ (R := fun a b => a.grownBy b (Value.ownBlock (.slice A n c))) (fun w => World.grownBy.refl w _) (fun _ _ _ => gr_trans) 17 [0, 1, 2, 3, 4, 5, 6, 7, 8, 9, 10, 11, 12, 13, 14, 15, 16, 17] [12, 13, 14, 17] ?_
      repeat (refine qzR _ (fun w' e => P7.out w' e) ?_; go_frame)
      refine qzV rfl (fun w' => w'.heap[r]? = some (.cells EV.toArray 37 (0, 0))) (fun w' e => (P7e.out w' e).2.1) (.agg EV.toArray) (fun w' hF => exec_load_row rfl rfl hF rfl rfl (by rw [S_e]; rfl)) ?_
      go_frame
      refine qzV rfl (fun w' => w'.heap[(r + 1)]? = some (.cells ST.toArray 67 (0, 0))) (fun w' e => (P7e.out w' e).2.2) (.agg ST.toArray) (fun w' hF => exec_load_row rfl rfl hF rfl rfl (by rw [S_s]; rfl)) ?_
      go_frame
      refine qzV rfl (fun _ => True) (fun _ _ => trivial) (.agg (F x.A x.c).C.toArray) (fun w' _ => exec_build_as rfl (by simp only [List.map_toArray, List.map_cons, List.map_nil]; exact BL.out)) ?_
      go_frame
      generalize W.drew = V at *
      refine qzD fun K hK => ?_
      go_simp
      refine CP7.out.mono ?_
      rintro e2 w2 ⟨A2, c2, rfl, b2, x2⟩
      have o2 := Lib.hid (how.out.ext x2)
      refine hK.out _ _ (Or.inr (grown_ofE x2)) ?_
      clear hK K
      try go_frame
      refine qzD fun K hK => ?_
      refine wp_slice_c (t := 42) (e := 73) (s := 138) Tryd.underlying42 infoM zM_cells (by omega) (by omega) (cs := (F A2 c2).C) (LC.out A2 c2) rfl rfl ?_
      have k3 : Hid (Cb (w2.alloc (.cells (F A2 c2).C.toArray 73)) w2.heap.size 73 (F A2 c2).C) := Cb.new _ _ _
      have o3 : Hid (OwnC B (w2.alloc (.cells (F A2 c2).C.toArray 73)) 73 138 A n c (L.map Wm.C)) := o2.out.ext ((Ext.refl _).alloc _)
      have b3 : Hid (BsF V.heap.size (w2.alloc (.cells (F A2 c2).C.toArray 73)) A2 body.length c2 body) := b2.ext ((Ext.refl _).alloc _)
      have x3 : Hid (Ext V (w2.alloc (.cells (F A2 c2).C.toArray 73))) := x2.alloc _
      refine hK.out _ _ (Or.inr (grown_ofE ((Ext.refl _).alloc _))) ?_
      clear hK K
      try go_frame
      clear o2 b2 x2
      generalize w2.alloc (.cells (F A2 c2).C.toArray 73) = w3 at *
      generalize w2.heap.size = s2 at *
      clear w2
      have cs3 := cs_one k3.out
      rw [LC.out A2 c2] at cs3
      replace cs3 := Lib.hid cs3
      have sz3 := x3.out.size
      refine qzD fun K hK => ?_
      refine wp_append_cc (t := 42) (e := 73) (s := 138) Tryd.underlying42 infoM zM_cells (by omega) bytesM rfl rfl rfl o3.out cs3.out (fun x hx u hu => by rw [List.mem_singleton.1 hx] at hu; exact OC.out A2 c2 u hu) (by omega) (by omega) ?_
      intro A4 c4 w4 o4 g4 _
      refine hK.out _ _ (Or.inr g4) ?_
      clear hK K
      try go_frame
      have gg : Hid (V.grownBy w4 (Value.ownBlock (.slice A n c))) := gr_trans (grown_ofE x3.out) g4
      have kg := (P7e.out w4 gg.out).1
      have c4_ := kg.cell (j := 0) rfl
      have f4_ := kg.frozen 0
      have M4 : Hid (MB 126 73 B (w4.setCell ⟨g, 0, none⟩ (.slice A4 (n + 1) c4)) g (L ++ [F A2 c2]) (last + 1) ∧ Cb (w4.setCell ⟨g, 0, none⟩ (.slice A4 (n + 1) c4)) g 126 [.slice A4 (n + 1) c4, .int .i64 (last + 1)] ∧ Tb B0 tagP w (w4.setCell ⟨g, 0, none⟩ (.slice A4 (n + 1) c4))) := by
        have kg' : Cb (w4.setCell ⟨g, 0, none⟩ (.slice A4 (n + 1) c4)) g 126 [.slice A4 (n + 1) c4, .int .i64 (last + 1)] := kg.setCell
        have ot : ∀ (i : Nat) (cs : Array Value) (t : TypeId), w4.heap[i]? = some (Obj.cells cs t (0, 0)) → t ≠ 126 → (w4.setCell ⟨g, 0, none⟩ (.slice A4 (n + 1) c4)).heap[i]? = some (Obj.cells cs t (0, 0)) := fun i cs t hi ht => (Below.heap_setCell _ _ _ _ (show i ≠ g from fun q => by
          subst q
          rw [kg] at hi
          injection hi with hi
          injection hi with _ hi
          exact ht hi.symm)).trans hi
        have nd : (F A2 c2).d.body = body ∧ (F A2 c2).A = A2 ∧ (F A2 c2).c = c2 := FD.out A2 c2
        refine ⟨⟨A4, n + 1, c4, kg', ?_, fun y hy => ?_⟩, kg', ?_⟩
        · rw [List.map_append]
          exact o4.keep fun i cs hi _ => ot i cs _ hi (by decide)
        · rcases List.mem_append.1 hy with hy | hy
          · have h1 := (hbd.out y hy).2.grown gg.out (fun i cs hi _ => how.out.ne' hi (by decide))
            exact ⟨(hbd.out y hy).1, h1.keep fun i cs hi _ => ot i cs _ hi (by decide)⟩
          · rw [List.mem_singleton.1 hy]
            refine ⟨OKD.out A2 c2, ?_⟩
            rw [nd.1, nd.2.1, nd.2.2]
            have h1 := (b3.out.mono (B' := B) (by omega)).grown g4 (fun i cs hi _ => o3.out.ne' hi (by decide))
            exact h1.keep fun i cs hi _ => ot i cs _ hi (by decide)
        · exact (t0.out.trans (Tb.grown gg.out fun k hk => ⟨Nat.le_trans h0 (how.out.tag (S := tagP) rfl k hk).1, (how.out.tag (S := tagP) rfl k hk).2⟩)).trans (Tb.cell 0 _ kg hg rfl)
      clear k3 o3 b3 x3 cs3 o4 g4 gg kg how hbd P7 P7e t0 CP7
      repeat (refine qzR0 ?_; go_frame)
      refine qzD fun K hK => ?_
      go_simp
      refine hK.out _ _ (Or.inl rfl) ?_
      clear hK K
      try go_frame
      refine seqZ_done ?_
      refine gen_q (fun W => MB 126 73 B W g (L ++ [F A2 c2]) (last + 1) ∧ Cb W g 126 [.slice A4 (n + 1) c4, .int .i64 (last + 1)] ∧ Tb B0 tagP w W) M4.out ?_
      clear M4 c4_ f4_
      rintro w5 ⟨m5, k5, t5⟩
      have c5 := k5.cell (j := 1) rfl
      have FF := Lib.hid (FIN.out A2 c2 w5 m5 t5)
      clear FIN m5 k5 t5
      go_wp2_with fail
      go_ret2
      exact FF.out

end Go.Proofs.YtbnjmmefnjoofaaDoor
