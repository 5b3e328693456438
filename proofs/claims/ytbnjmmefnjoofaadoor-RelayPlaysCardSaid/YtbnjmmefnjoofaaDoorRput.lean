import Derived.Test.YtbnjmmefnjoofaaDoorPkN
import Derived.Test.YtbnjmmefnjoofaaDoorSame12
import Derived.Test.YtbnjmmefnjoofaaDoorPkH
/-
  palfreyref19.Put.
-/
namespace Go.Proofs.YtbnjmmefnjoofaaDoor
open Go.ChangeShapes Go.WideShapes Go.ChangeAt Go.RowKit Go.Deep
set_option maxRecDepth 100000

def tagR (t : TypeId) : Bool := t == 96 || t == 101
theorem infoR : (Tryd.prog.info? 101).map (fun i => (i.zero, i.size, i.bytes)) = some (some (.agg zM.toArray), 138, (Tryd.prog.info? 101).elim 0 (·.bytes)) := by kernel_rfl
theorem bytesR : (Tryd.prog.info? 101).elim 0 (·.bytes) ≤ 1000000 := by decide +kernel
theorem mail_builtR {id : Int} {E S : List Value} (hE : E.length = 69) (hS : S.length = 68) : Tryd.prog.built 101 [(0, .int .i64 id), (1, .agg E.toArray), (2, .agg S.toArray)] = some ([Value.int .i64 id] ++ (E ++ S)).toArray := by
  have h : ∃ pl : Nat → Option (Nat × Nat), (pl 0 = some (0, 1) ∧ pl 1 = some (1, 69) ∧ pl 2 = some (70, 68)) ∧ ∀ ps, Tryd.prog.built 101 ps = Instr.fill pl zM.toArray ps := ⟨(#[(0, 1), (1, 69), (70, 68)][·]?), ⟨rfl, rfl, rfl⟩, fun ps => by kernel_rfl⟩
  obtain ⟨pl, ⟨h0, h1, h2⟩, hp⟩ := h
  rw [hp]
  exact fill_mail h0 h1 h2 hE hS
theorem append_emptyF {w : World} {a : Addr} {A' : Option Addr} {m c' : Nat} {ys : List UInt8} (ty : TypeId) (hr : Bs w A' m c' ys) (hm : m ≤ 100000000) :
    ∃ A'' c'' w', (Builtin.append_ #[35, 35] ty #[.slice (some a) 0 0, .slice A' m c']).run Tryd.prog w = .ok (.slice A'' m c'') w' ∧ BsF w.heap.size w' A'' m c'' ys ∧ Ext w w' := by
  obtain ⟨i, hi, hz0, hz1, hz2⟩ := info_parts info8
  rcases Nat.eq_zero_or_pos m with h0 | h0
  · subst h0
    have hy := hr.zero
    subst hy
    have hsrc : Src Tryd.prog i.size 35 (.slice A' 0 c') 0 [] w := by
      rcases A' with _ | a'
      · exact Src.ofNil w Tryd.underlying35 c'
      · exact Src.ofSlice w Tryd.underlying35 a' 0 c' [] (by simp) (fun j u hu => by simp at hu) (fun u hu => by simp at hu)
    exact ⟨some a, 0, w, run_append_nothing w 35 35 ty 5 i Tryd.underlying35 hi (some a) 0 0 (Nat.le_refl _) _ hsrc, ⟨⟨rfl, Nat.le_refl _, Nat.zero_le _, fun h => absurd h (by omega)⟩, fun h => absurd h (by omega)⟩, Ext.refl w⟩
  · obtain ⟨b, off, rfl, hb, hc⟩ := hr.pos h0
    have hl := hr.len
    have hrun := run_append_grow (P := Tryd.prog) w 35 ty 5 i (.int .u8 0) Tryd.underlying35 hi hz0 a 0 0 [] (by simp) (fun j v hv => by simp at hv) ⟨b, off, none⟩ m c' (ys.map u8v) (by rw [List.length_map, hl, hz1, Nat.mul_one]) (fun j u hu => by
        have hj : j < ys.length := by
          rcases Nat.lt_or_ge j ys.length with h | h
          · exact h
          · simp [h] at hu
        have hplain : (⟨b, off, none⟩ : Addr).add j = ⟨b, off + j, none⟩ := by unfold Addr.add; split <;> simp_all
        rw [hplain, hc j (by omega), ← u8v_bt hj, hu]) (by omega) (by omega) (by rw [hz2]; simp [Builtin.nextslicecap]; split <;> omega)
    rw [Nat.zero_add] at hrun
    refine ⟨_, _, _, hrun, ⟨⟨hl, grownCap_ge w m 0 5, grownCap_le_maxLen w m 0 5 (by unfold maxLen; omega), fun _ => ⟨w.heap.size, 0, rfl, by simp [World.alloc], fun j hj => ?_⟩⟩, fun _ q hq => by cases hq; exact ⟨Nat.le_refl _, _, heap_alloc_new _ _⟩⟩, ((Ext.refl w).drew).alloc _⟩
    have hn := heap_alloc_new w.drew (.cells (([] : List Value).toArray ++ (ys.map u8v).toArray ++ Builtin.zeroCells (Value.int .u8 0).cells (grownCap w m 0 5 - m)) 5)
    refine (cell_of_row _ _ (0 + j) _ _ (0, 0) hn).trans ?_
    rw [Nat.zero_add]
    rw [Array.getElem?_append_left (by simp; omega)]
    simp only [List.append_toArray, List.nil_append, List.getElem?_toArray]
    exact u8v_bt (by omega)
theorem wpList_append_emptyF {w : World} {ops : Array Oper} {rest : List Oper} {o : Oper} {a : Act} {Q : Exit → Act → World → Prop} (hgd : o.guard = none) {p : Addr} {A' : Option Addr} {m c' : Nat} {ys : List UInt8} {s x : Operand}
    (ho : o.op = .call { callee := .builtin .append, args := #[s, x], argTypes := #[35, 35] }) (hs : a.eval s = .slice (some p) 0 0) (hx : a.eval x = .slice A' m c')
    (hr : Bs w A' m c' ys) (hm : m ≤ 100000000)
    (hK : ∀ A'' c'' w', BsF w.heap.size w' A'' m c'' ys → Ext w w' → wpList Tryd.prog ops Q rest (a.put o.dst (.slice A'' m c'')) w') : wpList Tryd.prog ops Q (o :: rest) a w :=
  wpList_plain hgd fun _ hK' => by
    obtain ⟨A'', c'', w', hrun, h2, h3⟩ := append_emptyF (a := p) o.type hr hm
    unfold Oper.wp execOp
    simp only [ho, resolve, invoke, builtin, Sem.run_bind, Sem.run_pure, Result.andThen_ok, List.map_toArray, List.map_cons, List.map_nil, hs, hx, hrun]
    exact hK' _ _ (hK A'' c'' w' h2 h3)
theorem Wm.ev68 {x : Wm} (h : x.d.ok) : x.ev[68]? = some (.slice x.A x.d.body.length x.c) := (ev_cells h.1.1 h.1.2 x.d.f x.d.t x.d.p x.d.n x.A x.d.body.length x.c).2.2.1
theorem Wm.evset {x : Wm} (h : x.d.ok) (A : Option Addr) (c : Nat) : x.ev.set 68 (.slice A x.d.body.length c) = (⟨x.d, A, c⟩ : Wm).ev := by
  have l2 : x.d.cm.length = 32 := h.1.1
  have l3 := hdC_len h.1.2 x.d.p x.d.n
  show (([Value.int .i64 x.d.f, .int .i64 x.d.t] ++ (cellsOf x.d.cm ++ (hdC x.d.pk x.d.p x.d.n ++ [Value.slice x.A x.d.body.length x.c]))) : List Value).set 68 (Value.slice A x.d.body.length c) = _
  rw [List.set_append_right _ _ (by simp), List.set_append_right _ _ (by simp [cellsOf_len, l2]), List.set_append_right _ _ (by simp [cellsOf_len, l2, l3])]
  simp [cellsOf_len, l2, l3, Wm.ev, evC]
theorem OwnC.ne_size {B : Nat} {w : World} {e : TypeId} {s : Nat} {A : Option Addr} {n c : Nat} {L : List (List Value)} (h : OwnC B w e s A n c L) : Value.ownBlock (.slice A n c) ≠ some w.heap.size := fun q => by
  have := (World.ownsRow.lt h.1 _ q).2
  omega
theorem lit_ne {g s n c : Nat} (h : g < s) : Value.ownBlock (.slice (some ⟨s, 0, none⟩) n c) ≠ some g := fun q => by
  have := Option.some.inj q
  simp only at this
  omega
theorem own_stepC {V V' : Value} {g s : Nat} (h : V.ownBlock ≠ some g) (hs : g < s) (h3 : V'.ownBlock = V.ownBlock ∨ V'.ownBlock = some s) : V'.ownBlock ≠ some g := fun q => by
  rcases h3 with e | e
  · exact h (e ▸ q)
  · rw [e] at q
    have := Option.some.inj q
    omega
theorem Tb.setNew {B : Nat} {S : TypeId → Bool} {w a : World} (h : Tb B S w a) {p : Addr} (hp : w.heap.size ≤ p.block) (u : Value) : Tb B S w (a.setCell p u) := ⟨h.1, h.2.1, h.2.2.1, by simpa [World.setCell] using h.2.2.2.1, fun i o hi hc => (Below.heap_setCell _ _ _ _ (by have := heap_lt hi; omega)).trans (h.2.2.2.2 i o hi hc)⟩
/-- Another row is put into the box. -/
theorem MB.put2 {TB TM : TypeId} {B B' g : Nat} {S : TypeId → Bool} {w1 : World} {L' : List Wm} {last : Int} {u : Value} (kg : Cb w1 g TB [u, .int .i64 last]) {A : Option Addr} {n c : Nat} (ho : OwnC B w1 TM 138 A n c (L'.map Wm.C)) (hs : ∀ x ∈ L', x.d.ok ∧ BsF B w1 x.A x.d.body.length x.c x.d.body) (h0 : B' ≤ g) (hS : S TB = true) (ht : TB ≠ TM) (hu : TB ≠ 5) :
    MB TB TM B (w1.setCell ⟨g, 0, none⟩ (.slice A n c)) g L' last ∧ Tb B' S w1 (w1.setCell ⟨g, 0, none⟩ (.slice A n c)) ∧ Cb (w1.setCell ⟨g, 0, none⟩ (.slice A n c)) g TB [.slice A n c, .int .i64 last] := by
  have ot : ∀ (i : Nat) (cs : Array Value) (t : TypeId), w1.heap[i]? = some (Obj.cells cs t (0, 0)) → TB ≠ t → (w1.setCell ⟨g, 0, none⟩ (.slice A n c)).heap[i]? = some (Obj.cells cs t (0, 0)) := fun i cs t hi ht => (Below.heap_setCell _ _ _ _ (show i ≠ g from fun q => by
    subst q
    rw [kg] at hi
    injection hi with hi
    injection hi with _ hi
    exact ht hi)).trans hi
  exact ⟨⟨A, n, c, kg.setCell, ho.keep fun i cs hi _ => ot i cs _ hi ht, fun x hx => ⟨(hs x hx).1, (hs x hx).2.keep fun i cs hi _ => ot i cs _ hi hu⟩⟩, Tb.cell 0 _ kg h0 hS, kg.setCell⟩
set_option maxHeartbeats 8000000 in
theorem rput_calls {w : World} {B0 B g : Nat} {L : List Wm} {last : Int} {x : Wm} (h : MB 96 101 B w g L last) (hx : x.d.ok) (hb : Bs w x.A x.d.body.length x.c x.d.body) (hl : 0 ≤ last) (hl2 : last < 1000000) (hL : L.length ≤ 8) (hB : B ≤ w.heap.size) (h0 : B0 ≤ B) (hg : B0 ≤ g) :
    Calls Tryd.prog 61 #[.pointer (some ⟨g, 0, none⟩), .agg x.ev.toArray, .agg x.d.stm.toArray] w fun e w' => e = .returned (.tuple #[.int .i64 (pbI x.d L.length last), .int .i64 (pbE x.d L.length)]) ∧ (∃ A' c', MB 96 101 B w' g (pbL x.d A' c' L last) (pbM x.d L.length last)) ∧ Tb B0 tagR w w' := by
  have HE : Hid (∀ W, Ext w W → Calls Tryd.prog 78 #[.agg x.ev.toArray] W fun e w' => e = .returned (.bool (okM x.d)) ∧ Ext W w') := fun W e => rightEnvelope_calls hx.1.1 hx.1.2 (by have := hx.2.2; omega)
  have BL : Hid (∀ A c, Tryd.prog.built 101 [(0, .int .i64 (last + 1)), (1, .agg (⟨x.d, A, c⟩ : Wm).ev.toArray), (2, .agg x.d.stm.toArray)] = some (⟨x.d.as (last + 1), A, c⟩ : Wm).C.toArray) := fun A c => mail_builtR (Wm.ev_len (x := ⟨x.d, A, c⟩) hx) (x.d.stm_len hx)
  have V68 : Hid (x.ev[68]? = some (.slice x.A x.d.body.length x.c)) := Wm.ev68 hx
  have EVS : Hid (∀ A c, x.ev.set 68 (.slice A x.d.body.length c) = (⟨x.d, A, c⟩ : Wm).ev) := fun A c => Wm.evset hx A c
  have L_g : Hid (∀ A c, (⟨x.d, A, c⟩ : Wm).ev.length = 69) := fun A c => Wm.ev_len (x := ⟨x.d, A, c⟩) hx
  have hbm : x.d.body.length ≤ 1000 := hx.2.2
  have L_e := x.ev_len hx
  have L_s := x.d.stm_len hx
  have OKX : Hid ((x.d.as (last + 1)).ok) := hx
  have LC : Hid (∀ A c, (⟨x.d.as (last + 1), A, c⟩ : Wm).C.length = 138) := fun A c => Wm.C_len (x := ⟨x.d.as (last + 1), A, c⟩) hx
  have OC : Hid (∀ A c, ∀ v ∈ (⟨x.d.as (last + 1), A, c⟩ : Wm).C, v.oneCell' = true) := fun A c => Wm.one _
  have FIN : Hid (∀ (er i : Int) (LL : List Wm) (m : Int) (W : World), (∃ A' c', er = pbE x.d L.length ∧ i = pbI x.d L.length last ∧ LL = pbL x.d A' c' L last ∧ m = pbM x.d L.length last) → MB 96 101 B W g LL m → Tb B0 tagR w W → Ending.returned (.tuple #[.int .i64 i, .int .i64 er]) = .returned (.tuple #[.int .i64 (pbI x.d L.length last), .int .i64 (pbE x.d L.length)]) ∧ (∃ A' c', MB 96 101 B W g (pbL x.d A' c' L last) (pbM x.d L.length last)) ∧ Tb B0 tagR w W) := by
    rintro er i LL m W ⟨A', c', rfl, rfl, rfl, rfl⟩ k1 k2
    exact ⟨rfl, ⟨A', c', k1⟩, k2⟩
  have P_bad : Hid (okM x.d = false → pbE x.d L.length = 1 ∧ pbI x.d L.length last = 0 ∧ (∀ A c, pbL x.d A c L last = L) ∧ pbM x.d L.length last = last) := fun q => by
    have e : pbE x.d L.length = 1 := by unfold pbE; rw [q]; rfl
    refine ⟨e, ?_, fun A c => ?_, ?_⟩
    · unfold pbI; rw [e, if_neg (by decide)]
    · unfold pbL; rw [e, if_neg (by decide)]
    · unfold pbM; rw [e, if_neg (by decide)]
  have P_full : Hid (okM x.d = true → L.length = 8 → pbE x.d L.length = 8 ∧ pbI x.d L.length last = 0 ∧ (∀ A c, pbL x.d A c L last = L) ∧ pbM x.d L.length last = last) := fun q q2 => by
    have e : pbE x.d L.length = 8 := by unfold pbE; rw [q, q2]; rfl
    refine ⟨e, ?_, fun A c => ?_, ?_⟩
    · unfold pbI; rw [e, if_neg (by decide)]
    · unfold pbL; rw [e, if_neg (by decide)]
    · unfold pbM; rw [e, if_neg (by decide)]
  have P_in : Hid (okM x.d = true → L.length < 8 → pbE x.d L.length = 0 ∧ pbI x.d L.length last = last + 1 ∧ (∀ A c, pbL x.d A c L last = L ++ [⟨x.d.as (last + 1), A, c⟩]) ∧ pbM x.d L.length last = last + 1) := fun q q2 => by
    have e : pbE x.d L.length = 0 := by unfold pbE; rw [q, if_pos rfl, if_pos q2]
    refine ⟨e, ?_, fun A c => ?_, ?_⟩
    · unfold pbI; rw [e, if_pos rfl]
    · unfold pbL; rw [e, if_pos rfl]
    · unfold pbM; rw [e, if_pos rfl]
  replace hb := Lib.hid hb
  clear hx
  obtain ⟨A, n, c, hcb, how, hbd⟩ := h
  have hLn := MB.len how
  have hcap := how.cap
  have glt := hcb.lt
  obtain ⟨n8, n8b⟩ : n ≤ 8 ∧ c ≤ 9223372036854775807 := ⟨by omega, by have := hcap.2; unfold maxLen at this; omega⟩
  obtain ⟨r, hr⟩ : ∃ r, r = w.heap.size := ⟨_, rfl⟩
  generalize hF : (fun (A : Option Addr) (c : Nat) => (⟨x.d.as (last + 1), A, c⟩ : Wm)) = F at *
  have hF' : ∀ A c, (⟨x.d.as (last + 1), A, c⟩ : Wm) = F A c := fun A c => by rw [← hF]
  have FD : Hid (∀ A c, (F A c).d.body = x.d.body ∧ (F A c).A = A ∧ (F A c).c = c) := fun A c => by rw [← hF' A c]; exact ⟨rfl, rfl, rfl⟩
  have OKD : Hid (∀ A c, (F A c).d.ok) := fun A c => by rw [← hF' A c]; exact OKX.out
  simp only [hF'] at BL LC OC P_in
  clear hF hF'
  generalize x.ev = EV at *
  generalize hG : (fun (A : Option Addr) (c : Nat) => (⟨x.d, A, c⟩ : Wm).ev) = G at *
  have hG' : ∀ A c, (⟨x.d, A, c⟩ : Wm).ev = G A c := fun A c => by rw [← hG]
  simp only [hG'] at BL EVS L_g
  clear hG hG'
  generalize x.d.stm = ST at *
  have S_e : EV.toArray.size = 69 := by rw [List.size_toArray, L_e]
  have S_s : ST.toArray.size = 68 := by rw [List.size_toArray, L_s]
  have B1 : Hid (Cb ((w.alloc (Obj.cells EV.toArray 37)).alloc (Obj.cells ST.toArray 67)) r 37 EV ∧ Cb ((w.alloc (Obj.cells EV.toArray 37)).alloc (Obj.cells ST.toArray 67)) (r + 1) 67 ST ∧ Ext w ((w.alloc (Obj.cells EV.toArray 37)).alloc (Obj.cells ST.toArray 67))) := by
    rw [hr]; exact ⟨heap_alloc1 _ _ _, heap_alloc2 _ _ _, ((Ext.refl w).alloc _).alloc _⟩
  go_enter Tryd.func61, Tryd.ntmps61
  go_upto_region 1 with fail
  refine wp_gen (fun W => Cb W r 37 EV ∧ Cb W (r + 1) 67 ST ∧ Ext w W) B1.out ?_
  rw [← hr]
  have wr : w.heap.size ≤ r := Nat.le_of_eq hr.symm
  clear B1
  replace hr := Lib.hid hr
  rintro w0 ⟨k0, k1, x0⟩
  replace k0 := Lib.hid k0
  replace k1 := Lib.hid k1
  have HE0 := Lib.hid (HE.out w0 x0)
  replace x0 := Lib.hid x0
  clear HE
  go_wp2_with (first | ((with_reducible refine wpList_load_rowW (o := ⟨some 8, _, _, _, _, _⟩) ?_ 37 _ rfl r ?_ 37 EV.toArray (0, 0) _ ?_ Tryd.underlying37 ?_ ?_ ?_); (· rfl); (· rfl); (· exact k0.out); (· rfl); (· rw [S_e]; rfl); go_frame))
  refine HE0.out.mono ?_
  rintro e w1 ⟨rfl, e1⟩
  have x1 : Hid (Ext w w1) := x0.out.trans e1
  have K0 : Hid (Cb w1 r 37 EV ∧ Cb w1 (r + 1) 67 ST) := ⟨k0.out.ext e1, k1.out.ext e1⟩
  clear k0 k1 x0 e1 HE0
  have kc := hcb.ext x1.out
  replace how := Lib.hid (how.ext x1.out)
  replace hbd : Hid (∀ y ∈ L, y.d.ok ∧ BsF B w1 y.A y.d.body.length y.c y.d.body) := fun y hy => ⟨(hbd y hy).1, (hbd y hy).2.ext x1.out⟩
  clear hcb
  cases hk : okM x.d with
  | false =>
    obtain ⟨p1, p2, p3, p4⟩ := P_bad.out hk
    clear P_bad P_full P_in BL EVS L_g V68 OKD LC OC K0 hb
    have FF := Lib.hid (FIN.out 1 0 L last w1 ⟨none, 0, p1.symm, p2.symm, (p3 _ _).symm, p4.symm⟩ ⟨A, n, c, kc, how.out, hbd.out⟩ (Tb.of_ext x1.out))
    clear FIN p1 p2 p3 p4 kc how hbd x1 hk
    go_wp2_with fail
    go_ret2
    exact FF.out
  | true =>
    replace P_full := Lib.hid (P_full.out hk)
    replace P_in := Lib.hid (P_in.out hk)
    clear P_bad hk
    have c0 := kc.cell (j := 0) rfl
    by_cases hn : n = 8
    · subst hn
      obtain ⟨p1, p2, p3, p4⟩ := P_full.out hLn
      clear P_full P_in BL EVS L_g V68 OKD LC OC K0 hb
      have FF := Lib.hid (FIN.out 8 0 L last w1 ⟨none, 0, p1.symm, p2.symm, (p3 _ _).symm, p4.symm⟩ ⟨A, 8, c, kc, how.out, hbd.out⟩ (Tb.of_ext x1.out))
      clear FIN p1 p2 p3 p4 kc how hbd x1
      go_wp2_with fail
      go_ret2
      exact FF.out
    · have n7 : n < 8 := by omega
      obtain ⟨p1, p2, p3, p4⟩ := P_in.out (by omega)
      replace FIN : Hid (∀ (A' : Option Addr) (c' : Nat) (W : World), MB 96 101 B W g (L ++ [F A' c']) (last + 1) → Tb B0 tagR w W → _) := fun A' c' W k1 k2 => FIN.out 0 (last + 1) _ _ W ⟨A', c', p1.symm, p2.symm, (p3 A' c').symm, p4.symm⟩ k1 k2
      clear P_full P_in p1 p2 p3 p4 hn
      generalize x.d.body = body at *
      have c1 := kc.cell (j := 1) rfl
      have f1 := kc.frozen 1
      have bx : Hid (Bs (w1.setCell ⟨g, 1, none⟩ (.int .i64 (last + 1))) x.A body.length x.c body) := (hb.out.ext x1.out).setOff c1 (fun z q => by cases q)
      have KK : Hid (Cb (w1.setCell ⟨g, 1, none⟩ (.int .i64 (last + 1))) g 96 [.slice A n c, .int .i64 (last + 1)] ∧ Cb (w1.setCell ⟨g, 1, none⟩ (.int .i64 (last + 1))) r 37 EV ∧ Cb (w1.setCell ⟨g, 1, none⟩ (.int .i64 (last + 1))) (r + 1) 67 ST ∧ Tb B0 tagR w (w1.setCell ⟨g, 1, none⟩ (.int .i64 (last + 1))) ∧ OwnC B (w1.setCell ⟨g, 1, none⟩ (.int .i64 (last + 1))) 101 138 A n c (L.map Wm.C) ∧ (∀ y ∈ L, y.d.ok ∧ BsF B (w1.setCell ⟨g, 1, none⟩ (.int .i64 (last + 1))) y.A y.d.body.length y.c y.d.body)) := by
        have ot : ∀ (i : Nat) (cs : Array Value) (t : TypeId), w1.heap[i]? = some (Obj.cells cs t (0, 0)) → t ≠ 96 → (w1.setCell ⟨g, 1, none⟩ (.int .i64 (last + 1))).heap[i]? = some (Obj.cells cs t (0, 0)) := fun i cs t hi ht => (Below.heap_setCell _ _ _ _ (show i ≠ g from fun q => by
          subst q
          rw [kc] at hi
          injection hi with hi
          injection hi with _ hi
          exact ht hi.symm)).trans hi
        exact ⟨kc.setCell, ot _ _ _ K0.out.1 (by decide), ot _ _ _ K0.out.2 (by decide), (Tb.of_ext x1.out).trans (Tb.cell 1 _ kc hg rfl), how.out.keep fun i cs hi _ => ot i cs _ hi (by decide), fun y hy => ⟨(hbd.out y hy).1, (hbd.out y hy).2.keep fun i cs hi _ => ot i cs _ hi (by decide)⟩⟩
      have sw : w.heap.size ≤ (w1.setCell ⟨g, 1, none⟩ (.int .i64 (last + 1))).heap.size := KK.out.2.2.2.1.size
      clear kc how hbd K0
      go_upto_region 6 with fail
      refine wp_gen (fun W => Cb W g 96 [.slice A n c, .int .i64 (last + 1)] ∧ Cb W r 37 EV ∧ Cb W (r + 1) 67 ST ∧ Tb B0 tagR w W ∧ OwnC B W 101 138 A n c (L.map Wm.C) ∧ (∀ y ∈ L, y.d.ok ∧ BsF B W y.A y.d.body.length y.c y.d.body) ∧ Bs W x.A body.length x.c body) ⟨KK.out.1, KK.out.2.1, KK.out.2.2.1, KK.out.2.2.2.1, KK.out.2.2.2.2.1, KK.out.2.2.2.2.2, bx.out⟩ ?_
      clear KK c0 c1 f1 sw bx hb x1 w1
      rintro W ⟨k0, k1, k2, t0, how, hbd, bx⟩
      have b68 := k1.cell V68.out
      have sz : w.heap.size ≤ W.heap.size := t0.size
      replace k0 := Lib.hid k0
      replace k1 := Lib.hid k1
      replace k2 := Lib.hid k2
      replace t0 := Lib.hid t0
      replace how := Lib.hid how
      replace hbd := Lib.hid hbd
      have ex1 : Hid (Ext W (W.alloc (.cells #[] 5))) := (Ext.refl W).alloc _
      have bx1 : Hid (Bs (W.alloc (.cells #[] 5)) x.A body.length x.c body) := bx.ext ex1.out
      have b68' : (W.alloc (.cells #[] 5)).cell? ⟨r, 68, none⟩ = _ := (k1.out.ext ex1.out).cell V68.out
      clear bx b68
      go_upto_region 7 with (refine wpList_append_emptyF rfl rfl rfl rfl bx1.out (by omega) ?_; intro A2 c2 w2 b2 x2; have c68 := (k1.out.ext (ex1.out.trans x2)).cell V68.out; have f68 := (k1.out.ext (ex1.out.trans x2)).frozen 68; go_frame)
      have X2 : Hid (Ext W w2) := ex1.out.trans x2
      have BF : Hid (BsF B w2 A2 body.length c2 body) := b2.mono (Nat.le_trans (Nat.le_trans hB sz) ex1.out.size)
      clear x2 b2 c68 f68 b68' bx1 ex1
      have k1' := k1.out.ext X2.out
      have KK : Hid (Cb (w2.setCell ⟨r, 68, none⟩ (.slice A2 body.length c2)) g 96 [.slice A n c, .int .i64 (last + 1)] ∧ Cb (w2.setCell ⟨r, 68, none⟩ (.slice A2 body.length c2)) r 37 (G A2 c2) ∧ Cb (w2.setCell ⟨r, 68, none⟩ (.slice A2 body.length c2)) (r + 1) 67 ST ∧ Tb B0 tagR w (w2.setCell ⟨r, 68, none⟩ (.slice A2 body.length c2)) ∧ OwnC B (w2.setCell ⟨r, 68, none⟩ (.slice A2 body.length c2)) 101 138 A n c (L.map Wm.C) ∧ (∀ y ∈ L, y.d.ok ∧ BsF B (w2.setCell ⟨r, 68, none⟩ (.slice A2 body.length c2)) y.A y.d.body.length y.c y.d.body) ∧ BsF B (w2.setCell ⟨r, 68, none⟩ (.slice A2 body.length c2)) A2 body.length c2 body) := by
        have ot : ∀ (i : Nat) (cs : Array Value) (t : TypeId), w2.heap[i]? = some (Obj.cells cs t (0, 0)) → t ≠ 37 → (w2.setCell ⟨r, 68, none⟩ (.slice A2 body.length c2)).heap[i]? = some (Obj.cells cs t (0, 0)) := fun i cs t hi ht => (Below.heap_setCell _ _ _ _ (show i ≠ r from fun q => by
          subst q
          rw [k1'] at hi
          injection hi with hi
          injection hi with _ hi
          exact ht hi.symm)).trans hi
        refine ⟨ot _ _ _ (k0.out.ext X2.out) (by decide), ?_, ot _ _ _ (k2.out.ext X2.out) (by decide), ?_, (how.out.ext X2.out).keep fun i cs hi _ => ot i cs _ hi (by decide), fun y hy => ⟨(hbd.out y hy).1, ((hbd.out y hy).2.ext X2.out).keep fun i cs hi _ => ot i cs _ hi (by decide)⟩, BF.out.keep fun i cs hi _ => ot i cs _ hi (by decide)⟩
        · rw [← EVS.out]
          exact k1'.setCell
        · exact (t0.out.trans (Tb.of_ext X2.out)).setNew wr _
      clear k0 k1 k2 t0 how hbd X2 BF k1' EVS V68
      refine wp_gen (fun W => Cb W g 96 [.slice A n c, .int .i64 (last + 1)] ∧ Cb W r 37 (G A2 c2) ∧ Cb W (r + 1) 67 ST ∧ Tb B0 tagR w W ∧ OwnC B W 101 138 A n c (L.map Wm.C) ∧ (∀ y ∈ L, y.d.ok ∧ BsF B W y.A y.d.body.length y.c y.d.body) ∧ BsF B W A2 body.length c2 body) KK.out ?_
      clear KK sz
      generalize W.heap.size = z6
      clear w2 W
      rintro W ⟨k0, k1, k2, t0, how, hbd, bf⟩
      have L_E := L_g.out A2 c2
      have BLT := Lib.hid (BL.out A2 c2)
      have O_C := Lib.hid (OC.out A2 c2)
      have L_C := LC.out A2 c2
      have OK_C := Lib.hid (OKD.out A2 c2)
      have F_C := Lib.hid (FD.out A2 c2)
      have FF := Lib.hid (FIN.out A2 c2)
      clear L_g BL OC LC OKD FD FIN
      generalize G A2 c2 = EG at *
      generalize F A2 c2 = y at *
      obtain ⟨f1, f2, f3⟩ := F_C.out
      replace bf : BsF B W y.A y.d.body.length y.c y.d.body := by rw [f1, f2, f3]; exact bf
      clear F_C f1 f2 f3
      have S_E : EG.toArray.size = 69 := by rw [List.size_toArray, L_E]
      have sz : w.heap.size ≤ W.heap.size := t0.size
      have gW : g < W.heap.size := k0.lt
      have P7 : Hid (∀ s, Ext W s → s.cell? ⟨g, 0, none⟩ = some (.slice A n c) ∧ s.cell? ⟨g, 1, none⟩ = some (.int .i64 (last + 1))) := fun s q => ⟨(k0.ext (w' := s) q).cell rfl, (k0.ext (w' := s) q).cell rfl⟩
      have P7e : Hid (∀ s, Ext W s → Cb s g 96 [.slice A n c, .int .i64 (last + 1)] ∧ Cb s r 37 EG ∧ Cb s (r + 1) 67 ST) := fun s q => ⟨k0.ext (w' := s) q, k1.ext (w' := s) q, k2.ext (w' := s) q⟩
      have CSL : Hid (∀ s, Ext W s → Cs s 138 A n c (L.map Wm.C)) := fun s q => how.cs.ext (w' := s) q
      have BDS : Hid (∀ s, Ext W s → ∀ z ∈ L ++ [y], z.d.ok ∧ BsF B s z.A z.d.body.length z.c z.d.body) := fun s q z hz => by
        rcases List.mem_append.1 hz with h | h
        · exact ⟨(hbd z h).1, (hbd z h).2.ext (w' := s) q⟩
        · rw [List.mem_singleton.1 h]
          exact ⟨OK_C.out, bf.ext (w' := s) q⟩
      have TBS : Hid (∀ s, Ext W s → Tb B0 tagR w s) := fun s q => t0.trans (Tb.of_ext (b := s) q)
      have O_L : Hid (∀ x ∈ L.map Wm.C, ∀ u ∈ x, u.oneCell' = true) := fun x hx u hu => by obtain ⟨z, _, rfl⟩ := List.mem_map.1 hx; exact z.one u hu
      clear k0 k1 k2 t0 how hbd bf OK_C
      have SE : Hid (Ext W W.drew) := (Ext.refl W).drew
      refine wp_region_treeZ (R := Below W.heap.size) (Below.refl _) (fun _ _ _ => Below.trans) 18 (.rd 0 (.rd 2 (.rd 3 (.rd 4 (.rd 5 (.rd 7 (.rd 8 (.rd 9 (.rd 10 (.rd 11 (.rd 12 (.rd 13 (.alt 1 (.alt 6 (.alt 14 (.alt 15 (.rd 16 (.rd 17 (.alt 18 .nil .stop))) .stop) .stop) (.alt 14 (.alt 6 (.alt 15 (.rd 16 (.rd 17 (.alt 18 .nil .stop))) .stop) .stop) .stop)) (.alt 14 (.alt 1 (.alt 6 (.alt 15 (.rd 16 (.rd 17 (.alt 18 .nil .stop))) .stop) .stop) .stop) .stop)))))))))))))) [(0, 30, 2), (0, 31, 0), (0, 32, 2), (4, 33, 4294967296), (8, 34, 8589934592), (16, 35, 17179869184), (34, 36, 36507222016), (0, 37, 2), (128, 38, 137438953472), (256, 39, 274877906944), (512, 40, 549755813888), (0, 41, 32), (0, 42, 64), (7168, 43, 7696581394432), (8192, 44, 8796093022208), (16448, 45, 17660905521152), (65535, 46, 1073741824), (131071, 47, 70368744177664), (196607, 0, 175921860444160)] 19 (by kernel_rfl) (by kernel_rfl) (by kernel_rfl) rfl (by kernel_rfl) (by kernel_rfl) (by kernel_rfl) (fun _ _ d _ _ h => by cases d <;> exact h) ?_
      repeat (refine seqTZ_read (by decide) _ (fun w' e => P7.out w' (Ext.trans (Ext.refl _).drew e)) _ (v := ?_) rfl ?_ ?_ ?_; rotate_left; (· rfl); (· intro w' hF; go_simp; (try with_reducible rfl)); go_frame)
      refine seqTZ_read (by decide) (fun w' => w'.heap[r]? = some (.cells EG.toArray 37 (0, 0))) (fun w' e => (P7e.out w' (Ext.trans (Ext.refl _).drew e)).2.1) _ (v := .agg EG.toArray) rfl (by rfl) (fun w' hF => exec_load_row rfl rfl hF rfl rfl (by rw [S_E]; rfl)) ?_
      go_frame
      refine seqTZ_read (by decide) (fun w' => w'.heap[(r + 1)]? = some (.cells ST.toArray 67 (0, 0))) (fun w' e => (P7e.out w' (Ext.trans (Ext.refl _).drew e)).2.2) _ (v := .agg ST.toArray) rfl (by rfl) (fun w' hF => exec_load_row rfl rfl hF rfl rfl (by rw [S_s]; rfl)) ?_
      go_frame
      refine seqTZ_read (by decide) (fun _ => True) (fun _ _ => trivial) _ (v := .agg y.C.toArray) rfl (by rfl) (fun w' _ => exec_build_as rfl (by simp only [List.map_toArray, List.map_cons, List.map_nil]; exact BLT.out)) ?_
      go_frame
      generalize W.drew = WC at *
      have TM : Hid (∀ s A c, Ext W s → OwnC W.heap.size s 101 138 A (n + 1) c (L.map Wm.C ++ [y.C]) → MB 96 101 B (s.setCell ⟨g, 0, none⟩ (.slice A (n + 1) c)) g (L ++ [y]) (last + 1) ∧ Tb B0 tagR w (s.setCell ⟨g, 0, none⟩ (.slice A (n + 1) c)) ∧ Cb (s.setCell ⟨g, 0, none⟩ (.slice A (n + 1) c)) g 96 [.slice A (n + 1) c, .int .i64 (last + 1)]) := fun s A c q o => by
        have m := MB.put2 (S := tagR) (B' := B0) (P7e.out s q).1 (L' := L ++ [y]) (by rw [List.map_append]; exact o.mono (Nat.le_trans hB sz)) (BDS.out s q) hg rfl (by decide) (by decide)
        exact ⟨m.1, (TBS.out s q).trans m.2.1, m.2.2⟩
      repeat' (first
        | exact seqTZ_stop
        | (refine seqTZ_do (i := 1) _ rfl ?_ ?_ (fun K1 hK1 => ?_)
           (· rfl)
           rotate_left
           go_simp
           have e : Ext WC (WC.alloc (Obj.cells #[] 101)) := (Ext.refl WC).alloc _
           have hO : Hid (OwnC W.heap.size (WC.alloc (Obj.cells #[] 101)) 101 138 (some ⟨WC.heap.size, 0, none⟩) 0 0 []) := ⟨World.ownsRow_lit WC #[] 0 SE.out.size (Nat.zero_le _) rfl, fun x hx => (by cases hx), rfl⟩
           (try have hn := Lib.hid (lit_ne (n := 0) (c := 0) hS.out.lt))
           refine hK1.out _ _ (Or.inr (e.mono SE.out.size)) ?_
           clear hK1 K1
           (try replace hS := Lib.hid (hS.out.ext e))
           replace SE := Lib.hid (SE.out.trans e)
           clear e
           generalize WC.alloc (Obj.cells #[] 101) = WC at *
           (try go_frame)
           repeat (refine seqTZ_read (by decide) (fun _ => True) (fun _ _ => trivial) _ (v := ?_) rfl ?_ ?_ ?_; rotate_left; (· rfl); (· intro w' hF; go_simp; (try with_reducible rfl)); go_frame)
           skip)
        | (refine seqTZ_do (i := 14) _ rfl ?_ ?_ (fun K1 hK1 => ?_)
           (· rfl)
           rotate_left
           refine wp_slice_c (t := 45) (e := 101) (s := 138) Tryd.underlying45 infoR zM_cells (by omega) (by omega) (cs := y.C) L_C rfl rfl ?_
           have e : Ext WC (WC.alloc (Obj.cells y.C.toArray 101)) := (Ext.refl WC).alloc _
           have hS := Lib.hid (Cb.new WC 101 y.C)
           (try have hn := Lib.hid (OwnC.ne_size hO.out))
           refine hK1.out _ _ (Or.inr (e.mono SE.out.size)) ?_
           clear hK1 K1
           (try replace hO := Lib.hid (hO.out.ext e))
           replace SE := Lib.hid (SE.out.trans e)
           clear e
           generalize WC.alloc (Obj.cells y.C.toArray 101) = WC at *
           (try go_frame)
           repeat (refine seqTZ_read (by decide) (fun _ => True) (fun _ _ => trivial) _ (v := ?_) rfl ?_ ?_ ?_; rotate_left; (· rfl); (· intro w' hF; go_simp; (try with_reducible rfl)); go_frame)
           skip)
        | (refine seqTZ_do (i := 6) _ rfl ?_ ?_ (fun K1 hK1 => ?_)
           (· rfl)
           rotate_left
           refine wp_append_cc2 (t := 45) (e := 101) (s := 138) Tryd.underlying45 infoR zM_cells (by omega) bytesR rfl rfl rfl hO.out (CSL.out _ SE.out) O_L.out (by omega) SE.out.size ?_
           intro A6 c6 WC o6 g6 b6 h6
           (try have hn' := Lib.hid (own_stepC hn.out hS.out.lt h6))
           (try have hS' := Lib.hid (Cb.grown g6 hS.out (fun q => hn.out q.symm)))
           (try clear hn)
           (try clear hS)
           (try have hn := hn')
           (try have hS := hS')
           (try clear hn')
           (try clear hS')
           refine hK1.out _ _ (Or.inr b6) ?_
           have SE' : Hid (Ext W WC) := Below.trans SE.out b6
           clear hK1 K1 h6 g6 b6 SE hO
           have SE := SE'
           clear SE'
           simp only [Nat.zero_add, List.nil_append] at o6 ⊢
           (try simp only [Nat.zero_add] at hn)
           have hO := Lib.hid o6
           clear o6
           (try go_frame)
           repeat (refine seqTZ_read (by decide) (fun _ => True) (fun _ _ => trivial) _ (v := ?_) rfl ?_ ?_ ?_; rotate_left; (· rfl); (· intro w' hF; go_simp; (try with_reducible rfl)); go_frame)
           skip)
        | (refine seqTZ_do (i := 15) _ rfl ?_ ?_ (fun K1 hK1 => ?_)
           (· rfl)
           rotate_left
           have cs3 := cs_one hS.out
           rw [L_C] at cs3
           refine wp_append_cc2 (t := 45) (e := 101) (s := 138) Tryd.underlying45 infoR zM_cells (by omega) bytesR rfl rfl rfl hO.out cs3 (fun x hx u hu => by rw [List.mem_singleton.1 hx] at hu; exact O_C.out u hu) (by omega) SE.out.size ?_
           intro A7 c7 w7 o7 g7 b7 h7
           refine hK1.out _ _ (Or.inr b7) ?_
           have SE' : Hid (Ext W w7) := Below.trans SE.out b7
           have m7 := Lib.hid (TM.out w7 A7 c7 SE'.out o7)
           have kg := (P7e.out w7 SE'.out).1
           have c0_ := kg.cell (j := 0) rfl
           have f0_ := kg.frozen 0
           clear hK1 K1 h7 g7 b7 SE hO o7 cs3 hn hS kg SE'
           (try go_frame)
           repeat (refine seqTZ_read (by decide) (fun _ => True) (fun _ _ => trivial) _ (v := ?_) rfl ?_ ?_ ?_; rotate_left; (· rfl); (· intro w' hF; go_simp; (try with_reducible rfl)); go_frame)
           skip)
        | (refine seqTZ_do (i := 18) _ rfl ?_ ?_ (fun K1 hK1 => ?_)
           (· rfl)
           rotate_left
           go_simp
           refine hK1.out _ _ (Or.inl rfl) ?_
           clear hK1 K1
           (try go_frame)
           refine seqTZ_done ?_
           refine gen_q (fun X => MB 96 101 B X g (L ++ [y]) (last + 1) ∧ Tb B0 tagR w X ∧ Cb X g 96 [.slice A7 (n + 1) c7, .int .i64 (last + 1)]) m7.out ?_
           clear m7 c0_ f0_
           rintro w8 ⟨m8, t8, k8⟩
           have c8 := k8.cell (j := 1) rfl
           have F8 := Lib.hid (FF.out w8 m8 t8)
           clear FF m8 t8 k8 TM P7 P7e CSL BDS TBS
           go_wp2_with fail
           go_ret2
           exact F8.out))
end Go.Proofs.YtbnjmmefnjoofaaDoor
