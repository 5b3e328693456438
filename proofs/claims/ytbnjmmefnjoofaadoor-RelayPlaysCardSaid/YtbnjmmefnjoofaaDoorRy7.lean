import Derived.Test.YtbnjmmefnjoofaaDoorPkD
import Derived.Test.YtbnjmmefnjoofaaDoorPkG
import Derived.Test.YtbnjmmefnjoofaaDoorPkE
import Derived.Test.YtbnjmmefnjoofaaDoorPkH
/-
  (*relay.Relay).Send.
-/
namespace Go.Proofs.YtbnjmmefnjoofaaDoor
open Go.ChangeShapes Go.WideShapes Go.ChangeAt Go.RowKit Go.Deep Go.Maps
set_option maxRecDepth 100000

/-- What is kept of an envelope and its stamp. -/
def mlOf (fr tw : Int) (cm pk : List UInt8) (p n : Int) (body : List UInt8) (s : Sm) : Ml := ⟨0, fr, tw, cm, pk, p, n, body, s.ep, s.f, s.t, s.tm, s.cm, s.tg⟩
section
variable {B g ticks N : Nat} {w : World} {root : List UInt8} {f : Nat → Option Ac}
/-- What Send does. -/
def SendP (B : Nat) (w : World) (g : Nat) (root : List UInt8) (ticks : Nat) (f : Nat → Option Ac) (N : Nat) (ok : Bool) (fr tw : Int) (X cm pk : List UInt8) (p n : Int) (body tag : List UInt8) (now : Int) (e : Ending) (w' : World) : Prop :=
  (adE f ok fr tw X tag now ≠ 0 → e = .returned (.tuple #[.agg zSm.C.toArray, .int .i64 (adE f ok fr tw X tag now)]) ∧ Ext w w') ∧
  (adE f ok fr tw X tag now = 0 → ∀ (i j : Nat) (a b : Ac), fr = (i : Int) → tw = (j : Int) → f i = some a → f j = some b → ∀ et t' k' : Int, bkTake 5 10 a.t a.k now = (et, t', k') →
    (et ≠ 0 → e = .returned (.tuple #[.agg zSm.C.toArray, .int .i64 et]) ∧ RY B w' g root ticks (upd f i (some { a with t := t', k := k' })) N ∧ Tm B tagY w w') ∧
    (et = 0 → e = .returned (.tuple #[.agg (mkS root ticks fr tw cm now).C.toArray, .int .i64 0]) ∧ (∃ A' c', RY B w' g root ticks (upd (upd f i (some { a with t := t', k := k' })) j (some { b with L := b.L ++ [⟨(mlOf fr tw cm pk p n body (mkS root ticks fr tw cm now)).as (b.last + 1), A', c'⟩], last := b.last + 1 })) (N + 1)) ∧ Tm B tagY w w'))
/-- What stays while only new rows turn. -/
theorem RY.row (h : RY B w g root ticks f N) {w0 : World} {r : Nat} {t : TypeId} {L : List Value} {C : Array Value} (k : Cb w r t L) (ht : t ≠ 86 ∧ tagA t = false ∧ t ≠ 5 ∧ t ≠ 23 ∧ t ≠ 108) (x : Tm B tagY w0 w) (hr : w0.heap.size ≤ r) : RY B (w.setRow r C) g root ticks f N ∧ Tm B tagY w0 (w.setRow r C) := by
  obtain ⟨s, mb, q, own, EE, hh⟩ := h
  have gr : w.grownBy (w.setRow r C) (some r) := ⟨rfl, rfl, rfl, by simp, fun i hi hne => setRow_other _ _ _ _ (fun z => hne (by rw [z]))⟩
  have KK : ∀ (i : Nat) (cs : Array Value) (t' : TypeId), w.heap[i]? = some (Obj.cells cs t' (0, 0)) → t' ≠ t → (w.setRow r C).heap[i]? = some (Obj.cells cs t' (0, 0)) := fun i cs t' y z => (setRow_other _ _ _ _ (cells_ne y k z)).trans y
  refine ⟨⟨s, mb, q, own, EE, ⟨KK _ _ _ hh.cb ht.1.symm, hh.sr.stay ((KK _ _ _ hh.sr.cb ht.2.2.2.2.symm).trans hh.sr.cb.symm) ((KK _ _ _ hh.sr.kr.1 ht.2.2.2.1.symm).trans hh.sr.kr.1.symm) (gr.block _ hh.sr.mp.lt fun z => map_ne k hh.sr.mp (Option.some.inj z).symm), hh.en, hh.ti, fun l b' hl => (hh.ac l b' hl).keep (fun _ _ z => z) (Nat.le_refl _) fun i cs t y z => KK i cs t y ?_, hh.lo, hh.ow⟩⟩, ⟨x.1, x.2.1, x.2.2.1, by simpa using x.2.2.2.1, fun i o hi ho => (setRow_other _ _ _ _ (by have := heap_lt hi; omega)).trans (x.2.2.2.2 i o hi ho)⟩⟩
  rcases z with ⟨_, z⟩ | rfl | rfl
  · intro q
    subst q
    rw [ht.2.1] at z
    cases z
  · exact ht.2.2.1.symm
  · exact ht.2.2.2.1.symm
/-- Bytes below block B, or in a block of bytes. -/
def BsB (B : Nat) (w : World) (A : Option Addr) (n c : Nat) (xs : List UInt8) : Prop := Bs w A n c xs ∧ (0 < n → ∀ q, A = some q → q.block < B ∨ ∃ cs fr, w.heap[q.block]? = some (Obj.cells cs 5 fr))
theorem BsB.tm {B : Nat} {a b : World} {A : Option Addr} {n c : Nat} {xs : List UInt8} (h : BsB B a A n c xs) (k : Tm B tagY a b) : BsB B b A n c xs := by
  have key : 0 < n → ∀ q, A = some q → q.block < a.heap.size → b.heap[q.block]? = a.heap[q.block]? := fun h0 q hq hlt => by
    obtain ⟨o, ho⟩ : ∃ o, a.heap[q.block]? = some o := ⟨_, Array.getElem?_eq_getElem hlt⟩
    rw [ho]
    rcases h.2 h0 q hq with z | ⟨cs, fr, z⟩
    · exact k.2.2.2.2 _ _ ho (.inl z)
    · refine k.2.2.2.2 _ _ ho (.inr ?_)
      rw [z] at ho
      injection ho with ho
      subst ho
      rfl
  refine ⟨⟨h.1.1, h.1.2.1, h.1.2.2.1, fun h0 => ?_⟩, fun h0 q hq => ?_⟩
  · obtain ⟨b', off, hA, hb, hc⟩ := h.1.2.2.2 h0
    exact ⟨b', off, hA, Nat.lt_of_lt_of_le hb k.size, fun j hj => (World.cell?_of_block (w := a) (a := ⟨b', off + j, none⟩) (key h0 ⟨b', off, none⟩ hA hb)).trans (hc j hj)⟩
  · rcases h.2 h0 q hq with z | ⟨cs, fr, z⟩
    · exact .inl z
    · exact .inr ⟨cs, fr, (key h0 q hq (heap_lt z)).trans z⟩
theorem BsB.ext {B : Nat} {a b : World} {A : Option Addr} {n c : Nat} {xs : List UInt8} (h : BsB B a A n c xs) (k : Ext a b) : BsB B b A n c xs := h.tm (Tm.of_ext k)
theorem adE_zero {ok : Bool} {fr tw : Int} {X tg : List UInt8} {now : Int} (h : adE f ok fr tw X tg now = 0) : ok = true ∧ (0 ≤ now ∧ now ≤ 1000000) ∧ ∃ (i j : Nat) (a b : Ac), fr = (i : Int) ∧ tw = (j : Int) ∧ i ≠ j ∧ f i = some a ∧ f j = some b ∧ i < 8 ∧ j < 8 ∧ macL a.lk X = tg ∧ a.out = false ∧ b.L.length < 8 := by
  rcases Decidable.em (ok = false) with h0 | h0
  · rw [adE_arg (.inl h0)] at h; cases h
  have h1 : ok = true := by simpa using h0
  by_cases h2 : fr = tw ∨ now < 0 ∨ 1000000 < now
  · rw [adE_arg (.inr h2)] at h; cases h
  rcases hi : fd f fr with _ | i
  · rw [adE_none h1 h2 (.inl hi)] at h; cases h
  rcases hj : fd f tw with _ | j
  · rw [adE_none h1 h2 (.inr hj)] at h; cases h
  obtain ⟨rfl, i8, a, ha⟩ := fd_some hi
  obtain ⟨rfl, j8, b, hb⟩ := fd_some hj
  rw [adE_in h1 h2 ha i8 hb j8] at h
  by_cases h3 : macL a.lk X = tg
  · rw [if_pos h3] at h
    rcases ho : a.out with _ | _
    · rw [ho] at h
      replace h : (if 8 ≤ b.L.length then (8 : Int) else 0) = 0 := h
      by_cases h8 : 8 ≤ b.L.length
      · rw [if_pos h8] at h; cases h
      · exact ⟨h1, ⟨by omega, by omega⟩, i, j, a, b, rfl, rfl, by omega, ha, hb, i8, j8, h3, ho, by omega⟩
    · rw [ho] at h; cases h
  · rw [if_neg h3] at h; cases h
theorem RY.take (h : RY B w g root ticks f N) {i : Nat} {a : Ac} (hi : f i = some a) (i8 : i < 8) {now et t' k' : Int} (n1 : -9223372036854775808 ≤ now) (n2 : now ≤ 9223372036854775807) (hb : bkTake 5 10 a.t a.k now = (et, t', k')) :
    Calls Tryd.prog 45 #[.pointer (some ⟨a.tk, 0, none⟩), .int .i64 now] w fun e w' => e = .returned (.int .i64 et) ∧ RY B w' g root ticks (upd f i (some { a with t := t', k := k' })) N ∧ Tm B tagY w w' := by
  obtain ⟨s, mb, q, own, EE, h⟩ := h
  have hA := h.ac i a hi
  refine (take_any hA.bk hA.ok n1 n2 hb).mono ?_
  rintro e w' ⟨rfl, b', x⟩
  have ok' := bkTake_ok (now := now) hA.ok
  rw [hb] at ok'
  have := h.took hi i8 b' ok' x
  exact ⟨rfl, ⟨s, mb, q, own, EE, this.1⟩, this.2⟩
theorem map_neI {i j : Nat} {t : TypeId} {C : Array Value} {fr : Nat × Nat} {k : TypeId} {E : List (Value × Value)} (h : w.heap[i]? = some (Obj.cells C t fr)) (m : Mp Tryd.prog k w j E) : i ≠ j := by
  rintro rfl
  obtain ⟨es, c, z⟩ := m.obj
  rw [h] at z
  cases z
theorem tq_grown {B b : Nat} {x y : World} (h : x.grownBy y (some b)) (hB : B ≤ x.heap.size) : Tq B b b x y := ⟨h.os, h.tape, h.output, h.size, fun i hi h1 _ => h.block i (Nat.lt_of_lt_of_le hi hB) (fun z => h1 (Option.some.inj z))⟩
set_option maxHeartbeats 16000000 in
theorem send_calls (h : RY B w g root ticks f N) (hB : B ≤ w.heap.size) (hN : N ≤ 100000) {fr tw p n : Int} {cm pk body tag : List UInt8} {A : Option Addr} {m c : Nat} {now : Int} (hc : cm.length = 32) (hk : pk.length = 32) (ht : tag.length = 32) (hbB : BsB B w A m c body)
    (f1 : -9223372036854775808 ≤ fr) (f2 : fr ≤ 9223372036854775807) (t1 : -9223372036854775808 ≤ tw) (t2 : tw ≤ 9223372036854775807) (n1 : -9223372036854775808 ≤ now) (n2 : now ≤ 9223372036854775807) {tg : TypeId × Nat × Nat} (hG : Gl w tg) (hgB : 0 < B) :
    Calls Tryd.prog 25 #[.pointer (some ⟨g, 0, none⟩), .agg (evC fr tw cm pk p n A m c).toArray, .agg (cellsOf tag).toArray, .int .i64 now] w (SendP B w g root ticks f N (okE fr tw p n m) fr tw (enX fr tw cm pk p n body) cm pk p n body tag now) := by
  have hb := hbB.1
  have AD : Hid (∀ W, Ext w W → Calls Tryd.prog 44 #[.pointer (some ⟨g, 0, none⟩), .agg (evC fr tw cm pk p n A m c).toArray, .agg (cellsOf tag).toArray, .int .i64 now] W (AdmP W g f (okE fr tw p n m) fr tw (enX fr tw cm pk p n body) tag now)) := fun W x => admitted_calls (h.ext x) hc hk ht (hb.ext x) f1 f2 t1 t2 (hG.kept x hG.lt)
  have L_ev := evC_len hc hk fr tw p n A m c
  have S_t : (cellsOf tag).toArray.size = 32 := by simp [cellsOf_len, ht]
  have OKE : Hid (okE fr tw p n m = true → m ≤ 600 ∧ okM (mlOf fr tw cm pk p n body zSm) = true) := fun q => by
    obtain ⟨_, _, _, _, _, _, _, _, _, _, _, _, hm, _, _⟩ := okE_nat q
    refine ⟨hm, ?_⟩
    show okE fr tw p n body.length = true
    rw [hb.len]; exact q
  obtain ⟨ok, hok⟩ : ∃ ok, ok = okE fr tw p n m := ⟨_, rfl⟩
  rw [← hok] at AD OKE ⊢
  obtain ⟨X, hX⟩ : ∃ X, X = enX fr tw cm pk p n body := ⟨_, rfl⟩
  rw [← hX] at AD ⊢
  clear hX
  obtain ⟨ev, hev⟩ : ∃ ev, ev = evC fr tw cm pk p n A m c := ⟨_, rfl⟩
  rw [← hev] at AD L_ev ⊢
  replace hev := Lib.hid (fun _ : Unit => hev)
  replace hok := Lib.hid (fun _ : Unit => hok)
  have S_ev : ev.toArray.size = 69 := by rw [List.size_toArray, L_ev]
  have hal := stamp_alloc16
  have BZ := Lib.hid stamp_built0
  have L_Z := Sm.C_len zSm_ok
  have O_Z := one_cells zSm.one
  obtain ⟨ZS, hZS⟩ : ∃ ZS, ZS = zSm.C := ⟨_, rfl⟩
  rw [← hZS] at hal BZ L_Z O_Z
  have S_Z : ZS.toArray.size = 68 := by rw [List.size_toArray, L_Z]
  replace hZS := Lib.hid (fun _ : Unit => hZS)
  have NO : Hid (∀ z, adE f ok fr tw X tag now = z → z ≠ 0 → ∀ W, Ext w W → ∀ e, e = .returned (.tuple #[.agg ZS.toArray, .int .i64 z]) → SendP B w g root ticks f N ok fr tw X cm pk p n body tag now e W) := fun z h hz W x e he => ⟨fun _ => ⟨by rw [he, h, hZS.out ()], x⟩, fun q => by rw [h] at q; exact absurd q hz⟩
  obtain ⟨r, hr⟩ : ∃ x, x = w.heap.size := ⟨_, rfl⟩
  have B0 : Hid (Cb (((w.alloc (.cells ev.toArray 37)).alloc (.cells (cellsOf tag).toArray 23)).alloc (.cells ZS.toArray 67)) r 37 ev ∧ Ky (((w.alloc (.cells ev.toArray 37)).alloc (.cells (cellsOf tag).toArray 23)).alloc (.cells ZS.toArray 67)) (r + 1) tag ∧ Cb (((w.alloc (.cells ev.toArray 37)).alloc (.cells (cellsOf tag).toArray 23)).alloc (.cells ZS.toArray 67)) (r + 1 + 1) 67 ZS ∧ Ext w (((w.alloc (.cells ev.toArray 37)).alloc (.cells (cellsOf tag).toArray 23)).alloc (.cells ZS.toArray 67))) := by
    rw [hr]; exact ⟨heap_alloc30 _ _ _ _, ⟨heap_alloc31 _ _ _ _, ht⟩, heap_alloc32 _ _ _ _, (((Ext.refl w).alloc _).alloc _).alloc _⟩
  have hRY := Lib.hid h
  clear hb
  have hb : Hid (BsB B w A m c body) := hbB
  clear hbB
  replace hG := Lib.hid hG
  clear h
  go_enter Tryd.func25, Tryd.ntmps25
  go_upto_region 1 with fail
  refine wp_gen (fun W => Cb W r 37 ev ∧ Ky W (r + 1) tag ∧ Cb W (r + 1 + 1) 67 ZS ∧ Ext w W) B0.out ?_
  rw [← hr]
  have wr : w.heap.size ≤ r := Nat.le_of_eq hr.symm
  replace hr := Lib.hid hr
  clear B0
  rintro w0 ⟨k0, k1, k2, x0⟩
  have AD0 := Lib.hid (AD.out w0 x0)
  have k1' := k1.1
  replace k2 := Lib.hid k2
  replace x0 := Lib.hid x0
  clear AD k1
  go_wp2_with (first | ((with_reducible refine wpList_load_rowW (o := ⟨some 19, _, _, _, _, _⟩) ?_ 37 _ rfl r ?_ 37 ev.toArray (0, 0) _ ?_ Tryd.underlying37 ?_ ?_ ?_); (· rfl); (· rfl); (· exact k0); (· rfl); (· rw [S_ev]; rfl); go_frame) | ((with_reducible refine wpList_load_rowW (o := ⟨some 20, _, _, _, _, _⟩) ?_ 23 _ rfl (r + 1) ?_ 23 (cellsOf tag).toArray (0, 0) _ ?_ Tryd.underlying23 ?_ ?_ ?_); (· rfl); (· rfl); (· exact k1'); (· rfl); (· rw [S_t]; rfl); go_frame))
  refine AD0.out.mono ?_
  rintro e w1 ⟨rfl, x1⟩
  have X1 : Hid (Ext w w1) := x0.out.trans x1
  have K0 : Hid (Cb w1 r 37 ev) := k0.ext x1
  have K2 := k2.out.ext x1
  clear k0 k1' k2 x0 x1 AD0
  obtain ⟨er, hER⟩ : ∃ er, er = adE f ok fr tw X tag now := ⟨_, rfl⟩
  rw [← hER]
  rcases Decidable.em (er ≠ 0) with her | her
  · have FIN : Hid (∀ e, e = .returned (.tuple #[.agg ZS.toArray, .int .i64 er]) → SendP B w g root ticks f N ok fr tw X cm pk p n body tag now e (w1.setRow (r + 1 + 1) ZS.toArray)) := NO.out er hER.symm her _ (below_setRow X1.out (by omega) _)
    have hne : (er == 0) = false := beq_eq_false_iff_ne.2 her
    have hne2 : (er != 0) = true := by simp [her]
    clear NO hER K0 X1
    unfold adF
    rw [if_neg her, if_neg her]
    simp only [adV_none]
    go_wp2_with (first
      | (refine wpList_build_as rfl _ _ rfl ZS.toArray (by simp only [List.map_toArray, List.map_nil]; exact BZ.out) ?_; go_frame)
      | (refine wpList_store_row rfl 67 _ _ rfl (r + 1 + 1) ZS.toArray rfl rfl 67 ZS.toArray K2 (by rw [S_Z]; rfl) rfl O_Z ?_; simp only [Act.put]))
    (try simp only [Exit.inBlock, Exit.then])
    refine bodyPost_ret (results_row_tmp rfl _ _ (r + 1 + 1) 67 ZS.toArray (0, 0) _ _ rfl rfl (setRow_heap _ _ _ _ _ _ K2) rfl rfl (by rw [S_Z]; rfl)) rfl ?_
    exact FIN.out _ rfl
  replace her : er = 0 := Decidable.not_not.1 her
  obtain ⟨hok1, ⟨hn0, hn1⟩, i, j, a, b, rfl, rfl, hij, hi, hj, i8, j8, _, _, hL⟩ := adE_zero (hER.symm.trans her)
  obtain ⟨m6, hM⟩ := OKE.out hok1
  unfold adF
  rw [if_pos her, if_pos her, fd_at hi i8, fd_at hj j8, adV_some, adV_some]
  obtain ⟨et, t', k', hbt⟩ : ∃ et t' k', bkTake 5 10 a.t a.k now = (et, t', k') := ⟨_, _, _, rfl⟩
  have h1 := hRY.out.ext X1.out
  have TK := Lib.hid (h1.take hi i8 n1 n2 hbt)
  have c4 := h1.at hi i8 (a.a0 (h1.lens hi)).2.2.2.1
  have G1 : Hid (Gl w1 tg) := hG.out.kept X1.out hG.out.lt
  have Bb1 : Hid (BsB B w1 A m c body) := hb.out.ext X1.out
  have Z1 : Hid (w.heap.size ≤ w1.heap.size) := X1.out.size
  have RES0 : Hid (∀ e W, et ≠ 0 → e = .returned (.tuple #[.agg ZS.toArray, .int .i64 et]) → RY B W g root ticks (upd f i (some { a with t := t', k := k' })) N → Tm B tagY w W → SendP B w g root ticks f N ok (i : Int) (j : Int) X cm pk p n body tag now e W) := fun e W q1 q2 q3 q4 => by
    have hz : adE f ok (i : Int) (j : Int) X tag now = 0 := hER.symm.trans her
    refine ⟨fun q => absurd hz q, fun _ i' j' a' b' z1 z2 z3 z4 et' t1' k1' z5 => ?_⟩
    obtain rfl : i = i' := by omega
    obtain rfl : j = j' := by omega
    rw [hi] at z3
    injection z3 with z3
    subst z3
    rw [hbt] at z5
    injection z5 with z5 z6
    injection z6 with z6 z7
    subst z5 z6 z7
    exact ⟨fun _ => ⟨by rw [q2, hZS.out ()], q3, q4⟩, fun q => absurd q q1⟩
  have RES1 : Hid (∀ e W (RS : List Value) A' c', et = 0 → RS = (mkS root ticks (i : Int) (j : Int) cm now).C → e = .returned (.tuple #[.agg RS.toArray, .int .i64 0]) → RY B W g root ticks (upd (upd f i (some { a with t := t', k := k' })) j (some { b with L := b.L ++ [⟨(mlOf (i : Int) (j : Int) cm pk p n body (mkS root ticks (i : Int) (j : Int) cm now)).as (b.last + 1), A', c'⟩], last := b.last + 1 })) (N + 1) → Tm B tagY w W → SendP B w g root ticks f N ok (i : Int) (j : Int) X cm pk p n body tag now e W) := fun e W RS A' c' q1 q0 q2 q3 q4 => by
    have hz : adE f ok (i : Int) (j : Int) X tag now = 0 := hER.symm.trans her
    refine ⟨fun q => absurd hz q, fun _ i' j' a' b' z1 z2 z3 z4 et' t1' k1' z5 => ?_⟩
    obtain rfl : i = i' := by omega
    obtain rfl : j = j' := by omega
    rw [hi] at z3
    injection z3 with z3
    subst z3
    rw [hj] at z4
    injection z4 with z4
    subst z4
    rw [hbt] at z5
    injection z5 with z5 z6
    injection z6 with z6 z7
    subst z5 z6 z7
    exact ⟨fun q => absurd q1 q, fun _ => ⟨by rw [q2, q0], ⟨A', c', q3⟩, q4⟩⟩
  have hfj : (upd f i (some { a with t := t', k := k' })) j = some b := (upd_other _ _ hij.symm).trans hj
  replace hfj := Lib.hid hfj
  subst her
  clear NO hRY hi hER h1 hG hb OKE
  go_wp2_with fail
  refine TK.out.mono ?_
  rintro e w2 ⟨rfl, r2, tm2⟩
  have K02 : Hid (Cb w2 r 37 ev) := tm2.cb K0.out rfl
  have K22 : Cb w2 (r + 1 + 1) 67 ZS := tm2.cb K2 rfl
  have TM2 : Hid (Tm B tagY w w2) := (Tm.of_ext X1.out).trans tm2
  have G2 : Hid (Gl w2 tg) := by
    have q : w1.heap[0]? = some _ := G1.out
    exact tm2.2.2.2.2 _ _ q (.inl hgB)
  have Bb2 : Hid (BsB B w2 A m c body) := Bb1.out.tm tm2
  replace r2 := Lib.hid r2
  clear TK K0 K2 X1 G1 Bb1 Z1 tm2 c4
  rcases Decidable.em (et ≠ 0) with het | het
  · have rr := r2.out.row K22 (C := ZS.toArray) (by decide) TM2.out (by omega)
    have FIN := Lib.hid (fun e he => RES0.out e _ het he rr.1 rr.2)
    have hne : (et == 0) = false := beq_eq_false_iff_ne.2 het
    have hne2 : (et != 0) = true := by simp [het]
    clear RES0 RES1 rr r2 TM2 G2 Bb2 K02
    go_wp2_with (first
      | (refine wpList_build_as rfl _ _ rfl ZS.toArray (by simp only [List.map_toArray, List.map_nil]; exact BZ.out) ?_; go_frame)
      | (refine wpList_store_row rfl 67 _ _ rfl (r + 1 + 1) ZS.toArray rfl rfl 67 ZS.toArray K22 (by rw [S_Z]; rfl) rfl O_Z ?_; simp only [Act.put]))
    (try simp only [Exit.inBlock, Exit.then])
    refine bodyPost_ret (results_row_tmp rfl _ _ (r + 1 + 1) 67 ZS.toArray (0, 0) _ _ rfl rfl (setRow_heap _ _ _ _ _ _ K22) rfl rfl (by rw [S_Z]; rfl)) rfl ?_
    exact FIN.out _ rfl
  replace het : et = 0 := Decidable.not_not.1 het
  replace RES1 := Lib.hid (fun e W RS A' c' => RES1.out e W RS A' c' het)
  subst het
  clear RES0
  obtain ⟨s, mb, q, own, EE, hx⟩ := r2.out
  have K2g := hx.cb.cell (j := 0) rfl
  have MKO : mkOk (i : Int) (j : Int) now = true := by
    unfold mkOk upB
    simp only [Bool.and_eq_true, decide_eq_true_eq]
    omega
  have mk0 : mkE (i : Int) (j : Int) now = 0 := by unfold mkE; rw [MKO]; rfl
  have STP : Hid (∀ u, SR u s mb q root ticks EE → Gl u tg → Calls Tryd.prog 46 #[.pointer (some ⟨s, 0, none⟩), .agg ev.toArray, .int .i64 now] u fun e w' => e = .returned (.tuple #[.agg (mkS root ticks (i : Int) (j : Int) cm now).C.toArray, .int .i64 0]) ∧ Told u s mb q root ticks EE.length w') := fun u su gu => by
    have := stamp16_calls (f := (i : Int)) (t := (j : Int)) (pp := p) (nn := n) (now := now) (cm := cm) (pk := pk) (A := A) (m := m) (c := c) su (by have := hx.en; omega) hx.ti.1 hx.ti.2 hc hk gu
    rw [mk0, ← hev.out ()] at this
    exact this
  have SOK : (mkS root ticks (i : Int) (j : Int) cm now).ok := mkS_ok _ _ _ _ _ hc
  have L_R := Sm.C_len SOK
  have O_R := one_cells (mkS root ticks (i : Int) (j : Int) cm now).one
  have WMS : Hid ((mlOf (i : Int) (j : Int) cm pk p n body (mkS root ticks (i : Int) (j : Int) cm now)).stm = (mkS root ticks (i : Int) (j : Int) cm now).C) := rfl
  have MLO : Hid ((mlOf (i : Int) (j : Int) cm pk p n body (mkS root ticks (i : Int) (j : Int) cm now)).ok) := ⟨⟨hc, hk⟩, SOK, by show body.length ≤ 1000; rw [Bb2.out.1.len]; omega⟩
  have OKM : Hid (okM (mlOf (i : Int) (j : Int) cm pk p n body (mkS root ticks (i : Int) (j : Int) cm now)) = true) := hM
  obtain ⟨RS, hRS⟩ : ∃ RS, RS = (mkS root ticks (i : Int) (j : Int) cm now).C := ⟨_, rfl⟩
  rw [← hRS] at STP L_R O_R WMS
  replace hRS := Lib.hid (fun _ : Unit => hRS)
  have S_R : RS.toArray.size = 68 := by rw [List.size_toArray, L_R]
  have slt := hx.sr.cb.lt
  have qlt := heap_lt hx.sr.kr.1
  have mblt := hx.sr.mp.lt
  have F0 : Hid (∀ u, Tq w2.heap.size mb mb w2 u → Cb u g 86 (rC s (upd f i (some { a with t := t', k := k' }))) ∧ Cb u r 37 ev ∧ Gl u tg) := fun u x => by
    refine ⟨x.block hx.cb hx.cb.lt (map_ne hx.cb hx.sr.mp) (map_ne hx.cb hx.sr.mp), x.block K02.out K02.out.lt (map_ne K02.out hx.sr.mp) (map_ne K02.out hx.sr.mp), ?_⟩
    have gq : w2.heap[0]? = some _ := G2.out
    exact x.block gq (heap_lt gq) (map_neI gq hx.sr.mp) (map_neI gq hx.sr.mp)
  have SR0 : Hid (SR w2.drew s mb q root ticks EE) := hx.sr.ext (Ext.refl _).drew
  have hxH := Lib.hid hx
  have K22H := Lib.hid K22
  clear hx mk0 MKO G2 K2g K22 hM
  go_upto_region 7 with fail
  go_cut [12, 14] (fun s12 s14 wx => ∃ g14 : Nat, s12 = .int .i64 0 ∧ s14 = .pointer (some ⟨g14, 0, none⟩) ∧ Tq w2.heap.size mb mb w2 wx ∧ (∃ E', SR wx s mb q root ticks E' ∧ E'.length ≤ EE.length + 1) ∧ Cb wx g14 67 RS ∧ w2.heap.size ≤ g14)
  case first =>
    have T0 : Hid (∀ u, Tq w2.heap.size mb mb w2.drew u → Tq w2.heap.size mb mb w2 u) := fun u x => Tq.trans (Tq.of_ext (Ext.refl w2).drew (Nat.le_refl _)) x
    refine qgT (R := Tq w2.heap.size mb mb) (Tq.refl _ _ _) (fun _ _ _ => Tq.trans) (.rd 0 (.rd 1 (.rd 2 (.rd 3 (.rd 4 (.rd 5 (.alt 6 (.rd 7 (.rd 8 (.rd 9 (.alt 10 (.alt 11 (.rd 12 .nil) .stop) .stop)))) (.alt 10 (.alt 6 (.rd 7 (.rd 8 (.rd 9 (.alt 11 (.rd 12 .nil) .stop)))) .stop) .stop)))))))) 13 ?_
    repeat ((first | refine qtR _ (fun w' e => ((F0.out w' (T0.out w' e)).1.cell (j := 0) rfl)) ?_ | refine qtS ?_); go_frame)
    refine qtV rfl (fun w' => w'.heap[r]? = some (.cells ev.toArray 37 (0, 0))) (fun w' e => (F0.out w' (T0.out w' e)).2.1) (.agg ev.toArray) (fun w' hF => exec_load_row rfl rfl hF rfl rfl (by rw [S_ev]; rfl)) ?_
    go_frame
    repeat ((first | refine qtR _ (fun w' e => ((F0.out w' (T0.out w' e)).1.cell (j := 0) rfl)) ?_ | refine qtS ?_); go_frame)
    have X : Hid (Tq w2.heap.size mb mb w2 w2.drew) := Tq.of_ext (Ext.refl w2).drew (Nat.le_refl _)
    have z0 : w2.heap.size ≤ w2.drew.heap.size := Nat.le_refl _
    generalize w2.drew = WC at *
    repeat' (first
      | exact seqT_stop
      | (refine seqT_do (i := 6) _ rfl ?_ ?_ (fun K1 hK1 => ?_)
         (· rfl)
         rotate_left
         go_simp
         refine (STP.out _ SR0.out (F0.out _ X.out).2.2).mono ?_
         rintro e0 WD ⟨rfl, ⟨E', s2, e2⟩, t2⟩
         refine hK1.out _ _ (tq_grown t2 z0) ?_
         clear hK1 K1
         (try replace hA := Lib.hid ((t2.block _ (heap_lt hA.out) (fun z => by have := Option.some.inj z; omega)).trans hA.out))
         replace X := Lib.hid (X.out.trans (tq_grown t2 z0))
         have z1 := Nat.le_trans z0 t2.size
         have S2 : Hid (∃ E', SR WD s mb q root ticks E' ∧ E'.length ≤ EE.length + 1) := ⟨E', s2, e2⟩
         clear z0 s2 e2 t2 SR0
         have z0 := z1
         clear z1
         generalize WD = WC at *
         (try go_frame)
         repeat ((first | refine qtR0 ?_ | refine qtS ?_); go_frame)
         skip)
      | (refine seqT_do (i := 10) _ rfl ?_ ?_ (fun K1 hK1 => ?_)
         (· rfl)
         rotate_left
         go_simp
         have e : Ext WC (WC.alloc (Obj.cells ZS.toArray 67)) := (Ext.refl WC).alloc _
         obtain ⟨g14, hg14⟩ : ∃ g, g = WC.heap.size := ⟨_, rfl⟩
         have hA := Lib.hid (heap_alloc_new WC (Obj.cells ZS.toArray 67))
         rw [← hg14] at hA ⊢
         have lg14 : w2.heap.size ≤ g14 := by rw [hg14]; exact z0
         refine hK1.out _ (WC.alloc (Obj.cells ZS.toArray 67)) (Tq.of_ext e z0) ?_
         clear hK1 K1
         replace X := Lib.hid (X.out.trans (Tq.of_ext e z0))
         (try replace SR0 := Lib.hid (SR0.out.ext e))
         (try replace S2 : Hid (∃ E', SR (WC.alloc (Obj.cells ZS.toArray 67)) s mb q root ticks E' ∧ E'.length ≤ EE.length + 1) := (by obtain ⟨E', s2, e2⟩ := S2.out; exact ⟨E', s2.ext e, e2⟩))
         have z1 := Nat.le_trans z0 e.size
         clear z0 e
         have z0 := z1
         clear z1
         replace hg14 := Lib.hid hg14
         generalize WC.alloc (Obj.cells ZS.toArray 67) = WC at *
         (try go_frame)
         repeat ((first | refine qtR0 ?_ | refine qtS ?_); go_frame)
         skip)
      | (refine seqT_do (i := 11) _ rfl ?_ ?_ (fun K1 hK1 => ?_)
         (· rfl)
         rotate_left
         refine wp_store_row _ _ _ rfl g14 RS.toArray rfl rfl 67 ZS.toArray hA.out (by rw [S_R]; rfl) (by rw [S_R, S_Z]) O_R ?_
         refine hK1.out _ _ (Tq.row _ _ lg14) ?_
         clear hK1 K1
         replace X := Lib.hid (X.out.trans (Tq.row WC RS.toArray lg14))
         replace S2 : Hid (∃ E', SR (WC.setRow g14 RS.toArray) s mb q root ticks E' ∧ E'.length ≤ EE.length + 1) := (by obtain ⟨E', s2, e2⟩ := S2.out; exact ⟨E', s2.stay (setRow_other _ _ _ _ (by omega)) (setRow_other _ _ _ _ (by omega)) (setRow_other _ _ _ _ (by omega)), e2⟩)
         replace hA : Hid (Cb (WC.setRow g14 RS.toArray) g14 67 RS) := setRow_heap _ _ _ _ _ _ hA.out
         generalize WC.setRow g14 RS.toArray = WC at *
         (try simp only [Act.put])
         repeat ((first | refine qtR0 ?_ | refine qtS ?_); go_frame)
         skip)
      | (refine seqT_done ?_
         go_wp2_with fail
         go_meet
         exact ⟨g14, rfl, rfl, X.out, S2.out, hA.out, lg14⟩))
  case rest =>
    obtain ⟨g14, rfl, rfl, tq, ⟨E', s3, e3⟩, k14, z14⟩ := hcut
    have gr3 : w2.grownBy wc (some mb) := ⟨tq.1, tq.2.1, tq.2.2.1, tq.2.2.2.1, fun k hk hne => tq.2.2.2.2 k hk (fun z => hne (by rw [z])) (fun z => hne (by rw [z]))⟩
    have lb := (hxH.out.ac j b hfj.out).le
    obtain ⟨ry3, tm3⟩ := hxH.out.told (E' := E') (N' := N + 1) s3 (Nat.le_trans e3 (by have := hxH.out.en; omega)) (Nat.le_succ _) gr3
    have K03 : Hid (Cb wc r 37 ev) := tm3.cb K02.out rfl
    have K23 : Hid (Cb wc (r + 1 + 1) 67 ZS) := tm3.cb K22H.out rfl
    have Bb3 := Bb2.out.tm tm3
    have TM3 : Hid (Tm B tagY w wc) := TM2.out.trans tm3
    have PUT : Hid (Calls Tryd.prog 47 #[.pointer (some ⟨b.bx, 0, none⟩), .agg ev.toArray, .agg RS.toArray] wc.drew fun e w' => e = .returned (.tuple #[.int .i64 (b.last + 1), .int .i64 0]) ∧ (∃ A' c', RY B w' g root ticks (upd (upd f i (some { a with t := t', k := k' })) j (some { b with L := b.L ++ [⟨(mlOf (i : Int) (j : Int) cm pk p n body (mkS root ticks (i : Int) (j : Int) cm now)).as (b.last + 1), A', c'⟩], last := b.last + 1 })) (N + 1)) ∧ TbP (fun k => fresh own wc.drew j k = some j) tagP wc.drew w' ∧ Tm B tagY wc.drew w') := by
      have ryd := ry3.ext (Ext.refl wc).drew
      have hA := ryd.ac j b hfj.out
      have hm : MBP 126 73 (fun k => fresh own wc.drew j k = some j) wc.drew b.bx b.L b.last := hA.mb.mono fun k hk z => (fresh_old hk).trans z
      have hg : fresh own wc.drew j b.bx = some j := (fresh_old hA.mb.lt).trans hA.ob
      have E1 : (⟨mlOf (i : Int) (j : Int) cm pk p n body (mkS root ticks (i : Int) (j : Int) cm now), A, c⟩ : Wm).ev = ev := by
        rw [hev.out ()]
        show evC (i : Int) (j : Int) cm pk p n A body.length c = _
        rw [Bb2.out.1.len]
      have hp := putP_calls (x := ⟨mlOf (i : Int) (j : Int) cm pk p n body (mkS root ticks (i : Int) (j : Int) cm now), A, c⟩) hm MLO.out (by show Bs _ A body.length c body; rw [Bb2.out.1.len]; exact Bb3.1) lb.2.1 (by have := lb.2.2; omega) hA.le.1 (fun k hk => fresh_new hk) hg
      have pe : pbE (mlOf (i : Int) (j : Int) cm pk p n body (mkS root ticks (i : Int) (j : Int) cm now)) b.L.length = 0 := by unfold pbE; rw [OKM.out, if_pos rfl, if_pos hL]
      rw [E1, WMS.out] at hp
      refine hp.mono ?_
      rintro e w' ⟨rfl, ⟨A', c', m'⟩, x⟩
      unfold pbL pbM at m'
      rw [pe, if_pos rfl, if_pos rfl] at m'
      have := ryd.boxed hfj.out j8 (Nat.le_trans hB TM3.out.size) (Nat.le_refl (N + 1)) m' ⟨by rw [List.length_append]; simp; omega, by omega, by have := lb.2.2; omega⟩ x
      refine ⟨?_, ⟨A', c', ⟨s, mb, q, _, E', this.1⟩⟩, x, this.2⟩
      unfold pbI
      rw [pe, if_pos rfl]
    have F1 : Hid (∀ u, TbP (fun k => fresh own wc.drew j k = some j) tagP wc.drew u → u.cell? ⟨g, 1 + j * 134 + 131, none⟩ = some (.pointer (some ⟨b.bx, 0, none⟩)) ∧ Cb u r 37 ev ∧ Cb u g14 67 RS ∧ Cb u (r + 1 + 1) 67 ZS) := fun u x => by
      have hc' : Cb u g 86 (rC s (upd f i (some { a with t := t', k := k' }))) := x.2.2.2.2 _ _ (show wc.drew.heap[g]? = some _ from ry3.cb) (.inr rfl)
      refine ⟨hc'.cell (rC_cell ry3.fok j8 (by rw [hfj.out]; exact (b.a0 (ry3.fok j b hfj.out)).2.2.1)), x.2.2.2.2 _ _ (show wc.drew.heap[r]? = some _ from K03.out) (.inr rfl), x.2.2.2.2 _ _ (show wc.drew.heap[g14]? = some _ from k14) (.inr rfl), x.2.2.2.2 _ _ (show wc.drew.heap[r + 1 + 1]? = some _ from K23.out) (.inr rfl)⟩
    have TM3d : Hid (Tm B tagY w wc.drew) := TM3.out.drew
    have wle : w.heap.size ≤ r + 1 + 1 := by omega
    have d0 := wc.drew
    clear hxH K22H K02 Bb2 Bb3 TM2 TM3 ry3 tm3 gr3 tq s3 e3 K03 K23 k14 STP MLO OKM WMS F0 SR0 r2 lb hfj slt qlt mblt d0
    go_upto_region 10 with fail
    refine qgR (R := (TbP (fun k => fresh own wc.drew j k = some j) tagP)) (TbP.refl _ _) (fun _ _ _ => TbP.trans) [0, 1, 2, 3, 4, 5, 6, 7, 8, 9, 10, 11] [6] ?_
    generalize wc.drew = V at *
    repeat ((first | refine qR _ (fun w' e => (F1.out w' e).1) ?_ | refine qS ?_); go_frame)
    refine qV rfl (fun w' => w'.heap[r]? = some (.cells ev.toArray 37 (0, 0))) (fun w' e => (F1.out w' e).2.1) (.agg ev.toArray) (fun w' hF => exec_load_row rfl rfl hF rfl rfl (by rw [S_ev]; rfl)) ?_
    go_frame
    refine qV rfl (fun w' => w'.heap[g14]? = some (.cells RS.toArray 67 (0, 0))) (fun w' e => (F1.out w' e).2.2.1) (.agg RS.toArray) (fun w' hF => exec_load_row rfl rfl hF rfl rfl (by rw [S_R]; rfl)) ?_
    go_frame
    refine qD fun K_ hK => ?_
    go_simp
    refine PUT.out.mono ?_
    rintro e w5 ⟨rfl, ⟨A', c', r5⟩, x5, t5⟩
    refine hK.out _ _ x5 ?_
    clear hK K_
    try go_frame
    repeat ((first | refine qR0 ?_ | refine qS ?_); go_frame)
    refine seq_done ?_
    obtain ⟨_, _, k14, k2⟩ := F1.out w5 x5
    have TM5 := TM3d.out.trans t5
    have rr := r5.row k2 (C := RS.toArray) (by decide) TM5 wle
    have FIN := Lib.hid (fun e he => RES1.out e _ RS A' c' (hRS.out ()) he rr.1 rr.2)
    clear F1 PUT x5 t5 r5 rr TM5 TM3d RES1
    go_wp2_with (first
      | ((with_reducible refine wpList_load_rowW (o := ⟨some 68, _, _, _, _, _⟩) ?_ 67 _ rfl g14 ?_ 67 RS.toArray (0, 0) _ ?_ Tryd.underlying67 ?_ ?_ ?_); (· rfl); (· rfl); (· exact k14); (· rfl); (· rw [S_R]; rfl); go_frame)
      | (refine wpList_store_row rfl 67 _ _ rfl (r + 1 + 1) RS.toArray rfl rfl 67 ZS.toArray k2 (by rw [S_R]; rfl) (by rw [S_R, S_Z]) O_R ?_; simp only [Act.put]))
    (try simp only [Exit.inBlock, Exit.then])
    refine bodyPost_ret (results_row_tmp rfl _ _ (r + 1 + 1) 67 RS.toArray (0, 0) _ _ rfl rfl (setRow_heap _ _ _ _ _ _ k2) rfl rfl (by rw [S_R]; rfl)) rfl ?_
    exact FIN.out _ rfl
end
end Go.Proofs.YtbnjmmefnjoofaaDoor
