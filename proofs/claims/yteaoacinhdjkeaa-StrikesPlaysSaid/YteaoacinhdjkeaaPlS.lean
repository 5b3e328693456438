/-
  The ledger and the document's, side by side.
-/
import Derived.Test.YteaoacinhdjkeaaRs23d
import Derived.Test.YteaoacinhdjkeaaHs23
namespace Go.Proofs.Yteaoacinhdjkeaa
open Go.ChangeShapes Go.WideShapes Go.ChangeAt Go.RowKit Go.Deep Go.Maps
set_option maxRecDepth 100000

/-- Where the document's strikes lie. -/
def Rw23 (R R' : Nat → Prop) (lo : Nat) (W : World) (i : Nat) : Prop := R i ∧ R' i ∧ lo ≤ i ∧ i < W.heap.size
/-- The law's own variables stay. -/
def Ko (W W' : World) : Prop := W'.os = W.os ∧ W'.tape = W.tape ∧ W'.output = W.output ∧ W.heap.size ≤ W'.heap.size ∧ ∀ (i : Nat) (C : List Value), Cb W i 66 C → Cb W' i 66 C
theorem Ko.trans {a b c : World} (h : Ko a b) (k : Ko b c) : Ko a c := ⟨k.1.trans h.1, k.2.1.trans h.2.1, k.2.2.1.trans h.2.2.1, Nat.le_trans h.2.2.2.1 k.2.2.2.1, fun i C q => k.2.2.2.2 i C (h.2.2.2.2 i C q)⟩
theorem Ko.of_ext {a b : World} (x : Ext a b) : Ko a b := ⟨x.os, x.tape, x.output, x.size, fun _ _ q => q.ext x⟩
theorem Ko.of_kt {r : Nat} {a b : World} {C' : List Value} (k : Kt r a b) (hr : Cb a r 45 C') : Ko a b :=
  ⟨k.1, k.2.1, k.2.2.1, k.2.2.2.1, fun i C q => k.2.2.2.2 i _ C q (fun e => cb_differ q hr (by decide) e) (by decide) (by decide) (by decide) (by decide) (by decide) (by decide) (by decide)⟩
theorem Ko.ot {a b : World} (h : Ko a b) {i : Nat} {C : List Value} (q : Cb a i 66 C) : Ot (fun j => j ≠ i) a b := ⟨h.1, h.2.1, h.2.2.1, h.2.2.2.1, fun j _ hn => by
  obtain rfl : j = i := Classical.not_not.1 hn
  exact (h.2.2.2.2 _ _ q).trans q.symm⟩
theorem cb_arr {w : World} {i : Nat} {cs : Array Value} {t : TypeId} (h : w.heap[i]? = some (.cells cs t (0, 0))) : Cb w i t cs.toList := by unfold Cb; rw [Array.toArray_toList]; exact h
theorem RL.kt {lo : Nat → Prop} {w w' : World} {rg g r : Nat} {K : List Sk} {C' : List Value} (h : RL lo w rg g K) (k : Kt r w w') (hr : Cb w r 45 C') : RL lo w' rg g K := by
  have h0 := h
  obtain ⟨A, n, c, h1, _⟩ := h
  refine h0.keep ((k.2.2.2.2 _ _ _ h1 (fun e => cb_differ h1 hr (by decide) e) (by decide) (by decide) (by decide) (by decide) (by decide) (by decide) (by decide)).trans h1.symm) fun i cs q => ?_
  have := k.2.2.2.2 _ _ _ (cb_arr q) (fun e => cb_differ (cb_arr q) hr (by decide) e) (by decide) (by decide) (by decide) (by decide) (by decide) (by decide) (by decide)
  unfold Cb at this
  rwa [Array.toArray_toList] at this
structure PPx (w W : World) (g dg r lg rg g' dg' r' m' i' : Nat) (d : Ds) (L : List (List UInt8)) (K : List Sk) (d' : Ds) (L' : List (List UInt8)) (K' : List Sk) (mb lb B : Nat) (R : Nat → Prop) (D : Option Addr) (c : Nat) (B' : Nat) (R' : Nat → Prop) (D' : Option Addr) (c' : Nat) (X : List (List UInt8)) : Prop where
  pj : PJ w W g dg r g' dg' r' m' i' d L d' L' mb B R D c B' R' D' c' X
  le : LG W lg g lb K
  nb : lb ≠ mb
  wl : w.heap.size ≤ lg
  wb : w.heap.size ≤ lb
  rl : RL (Rw23 R R' w.heap.size W) W rg g' K'
  wg : w.heap.size ≤ rg
def PP (w W : World) (g dg r lg rg g' dg' r' m' i' : Nat) (d : Ds) (L : List (List UInt8)) (K : List Sk) (d' : Ds) (L' : List (List UInt8)) (K' : List Sk) : Prop :=
  ∃ mb lb B R D c B' R' D' c' X, PPx w W g dg r lg rg g' dg' r' m' i' d L K d' L' K' mb lb B R D c B' R' D' c' X
section
variable {w W W' : World} {g dg r lg rg g' dg' r' m' i' : Nat} {d : Ds} {L : List (List UInt8)} {K : List Sk} {d' : Ds} {L' : List (List UInt8)} {K' : List Sk} {mb lb B : Nat} {R : Nat → Prop} {D : Option Addr} {c B' : Nat} {R' : Nat → Prop} {D' : Option Addr} {c' : Nat} {X : List (List UInt8)}
theorem PPx.ext (h : PPx w W g dg r lg rg g' dg' r' m' i' d L K d' L' K' mb lb B R D c B' R' D' c' X) (x : Ext W W') : PPx w W' g dg r lg rg g' dg' r' m' i' d L K d' L' K' mb lb B R D c B' R' D' c' X :=
  ⟨h.pj.ext x, h.le.ext x, h.nb, h.wl, h.wb, (h.rl.ext x).sub fun i q => ⟨q.1, q.2.1, q.2.2.1, Nat.lt_of_lt_of_le q.2.2.2 x.size⟩, h.wg⟩
theorem PP.ext (h : PP w W g dg r lg rg g' dg' r' m' i' d L K d' L' K') (x : Ext W W') : PP w W' g dg r lg rg g' dg' r' m' i' d L K d' L' K' := by
  obtain ⟨a1, a2, a3, a4, a5, a6, a7, a8, a9, a10, a11, h⟩ := h
  exact ⟨a1, a2, a3, a4, a5, a6, a7, a8, a9, a10, a11, h.ext x⟩
theorem PPx.sn (h : PPx w W g dg r lg rg g' dg' r' m' i' d L K d' L' K' mb lb B R D c B' R' D' c' X) : SN w W lg g dg r mb lb d B R D c L K := ⟨h.pj.jn, h.le, h.nb, h.wl, h.wb⟩
theorem PPx.kt (h : PPx w W g dg r lg rg g' dg' r' m' i' d L K d' L' K' mb lb B R D c B' R' D' c' X) (k : Ot (Pl23 g dg r mb lb (Value.ownBlock (.slice D L.length c))) W W') : Kt r W W' := by
  have gC := h.pj.jn.jk.1
  have ow := h.pj.jn.jk.2.1
  obtain ⟨es, cl, hmp⟩ := h.pj.jn.dk.mp.obj
  obtain ⟨es2, cl2, hmp2⟩ := h.le.mp.obj
  refine ⟨k.1, k.2.1, k.2.2.1, k.2.2.2.1, fun i t C q n0 n1 n2 n3 _ _ _ _ => k.block q fun p => ?_⟩
  rcases p with (p | p | p | p | p) | p
  · subst p; exact cb_differ q h.pj.jn.dk.cb n1 rfl
  · exact n0 p
  · subst p; unfold Cb at q; rw [hmp] at q; cases q
  · subst p; exact cb_differ q gC n2 rfl
  · exact ow.ne_of q n3 p
  · subst p; unfold Cb at q; rw [hmp2] at q; cases q
/-- Behind a call of the program's ledger, journal or disk. -/
theorem PPx.prog (h : PPx w W g dg r lg rg g' dg' r' m' i' d L K d' L' K' mb lb B R D c B' R' D' c' X) {mb2 : Nat} {d2 : Ds} {D2 : Option Addr} {c2 : Nat} {L2 : List (List UInt8)} {K2 : List Sk} (sn : SN w W' lg g dg r mb2 lb d2 B R D2 c2 L2 K2) (k : Ot (Pl23 g dg r mb lb (Value.ownBlock (.slice D L.length c))) W W')
    (ho : Value.ownBlock (.slice D2 L2.length c2) = Value.ownBlock (.slice D L.length c) ∨ ∃ i, Value.ownBlock (.slice D2 L2.length c2) = some i ∧ W.heap.size ≤ i) : PP w W' g dg r lg rg g' dg' r' m' i' d2 L2 K2 d' L' K' ∧ Ko W W' := by
  have kt := h.kt k
  have P := h.pj
  obtain ⟨es, cl, hmp⟩ := P.jn.dk.mp.obj
  obtain ⟨es2, cl2, hmp2⟩ := h.le.mp.obj
  have mo : ∀ cs t f, Obj.map es cl ≠ .cells cs t f := fun _ _ _ q => by cases q
  have mo2 : ∀ cs t f, Obj.map es2 cl2 ≠ .cells cs t f := fun _ _ _ q => by cases q
  have nob : ∀ {t : TypeId} {C : List Value}, Cb W lb t C → False := fun {t C} k => by
    unfold Cb at k
    rw [hmp2] at k
    cases k
  have ap : ∀ i, Pl23 g dg r mb lb (Value.ownBlock (.slice D L.length c)) i → ¬ (Rp dg' r' m' i' i ∨ i = g') := fun i p q => by
    rcases p with p | p
    · exact P.apart i p q
    · subst p
      rcases q with (q | q | q | q) | q
      · subst q; exact nob P.rd.cb
      · subst q; exact nob P.rd.sr
      · subst q; exact nob P.rd.nr
      · subst q; exact nob P.rd.ir
      · subst q; exact nob P.rs.1
  have st : ∀ i, i < W.heap.size → (Rp dg' r' m' i' i ∨ i = g') → W'.heap[i]? = W.heap[i]? := fun i hi q => k.same hi fun p => ap i p q
  have lt2 : ∀ i, Value.ownBlock (.slice D2 L2.length c2) = some i → i < W'.heap.size := fun i q => (sn.jn.jk.2.1.ge i q).2
  have oa := P.rs.2.1.apart P.jn
  have o2 : OwnS B' (fun i => R' i ∨ (W.heap.size ≤ i ∧ i < W'.heap.size)) W D' L'.length c' L' := P.rs.2.1.forbid fun i hi q => q.elim id fun z => by omega
  have o' : OwnS B' (fun i => R' i ∨ (W.heap.size ≤ i ∧ i < W'.heap.size)) W' D' L'.length c' L' := by
    refine o2.ot k (fun i q q2 => ?_) ?_
    · obtain ⟨a0, a1, a2, a3⟩ := oa i q2
      rcases q with (q | q | q | q | q) | q
      · exact a1 q
      · exact a2 q
      · exact a3 q
      · exact a0 q
      · exact P.ne i q2 q
      · subst q; exact P.rs.2.1.ne_obj hmp2 mo2 q2
    · rintro i ((q | q | q | q | q) | q)
      · subst q; exact .inr P.jn.dk.no_u8
      · subst q; exact .inl (.inl P.Q1)
      · subst q; exact .inr fun j x => no_cell hmp mo j _
      · subst q; exact .inr (cb_no_u8 P.jn.jk.1 (fun x q => by simp at q))
      · exact .inl (.inl (P.Q4 i q))
      · subst q; exact .inr fun j x => no_cell hmp2 mo2 j _
  have rl := h.rl.kt kt P.jn.dk.row
  refine ⟨⟨mb2, lb, B, R, D2, c2, B', fun i => R' i ∨ (W.heap.size ≤ i ∧ i < W'.heap.size), D', c', X, ⟨sn.jn, P.rd.stay (st _ P.rd.cb.lt (.inl (.inl rfl))) (st _ P.rd.sr.lt (.inl (.inr (.inl rfl)))) (st _ P.rd.nr.lt (.inl (.inr (.inr (.inl rfl))))) (st _ P.rd.ir.lt (.inl (.inr (.inr (.inr rfl))))), ⟨(st _ P.rs.1.lt (.inr rfl)).trans P.rs.1, o', P.rs.2.2⟩, P.R1, P.R2, .inl P.Q1, .inl P.Q2, .inl P.Q3, fun i q => ?_, fun i q => ?_, fun i q q2 => ?_, P.l1, P.l2, P.l3, P.l4, P.l5⟩, sn.le, sn.nb, h.wl, h.wb, rl.sub fun i q => ⟨q.1, .inl q.2.1, q.2.2.1, Nat.lt_of_lt_of_le q.2.2.2 k.size⟩, h.wg⟩, Ko.of_kt kt P.jn.dk.row⟩
  · rcases ho with e | ⟨z, e, hz⟩
    · exact .inl (P.Q4 i (by rw [← e]; exact q))
    · refine .inr ⟨?_, lt2 i q⟩
      rw [e] at q
      have := Option.some.inj q
      omega
  · rcases q with q | q
    · exact Nat.lt_of_lt_of_le (P.Q5 i q) k.size
    · exact q.2
  · rcases ho with e | ⟨z, e, hz⟩
    · exact P.ne i q (by rw [← e]; exact q2)
    · rw [e] at q2
      have := Option.some.inj q2
      have := (P.rs.2.1.ge i q).2
      omega
/-- Behind a call of the document's journal or disk. -/
theorem PPx.ref (h : PPx w W g dg r lg rg g' dg' r' m' i' d L K d' L' K' mb lb B R D c B' R' D' c' X) {d2 : Ds} {D2 : Option Addr} {c2 : Nat} {L2 : List (List UInt8)} {X2 : List (List UInt8)} (rd : RD W' dg' r' m' i' d2 X2) (rs : RS B' R' W' g' dg' D2 c2 L2) (k : Ot (fun i => Rp dg' r' m' i' i ∨ i = g') W W')
    (ho : Value.ownBlock (.slice D2 L2.length c2) = Value.ownBlock (.slice D' L'.length c') ∨ ∃ i, Value.ownBlock (.slice D2 L2.length c2) = some i ∧ W.heap.size ≤ i) : PP w W' g dg r lg rg g' dg' r' m' i' d L K d2 L2 K' ∧ Ko W W' := by
  have P := h.pj
  have ap := P.apart
  have kt := P.ktR k
  have jk := P.jn.jk
  have l5 := P.l5
  have l6 := P.rs.2.2
  have dk := P.jn.dk
  have rl := h.rl.kt kt dk.row
  obtain ⟨es2, cl2, hmp2⟩ := h.le.mp.obj
  have nob : ∀ {t : TypeId} {C : List Value}, Cb W lb t C → False := fun {t C} k => by
    unfold Cb at k
    rw [hmp2] at k
    cases k
  have nlb : ¬ (Rp dg' r' m' i' lb ∨ lb = g') := fun q => by
    rcases q with (q | q | q | q) | q
    · exact nob (q ▸ P.rd.cb)
    · exact nob (q ▸ P.rd.sr)
    · exact nob (q ▸ P.rd.nr)
    · exact nob (q ▸ P.rd.ir)
    · exact nob (q ▸ P.rs.1)
  have nlg : ¬ (Rp dg' r' m' i' lg ∨ lg = g') := fun q => by
    rcases q with (q | q | q | q) | q
    · exact cb_differ h.le.cb P.rd.cb (by decide) q
    · exact cb_differ h.le.cb P.rd.sr (by decide) q
    · exact cb_differ h.le.cb P.rd.nr (by decide) q
    · exact cb_differ h.le.cb P.rd.ir (by decide) q
    · exact cb_differ h.le.cb P.rs.1 (by decide) q
  refine ⟨⟨mb, lb, B, R, D, c, B', R', D2, c2, X2, ⟨⟨jk.ot k (fun q => ap g (.inr (.inr (.inr (.inl rfl)))) q) (fun i q q2 => ap i (.inr (.inr (.inr (.inr q2)))) q) (fun i q => ?_), ?_, P.jn.rR, fun i q => Nat.lt_of_lt_of_le (P.jn.rw i q) k.size, P.jn.wB, P.jn.wd, P.jn.wr, P.jn.wm, Ot.ext P.jn.ex k fun i q => ?_⟩, rd, rs, P.R1, P.R2, P.Q1, P.Q2, P.Q3, P.Q4, fun i q => Nat.lt_of_lt_of_le (P.Q5 i q) k.size, fun i q q2 => ?_, P.l1, P.l2, P.l3, P.l4, P.l5⟩, h.le.stay (k.same h.le.cb.lt nlg) (k.same h.le.mp.lt nlb), h.nb, h.wl, h.wb, rl.sub fun i q => ⟨q.1, q.2.1, q.2.2.1, Nat.lt_of_lt_of_le q.2.2.2 k.size⟩, h.wg⟩, Ko.of_kt kt dk.row⟩
  · rcases q with (q | q | q | q) | q
    · subst q; exact .inr P.rd.no1
    · subst q; exact .inl P.R1
    · subst q; exact .inl P.R2
    · subst q; exact .inr P.rd.no2
    · subst q; exact .inr (cb_no_u8 P.rs.1 (fun x q => by simp at q))
  · exact dk.stay (k.same dk.cb.lt fun q => ap _ (.inl rfl) q) (k.same dk.row.lt fun q => ap _ (.inr (.inl rfl)) q) (k.same dk.mp.lt fun q => ap _ (.inr (.inr (.inl rfl))) q)
  · have a1 := P.l1
    have a2 := P.l2
    have a3 := P.l3
    have a4 := P.l4
    rcases q with (q | q | q | q) | q <;> omega
  · rcases ho with e | ⟨z, e, hz⟩
    · exact P.ne i (by rw [← e]; exact q) q2
    · rw [e] at q
      have := Option.some.inj q
      have := (jk.2.1.ge i q2).2
      omega
/-- Behind a call of the document's ledger. -/
theorem PPx.led (h : PPx w W g dg r lg rg g' dg' r' m' i' d L K d' L' K' mb lb B R D c B' R' D' c' X) {K2 : List Sk} (rl : RL (fun i => Rw23 R R' w.heap.size W i ∨ W.heap.size ≤ i) W' rg g' K2) (k : Ot (Tk23 (Rw23 R R' w.heap.size W) W rg) W W') : PP w W' g dg r lg rg g' dg' r' m' i' d L K d' L' K2 ∧ Ko W W' := by
  have P := h.pj
  have jk := P.jn.jk
  have dk := P.jn.dk
  obtain ⟨es, cl, hmp⟩ := dk.mp.obj
  obtain ⟨es2, cl2, hmp2⟩ := h.le.mp.obj
  obtain ⟨A0, n0, c0, hcb, _⟩ := h.rl
  have ty : ∀ i, Tk23 (Rw23 R R' w.heap.size W) W rg i → ∃ t C, Cb W i t C ∧ (t = 114 ∨ t = 128) := fun i q => by
    rcases q with q | ⟨_, cs, q⟩
    · subst q; exact ⟨_, _, hcb, .inl rfl⟩
    · exact ⟨_, _, cb_arr q, .inr rfl⟩
  have nt : ∀ {i : Nat} {t : TypeId} {C : List Value}, Cb W i t C → t ≠ 114 → t ≠ 128 → ¬ Tk23 (Rw23 R R' w.heap.size W) W rg i := fun {i t C} q n1 n2 p => by
    obtain ⟨t', C', q', e⟩ := ty i p
    rcases e with rfl | rfl
    · exact cb_differ q q' n1 rfl
    · exact cb_differ q q' n2 rfl
  have nm : ∀ {i : Nat} {es cl}, W.heap[i]? = some (Obj.map es cl) → ¬ Tk23 (Rw23 R R' w.heap.size W) W rg i := fun {i es cl} q p => by
    obtain ⟨t', C', q', _⟩ := ty i p
    unfold Cb at q'
    rw [q] at q'
    cases q'
  have ow : ∀ {B : Nat} {R : Nat → Prop} {D : Option Addr} {n c : Nat} {l : List (List UInt8)}, OwnS B R W D n c l → ∀ i, Tk23 (Rw23 R R' w.heap.size W) W rg i → True := fun _ _ _ => trivial
  clear ow
  have own : ∀ {B : Nat} {Rx : Nat → Prop} {D : Option Addr} {n c : Nat} {l : List (List UInt8)}, OwnS B Rx W D n c l → ∀ i, Tk23 (Rw23 R R' w.heap.size W) W rg i → Value.ownBlock (.slice D n c) ≠ some i := fun {B Rx D n c l} o i p => by
    obtain ⟨t', C', q', e⟩ := ty i p
    exact o.ne_of q' (by rcases e with rfl | rfl <;> decide)
  have u8 : ∀ {Rx : Nat → Prop}, (∀ i, Rw23 R R' w.heap.size W i → Rx i) → ∀ i, Tk23 (Rw23 R R' w.heap.size W) W rg i → Rx i ∨ ∀ (j : Nat) (x : Int), W.cell? ⟨i, j, none⟩ ≠ some (.int .u8 x) := fun {Rx} hR i p => by
    rcases p with q | ⟨q, _⟩
    · subst q; exact .inr (cb_no_u8 hcb (fun x q => by simp at q))
    · exact .inl (hR i q)
  have sz := k.size
  refine ⟨⟨mb, lb, B, fun i => R i ∨ (W.heap.size ≤ i ∧ i < W'.heap.size), D, c, B', fun i => R' i ∨ (W.heap.size ≤ i ∧ i < W'.heap.size), D', c', X, ⟨⟨(jk.forbid (R' := fun i => R i ∨ (W.heap.size ≤ i ∧ i < W'.heap.size)) fun i hi q => q.elim id fun z => by omega).ot k (nt jk.1 (by decide) (by decide)) (own jk.2.1) (u8 fun i q => .inl q.1), dk.stay (k.same dk.cb.lt (nt dk.cb (by decide) (by decide))) (k.same dk.row.lt (nt dk.row (by decide) (by decide))) (k.same dk.mp.lt (nm hmp)), .inl P.jn.rR, fun i q => ?_, P.jn.wB, P.jn.wd, P.jn.wr, P.jn.wm, Ot.ext P.jn.ex k fun i q => ?_⟩, P.rd.stay (k.same P.rd.cb.lt (nt P.rd.cb (by decide) (by decide))) (k.same P.rd.sr.lt (nt P.rd.sr (by decide) (by decide))) (k.same P.rd.nr.lt (nt P.rd.nr (by decide) (by decide))) (k.same P.rd.ir.lt (nt P.rd.ir (by decide) (by decide))), ⟨k.block P.rs.1 (nt P.rs.1 (by decide) (by decide)), (P.rs.2.1.forbid (R' := fun i => R' i ∨ (W.heap.size ≤ i ∧ i < W'.heap.size)) fun i hi q => q.elim id fun z => by omega).ot k (own P.rs.2.1) (u8 fun i q => .inl q.2.1), P.rs.2.2⟩, .inl P.R1, .inl P.R2, .inl P.Q1, .inl P.Q2, .inl P.Q3, fun i q => .inl (P.Q4 i q), fun i q => ?_, P.ne, P.l1, P.l2, P.l3, P.l4, P.l5⟩, h.le.stay (k.same h.le.cb.lt (nt h.le.cb (by decide) (by decide))) (k.same h.le.mp.lt (nm hmp2)), h.nb, h.wl, h.wb, ?_, h.wg⟩, ⟨k.1, k.2.1, k.2.2.1, k.2.2.2.1, fun i C q => k.block q (nt q (by decide) (by decide))⟩⟩
  · rcases q with q | q
    · exact Nat.lt_of_lt_of_le (P.jn.rw i q) sz
    · exact q.2
  · rcases q with q | ⟨q, _⟩
    · rw [q]; exact h.wg
    · exact q.2.2.1
  · rcases q with q | q
    · exact Nat.lt_of_lt_of_le (P.Q5 i q) sz
    · exact q.2
  · obtain ⟨A, n, c2, e1, e2, e3⟩ := rl
    have ws := P.jn.ex.size
    refine ⟨A, n, c2, e1, e2, fun h0 q hq => ?_⟩
    obtain ⟨z1, cs, z2⟩ := e3 h0 q hq
    have lt := heap_lt z2
    refine ⟨?_, cs, z2⟩
    rcases z1 with z1 | z1
    · exact ⟨.inl z1.1, .inl z1.2.1, z1.2.2.1, lt⟩
    · exact ⟨.inr ⟨z1, lt⟩, .inr ⟨z1, lt⟩, by omega, lt⟩
end
end Go.Proofs.Yteaoacinhdjkeaa
