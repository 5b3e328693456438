import Derived.Test.YteaoacinhdjkeaaPkD
import Derived.Test.YteaoacinhdjkeaaRdC
import Derived.Test.YteaoacinhdjkeaaDkC
import Derived.Test.YteaoacinhdjkeaaSh22
/-
  The journal and the document's, side by side.
-/
namespace Go.Proofs.Yteaoacinhdjkeaa
open Go.ChangeShapes Go.WideShapes Go.ChangeAt Go.RowKit Go.Deep Go.Maps
set_option maxRecDepth 100000

theorem cb_no_u8 {w : World} {g : Nat} {t : TypeId} {C : List Value} (h : Cb w g t C) (hC : ∀ x : Int, Value.int .u8 x ∉ C) (j : Nat) (x : Int) : w.cell? ⟨g, j, none⟩ ≠ some (.int .u8 x) := by
  unfold Cb at h
  simp only [World.cell?, h]
  intro q
  have q : C[j]? = some (.int .u8 x) := by simpa using q
  exact hC x (List.mem_of_getElem? q)
section
variable {w w' : World} {g r m i : Nat} {d : Ds} {X : List (List UInt8)}
theorem RD.no1 (h : RD w g r m i d X) (j : Nat) (x : Int) : w.cell? ⟨g, j, none⟩ ≠ some (.int .u8 x) := cb_no_u8 h.cb (fun x q => by simp [Ds.rcells] at q) j x
theorem RD.no2 (h : RD w g r m i d X) (j : Nat) (x : Int) : w.cell? ⟨i, j, none⟩ ≠ some (.int .u8 x) := cb_no_u8 h.ir (fun x q => by simp [Ds.isC] at q) j x
end
/-- The journal (d, L), and the document's (d', L'). -/
structure PJ (w W : World) (g dg r g' dg' r' m' i' : Nat) (d : Ds) (L : List (List UInt8)) (d' : Ds) (L' : List (List UInt8)) (mb B : Nat) (R : Nat → Prop) (D : Option Addr) (c : Nat) (B' : Nat) (R' : Nat → Prop) (D' : Option Addr) (c' : Nat) (X : List (List UInt8)) : Prop where
  jn : JN w W g dg r mb d B R D c L
  rd : RD W dg' r' m' i' d' X
  rs : RS B' R' W g' dg' D' c' L'
  R1 : R r'
  R2 : R m'
  Q1 : R' r
  Q2 : R' r'
  Q3 : R' m'
  Q4 : ∀ i, Value.ownBlock (.slice D L.length c) = some i → R' i
  Q5 : ∀ i, R' i → i < W.heap.size
  ne : ∀ i, Value.ownBlock (.slice D' L'.length c') = some i → Value.ownBlock (.slice D L.length c) ≠ some i
  l1 : w.heap.size ≤ dg'
  l2 : w.heap.size ≤ r'
  l3 : w.heap.size ≤ m'
  l4 : w.heap.size ≤ i'
  l5 : w.heap.size ≤ B'
def PJs (w W : World) (g dg r g' dg' r' m' i' : Nat) (d : Ds) (L : List (List UInt8)) (d' : Ds) (L' : List (List UInt8)) : Prop :=
  ∃ mb B R D c B' R' D' c' X, PJ w W g dg r g' dg' r' m' i' d L d' L' mb B R D c B' R' D' c' X
/-- What stays of other types. -/
def Kt (r : Nat) (W W' : World) : Prop := W'.os = W.os ∧ W'.tape = W.tape ∧ W'.output = W.output ∧ W.heap.size ≤ W'.heap.size ∧
  ∀ (i : Nat) (t : TypeId) (C : List Value), Cb W i t C → i ≠ r → t ≠ 86 → t ≠ 91 → t ≠ 37 → t ≠ 89 → t ≠ 48 → t ≠ 4 → t ≠ 53 → Cb W' i t C
theorem Kt.trans {r : Nat} {a b c : World} (h : Kt r a b) (k : Kt r b c) : Kt r a c := ⟨k.1.trans h.1, k.2.1.trans h.2.1, k.2.2.1.trans h.2.2.1, Nat.le_trans h.2.2.2.1 k.2.2.2.1, fun i t C q n0 n1 n2 n3 n4 n5 n6 n7 => k.2.2.2.2 i t C (h.2.2.2.2 i t C q n0 n1 n2 n3 n4 n5 n6 n7) n0 n1 n2 n3 n4 n5 n6 n7⟩
theorem Kt.of_ext {r : Nat} {a b : World} (x : Ext a b) : Kt r a b := ⟨x.os, x.tape, x.output, x.size, fun i t C q _ _ _ _ _ _ _ _ => q.ext x⟩
/-- Just what is kept is asked for. -/
theorem Kt.ot {p : Nat → Prop} {r : Nat} {a b : World} (h : Kt r a b) (hp : ∀ i, i < a.heap.size → ¬ p i → ∃ t C, Cb a i t C ∧ i ≠ r ∧ t ≠ 86 ∧ t ≠ 91 ∧ t ≠ 37 ∧ t ≠ 89 ∧ t ≠ 48 ∧ t ≠ 4 ∧ t ≠ 53) : Ot p a b :=
  ⟨h.1, h.2.1, h.2.2.1, h.2.2.2.1, fun i hi hn => by
    obtain ⟨t, C, q, n0, n1, n2, n3, n4, n5, n6, n7⟩ := hp i hi hn
    exact (h.2.2.2.2 i t C q n0 n1 n2 n3 n4 n5 n6 n7).trans q.symm⟩
section
variable {w W W' : World} {g dg r g' dg' r' m' i' : Nat} {d : Ds} {L : List (List UInt8)} {d' : Ds} {L' : List (List UInt8)} {mb B : Nat} {R : Nat → Prop} {D : Option Addr} {c B' : Nat} {R' : Nat → Prop} {D' : Option Addr} {c' : Nat} {X : List (List UInt8)}
theorem PJ.ext (h : PJ w W g dg r g' dg' r' m' i' d L d' L' mb B R D c B' R' D' c' X) (x : Ext W W') : PJ w W' g dg r g' dg' r' m' i' d L d' L' mb B R D c B' R' D' c' X :=
  ⟨h.jn.ext x, h.rd.ext x, h.rs.ext x, h.R1, h.R2, h.Q1, h.Q2, h.Q3, h.Q4, fun i q => Nat.lt_of_lt_of_le (h.Q5 i q) x.size, h.ne, h.l1, h.l2, h.l3, h.l4, h.l5⟩
theorem PJs.ext (h : PJs w W g dg r g' dg' r' m' i' d L d' L') (x : Ext W W') : PJs w W' g dg r g' dg' r' m' i' d L d' L' := by
  obtain ⟨a1, a2, a3, a4, a5, a6, a7, a8, a9, a10, h⟩ := h
  exact ⟨a1, a2, a3, a4, a5, a6, a7, a8, a9, a10, h.ext x⟩
theorem PJs.ex (h : PJs w W g dg r g' dg' r' m' i' d L d' L') : Ext w W := by
  obtain ⟨a1, a2, a3, a4, a5, a6, a7, a8, a9, a10, h⟩ := h
  exact h.jn.ex
/-- The document's blocks are none of the journal's. -/
theorem PJ.apart (h : PJ w W g dg r g' dg' r' m' i' d L d' L' mb B R D c B' R' D' c' X) : ∀ i, Pj22 g dg r mb (Value.ownBlock (.slice D L.length c)) i → ¬ (Rp dg' r' m' i' i ∨ i = g') := by
  obtain ⟨⟨a1, a2, a3⟩, ⟨b1, b2, b3⟩, ⟨c1, c2, c3⟩, ⟨d1, d2, d3⟩⟩ := h.jn.dk.apart h.rd
  have gC := h.jn.jk.1
  have rC := h.rs.1
  have ow := h.jn.jk.2.1
  obtain ⟨es, cl, hmp⟩ := h.jn.dk.mp.obj
  rintro i p q
  have key : ∀ {t : TypeId} {C : List Value}, Cb W i t C → t ≠ 86 → t ≠ 45 → t ≠ 91 → t ≠ 37 → False := by
    intro t C k n1 n2 n3 n4
    rcases p with p | p | p | p | p
    · subst p; exact cb_differ k h.jn.dk.cb n1 rfl
    · subst p; exact cb_differ k h.jn.dk.row n2 rfl
    · subst p; unfold Cb at k; rw [hmp] at k; cases k
    · subst p; exact cb_differ k gC n3 rfl
    · exact ow.ne_of k n4 p
  rcases q with (q | q | q | q) | q
  · subst q; exact key h.rd.cb (by decide) (by decide) (by decide) (by decide)
  · subst q; exact key h.rd.sr (by decide) (by decide) (by decide) (by decide)
  · subst q; exact key h.rd.nr (by decide) (by decide) (by decide) (by decide)
  · subst q; exact key h.rd.ir (by decide) (by decide) (by decide) (by decide)
  · subst q; exact key rC (by decide) (by decide) (by decide) (by decide)
theorem PJ.ktP (h : PJ w W g dg r g' dg' r' m' i' d L d' L' mb B R D c B' R' D' c' X) (k : Ot (Pj22 g dg r mb (Value.ownBlock (.slice D L.length c))) W W') : Kt r W W' := by
  have gC := h.jn.jk.1
  have ow := h.jn.jk.2.1
  obtain ⟨es, cl, hmp⟩ := h.jn.dk.mp.obj
  refine ⟨k.1, k.2.1, k.2.2.1, k.2.2.2.1, fun i t C q n0 n1 n2 n3 _ _ _ _ => k.block q fun p => ?_⟩
  rcases p with p | p | p | p | p
  · subst p; exact cb_differ q h.jn.dk.cb n1 rfl
  · exact n0 p
  · subst p; unfold Cb at q; rw [hmp] at q; cases q
  · subst p; exact cb_differ q gC n2 rfl
  · exact ow.ne_of q n3 p
theorem PJ.ktR (h : PJ w W g dg r g' dg' r' m' i' d L d' L' mb B R D c B' R' D' c' X) (k : Ot (fun i => Rp dg' r' m' i' i ∨ i = g') W W') : Kt r W W' := by
  have rC := h.rs.1
  refine ⟨k.1, k.2.1, k.2.2.1, k.2.2.2.1, fun i t C q _ _ _ _ n4 n5 n6 n7 => k.block q fun p => ?_⟩
  rcases p with (p | p | p | p) | p
  · subst p; exact cb_differ q h.rd.cb n4 rfl
  · subst p; exact cb_differ q h.rd.sr n5 rfl
  · subst p; exact cb_differ q h.rd.nr n5 rfl
  · subst p; exact cb_differ q h.rd.ir n6 rfl
  · subst p; exact cb_differ q rC n7 rfl
/-- Behind a call of the journal, or of its disk. -/
theorem PJ.prog (h : PJ w W g dg r g' dg' r' m' i' d L d' L' mb B R D c B' R' D' c' X) {mb2 : Nat} {d2 : Ds} {D2 : Option Addr} {c2 : Nat} {L2 : List (List UInt8)} (jn : JN w W' g dg r mb2 d2 B R D2 c2 L2) (k : Ot (Pj22 g dg r mb (Value.ownBlock (.slice D L.length c))) W W')
    (ho : Value.ownBlock (.slice D2 L2.length c2) = Value.ownBlock (.slice D L.length c) ∨ ∃ i, Value.ownBlock (.slice D2 L2.length c2) = some i ∧ W.heap.size ≤ i) : PJs w W' g dg r g' dg' r' m' i' d2 L2 d' L' := by
  have ap := h.apart
  have st : ∀ i, i < W.heap.size → (Rp dg' r' m' i' i ∨ i = g') → W'.heap[i]? = W.heap[i]? := fun i hi q => k.same hi fun p => ap i p q
  have lt2 : ∀ i, Value.ownBlock (.slice D2 L2.length c2) = some i → i < W'.heap.size := fun i q => (jn.jk.2.1.ge i q).2
  have o' := h.rs.2.1.jour h.jn h.Q1 h.Q4 h.ne k
  refine ⟨mb2, B, R, D2, c2, B', fun i => R' i ∨ (W.heap.size ≤ i ∧ i < W'.heap.size), D', c', X, jn, h.rd.stay (st _ h.rd.cb.lt (.inl (.inl rfl))) (st _ h.rd.sr.lt (.inl (.inr (.inl rfl)))) (st _ h.rd.nr.lt (.inl (.inr (.inr (.inl rfl))))) (st _ h.rd.ir.lt (.inl (.inr (.inr (.inr rfl))))), ⟨(st _ h.rs.1.lt (.inr rfl)).trans h.rs.1, o'.forbid fun i hi q => q.imp id (·.1), h.rs.2.2⟩, h.R1, h.R2, .inl h.Q1, .inl h.Q2, .inl h.Q3, fun i q => ?_, fun i q => ?_, fun i q q2 => ?_, h.l1, h.l2, h.l3, h.l4, h.l5⟩
  · rcases ho with e | ⟨z, e, hz⟩
    · exact .inl (h.Q4 i (by rw [← e]; exact q))
    · refine .inr ⟨?_, lt2 i q⟩
      rw [e] at q
      have := Option.some.inj q
      omega
  · rcases q with q | q
    · exact Nat.lt_of_lt_of_le (h.Q5 i q) k.size
    · exact q.2
  · rcases ho with e | ⟨z, e, hz⟩
    · exact h.ne i q (by rw [← e]; exact q2)
    · rw [e] at q2
      have := Option.some.inj q2
      have := (h.rs.2.1.ge i q).2
      omega
/-- Behind a call of the document's. -/
theorem PJ.ref (h : PJ w W g dg r g' dg' r' m' i' d L d' L' mb B R D c B' R' D' c' X) {d2 : Ds} {D2 : Option Addr} {c2 : Nat} {L2 : List (List UInt8)} {X2 : List (List UInt8)} (rd : RD W' dg' r' m' i' d2 X2) (rs : RS B' R' W' g' dg' D2 c2 L2) (k : Ot (fun i => Rp dg' r' m' i' i ∨ i = g') W W')
    (ho : Value.ownBlock (.slice D2 L2.length c2) = Value.ownBlock (.slice D' L'.length c') ∨ ∃ i, Value.ownBlock (.slice D2 L2.length c2) = some i ∧ W.heap.size ≤ i) : PJs w W' g dg r g' dg' r' m' i' d L d2 L2 := by
  have ap := h.apart
  have jk := h.jn.jk
  have l5 := h.l5
  have l6 := h.rs.2.2
  have dk := h.jn.dk
  refine ⟨mb, B, R, D, c, B', R', D2, c2, X2, ⟨jk.ot k (fun q => ap g (.inr (.inr (.inr (.inl rfl)))) q) (fun i q q2 => ap i (.inr (.inr (.inr (.inr q2)))) q) (fun i q => ?_), ?_, h.jn.rR, fun i q => Nat.lt_of_lt_of_le (h.jn.rw i q) k.size, h.jn.wB, h.jn.wd, h.jn.wr, h.jn.wm, Ot.ext h.jn.ex k fun i q => ?_⟩, rd, rs, h.R1, h.R2, h.Q1, h.Q2, h.Q3, h.Q4, fun i q => Nat.lt_of_lt_of_le (h.Q5 i q) k.size, fun i q q2 => ?_, h.l1, h.l2, h.l3, h.l4, h.l5⟩
  · rcases q with (q | q | q | q) | q
    · subst q; exact .inr h.rd.no1
    · subst q; exact .inl h.R1
    · subst q; exact .inl h.R2
    · subst q; exact .inr h.rd.no2
    · subst q; exact .inr (cb_no_u8 h.rs.1 (fun x q => by simp at q))
  · exact dk.stay (k.same dk.cb.lt fun q => ap _ (.inl rfl) q) (k.same dk.row.lt fun q => ap _ (.inr (.inl rfl)) q) (k.same dk.mp.lt fun q => ap _ (.inr (.inr (.inl rfl))) q)
  · have a1 := h.l1
    have a2 := h.l2
    have a3 := h.l3
    have a4 := h.l4
    rcases q with (q | q | q | q) | q <;> omega
  · rcases ho with e | ⟨z, e, hz⟩
    · exact h.ne i (by rw [← e]; exact q) q2
    · rw [e] at q
      have := Option.some.inj q
      have := (jk.2.1.ge i q2).2
      omega
theorem RS.ot (h : PJ w W g dg r g' dg' r' m' i' d L d' L' mb B R D c B' R' D' c' X) (k : Ot (Rp dg' r' m' i') W W') : RS B' R' W' g' dg' D' c' L' := by
  have rC := h.rs.1
  refine ⟨k.block rC fun q => ?_, h.rs.2.1.ot k (fun i q q2 => ?_) (fun i q => ?_), h.rs.2.2⟩
  · rcases q with q | q | q | q
    · exact cb_differ rC h.rd.cb (by decide) q
    · exact cb_differ rC h.rd.sr (by decide) q
    · exact cb_differ rC h.rd.nr (by decide) q
    · exact cb_differ rC h.rd.ir (by decide) q
  · rcases q with q | q | q | q
    · subst q; exact h.rs.2.1.ne_of h.rd.cb (by decide) q2
    · subst q; exact h.rs.2.1.ne_of h.rd.sr (by decide) q2
    · subst q; exact h.rs.2.1.ne_of h.rd.nr (by decide) q2
    · subst q; exact h.rs.2.1.ne_of h.rd.ir (by decide) q2
  · rcases q with q | q | q | q
    · subst q; exact .inr h.rd.no1
    · subst q; exact .inl h.Q2
    · subst q; exact .inl h.Q3
    · subst q; exact .inr h.rd.no2
theorem PJ.ngp (h : PJ w W g dg r g' dg' r' m' i' d L d' L' mb B R D c B' R' D' c' X) : ¬ Rp dg' r' m' i' g' := fun q => by
  have rC := h.rs.1
  rcases q with q | q | q | q
  · exact cb_differ rC h.rd.cb (by decide) q
  · exact cb_differ rC h.rd.sr (by decide) q
  · exact cb_differ rC h.rd.nr (by decide) q
  · exact cb_differ rC h.rd.ir (by decide) q
end
section
variable {w W : World} {g dg r g' dg' r' m' i' : Nat} {d : Ds} {L : List (List UInt8)} {d' : Ds} {L' : List (List UInt8)}
/-- The calls, one by one: the journal's. -/
theorem PJs.append (h : PJs w W g dg r g' dg' r' m' i' d L d' L') {A : Option Addr} {n c' : Nat} {xs : List UInt8} (hL : L.length ≤ 64) (hb : Bs w A n c' xs) (hn : n ≤ 1000000) :
    Calls Try.prog 16 #[.pointer (some ⟨g, 0, none⟩), .slice A n c'] W fun e W' => e = .returned (.int .i64 (d.jE L.length xs)) ∧ PJs w W' g dg r g' dg' r' m' i' (d.jD L.length xs) (d.jL L xs) d' L' ∧ Kt r W W' := by
  obtain ⟨mb, B, R, D, c, B', R', D', c2, X, h⟩ := h
  have h1 := h.jn.wd
  have h2 := h.jn.wr
  have h3 := h.jn.wm
  refine (h.jn.append hL (fun s k => (hb.ext h.jn.ex).ot22 k (fun a ha h0 q => ?_)) hn).mono ?_
  · obtain ⟨b, off, e, hlt, _⟩ := hb.pos h0
    rw [e] at ha
    injection ha with ha
    subst ha
    have q : b = dg ∨ b = r ∨ b = mb := q
    omega
  · rintro e W' ⟨he, mb', D2, c3, j2, ot, ho⟩
    exact ⟨he, h.prog j2 ot ho, h.ktP ot⟩
theorem PJs.rappend (h : PJs w W g dg r g' dg' r' m' i' d L d' L') {A : Option Addr} {n c' : Nat} {xs : List UInt8} (hL : L'.length ≤ 64) (hb : Bs w A n c' xs) :
    Calls Try.prog 17 #[.pointer (some ⟨g', 0, none⟩), .slice A n c'] W fun e W' => e = .returned (.int .i64 (d'.jE L'.length xs)) ∧ PJs w W' g dg r g' dg' r' m' i' d L (d'.jD L'.length xs) (d'.jL L' xs) ∧ Kt r W W' := by
  obtain ⟨mb, B, R, D, c, B', R', D', c2, X, h⟩ := h
  have a1 := h.l1
  have a2 := h.l2
  have a3 := h.l3
  have a4 := h.l4
  by_cases q : 59 < n ∨ d'.S.length ≤ L'.length
  · refine (rjappend_short h.rs h.rd (hb.ext h.jn.ex) q hL).mono ?_
    rintro e W' ⟨he, e1, e2, x⟩
    refine ⟨he, ?_⟩
    rw [e1, e2]
    exact ⟨⟨_, _, _, _, _, _, _, _, _, _, h.ext x⟩, Kt.of_ext x⟩
  · refine (rjappend_long h.rs h.rd (fun s k => (hb.ext h.jn.ex).ot22 k (fun a ha h0 q => ?_)) (fun s k => RS.ot h k) (by omega) (by omega) h.ngp h.Q5).mono ?_
    · obtain ⟨b, off, e, hlt, _⟩ := hb.pos h0
      rw [e] at ha
      injection ha with ha
      subst ha
      have q : b = dg' ∨ b = r' ∨ b = m' ∨ b = i' := q
      omega
    · rintro e W' ⟨he, ⟨X', rd⟩, D2, c3, rs, ot, ho⟩
      exact ⟨he, h.ref rd rs ot ho, h.ktR ot⟩
/-- Just the disk. -/
theorem PJs.disk (h : PJs w W g dg r g' dg' r' m' i' d L d' L') {f : FuncId} {args : Array Value} {v : Value} {d2 : Ds} (hc : ∀ mb, DK W dg r mb d → Calls Try.prog f args W fun e W' => e = .returned v ∧ ∃ mb', DK W' dg r mb' d2 ∧ (mb' = mb ∨ W.heap.size ≤ mb') ∧ Ot (Pd22 dg r mb) W W') :
    Calls Try.prog f args W fun e W' => e = .returned v ∧ PJs w W' g dg r g' dg' r' m' i' d2 L d' L' ∧ Kt r W W' := by
  obtain ⟨mb, B, R, D, c, B', R', D', c2, X, h⟩ := h
  refine (hc mb h.jn.dk).mono ?_
  rintro e W' ⟨he, mb', dk, hm, k⟩
  have k2 : Ot (Pj22 g dg r mb (Value.ownBlock (.slice D L.length c))) W W' := k.mono fun i _ q => q.elim .inl fun q => q.elim (fun q => .inr (.inl q)) fun q => .inr (.inr (.inl q))
  exact ⟨he, h.prog (h.jn.disk dk k hm) k2 (.inl rfl), h.ktP k2⟩
theorem PJs.rdisk (h : PJs w W g dg r g' dg' r' m' i' d L d' L') {f : FuncId} {args : Array Value} {v : Value} {d2 : Ds} (hc : ∀ X, RD W dg' r' m' i' d' X → Calls Try.prog f args W fun e W' => e = .returned v ∧ (∃ X', RD W' dg' r' m' i' d2 X') ∧ Ot (Rp dg' r' m' i') W W') :
    Calls Try.prog f args W fun e W' => e = .returned v ∧ PJs w W' g dg r g' dg' r' m' i' d L d2 L' ∧ Kt r W W' := by
  obtain ⟨mb, B, R, D, c, B', R', D', c2, X, h⟩ := h
  refine (hc X h.rd).mono ?_
  rintro e W' ⟨he, ⟨X', rd⟩, k⟩
  have k2 : Ot (fun i => Rp dg' r' m' i' i ∨ i = g') W W' := k.mono fun i _ q => .inl q
  exact ⟨he, h.ref rd (RS.ot h k) k2 (.inl rfl), h.ktR k2⟩
theorem PJs.fuse (h : PJs w W g dg r g' dg' r' m' i' d L d' L') {n : Int} (hn : -9223372036854775808 ≤ n ∧ n ≤ 9223372036854775807) : Calls Try.prog 18 #[.pointer (some ⟨dg, 0, none⟩), .int .i64 n] W fun e W' => e = .returned (.tuple #[]) ∧ PJs w W' g dg r g' dg' r' m' i' (d.fuse n) L d' L' ∧ Kt r W W' :=
  h.disk fun mb dk => (dfuse_calls dk hn).mono fun e W' q => ⟨q.1, mb, q.2.1, .inl rfl, Ot.of_grown q.2.2 (.inl rfl)⟩
theorem PJs.rfuse (h : PJs w W g dg r g' dg' r' m' i' d L d' L') {n : Int} (hn : -9223372036854775808 ≤ n ∧ n ≤ 9223372036854775807) : Calls Try.prog 19 #[.pointer (some ⟨dg', 0, none⟩), .int .i64 n] W fun e W' => e = .returned (.tuple #[]) ∧ PJs w W' g dg r g' dg' r' m' i' d L (d'.fuse n) L' ∧ Kt r W W' :=
  h.rdisk fun X rd => (rfuse_calls rd hn).mono fun e W' q => ⟨q.1, ⟨X, q.2.1⟩, Ot.of_grown q.2.2 (.inl rfl)⟩
theorem PJs.crash (h : PJs w W g dg r g' dg' r' m' i' d L d' L') {kept : Nat} (hk : kept < 18446744073709551616) : Calls Try.prog 20 #[.pointer (some ⟨dg, 0, none⟩), .int .u64 (kept : Int)] W fun e W' => e = .returned (.tuple #[]) ∧ PJs w W' g dg r g' dg' r' m' i' (d.crash kept) L d' L' ∧ Kt r W W' :=
  h.disk fun mb dk => (dcrash_calls dk hk).mono fun e W' q => by
    obtain ⟨q1, mb', q2, q3, q4⟩ := q
    exact ⟨q1, mb', q2, .inr q3, Ot.of_two q4 (.inl rfl) (.inr (.inl rfl))⟩
theorem PJs.rcrash (h : PJs w W g dg r g' dg' r' m' i' d L d' L') {kept : Nat} (hk : kept < 18446744073709551616) : Calls Try.prog 21 #[.pointer (some ⟨dg', 0, none⟩), .int .u64 (kept : Int)] W fun e W' => e = .returned (.tuple #[]) ∧ PJs w W' g dg r g' dg' r' m' i' d L (d'.crash kept) L' ∧ Kt r W W' :=
  h.rdisk fun X rd => (rcrash_calls rd hk).mono fun e W' q => ⟨q.1, ⟨X, q.2.1⟩, q.2.2⟩
theorem PJs.write (h : PJs w W g dg r g' dg' r' m' i' d L d' L') {i : Int} {xs : List UInt8} (hx : xs.length = 64) : Calls Try.prog 22 #[.pointer (some ⟨dg, 0, none⟩), .int .i64 i, .agg (cellsOf xs).toArray] W fun e W' => e = .returned (.int .i64 (d.writeE i)) ∧ PJs w W' g dg r g' dg' r' m' i' (d.write i xs) L d' L' ∧ Kt r W W' :=
  h.disk fun mb dk => (dwrite_calls dk hx).mono fun e W' q => ⟨q.1, mb, q.2.1, .inl rfl, Ot.of_two q.2.2 (.inl rfl) (.inr (.inr rfl))⟩
theorem PJs.rwrite (h : PJs w W g dg r g' dg' r' m' i' d L d' L') {i : Int} {xs : List UInt8} (hx : xs.length = 64) : Calls Try.prog 23 #[.pointer (some ⟨dg', 0, none⟩), .int .i64 i, .agg (cellsOf xs).toArray] W fun e W' => e = .returned (.int .i64 (d'.writeE i)) ∧ PJs w W' g dg r g' dg' r' m' i' d L (d'.write i xs) L' ∧ Kt r W W' :=
  h.rdisk fun X rd => rwrite_calls rd hx
/-- Both are opened anew. -/
theorem PJs.opn (h : PJs w W g dg r g' dg' r' m' i' d L d' L') : Calls Try.prog 14 #[.pointer (some ⟨dg, 0, none⟩)] W fun e W' => ∃ g2, e = .returned (.tuple #[.pointer (some ⟨g2, 0, none⟩), .int .i64 0]) ∧ PJs w W' g2 dg r g' dg' r' m' i' d d.recs d' L' ∧ Kt r W W' := by
  obtain ⟨mb, B, R, D, c, B', R', D', c2, X, h⟩ := h
  refine (JN.opened h.jn.dk h.jn.ex h.jn.wd h.jn.wr h.jn.wm).mono ?_
  rintro e W' ⟨g2, D2, c3, he, j2, x⟩
  have lo := j2.jk.2.1.ge
  refine ⟨g2, he, ⟨mb, _, _, D2, c3, B', fun i => R' i ∨ (W.heap.size ≤ i ∧ i < W'.heap.size), D', c2, X, j2, h.rd.ext x, ⟨h.rs.1.ext x, ((h.rs.2.1.forbid (R' := fun i => R' i ∨ (W.heap.size ≤ i ∧ i < W'.heap.size)) fun i hi q => ?_).ext x), h.rs.2.2⟩, h.rd.sr.lt, h.rd.nr.lt, .inl h.Q1, .inl h.Q2, .inl h.Q3, fun i q => .inr (lo i q), fun i q => ?_, fun i q q2 => ?_, h.l1, h.l2, h.l3, h.l4, h.l5⟩, Kt.of_ext x⟩
  · rcases q with q | q
    · exact q
    · omega
  · rcases q with q | q
    · exact Nat.lt_of_lt_of_le (h.Q5 i q) x.size
    · exact q.2
  · have := (lo i q2).1
    have := (h.rs.2.1.ge i q).2
    omega
theorem PJs.ropn (h : PJs w W g dg r g' dg' r' m' i' d L d' L') : Calls Try.prog 15 #[.pointer (some ⟨dg', 0, none⟩)] W fun e W' => ∃ g2, e = .returned (.tuple #[.pointer (some ⟨g2, 0, none⟩), .int .i64 0]) ∧ PJs w W' g dg r g2 dg' r' m' i' d L d' d'.recs ∧ Kt r W W' := by
  obtain ⟨mb, B, R, D, c, B', R', D', c2, X, h⟩ := h
  refine (rjopen_calls h.rd).mono ?_
  rintro e W' ⟨g2, D2, c3, he, j2, x⟩
  have ow := j2.toS (R := fun i => i < W.heap.size) (fun _ q => q)
  have lo := ow.2.1.ge
  have ln := h.jn.jk.2.1.ge
  refine ⟨g2, he, ⟨mb, B, R, D, c, _, fun i => i < W.heap.size, D2, c3, X, h.jn.ext x, h.rd.ext x, ow, h.R1, h.R2, h.jn.dk.row.lt, h.rd.sr.lt, h.rd.nr.lt, fun i q => (ln i q).2, fun i q => Nat.lt_of_lt_of_le q x.size, fun i q q2 => ?_, h.l1, h.l2, h.l3, h.l4, h.jn.ex.size⟩, Kt.of_ext x⟩
  have := (lo i q).1
  have := (ln i q2).2
  omega
/-- The document's records in memory; the journal's. -/
theorem PJs.rcells (h : PJs w W g dg r g' dg' r' m' i' d L d' L') : ∃ D c, ∀ s, Ext W s → s.cell? ⟨g', 1, none⟩ = some (.slice D L'.length c) ∧ Rw s D L'.length c L' := by
  obtain ⟨mb, B, R, D, c, B', R', D', c2, X, h⟩ := h
  exact ⟨D', c2, fun s x => ⟨(h.rs.1.ext x).cell rfl, (h.rs.2.1.ext x).rw⟩⟩
theorem PJs.js (h : PJs w W g dg r g' dg' r' m' i' d L d' L') : ∃ B R D c, JS B R W g dg D c L := by
  obtain ⟨mb, B, R, D, c, B', R', D', c2, X, h⟩ := h
  exact ⟨B, R, D, c, h.jn.jk⟩
theorem PJs.ok (h : PJs w W g dg r g' dg' r' m' i' d L d' L') : d.ok ∧ r < W.heap.size := by
  obtain ⟨mb, B, R, D, c, B', R', D', c2, X, h⟩ := h
  exact ⟨h.jn.dk.ok, h.jn.dk.row.lt⟩
end
/-- Just the two disks. -/
structure Pd2 (w W : World) (dg r mb dg' r' m' i' : Nat) (d : Ds) (X : List (List UInt8)) : Prop where
  dk : DK W dg r mb d
  ex : Ext w W
  rd : RD W dg' r' m' i' d X
  a1 : w.heap.size ≤ dg
  a2 : w.heap.size ≤ r
  a3 : w.heap.size ≤ mb
  l1 : w.heap.size ≤ dg'
  l2 : w.heap.size ≤ r'
  l3 : w.heap.size ≤ m'
  l4 : w.heap.size ≤ i'
theorem Pd2.of {w W W' : World} {dg r mb dg' r' m' i' : Nat} {d : Ds} {X : List (List UInt8)} (dk : DK W dg r mb d) (ex : Ext w W) (rd : RD W' dg' r' m' i' d X) (x : Ext W W') (a1 : w.heap.size ≤ dg) (a2 : w.heap.size ≤ r) (a3 : w.heap.size ≤ mb) (l1 : w.heap.size ≤ dg') (l2 : w.heap.size ≤ r') (l3 : w.heap.size ≤ m') (l4 : w.heap.size ≤ i') : Pd2 w W' dg r mb dg' r' m' i' d X := ⟨dk.ext x, ex.trans x, rd, a1, a2, a3, l1, l2, l3, l4⟩
/-- The journal alone is open. -/
def Pd3 (w W : World) (g dg r dg' r' m' i' : Nat) (d : Ds) (L : List (List UInt8)) : Prop := ∃ mb B R D c X, JN w W g dg r mb d B R D c L ∧ RD W dg' r' m' i' d X ∧ R r' ∧ R m' ∧ w.heap.size ≤ dg' ∧ w.heap.size ≤ r' ∧ w.heap.size ≤ m' ∧ w.heap.size ≤ i'
theorem Pd2.opn {w W : World} {dg r mb dg' r' m' i' : Nat} {d : Ds} {X : List (List UInt8)} (h : Pd2 w W dg r mb dg' r' m' i' d X) : Calls Try.prog 14 #[.pointer (some ⟨dg, 0, none⟩)] W fun e W' => ∃ g2, e = .returned (.tuple #[.pointer (some ⟨g2, 0, none⟩), .int .i64 0]) ∧ Pd3 w W' g2 dg r dg' r' m' i' d d.recs := by
  refine (JN.opened h.dk h.ex h.a1 h.a2 h.a3).mono ?_
  rintro e W' ⟨g2, D2, c3, he, j2, x⟩
  exact ⟨g2, he, mb, _, _, D2, c3, X, j2, h.rd.ext x, h.rd.sr.lt, h.rd.nr.lt, h.l1, h.l2, h.l3, h.l4⟩
theorem Pd3.ropn {w W : World} {g dg r dg' r' m' i' : Nat} {d : Ds} {L : List (List UInt8)} (h : Pd3 w W g dg r dg' r' m' i' d L) : Calls Try.prog 15 #[.pointer (some ⟨dg', 0, none⟩)] W fun e W' => ∃ g2, e = .returned (.tuple #[.pointer (some ⟨g2, 0, none⟩), .int .i64 0]) ∧ PJs w W' g dg r g2 dg' r' m' i' d L d d.recs := by
  obtain ⟨mb, B, R, D, c, X, jn, rd, R1, R2, l1, l2, l3, l4⟩ := h
  refine (rjopen_calls rd).mono ?_
  rintro e W' ⟨g2, D2, c3, he, j2, x⟩
  have ow := j2.toS (R := fun i => i < W.heap.size) (fun _ q => q)
  have lo := ow.2.1.ge
  have ln := jn.jk.2.1.ge
  refine ⟨g2, he, mb, B, R, D, c, _, fun i => i < W.heap.size, D2, c3, X, jn.ext x, rd.ext x, ow, R1, R2, jn.dk.row.lt, rd.sr.lt, rd.nr.lt, fun i q => (ln i q).2, fun i q => Nat.lt_of_lt_of_le q x.size, fun i q q2 => ?_, l1, l2, l3, l4, jn.ex.size⟩
  have := (lo i q).1
  have := (ln i q2).2
  omega
end Go.Proofs.Yteaoacinhdjkeaa
