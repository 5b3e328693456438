import Derived.Test.YteaoacinhdjkeaaPkK
import Derived.Test.YteaoacinhdjkeaaPkJ
import Derived.Test.YteaoacinhdjkeaaPkL
import Derived.Test.YteaoacinhdjkeaaPkO
section
/-
  Rows beside a journal: what stays when it, or its disk, turns.
-/
namespace Go.Proofs.Yteaoacinhdjkeaa
open Go.ChangeShapes Go.WideShapes Go.ChangeAt Go.RowKit Go.Deep Go.Maps
set_option maxRecDepth 100000

section
variable {w W W' : World} {g dg r mb : Nat} {d : Ds} {B : Nat} {R : Nat → Prop} {D : Option Addr} {c : Nat} {L : List (List UInt8)} {Bq : Nat} {Rq : Nat → Prop} {Dq : Option Addr} {n cq : Nat} {l : List (List UInt8)}
theorem JN.bW (h : JN w W g dg r mb d B R D c L) : B ≤ W.heap.size := Nat.le_of_lt (Nat.lt_of_le_of_lt h.jk.2.2 h.jk.1.lt)
theorem JN.forbid {R' : Nat → Prop} (h : JN w W g dg r mb d B R D c L) (hR : ∀ i, i < W.heap.size → R' i → R i) (h1 : R' r) (h2 : ∀ i, R' i → i < W.heap.size) : JN w W g dg r mb d B R' D c L := ⟨h.jk.forbid hR, h.dk, h1, h2, h.wB, h.wd, h.wr, h.wm, h.ex⟩
theorem JN.disk (h : JN w W g dg r mb d B R D c L) {mb' : Nat} {d' : Ds} (dk : DK W' dg r mb' d') (k : Ot (Pd22 dg r mb) W W') (hmb : mb' = mb ∨ W.heap.size ≤ mb') : JN w W' g dg r mb' d' B R D c L := by
  obtain ⟨p1, p2, p3⟩ := jk_apart h.jk h.dk h.rR
  have h1 := h.wd
  have h2 := h.wr
  have h3 := h.wm
  refine ⟨h.jk.ot k p1 p2 p3, dk, h.rR, fun i q => Nat.lt_of_lt_of_le (h.rw i q) k.size, h.wB, h.wd, h.wr, ?_, Ot.ext h.ex k fun i q => ?_⟩
  · rcases hmb with q | q
    · rw [q]; exact h3
    · exact Nat.le_trans h.ex.size q
  · rcases q with q | q | q <;> omega
/-- Another row's own block turns: it is no block of the journal, and its bytes are elsewhere. -/
theorem JN.other (h : JN w W g dg r mb d B R D c L) {o : Option Nat} (k : W.grownBy W' o) {R' : Nat → Prop} (hR : ∀ i, i < W.heap.size → R' i → R i) (h1 : R' r) (h2 : ∀ i, R' i → i < W'.heap.size) (ho : ∀ i, o = some i → R' i ∧ w.heap.size ≤ i ∧ Value.ownBlock (.slice D L.length c) ≠ some i ∧ i ≠ g ∧ i ≠ dg ∧ i ≠ r ∧ i ≠ mb) : JN w W' g dg r mb d B R' D c L := by
  have ot : Ot (fun i => o = some i) W W' := ⟨k.os, k.tape, k.output, k.size, fun i hi hn => k.block i hi (fun q => hn q.symm)⟩
  refine ⟨(h.jk.forbid hR).ot ot (fun q => (ho _ q).2.2.2.1 rfl) (fun i q => (ho i q).2.2.1) (fun i q => .inl (ho i q).1), ?_, h1, h2, h.wB, h.wd, h.wr, h.wm, Ot.ext h.ex ot fun i q => (ho i q).2.1⟩
  exact h.dk.stay (ot.same h.dk.cb.lt (fun q => (ho _ q).2.2.2.2.1 rfl)) (ot.same h.dk.row.lt (fun q => (ho _ q).2.2.2.2.2.1 rfl)) (ot.same h.dk.mp.lt (fun q => (ho _ q).2.2.2.2.2.2 rfl))
/-- A row's own block is none of a disk's, no journal. -/
theorem OwnS.apart (h : OwnS Bq Rq W Dq n cq l) (jn : JN w W g dg r mb d B R D c L) : ∀ i, Value.ownBlock (.slice Dq n cq) = some i → i ≠ g ∧ i ≠ dg ∧ i ≠ r ∧ i ≠ mb := fun i q => by
  obtain ⟨es, cl, hmp⟩ := jn.dk.mp.obj
  have mo : ∀ cs t f, Obj.map es cl ≠ .cells cs t f := fun _ _ _ q => by cases q
  refine ⟨fun e => ?_, fun e => ?_, fun e => ?_, fun e => ?_⟩
  · subst e; exact h.ne_of jn.jk.1 (by decide) q
  · subst e; exact h.ne_of jn.dk.cb (by decide) q
  · subst e; exact h.ne_of jn.dk.row (by decide) q
  · subst e; exact h.ne_obj hmp mo q
theorem OwnS.disk (h : OwnS Bq Rq W Dq n cq l) (jn : JN w W g dg r mb d B R D c L) (hr : Rq r) (k : Ot (Pd22 dg r mb) W W') : OwnS Bq Rq W' Dq n cq l := by
  obtain ⟨es, cl, hmp⟩ := jn.dk.mp.obj
  have mo : ∀ cs t f, Obj.map es cl ≠ .cells cs t f := fun _ _ _ q => by cases q
  have ap := h.apart jn
  refine h.ot k (fun i q q2 => ?_) ?_
  · obtain ⟨_, a1, a2, a3⟩ := ap i q2
    rcases q with q | q | q
    · exact a1 q
    · exact a2 q
    · exact a3 q
  · rintro i (q | q | q)
    · subst q; exact .inr jn.dk.no_u8
    · subst q; exact .inl hr
    · subst q; exact .inr fun j x => no_cell hmp mo j _
/-- Behind an Append: its own block may be new. -/
theorem OwnS.jour (h : OwnS Bq Rq W Dq n cq l) (jn : JN w W g dg r mb d B R D c L) (hr : Rq r) (ho : ∀ i, Value.ownBlock (.slice D L.length c) = some i → Rq i) (sep : ∀ i, Value.ownBlock (.slice Dq n cq) = some i → Value.ownBlock (.slice D L.length c) ≠ some i) (k : Ot (Pj22 g dg r mb (Value.ownBlock (.slice D L.length c))) W W') :
    OwnS Bq (fun i => Rq i ∨ W.heap.size ≤ i) W' Dq n cq l := by
  obtain ⟨es, cl, hmp⟩ := jn.dk.mp.obj
  have mo : ∀ cs t f, Obj.map es cl ≠ .cells cs t f := fun _ _ _ q => by cases q
  have gC := jn.jk.1
  have ap := h.apart jn
  have h2 : OwnS Bq (fun i => Rq i ∨ W.heap.size ≤ i) W Dq n cq l := h.forbid fun i hi q => q.elim id fun z => by omega
  refine h2.ot k (fun i q q2 => ?_) ?_
  · obtain ⟨a0, a1, a2, a3⟩ := ap i q2
    rcases q with q | q | q | q | q
    · exact a1 q
    · exact a2 q
    · exact a3 q
    · exact a0 q
    · exact sep i q2 q
  · rintro i (q | q | q | q | q)
    · subst q; exact .inr jn.dk.no_u8
    · subst q; exact .inl (.inl hr)
    · subst q; exact .inr fun j x => no_cell hmp mo j _
    · subst q
      refine .inr fun j x => ?_
      unfold Cb at gC
      simp only [World.cell?, gC]
      intro z
      have z : ([.pointer (some ⟨dg, 0, none⟩), .slice D L.length c] : List Value)[j]? = some (.int .u8 x) := by simpa using z
      have := List.mem_of_getElem? z
      simp at this
    · exact .inl (.inl (ho i q))
end
/-- A journal (its records L), beside it the rows S and U. -/
def SU (w W : World) (g dg r mb : Nat) (d : Ds) (B : Nat) (D : Option Addr) (c : Nat) (L : List (List UInt8)) (Dq : Option Addr) (cq : Nat) (S : List (List UInt8)) (Du : Option Addr) (cu : Nat) (U : List (List UInt8)) : Prop :=
  ∃ R Rq : Nat → Prop, JN w W g dg r mb d B R D c L ∧ OwnS w.heap.size Rq W Dq S.length cq S ∧ OwnS w.heap.size Rq W Du U.length cu U ∧ Rq r ∧ (∀ i, Value.ownBlock (.slice D L.length c) = some i → Rq i) ∧ (∀ i, Rq i → w.heap.size ≤ i) ∧
    (∀ i, Value.ownBlock (.slice Dq S.length cq) = some i → R i ∧ Value.ownBlock (.slice D L.length c) ≠ some i) ∧ (∀ i, Value.ownBlock (.slice Du U.length cu) = some i → Value.ownBlock (.slice D L.length c) ≠ some i)
section
variable {w W W' : World} {g dg r mb : Nat} {d : Ds} {B : Nat} {D : Option Addr} {c : Nat} {L : List (List UInt8)} {Dq : Option Addr} {cq : Nat} {S : List (List UInt8)} {Du : Option Addr} {cu : Nat} {U : List (List UInt8)}
theorem SU.ext (h : SU w W g dg r mb d B D c L Dq cq S Du cu U) (x : Ext W W') : SU w W' g dg r mb d B D c L Dq cq S Du cu U := by
  obtain ⟨R, Rq, h1, h2, h3, h4⟩ := h
  exact ⟨R, Rq, h1.ext x, h2.ext x, h3.ext x, h4⟩
theorem SU.ex (h : SU w W g dg r mb d B D c L Dq cq S Du cu U) : Ext w W := by obtain ⟨R, Rq, h1, _⟩ := h; exact h1.ex
theorem SU.disk (h : SU w W g dg r mb d B D c L Dq cq S Du cu U) {mb' : Nat} {d' : Ds} (dk : DK W' dg r mb' d') (k : Ot (Pd22 dg r mb) W W') (hmb : mb' = mb ∨ W.heap.size ≤ mb') : SU w W' g dg r mb' d' B D c L Dq cq S Du cu U := by
  obtain ⟨R, Rq, h1, h2, h3, h4, h5⟩ := h
  exact ⟨R, Rq, h1.disk dk k hmb, h2.disk h1 h4 k, h3.disk h1 h4 k, h4, h5⟩
theorem SU.dk (h : SU w W g dg r mb d B D c L Dq cq S Du cu U) : DK W dg r mb d := by obtain ⟨R, Rq, h1, _⟩ := h; exact h1.dk
theorem SU.append (h : SU w W g dg r mb d B D c L Dq cq S Du cu U) {A : Option Addr} {n c' : Nat} {xs : List UInt8} (hL : L.length ≤ 64) (hb : Bs w A n c' xs) (hn : n ≤ 1000000) :
    Calls Try.prog 16 #[.pointer (some ⟨g, 0, none⟩), .slice A n c'] W fun e W' => e = .returned (.int .i64 (d.jE L.length xs)) ∧ ∃ mb' D' c2, SU w W' g dg r mb' (d.jD L.length xs) B D' c2 (d.jL L xs) Dq cq S Du cu U := by
  obtain ⟨R, Rq, h1, h2, h3, h4, h5, h6, h7, h8⟩ := h
  have lo : ∀ i, Pd22 dg r mb i → w.heap.size ≤ i := fun i q => by
    have := h1.wd
    have := h1.wr
    have := h1.wm
    rcases q with q | q | q <;> omega
  refine (h1.append hL (fun s k => (hb.ext h1.ex).ot22 k (fun a ha h0 q => ?_)) hn).mono ?_
  · obtain ⟨b, off, e, hlt, _⟩ := hb.pos h0
    rw [e] at ha
    injection ha with ha
    subst ha
    have := lo _ q
    simp only at this
    omega
  · rintro e W' ⟨he, mb', D', c2, j2, ot, ho⟩
    have Wl := h1.ex.size
    refine ⟨he, mb', D', c2, R, fun i => Rq i ∨ W.heap.size ≤ i, j2, h2.jour h1 h4 h5 (fun i q => (h7 i q).2) ot, h3.jour h1 h4 h5 h8 ot, .inl h4, fun i q => ?_, fun i q => ?_, fun i q => ⟨(h7 i q).1, fun q2 => ?_⟩, fun i q q2 => ?_⟩
    · rcases ho with e | ⟨z, e, hz⟩
      · exact .inl (h5 i (by rw [← e]; exact q))
      · rw [e] at q; exact .inr (by have := Option.some.inj q; omega)
    · rcases q with q | q
      · exact h6 i q
      · omega
    · rcases ho with e | ⟨z, e, hz⟩
      · exact (h7 i q).2 (by rw [← e]; exact q2)
      · rw [e] at q2
        have := Option.some.inj q2
        have := (h2.ge i q).2
        omega
    · rcases ho with e | ⟨z, e, hz⟩
      · exact h8 i q (by rw [← e]; exact q2)
      · rw [e] at q2
        have := Option.some.inj q2
        have := (h3.ge i q).2
        omega
/-- 'sure = append(sure, x)', nothing under way. -/
theorem SU.add (h : SU w W g dg r mb d B D c L Dq cq S none 0 []) {A : Option Addr} {n c' b : Nat} {xs : List UInt8} (hb : Bs w A n c' xs) (hc : W.cell? ⟨b, 0, none⟩ = some (.slice A n c')) (hS : S.length ≤ 900000)
    {o : Oper} {a : Act} {K : Act → World → Prop} {Q : Exit → Act → World → Prop} {s x : Operand} (ho : o.op = .call { callee := .builtin .append, args := #[s, x], argTypes := #[50, 50] }) (hs : a.eval s = .slice Dq S.length cq) (hx : a.eval x = .slice (some ⟨b, 0, none⟩) 1 1)
    (hK : ∀ D3 c3 W', SU w W' g dg r mb d B D c L D3 c3 (S ++ [xs]) none 0 [] → K (a.put o.dst (.slice D3 (S.length + 1) c3)) W') : o.wp Try.prog a W K Q := by
  obtain ⟨R, Rq, h1, h2, h3, h4, h5, h6, h7, h8⟩ := h
  refine wp_append_s1 ho hs hx h2 hc (hb.ext h1.ex) (fun h0 a' ha => ?_) hS h1.ex.size ?_
  · obtain ⟨b, off, e, hlt, _⟩ := hb.pos h0
    rw [e] at ha
    injection ha with ha
    subst ha
    refine ⟨fun q => ?_, fun q => ?_⟩
    · have := (h2.ge _ q.symm).1
      simp only at this
      omega
    · have := h6 _ q
      simp only at this
      omega
  · intro D3 c3 W3 sq3 g3 e3
    have SL : (S ++ [xs]).length = S.length + 1 := by simp
    have ap := h2.apart h1
    have lD : ∀ i, Value.ownBlock (.slice D L.length c) = some i → i < W.heap.size := fun i q => (h1.jk.2.1.ge i q).2
    have l3 := sq3.ge
    refine hK D3 c3 W3 ⟨fun i => R i ∨ Value.ownBlock (.slice D3 (S.length + 1) c3) = some i, Rq, h1.other g3 (fun i hi q => ?_) (.inl h1.rR) (fun i q => ?_) (fun i q => ⟨.inl (h7 i q).1, (h2.ge i q).1, (h7 i q).2, ap i q⟩), by rw [SL]; exact sq3, OwnS.nil _ _ _, h4, h5, h6, fun i q => ?_, fun i q => (by cases q)⟩
    · rcases q with q | q
      · exact q
      · rcases e3 with e | e
        · rw [e] at q; exact (h7 i q).1
        · rw [e] at q; have := Option.some.inj q; omega
    · rcases q with q | q
      · exact Nat.lt_of_lt_of_le (h1.rw i q) g3.size
      · exact (l3 i q).2
    · rw [SL] at q
      refine ⟨.inr q, fun q2 => ?_⟩
      rcases e3 with e | e
      · rw [e] at q; exact (h7 i q).2 q2
      · rw [e] at q; have := Option.some.inj q; have := lD i q2; omega
/-- 'under = [][]byte{x}'. -/
theorem SU.under (h : SU w W g dg r mb d B D c L Dq cq S none 0 []) {A : Option Addr} {n c' : Nat} {xs : List UInt8} (hb : Bs w A n c' xs) :
    SU w (W.alloc (.cells #[.slice A n c'] 37)) g dg r mb d B D c L Dq cq S (some ⟨W.heap.size, 0, none⟩) 1 [xs] := by
  obtain ⟨R, Rq, h1, h2, h3, h4, h5, h6, h7, h8⟩ := h
  have x := (Ext.refl W).alloc (.cells #[.slice A n c'] 37)
  refine ⟨R, Rq, h1.ext x, h2.ext x, OwnS.one h1.ex.size (hb.ext h1.ex) (fun h0 a ha q => ?_), h4, h5, h6, h7, fun i q q2 => ?_⟩
  · obtain ⟨b, off, e, hlt, _⟩ := hb.pos h0
    rw [e] at ha
    injection ha with ha
    subst ha
    have := h6 _ q
    simp only at this
    omega
  · have e : W.heap.size = i := Option.some.inj q
    have := (h1.jk.2.1.ge i q2).2
    omega
end
end Go.Proofs.Yteaoacinhdjkeaa
end

section
/-
  Rows beside a journal that is opened anew; rows joined.
-/
namespace Go.Proofs.Yteaoacinhdjkeaa
open Go.ChangeShapes Go.WideShapes Go.ChangeAt Go.RowKit Go.Deep Go.Maps
set_option maxRecDepth 100000

section
variable {w W W' : World} {g dg r mb : Nat} {d : Ds} {B : Nat} {D : Option Addr} {c : Nat} {L : List (List UInt8)} {Dq : Option Addr} {cq : Nat} {S : List (List UInt8)} {Du : Option Addr} {cu : Nat} {U : List (List UInt8)}
theorem SU.reopen (h : SU w W g dg r mb d B D c L Dq cq S Du cu U) : Calls Try.prog 14 #[.pointer (some ⟨dg, 0, none⟩)] W fun e W2 => ∃ g' D' c', e = .returned (.tuple #[.pointer (some ⟨g', 0, none⟩), .int .i64 0]) ∧ SU w W2 g' dg r mb d W.heap.size D' c' d.recs Dq cq S Du cu U := by
  obtain ⟨R, Rq, h1, h2, h3, h4, h5, h6, h7, h8⟩ := h
  refine (JN.opened h1.dk h1.ex h1.wd h1.wr h1.wm).mono ?_
  rintro e W2 ⟨g', D', c', he, j2, x2⟩
  have lo := j2.jk.2.1.ge
  have Wl := h1.ex.size
  refine ⟨g', D', c', he, _, fun i => Rq i ∨ W.heap.size ≤ i, j2, (h2.forbid fun i hi q => q.elim id fun z => by omega).ext x2, (h3.forbid fun i hi q => q.elim id fun z => by omega).ext x2, .inl h4, fun i q => .inr (lo i q).1, fun i q => ?_, fun i q => ⟨(h2.ge i q).2, fun q2 => ?_⟩, fun i q q2 => ?_⟩
  · rcases q with q | q
    · exact h6 i q
    · omega
  · have := (lo i q2).1
    have := (h2.ge i q).2
    omega
  · have := (lo i q2).1
    have := (h3.ge i q).2
    omega
theorem SU.got (h : SU w W g dg r mb d B D c L Dq cq S Du cu U) {Dg : Option Addr} {cg : Nat} (o : OwnG W.heap.size W' Dg L.length cg L) (x : Ext W W') : SU w W' g dg r mb d B D c L Dg cg L none 0 [] := by
  obtain ⟨R, Rq, h1, h2, h3, h4, h5, h6, h7, h8⟩ := h
  have lo := o.ge
  have lt : ∀ i, Value.ownBlock (.slice Dg L.length cg) = some i → i < W'.heap.size := fun i q => by
    obtain ⟨vs, o1, _⟩ := o
    exact (World.ownsRow.lt o1 i q).2
  have Wl := h1.ex.size
  refine ⟨fun i => R i ∨ Value.ownBlock (.slice Dg L.length cg) = some i, fun i => w.heap.size ≤ i ∧ i < W.heap.size, h1.other (o := none) ⟨x.os, x.tape, x.output, x.size, fun i hi _ => x.block i hi⟩ (fun i hi q => ?_) (.inl h1.rR) (fun i q => ?_) (fun i q => by cases q), (o.toS fun i q => q.2).lower Wl, OwnS.nil _ _ _, ⟨h1.wr, h1.dk.row.lt⟩, fun i q => ⟨Nat.le_trans h1.wB (h1.jk.2.1.ge i q).1, (h1.jk.2.1.ge i q).2⟩, fun i q => q.1, fun i q => ⟨.inr q, fun q2 => ?_⟩, fun i q => by cases q⟩
  · rcases q with q | q
    · exact q
    · have := lo i q; omega
  · rcases q with q | q
    · exact Nat.lt_of_lt_of_le (h1.rw i q) x.size
    · exact lt i q
  · have := lo i q
    have := (h1.jk.2.1.ge i q2).2
    omega
theorem SU.sure (h : SU w W g dg r mb d B D c L Dq cq S Du cu U) : ∃ Rq, OwnS w.heap.size Rq W Dq S.length cq S := by obtain ⟨R, Rq, h1, h2, _⟩ := h; exact ⟨Rq, h2⟩
theorem SU.und (h : SU w W g dg r mb d B D c L Dq cq S Du cu U) : ∃ Rq, OwnS w.heap.size Rq W Du U.length cu U := by obtain ⟨R, Rq, h1, _, h3, _⟩ := h; exact ⟨Rq, h3⟩
theorem SU.jk (h : SU w W g dg r mb d B D c L Dq cq S Du cu U) : ∃ R, JS B R W g dg D c L := by obtain ⟨R, Rq, h1, _⟩ := h; exact ⟨R, h1.jk⟩
end
theorem cell_lt {w : World} {p : Addr} {v : Value} (h : w.cell? p = some v) : p.block < w.heap.size := by
  rcases Nat.lt_or_ge p.block w.heap.size with q | q
  · exact q
  · exfalso
    unfold World.cell? at h
    rw [Array.getElem?_eq_none q] at h
    cases h
/-- Rows are appended onto a row that is new since W. -/
theorem wp_append_on {W w : World} {o : Oper} {a : Act} {K : Act → World → Prop} {Q : Exit → Act → World → Prop} {D E : Option Addr} {n c m c' Bq : Nat} {Rq : Nat → Prop} {l ys : List (List UInt8)} {s x : Operand}
    (ho : o.op = .call { callee := .builtin .append, args := #[s, x], argTypes := #[50, 50] }) (hs : a.eval s = .slice D n c) (hx : a.eval x = .slice E m c')
    (h : OwnS W.heap.size (fun _ => False) w D n c l) (xw : Ext W w) (k : OwnS Bq Rq W E m c' ys) (hm : n + m ≤ 1000000)
    (hK : ∀ D'' c'' w', OwnS W.heap.size (fun _ => False) w' D'' (n + m) c'' (l ++ ys) → Ext W w' → K (a.put o.dst (.slice D'' (n + m) c'')) w') : o.wp Try.prog a w K Q := by
  obtain ⟨vs, v1, v2, v3⟩ := k.src
  have lo := h.ge
  refine wp_append_gs ho hs hx h v1 k.len (fun h0 => ?_) (fun j hj => ?_) hm xw.size fun D'' c'' w' o' g' _ => hK D'' c'' w' o' ?_
  · obtain ⟨ad, e, hc⟩ := v2 h0
    exact ⟨ad, e, fun j u hu => (xw.cell (cell_lt (hc j u hu))).trans (hc j u hu)⟩
  · obtain ⟨A', n', c', e1, e2, _⟩ := v3 j hj
    refine ⟨A', n', c', e1, e2.ext xw, fun h0 a ha => ⟨fun q => ?_, id⟩⟩
    obtain ⟨b, off, e, hb, _⟩ := e2.pos h0
    rw [e] at ha
    injection ha with ha
    subst ha
    have := (lo _ q.symm).1
    simp only at this
    omega
  · exact Ot.ext (p := fun i => Value.ownBlock (.slice D n c) = some i) xw ⟨g'.os, g'.tape, g'.output, g'.size, fun i hi hn => g'.block i hi (fun q => hn q.symm)⟩ (fun i q => (lo i q).1)
end Go.Proofs.Yteaoacinhdjkeaa
end

section
/-
  A literal of one byte. No conditions.
-/
namespace Go.Proofs.Yteaoacinhdjkeaa
open Go.ChangeShapes Go.WideShapes Go.ChangeAt Go.RowKit Go.Deep

theorem Bs.lit8 (w : World) (t : TypeId) (xs : List UInt8) (cs : Array Value) (hcs : cs = (xs.map fun x => Value.int .u8 (x.toNat : Int)).toArray) (n : Nat) (hn : xs.length = n) (hm : n ≤ 1000000) :
    Bs (w.alloc (.cells cs t)) (some ⟨w.heap.size, 0, none⟩) n n xs := by
  subst hcs
  have hr := World.rowIs_alloc w (xs.map fun x => Value.int .u8 (x.toNat : Int)).toArray t (fun i => .int .u8 (bt xs i : Int)) (fun i hi => by
    have hi' : i < xs.length := by simpa using hi
    simp [bt, List.getD, hi'])
  refine ⟨hn, Nat.le_refl _, by unfold maxLen; omega, fun _ => ⟨w.heap.size, 0, rfl, by simp, fun j hj => ?_⟩⟩
  rw [Nat.zero_add]
  exact hr.cell (by simp; omega)
theorem Bs.one8 (w : World) (t : TypeId) (x : UInt8) (v : Int) (hv : v = (x.toNat : Int)) : Bs (w.alloc (.cells #[.int .u8 v] t)) (some ⟨w.heap.size, 0, none⟩) 1 1 [x] :=
  Bs.lit8 w t [x] _ (by rw [hv]; rfl) 1 rfl (by omega)
end Go.Proofs.Yteaoacinhdjkeaa
end

section
/-
  The document's High.
-/
namespace Go.Proofs.Yteaoacinhdjkeaa
open Go.ChangeShapes Go.WideShapes Go.ChangeAt Go.RowKit Go.Deep

theorem lowL_snoc (n k : Nat) : lowL n (k + 1) = lowL n k ++ [UInt8.ofNat (n / 256 ^ k)] := by
  unfold lowL
  rw [List.range_succ, List.map_append]
  rfl
theorem lowAt_u8 (n k : Nat) : (lowAt n k : Int) % 256 = ((UInt8.ofNat (n / 256 ^ k)).toNat : Int) := by
  rw [lowAt_byte, UInt8.toNat_ofNat']

theorem Own.one8 (w : World) (B : Nat) (hB : B ≤ w.heap.size) (x : UInt8) (v : Int) (hv : v = (x.toNat : Int)) : Own B (w.alloc (.cells #[.int .u8 v] 5)) (some ⟨w.heap.size, 0, none⟩) 1 1 [x] := by
  subst hv
  exact World.ownsRow_lit (e := 5) (size := 1) w #[.int .u8 (x.toNat : Int)] 1 hB (by unfold maxLen; omega) rfl

set_option maxHeartbeats 1000000 in
theorem refHigh_calls {n m : Nat} {many : Int} {w : World} (hn : n < 18446744073709551616) (h1 : 0 ≤ many) (h2 : many ≤ 9223372036854775807) (hm8 : m ≤ 8) (hM : (if (8 : Int) < many then 8 else many) = (m : Int)) :
    Calls Try.prog 67 #[.int .u64 (n : Int), .int .i64 many] w (RetBs (lowL n m).reverse w) := by
  have hz : lowAt n 0 = n := by simp [lowAt]
  have hM' : m = many ∨ (m = 8 ∧ 8 < many) := by
    by_cases q : (8 : Int) < many
    · rw [if_pos q] at hM; right; omega
    · rw [if_neg q] at hM; left; omega
  clear hM
  go_enter Try.func67, Try.ntmps67
  go_wp2
  go_loopw [0, 5, 6] (fun x v i wr => ∃ (k cc : Nat) (D : Option Addr), k ≤ m ∧ i = .int .i64 k ∧ x = .int .u64 (lowAt n k : Int) ∧ v = .slice D k cc ∧ Bs wr D k cc (lowL n k).reverse ∧ Ext w wr) (fun _ _ i _ => m - (intOf i).toNat)
  case atStart => exact ⟨0, 0, none, Nat.zero_le _, rfl, by rw [hz], rfl, Bs.nil _, Ext.refl _⟩
  case round =>
    obtain ⟨k, cc, D, hk, rfl, rfl, rfl, ho, hE⟩ := hrel
    clear hz
    by_cases hlt : k < m
    · have t1 : (k : Int) < 8 := by omega
      have t2 : (k : Int) < many := by omega
      have hle := Nat.lt_of_le_of_lt (lowAt_le n k) hn
      have hsz := hE.size
      have hv := Lib.hid (lowAt_u8 n k)
      clear hM'
      go_wp2_with (at_builtin; refine wpList_append_bs rfl (B := w.heap.size) rfl rfl rfl (Own.one8 wr w.heap.size hsz (UInt8.ofNat (n / 256 ^ k)) _ hv.out) (ho.ext ((Ext.refl _).alloc _)) (by omega) (by simp; omega) ?_; intro D' cc' w2 ho2 hg2 hbl)
      go_roundw
      case rel => exact ⟨k + 1, cc', D', by omega, by go_num, congrArg (Value.int .u64) (lowAt_int n k), by rw [Nat.add_comm], by rw [lowL_snoc, List.reverse_append, Nat.add_comm k 1]; exact ho2.bs, (hE.alloc _).trans' hbl⟩
      case measure => simp [intOf]; omega
    · obtain rfl : k = m := by omega
      rcases hM' with hM' | ⟨rfl, hM'⟩
      · subst hM'
        go_wp2
        go_ret
        exact ⟨_, _, _, rfl, ho, hE⟩
      · go_wp2
        go_ret
        exact ⟨_, _, _, rfl, ho, hE⟩
end Go.Proofs.Yteaoacinhdjkeaa
end

section
/-
  octets.High and the document's: what they hand back is a row of their own.
-/
namespace Go.Proofs.Yteaoacinhdjkeaa
open Go.ChangeShapes Go.WideShapes Go.ChangeAt Go.RowKit Go.Deep

theorem Own.mono {B B' : Nat} {w : World} {A : Option Addr} {n c : Nat} {xs : List UInt8} (h : Own B w A n c xs) (hB : B' ≤ B) : Own B' w A n c xs := by
  refine ⟨h.1, ?_⟩
  rcases h.2 with h | ⟨g, cap, cur, hv, hb, r⟩
  · exact .inl h
  · exact .inr ⟨g, cap, cur, hv, Nat.le_trans hB hb, r⟩
theorem Own.of_row {B b n : Nat} {w : World} {f : Nat → Value} {xs : List UInt8} (hl : xs.length = n) (hn : n ≤ 281474976710656) (hB : B ≤ b) (h : w.rowIs b 5 n f) (hf : ∀ j, j < n → f j = .int .u8 (bt xs j : Int)) : Own B w (some ⟨b, 0, none⟩) n n xs := by
  obtain ⟨c, h1, h2, h3⟩ := h
  refine ⟨by rw [List.length_map, hl, Nat.mul_one], .inr ⟨b, n, c, rfl, hB, h1, Nat.le_refl _, by unfold maxLen; omega, by rw [h2, Nat.mul_one], ?_⟩⟩
  rw [Nat.mul_one, List.take_of_length_le (by simp [h2])]
  apply List.ext_getElem?
  intro j
  by_cases hj : j < n
  · rw [Array.getElem?_toList, h3 j hj, hf j hj, u8v_bt (by omega)]
  · rw [List.getElem?_eq_none (by simp [h2]; omega), List.getElem?_eq_none (by simp [hl]; omega)]
set_option maxHeartbeats 400000 in
theorem reversedO_calls {A : Option Addr} {n c : Nat} {xs : List UInt8} {w : World} (h : Bs w A n c xs) (hm : n ≤ 281474976710656) :
    Calls Try.prog 74 #[.slice A n c] w (RetOwn xs.reverse w) := by
  have h1 := h.le
  have h2 := h.cap
  have hmk := make8 n hm
  go_enter Try.func74, Try.ntmps74
  go_wp2
  clear hmk
  go_loopw [10] (fun i wr => ∃ k : Nat, k ≤ n ∧ i = .int .i64 k ∧ FillBack w wr n k (fun j => bt xs (n - 1 - j))) (fun i _ => n - (intOf i).toNat)
  case atStart => exact ⟨0, Nat.zero_le _, rfl, (Ext.refl w).alloc _, (World.rowIs_made w _ n _).congr fun i hi => by rw [if_neg (by omega)]⟩
  case round =>
    obtain ⟨k, hk, rfl, hf⟩ := hrel
    by_cases hlt : k < n
    · obtain ⟨b, off, rfl, hb, hc⟩ := h.pos (by omega)
      have g1 := (hf.1.cell (p := ⟨b, off + k, none⟩) hb).trans (hc k hlt)
      have g3 := hf.2.cell (i := n - 1 - k) (by omega)
      rw [if_neg (by omega)] at g3
      have g4 := hf.2.frozen (n - 1 - k)
      clear hc
      go_wp2
      go_roundw
      case rel =>
        exact ⟨k + 1, by omega, by go_num, hf.step (by omega) (by rw [show n - 1 - (n - 1 - k) = k by omega])⟩
      case measure => simp [intOf]; omega
    · obtain rfl : k = n := by omega
      go_wp2
      go_ret
      refine ⟨_, _, _, rfl, Own.of_row (by rw [List.length_reverse, h.len]) (by omega) (Nat.le_refl _) hf.2 fun j hj => ?_, hf.1⟩
      rw [if_pos (by omega), bt_reverse (by rw [h.len]; exact hj), h.len]

set_option maxHeartbeats 400000 in
theorem highO_calls {n m : Nat} {many : Int} {w : World} (hn : n < 18446744073709551616) (h1 : 0 ≤ many) (h2 : many ≤ 9223372036854775807) (hm8 : m ≤ 8) (hM : (if (8 : Int) < many then 8 else many) = (m : Int)) :
    Calls Try.prog 66 #[.int .u64 (n : Int), .int .i64 many] w (RetOwn (lowL n m).reverse w) := by
  have hM' := Lib.hid hM
  clear hM
  go_enter Try.func66, Try.ntmps66
  go_wp2_with fail
  refine (low_calls hn h1 h2 hm8 hM'.out).mono ?_
  rintro e w1 ⟨A, k, c, rfl, hb, he⟩
  go_wp2_with fail
  have hk : k ≤ 8 := by have := hb.len; rw [lowL_len] at this; omega
  refine (reversedO_calls hb (by omega)).mono ?_
  rintro e w2 ⟨A, k, c, rfl, hb2, he2⟩
  go_wp2_with fail
  go_ret
  exact ⟨_, _, _, rfl, hb2.mono he.size, he.trans he2⟩
set_option maxHeartbeats 1000000 in
theorem refHighO_calls {n m : Nat} {many : Int} {w : World} (hn : n < 18446744073709551616) (h1 : 0 ≤ many) (h2 : many ≤ 9223372036854775807) (hm8 : m ≤ 8) (hM : (if (8 : Int) < many then 8 else many) = (m : Int)) :
    Calls Try.prog 67 #[.int .u64 (n : Int), .int .i64 many] w (RetOwn (lowL n m).reverse w) := by
  have hz : lowAt n 0 = n := by simp [lowAt]
  have hM' : m = many ∨ (m = 8 ∧ 8 < many) := by
    by_cases q : (8 : Int) < many
    · rw [if_pos q] at hM; right; omega
    · rw [if_neg q] at hM; left; omega
  clear hM
  go_enter Try.func67, Try.ntmps67
  go_wp2
  go_loopw [0, 5, 6] (fun x v i wr => ∃ (k cc : Nat) (D : Option Addr), k ≤ m ∧ i = .int .i64 k ∧ x = .int .u64 (lowAt n k : Int) ∧ v = .slice D k cc ∧ Own w.heap.size wr D k cc (lowL n k).reverse ∧ Ext w wr) (fun _ _ i _ => m - (intOf i).toNat)
  case atStart => exact ⟨0, 0, none, Nat.zero_le _, rfl, by rw [hz], rfl, Own.nil _ _, Ext.refl _⟩
  case round =>
    obtain ⟨k, cc, D, hk, rfl, rfl, rfl, ho, hE⟩ := hrel
    clear hz
    by_cases hlt : k < m
    · have t1 : (k : Int) < 8 := by omega
      have t2 : (k : Int) < many := by omega
      have hle := Nat.lt_of_le_of_lt (lowAt_le n k) hn
      have hsz := hE.size
      have hv := Lib.hid (lowAt_u8 n k)
      clear hM'
      go_wp2_with (at_builtin; refine wpList_append_bs rfl (B := w.heap.size) rfl rfl rfl (Own.one8 wr w.heap.size hsz (UInt8.ofNat (n / 256 ^ k)) _ hv.out) (ho.bs.ext ((Ext.refl _).alloc _)) (by omega) (by simp; omega) ?_; intro D' cc' w2 ho2 hg2 hbl)
      go_roundw
      case rel => exact ⟨k + 1, cc', D', by omega, by go_num, congrArg (Value.int .u64) (lowAt_int n k), by rw [Nat.add_comm], by rw [lowL_snoc, List.reverse_append, Nat.add_comm k 1]; exact ho2, (hE.alloc _).trans' hbl⟩
      case measure => simp [intOf]; omega
    · obtain rfl : k = m := by omega
      rcases hM' with hM' | ⟨rfl, hM'⟩
      · subst hM'
        go_wp2
        go_ret
        exact ⟨_, _, _, rfl, ho, hE⟩
      · go_wp2
        go_ret
        exact ⟨_, _, _, rfl, ho, hE⟩
end Go.Proofs.Yteaoacinhdjkeaa
end

section
/-
  Strikes: the mathematics; the small functions; a record's bytes.
-/
namespace Go.Proofs.Yteaoacinhdjkeaa
open Go.ChangeShapes Go.WideShapes Go.ChangeAt Go.RowKit Go.Deep Go.Maps
set_option maxRecDepth 100000

/-- A strike; a record. -/
structure Sk where
  id : Nat
  acc : Nat
  time : Nat
  rev : Bool
structure Rk where
  kind : Nat
  acc : Nat
  id : Nat
  time : Nat
def Sk.C (s : Sk) : List Value := [.int .i64 (s.acc : Int), .int .i64 (s.time : Int), .bool s.rev]
def Sk.key (s : Sk) : Value := .int .i64 (s.id : Int)
def Sk.ent (s : Sk) : Value × Value := (s.key, .agg s.C.toArray)
def Rk.C (r : Rk) : List Value := [.int .i64 (r.kind : Int), .int .i64 (r.acc : Int), .int .i64 (r.id : Int), .int .i64 (r.time : Int)]
structure Rk.ok (r : Rk) : Prop where
  k : r.kind = 1 ∨ r.kind = 2
  a : r.acc < 8
  i : r.id ≤ 1000000
  t : r.time ≤ 1000000
/-- The strike with a number. -/
def findS (K : List Sk) (id : Int) : Option Sk := K.find? fun s => decide ((s.id : Int) = id)
def revS (K : List Sk) (id : Nat) : List Sk := K.map fun s => if s.id = id then { s with rev := true } else s
/-- A record is followed. -/
def followL (K : List Sk) (r : Rk) : List Sk :=
  if r.kind = 1 then (if (findS K (r.id : Int)).isSome then K else K ++ [⟨r.id, r.acc, r.time, false⟩]) else (if r.kind = 2 then (if (findS K (r.id : Int)).isSome then revS K r.id else K) else K)
structure OkS (K : List Sk) : Prop where
  ap : K.Pairwise fun x y => x.id ≠ y.id
  ok : ∀ s ∈ K, s.acc < 8 ∧ s.id ≤ 1000000 ∧ s.time ≤ 1000000
section
variable {K : List Sk}
theorem OkS.nil : OkS [] := ⟨List.Pairwise.nil, fun s h => by cases h⟩
theorem OkS.len (h : OkS K) : K.length ≤ 1000001 := by
  have := List.Nodup.length_le_of_subset (l₁ := K.map (·.id)) (l₂ := List.range 1000001) (by rw [List.Nodup, List.pairwise_map]; exact h.ap) (fun x hx => by
    obtain ⟨s, hs, rfl⟩ := List.mem_map.1 hx
    have := (h.ok s hs).2.1
    exact List.mem_range.2 (by omega))
  rw [List.length_map, List.length_range] at this
  exact this
theorem findS_some {id : Int} {s : Sk} (h : findS K id = some s) : s ∈ K ∧ (s.id : Int) = id := by
  unfold findS at h
  have h1 := List.mem_of_find?_eq_some h
  have h2 := List.find?_some h
  exact ⟨h1, by simpa using h2⟩
theorem findS_none {id : Int} (h : findS K id = none) : ∀ s ∈ K, (s.id : Int) ≠ id := fun s hs => by
  unfold findS at h
  have := List.find?_eq_none.1 h s hs
  simpa using this
theorem ids_apart : ∀ {K : List Sk}, K.Pairwise (fun x y => x.id ≠ y.id) → ∀ x y, x ∈ K → y ∈ K → x ≠ y → x.id ≠ y.id
  | [], _, x, _, hx, _, _ => by cases hx
  | a :: r, h, x, y, hx, hy, hxy => by
    obtain ⟨p1, p2⟩ := List.pairwise_cons.1 h
    rcases List.mem_cons.1 hx with ex | hx
    · rcases List.mem_cons.1 hy with ey | hy
      · exact absurd (ex.trans ey.symm) hxy
      · rw [ex]; exact p1 y hy
    · rcases List.mem_cons.1 hy with ey | hy
      · rw [ey]; exact fun z => p1 x hx z.symm
      · exact ids_apart p2 x y hx hy hxy
theorem findS_mem (h : OkS K) {s : Sk} (hs : s ∈ K) : findS K (s.id : Int) = some s := by
  cases e : findS K (s.id : Int) with
  | none => exact absurd rfl (findS_none e s hs)
  | some t =>
    obtain ⟨h1, h2⟩ := findS_some e
    have h2 : t.id = s.id := by omega
    by_cases q : t = s
    · rw [q]
    · exfalso
      have := h.ap
      have hne := ids_apart this
      exact hne t s h1 hs q h2
theorem OkS.follow (h : OkS K) {r : Rk} (hr : r.acc < 8 ∧ r.id ≤ 1000000 ∧ r.time ≤ 1000000) : OkS (followL K r) := by
  unfold followL
  split
  · split
    · exact h
    · rename_i q
      have q : findS K (r.id : Int) = none := by simpa using q
      refine ⟨?_, fun s hs => ?_⟩
      · rw [List.pairwise_append]
        refine ⟨h.ap, List.pairwise_singleton _ _, fun a ha b hb => ?_⟩
        rw [List.mem_singleton.1 hb]
        have := findS_none q a ha
        show a.id ≠ r.id
        omega
      · rcases List.mem_append.1 hs with hs | hs
        · exact h.ok s hs
        · rw [List.mem_singleton.1 hs]; exact hr
  · split
    · split
      · refine ⟨?_, fun s hs => ?_⟩
        · unfold revS
          rw [List.pairwise_map]
          refine h.ap.imp fun {a b} hab => ?_
          have e : ∀ s : Sk, (if s.id = r.id then { s with rev := true } else s).id = s.id := fun s => by split <;> rfl
          rw [e, e]
          exact hab
        · obtain ⟨t, ht, rfl⟩ := List.mem_map.1 hs
          have := h.ok t ht
          split <;> exact this
      · exact h
    · exact h
end
/-- The bytes of a record, and back. -/
def bytesR (r : Rk) : List UInt8 := ([UInt8.ofNat r.kind, UInt8.ofNat r.acc] ++ (lowL r.id 4).reverse) ++ (lowL r.time 4).reverse
theorem bytesR_len (r : Rk) : (bytesR r).length = 10 := by simp [bytesR, lowL_len]
def rkOf (b : List UInt8) : Rk := ⟨bt b 0, bt b 1, ofLowL ((b.drop 2).take 4).reverse, ofLowL (b.drop 6).reverse⟩
def okR (r : Rk) : Bool := (decide (r.kind = 1) || decide (r.kind = 2)) && decide (r.acc < 8) && decide (r.id ≤ 1000000) && decide (r.time ≤ 1000000)
theorem okR_iff {r : Rk} : okR r = true ↔ r.ok := by
  unfold okR
  simp only [Bool.and_eq_true, Bool.or_eq_true, decide_eq_true_eq]
  exact ⟨fun ⟨⟨⟨a, b⟩, c⟩, d⟩ => ⟨a, b, c, d⟩, fun h => ⟨⟨⟨h.k, h.a⟩, h.i⟩, h.t⟩⟩
def recR (b : List UInt8) : Option Rk := if b.length = 10 ∧ okR (rkOf b) = true then some (rkOf b) else none
theorem recR_bytes {r : Rk} (h : r.ok) : recR (bytesR r) = some r := by
  have h1 := h.a
  have h2 := h.i
  have h3 := h.t
  have hk : r.kind < 256 := by rcases h.k with q | q <;> omega
  have e : rkOf (bytesR r) = r := by
    obtain ⟨k, a, i, t⟩ := r
    unfold rkOf bytesR
    have d2 : ((([UInt8.ofNat k, UInt8.ofNat a] ++ (lowL i 4).reverse) ++ (lowL t 4).reverse).drop 2).take 4 = (lowL i 4).reverse := by
      rw [List.append_assoc, show List.drop 2 ([UInt8.ofNat k, UInt8.ofNat a] ++ ((lowL i 4).reverse ++ (lowL t 4).reverse)) = (lowL i 4).reverse ++ (lowL t 4).reverse from rfl]
      rw [List.take_append_of_le_length (by simp [lowL_len]), List.take_of_length_le (by simp [lowL_len])]
    have d6 : (([UInt8.ofNat k, UInt8.ofNat a] ++ (lowL i 4).reverse) ++ (lowL t 4).reverse).drop 6 = (lowL t 4).reverse := by
      rw [List.drop_append_of_le_length (by simp [lowL_len]), List.drop_of_length_le (by simp [lowL_len]), List.nil_append]
    dsimp only at h1 h2 h3 hk ⊢
    rw [d2, d6, List.reverse_reverse, List.reverse_reverse, ofLowL_lowL, ofLowL_lowL, Nat.mod_eq_of_lt (by omega), Nat.mod_eq_of_lt (by omega)]
    have b0 : bt ([UInt8.ofNat k, UInt8.ofNat a] ++ (lowL i 4).reverse ++ (lowL t 4).reverse) 0 = k := by
      show (UInt8.ofNat k).toNat = k
      simp; omega
    have b1 : bt ([UInt8.ofNat k, UInt8.ofNat a] ++ (lowL i 4).reverse ++ (lowL t 4).reverse) 1 = a := by
      show (UInt8.ofNat a).toNat = a
      simp; omega
    rw [b0, b1]
  unfold recR
  rw [e, if_pos ⟨bytesR_len r, okR_iff.2 h⟩]
/-- The strikes of records, in their order. -/
def kAdd (K : List Sk) (b : List UInt8) : List Sk := match recR b with
  | some r => followL K r
  | none => K
def kOf (L : List (List UInt8)) : List Sk := L.foldl kAdd []
theorem OkS.add {K : List Sk} (h : OkS K) (b : List UInt8) : OkS (kAdd K b) := by
  unfold kAdd
  cases e : recR b with
  | none => exact h
  | some r =>
    unfold recR at e
    split at e
    · rename_i q
      have := okR_iff.1 q.2
      rw [Option.some.inj e] at this
      exact h.follow ⟨this.a, this.i, this.t⟩
    · cases e
theorem OkS.fold {L : List (List UInt8)} : ∀ {K : List Sk}, OkS K → OkS (L.foldl kAdd K) := by
  induction L with
  | nil => exact fun h => h
  | cons b r ih => exact fun h => ih (h.add b)
theorem kOf_ok (L : List (List UInt8)) : OkS (kOf L) := OkS.fold OkS.nil
theorem kOf_snoc (L : List (List UInt8)) (b : List UInt8) : kOf (L ++ [b]) = kAdd (kOf L) b := by unfold kOf; rw [List.foldl_append]; rfl

/-- The small functions. -/
def accB23 (a : Int) : Bool := decide (0 ≤ a) && decide (a < 8)
def numB23 (a : Int) : Bool := decide (0 ≤ a) && decide (a ≤ 1000000)
theorem sacc_calls {w : World} {n : Int} : Calls Try.prog 57 #[.int .i64 n] w fun e w' => e = .returned (.bool (accB23 n)) ∧ w' = w := by
  unfold accB23
  go_enter Try.func57, Try.ntmps57
  by_cases h0 : 0 ≤ n
  · have h0' : decide (0 ≤ n) = true := decide_eq_true h0
    by_cases h8 : n < 8
    · have h8' : decide (n < 8) = true := decide_eq_true h8
      rw [h0', h8']
      go_wp2_with fail
      go_ret
      exact ⟨rfl, rfl⟩
    · have h8' : decide (n < 8) = false := decide_eq_false h8
      rw [h0', h8']
      go_wp2_with fail
      go_ret
      exact ⟨rfl, rfl⟩
  · have h0' : decide (0 ≤ n) = false := decide_eq_false h0
    rw [h0']
    go_wp2_with fail
    go_ret
    exact ⟨rfl, rfl⟩
theorem snum_calls {w : World} {n : Int} : Calls Try.prog 58 #[.int .i64 n] w fun e w' => e = .returned (.bool (numB23 n)) ∧ w' = w := by
  unfold numB23
  go_enter Try.func58, Try.ntmps58
  by_cases h0 : 0 ≤ n
  · have h0' : decide (0 ≤ n) = true := decide_eq_true h0
    by_cases h8 : n ≤ 1000000
    · have h8' : decide (n ≤ 1000000) = true := decide_eq_true h8
      rw [h0', h8']
      go_wp2_with fail
      go_ret
      exact ⟨rfl, rfl⟩
    · have h8' : decide (n ≤ 1000000) = false := decide_eq_false h8
      rw [h0', h8']
      go_wp2_with fail
      go_ret
      exact ⟨rfl, rfl⟩
  · have h0' : decide (0 ≤ n) = false := decide_eq_false h0
    rw [h0']
    go_wp2_with fail
    go_ret
    exact ⟨rfl, rfl⟩
end Go.Proofs.Yteaoacinhdjkeaa
end

section
/-
  Strikes: bytesOf.
-/
namespace Go.Proofs.Yteaoacinhdjkeaa
open Go.ChangeShapes Go.WideShapes Go.ChangeAt Go.RowKit Go.Deep Go.Maps
set_option maxRecDepth 100000

theorem own_two23 (w : World) (a b : UInt8) : Own w.heap.size (w.alloc (.cells #[.int .u8 (a.toNat : Int), .int .u8 (b.toNat : Int)] 5)) (some ⟨w.heap.size, 0, none⟩) 2 2 [a, b] :=
  ⟨rfl, .inr ⟨w.heap.size, 2, #[.int .u8 (a.toNat : Int), .int .u8 (b.toNat : Int)], rfl, Nat.le_refl _, heap_alloc_new _ _, Nat.le_refl _, by decide, rfl, rfl⟩⟩
set_option maxHeartbeats 4000000 in
theorem sbytes_calls {w : World} {r : Rk} (hr : r.kind < 256 ∧ r.acc < 256 ∧ r.id < 4294967296 ∧ r.time < 4294967296) :
    Calls Try.prog 72 #[.agg r.C.toArray] w (RetOwn (bytesR r) w) := by
  obtain ⟨h1, h2, h3, h4⟩ := hr
  obtain ⟨k, a, i, t⟩ := r
  dsimp only at h1 h2 h3 h4
  have HI : Hid (∀ (s : World) (n : Nat), n < 4294967296 → Calls Try.prog 66 #[.int .u64 (n : Int), .int .i64 4] s (RetOwn (lowL n 4).reverse s)) := fun s n hn => highO_calls (n := n) (m := 4) (many := 4) (w := s) (by omega) (by omega) (by omega) (by omega) (by omega)
  have m1 : IntKind.u8.wrap (k : Int) = (k : Int) := IntWalk.u8_in _ (by omega)
  have m2 : IntKind.u8.wrap (a : Int) = (a : Int) := IntWalk.u8_in _ (by omega)
  have m3 : IntKind.u64.wrap (i : Int) = (i : Int) := IntWalk.u64_in _ (by omega)
  have m4 : IntKind.u64.wrap (t : Int) = (t : Int) := IntWalk.u64_in _ (by omega)
  have V1 : ((UInt8.ofNat k).toNat : Int) = (k : Int) := by
    have : (UInt8.ofNat k).toNat = k := by simp; omega
    omega
  have V2 : ((UInt8.ofNat a).toNat : Int) = (a : Int) := by
    have : (UInt8.ofNat a).toNat = a := by simp; omega
    omega
  have HB : Hid (bytesR ⟨k, a, i, t⟩ = ([UInt8.ofNat k, UInt8.ofNat a] ++ (lowL i 4).reverse) ++ (lowL t 4).reverse) := rfl
  have Li : ((lowL i 4).reverse).length = 4 := by rw [List.length_reverse, lowL_len]
  have Lt : ((lowL t 4).reverse).length = 4 := by rw [List.length_reverse, lowL_len]
  generalize bytesR ⟨k, a, i, t⟩ = BR at *
  obtain ⟨g, hg⟩ : ∃ q, q = w.heap.size := ⟨_, rfl⟩
  have B0 : Hid (Cb (w.alloc (.cells (⟨k, a, i, t⟩ : Rk).C.toArray 124)) g 124 [.int .i64 (k : Int), .int .i64 (a : Int), .int .i64 (i : Int), .int .i64 (t : Int)] ∧ Ext w (w.alloc (.cells (⟨k, a, i, t⟩ : Rk).C.toArray 124))) := by rw [hg]; exact ⟨Cb.new _ _ _, (Ext.refl w).alloc _⟩
  go_enter Try.func72, Try.ntmps72
  go_upto_region 1 with fail
  refine wp_gen (fun W => Cb W g 124 [.int .i64 (k : Int), .int .i64 (a : Int), .int .i64 (i : Int), .int .i64 (t : Int)] ∧ Ext w W) B0.out ?_
  rw [← hg]
  replace hg := Lib.hid hg
  clear B0
  rintro w0 ⟨k0, x0⟩
  have CS : Hid (∀ s, Ext w0 s → s.cell? ⟨g, 0, none⟩ = some (.int .i64 (k : Int)) ∧ s.cell? ⟨g, 1, none⟩ = some (.int .i64 (a : Int)) ∧ s.cell? ⟨g, 2, none⟩ = some (.int .i64 (i : Int)) ∧ s.cell? ⟨g, 3, none⟩ = some (.int .i64 (t : Int))) := fun s e => ⟨(k0.ext e).cell rfl, (k0.ext e).cell rfl, (k0.ext e).cell rfl, (k0.ext e).cell rfl⟩
  have ot := own_two23 w0 (UInt8.ofNat k) (UInt8.ofNat a)
  rw [V1, V2] at ot
  have K1 : Hid (Own w0.heap.size (w0.alloc (.cells #[.int .u8 (k : Int), .int .u8 (a : Int)] 5)) (some ⟨w0.heap.size, 0, none⟩) 2 2 [UInt8.ofNat k, UInt8.ofNat a] ∧ Ext w0 (w0.alloc (.cells #[.int .u8 (k : Int), .int .u8 (a : Int)] 5))) := ⟨ot, (Ext.refl w0).alloc _⟩
  have c0 := CS.out w0 (Ext.refl w0)
  obtain ⟨c1, c2, _, _⟩ := c0
  replace x0 := Lib.hid x0
  clear ot k0
  go_upto_region 2 with fail
  refine wp_gen (fun W => Own w0.heap.size W (some ⟨w0.heap.size, 0, none⟩) 2 2 [UInt8.ofNat k, UInt8.ofNat a] ∧ Ext w0 W) K1.out ?_
  clear K1 c1 c2
  rintro w1 ⟨o1, x1⟩
  have c3 := (CS.out w1 x1).2.2.1
  replace o1 := Lib.hid o1
  replace x1 := Lib.hid x1
  go_wp2_with fail
  refine (HI.out w1 i h3).mono ?_
  rintro e w2 ⟨A2, n2, cc2, rfl, o2, x2⟩
  obtain rfl : n2 = 4 := by rw [← o2.len, Li]
  have o12 := Lib.hid (o1.out.ext x2)
  have b2 := Lib.hid o2.bs
  have X2 := Lib.hid (x1.out.trans x2)
  have sz2 : w0.heap.size ≤ w2.heap.size := X2.out.size
  clear o1 o2 x1 x2 c3
  go_upto_region 3 with (at_builtin; refine wpList_append_bs rfl (B := w0.heap.size) (s := .tmp 11) (x := .tmp 15) rfl rfl rfl o12.out b2.out (by omega) sz2 ?_; intro D3 cc3 w3 o3 hg3 hbl3; replace o3 := Lib.hid o3; have x3 := Lib.hid (X2.out.trans' hbl3))
  have c4 := (CS.out w3 x3.out).2.2.2
  clear o12 b2 X2 sz2 hg3 hbl3
  go_wp2_with fail
  refine (HI.out w3 t h4).mono ?_
  rintro e w4 ⟨A4, n4, cc4, rfl, o4, x4⟩
  obtain rfl : n4 = 4 := by rw [← o4.len, Lt]
  have o34 := Lib.hid (o3.out.ext x4)
  have b4 := Lib.hid o4.bs
  have X4 := Lib.hid (x3.out.trans x4)
  have sz4 : w0.heap.size ≤ w4.heap.size := X4.out.size
  clear o3 o4 x3 x4 c4
  go_wp2_with (at_builtin; refine wpList_append_bs rfl (B := w0.heap.size) (s := .tmp 17) (x := .tmp 21) rfl rfl rfl o34.out b4.out (by omega) sz4 ?_; intro D5 cc5 w5 o5 hg5 hbl5; replace o5 := Lib.hid o5; have x5 := Lib.hid (X4.out.trans' hbl5))
  go_ret
  exact ⟨D5, _, cc5, rfl, by rw [HB.out]; exact Own.mono o5.out x0.out.size, x0.out.trans x5.out⟩
end Go.Proofs.Yteaoacinhdjkeaa
end
