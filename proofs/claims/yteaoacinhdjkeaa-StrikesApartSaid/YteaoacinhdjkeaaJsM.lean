import Derived.Test.YteaoacinhdjkeaaPkD
import Derived.Test.YteaoacinhdjkeaaJs22
import Derived.Test.YteaoacinhdjkeaaOwnS
import Derived.Test.YteaoacinhdjkeaaSameW
/-
  Rows beside a journal: what stays when it, or its disk, turns.
-/
namespace Go.Proofs.Yteaoacinhdjkeaa
open Go.ChangeShapes Go.WideShapes Go.ChangeAt Go.RowKit Go.Deep Go.Maps
set_option maxRecDepth 100000

section
variable {w W W' : World} {g dg r mb : Nat} {d : Ds} {B : Nat} {R : Nat → Prop} {D : Option Addr} {c : Nat} {L : List (List UInt8)} {Bq : Nat} {Rq : Nat → Prop} {Dq : Option Addr} {n cq : Nat} {l : List (List UInt8)}
theorem JN.bW (h : JN w W g dg r mb d B R D c L) : B ≤ W.heap.size := Nat.le_of_lt (Nat.lt_of_le_of_lt h.jk.2.2 h.jk.1.lt)
theorem JN.forbid {R' : Nat → Prop} (h : JN w W g dg r mb d B R D c L) (hR : ∀ i, i < W.heap.size → R' i → R i) (h1 : R' r) (h2 : ∀ i, R' i → i < W.heap.size) : JN w W g dg r mb d B R' D c L := ⟨h.jk.forbid hR, h.dk, h1, h2, h.wB, h.wd, h.wr, h.wm, h.ex⟩
theorem JN.disk (h : JN w W g dg r mb d B R D c L) {mb' : Nat} {d' : Ds} (dk : DK W' dg r mb' d') (k : Ot (Pd22 dg r mb) W W') (hmb : mb' = mb ∨ W.heap.size ≤ mb') : JN w W' g dg r mb' d' B R D c L := by
  obtain ⟨p1, p2, p3⟩ := jk_apart h.jk h.dk h.rR
  have h1 := h.wd
  have h2 := h.wr
  have h3 := h.wm
  refine ⟨h.jk.ot k p1 p2 p3, dk, h.rR, fun i q => Nat.lt_of_lt_of_le (h.rw i q) k.size, h.wB, h.wd, h.wr, ?_, Ot.ext h.ex k fun i q => ?_⟩
  · rcases hmb with q | q
    · rw [q]; exact h3
    · exact Nat.le_trans h.ex.size q
  · rcases q with q | q | q <;> omega
/-- Another row's own block turns: it is no block of the journal, and its bytes are elsewhere. -/
theorem JN.other (h : JN w W g dg r mb d B R D c L) {o : Option Nat} (k : W.grownBy W' o) {R' : Nat → Prop} (hR : ∀ i, i < W.heap.size → R' i → R i) (h1 : R' r) (h2 : ∀ i, R' i → i < W'.heap.size) (ho : ∀ i, o = some i → R' i ∧ w.heap.size ≤ i ∧ Value.ownBlock (.slice D L.length c) ≠ some i ∧ i ≠ g ∧ i ≠ dg ∧ i ≠ r ∧ i ≠ mb) : JN w W' g dg r mb d B R' D c L := by
  have ot : Ot (fun i => o = some i) W W' := ⟨k.os, k.tape, k.output, k.size, fun i hi hn => k.block i hi (fun q => hn q.symm)⟩
  refine ⟨(h.jk.forbid hR).ot ot (fun q => (ho _ q).2.2.2.1 rfl) (fun i q => (ho i q).2.2.1) (fun i q => .inl (ho i q).1), ?_, h1, h2, h.wB, h.wd, h.wr, h.wm, Ot.ext h.ex ot fun i q => (ho i q).2.1⟩
  exact h.dk.stay (ot.same h.dk.cb.lt (fun q => (ho _ q).2.2.2.2.1 rfl)) (ot.same h.dk.row.lt (fun q => (ho _ q).2.2.2.2.2.1 rfl)) (ot.same h.dk.mp.lt (fun q => (ho _ q).2.2.2.2.2.2 rfl))
/-- A row's own block is none of a disk's, no journal. -/
theorem OwnS.apart (h : OwnS Bq Rq W Dq n cq l) (jn : JN w W g dg r mb d B R D c L) : ∀ i, Value.ownBlock (.slice Dq n cq) = some i → i ≠ g ∧ i ≠ dg ∧ i ≠ r ∧ i ≠ mb := fun i q => by
  obtain ⟨es, cl, hmp⟩ := jn.dk.mp.obj
  have mo : ∀ cs t f, Obj.map es cl ≠ .cells cs t f := fun _ _ _ q => by cases q
  refine ⟨fun e => ?_, fun e => ?_, fun e => ?_, fun e => ?_⟩
  · subst e; exact h.ne_of jn.jk.1 (by decide) q
  · subst e; exact h.ne_of jn.dk.cb (by decide) q
  · subst e; exact h.ne_of jn.dk.row (by decide) q
  · subst e; exact h.ne_obj hmp mo q
theorem OwnS.disk (h : OwnS Bq Rq W Dq n cq l) (jn : JN w W g dg r mb d B R D c L) (hr : Rq r) (k : Ot (Pd22 dg r mb) W W') : OwnS Bq Rq W' Dq n cq l := by
  obtain ⟨es, cl, hmp⟩ := jn.dk.mp.obj
  have mo : ∀ cs t f, Obj.map es cl ≠ .cells cs t f := fun _ _ _ q => by cases q
  have ap := h.apart jn
  refine h.ot k (fun i q q2 => ?_) ?_
  · obtain ⟨_, a1, a2, a3⟩ := ap i q2
    rcases q with q | q | q
    · exact a1 q
    · exact a2 q
    · exact a3 q
  · rintro i (q | q | q)
    · subst q; exact .inr jn.dk.no_u8
    · subst q; exact .inl hr
    · subst q; exact .inr fun j x => no_cell hmp mo j _
/-- Behind an Append: its own block may be new. -/
theorem OwnS.jour (h : OwnS Bq Rq W Dq n cq l) (jn : JN w W g dg r mb d B R D c L) (hr : Rq r) (ho : ∀ i, Value.ownBlock (.slice D L.length c) = some i → Rq i) (sep : ∀ i, Value.ownBlock (.slice Dq n cq) = some i → Value.ownBlock (.slice D L.length c) ≠ some i) (k : Ot (Pj22 g dg r mb (Value.ownBlock (.slice D L.length c))) W W') :
    OwnS Bq (fun i => Rq i ∨ W.heap.size ≤ i) W' Dq n cq l := by
  obtain ⟨es, cl, hmp⟩ := jn.dk.mp.obj
  have mo : ∀ cs t f, Obj.map es cl ≠ .cells cs t f := fun _ _ _ q => by cases q
  have gC := jn.jk.1
  have ap := h.apart jn
  have h2 : OwnS Bq (fun i => Rq i ∨ W.heap.size ≤ i) W Dq n cq l := h.forbid fun i hi q => q.elim id fun z => by omega
  refine h2.ot k (fun i q q2 => ?_) ?_
  · obtain ⟨a0, a1, a2, a3⟩ := ap i q2
    rcases q with q | q | q | q | q
    · exact a1 q
    · exact a2 q
    · exact a3 q
    · exact a0 q
    · exact sep i q2 q
  · rintro i (q | q | q | q | q)
    · subst q; exact .inr jn.dk.no_u8
    · subst q; exact .inl (.inl hr)
    · subst q; exact .inr fun j x => no_cell hmp mo j _
    · subst q
      refine .inr fun j x => ?_
      unfold Cb at gC
      simp only [World.cell?, gC]
      intro z
      have z : ([.pointer (some ⟨dg, 0, none⟩), .slice D L.length c] : List Value)[j]? = some (.int .u8 x) := by simpa using z
      have := List.mem_of_getElem? z
      simp at this
    · exact .inl (.inl (ho i q))
end
/-- A journal (its records L), beside it the rows S and U. -/
def SU (w W : World) (g dg r mb : Nat) (d : Ds) (B : Nat) (D : Option Addr) (c : Nat) (L : List (List UInt8)) (Dq : Option Addr) (cq : Nat) (S : List (List UInt8)) (Du : Option Addr) (cu : Nat) (U : List (List UInt8)) : Prop :=
  ∃ R Rq : Nat → Prop, JN w W g dg r mb d B R D c L ∧ OwnS w.heap.size Rq W Dq S.length cq S ∧ OwnS w.heap.size Rq W Du U.length cu U ∧ Rq r ∧ (∀ i, Value.ownBlock (.slice D L.length c) = some i → Rq i) ∧ (∀ i, Rq i → w.heap.size ≤ i) ∧
    (∀ i, Value.ownBlock (.slice Dq S.length cq) = some i → R i ∧ Value.ownBlock (.slice D L.length c) ≠ some i) ∧ (∀ i, Value.ownBlock (.slice Du U.length cu) = some i → Value.ownBlock (.slice D L.length c) ≠ some i)
section
variable {w W W' : World} {g dg r mb : Nat} {d : Ds} {B : Nat} {D : Option Addr} {c : Nat} {L : List (List UInt8)} {Dq : Option Addr} {cq : Nat} {S : List (List UInt8)} {Du : Option Addr} {cu : Nat} {U : List (List UInt8)}
theorem SU.ext (h : SU w W g dg r mb d B D c L Dq cq S Du cu U) (x : Ext W W') : SU w W' g dg r mb d B D c L Dq cq S Du cu U := by
  obtain ⟨R, Rq, h1, h2, h3, h4⟩ := h
  exact ⟨R, Rq, h1.ext x, h2.ext x, h3.ext x, h4⟩
theorem SU.ex (h : SU w W g dg r mb d B D c L Dq cq S Du cu U) : Ext w W := by obtain ⟨R, Rq, h1, _⟩ := h; exact h1.ex
theorem SU.disk (h : SU w W g dg r mb d B D c L Dq cq S Du cu U) {mb' : Nat} {d' : Ds} (dk : DK W' dg r mb' d') (k : Ot (Pd22 dg r mb) W W') (hmb : mb' = mb ∨ W.heap.size ≤ mb') : SU w W' g dg r mb' d' B D c L Dq cq S Du cu U := by
  obtain ⟨R, Rq, h1, h2, h3, h4, h5⟩ := h
  exact ⟨R, Rq, h1.disk dk k hmb, h2.disk h1 h4 k, h3.disk h1 h4 k, h4, h5⟩
theorem SU.dk (h : SU w W g dg r mb d B D c L Dq cq S Du cu U) : DK W dg r mb d := by obtain ⟨R, Rq, h1, _⟩ := h; exact h1.dk
theorem SU.append (h : SU w W g dg r mb d B D c L Dq cq S Du cu U) {A : Option Addr} {n c' : Nat} {xs : List UInt8} (hL : L.length ≤ 64) (hb : Bs w A n c' xs) (hn : n ≤ 1000000) :
    Calls Try.prog 16 #[.pointer (some ⟨g, 0, none⟩), .slice A n c'] W fun e W' => e = .returned (.int .i64 (d.jE L.length xs)) ∧ ∃ mb' D' c2, SU w W' g dg r mb' (d.jD L.length xs) B D' c2 (d.jL L xs) Dq cq S Du cu U := by
  obtain ⟨R, Rq, h1, h2, h3, h4, h5, h6, h7, h8⟩ := h
  have lo : ∀ i, Pd22 dg r mb i → w.heap.size ≤ i := fun i q => by
    have := h1.wd
    have := h1.wr
    have := h1.wm
    rcases q with q | q | q <;> omega
  refine (h1.append hL (fun s k => (hb.ext h1.ex).ot22 k (fun a ha h0 q => ?_)) hn).mono ?_
  · obtain ⟨b, off, e, hlt, _⟩ := hb.pos h0
    rw [e] at ha
    injection ha with ha
    subst ha
    have := lo _ q
    simp only at this
    omega
  · rintro e W' ⟨he, mb', D', c2, j2, ot, ho⟩
    have Wl := h1.ex.size
    refine ⟨he, mb', D', c2, R, fun i => Rq i ∨ W.heap.size ≤ i, j2, h2.jour h1 h4 h5 (fun i q => (h7 i q).2) ot, h3.jour h1 h4 h5 h8 ot, .inl h4, fun i q => ?_, fun i q => ?_, fun i q => ⟨(h7 i q).1, fun q2 => ?_⟩, fun i q q2 => ?_⟩
    · rcases ho with e | ⟨z, e, hz⟩
      · exact .inl (h5 i (by rw [← e]; exact q))
      · rw [e] at q; exact .inr (by have := Option.some.inj q; omega)
    · rcases q with q | q
      · exact h6 i q
      · omega
    · rcases ho with e | ⟨z, e, hz⟩
      · exact (h7 i q).2 (by rw [← e]; exact q2)
      · rw [e] at q2
        have := Option.some.inj q2
        have := (h2.ge i q).2
        omega
    · rcases ho with e | ⟨z, e, hz⟩
      · exact h8 i q (by rw [← e]; exact q2)
      · rw [e] at q2
        have := Option.some.inj q2
        have := (h3.ge i q).2
        omega
/-- 'sure = append(sure, x)', nothing under way. -/
theorem SU.add (h : SU w W g dg r mb d B D c L Dq cq S none 0 []) {A : Option Addr} {n c' b : Nat} {xs : List UInt8} (hb : Bs w A n c' xs) (hc : W.cell? ⟨b, 0, none⟩ = some (.slice A n c')) (hS : S.length ≤ 900000)
    {o : Oper} {a : Act} {K : Act → World → Prop} {Q : Exit → Act → World → Prop} {s x : Operand} (ho : o.op = .call { callee := .builtin .append, args := #[s, x], argTypes := #[50, 50] }) (hs : a.eval s = .slice Dq S.length cq) (hx : a.eval x = .slice (some ⟨b, 0, none⟩) 1 1)
    (hK : ∀ D3 c3 W', SU w W' g dg r mb d B D c L D3 c3 (S ++ [xs]) none 0 [] → K (a.put o.dst (.slice D3 (S.length + 1) c3)) W') : o.wp Try.prog a W K Q := by
  obtain ⟨R, Rq, h1, h2, h3, h4, h5, h6, h7, h8⟩ := h
  refine wp_append_s1 ho hs hx h2 hc (hb.ext h1.ex) (fun h0 a' ha => ?_) hS h1.ex.size ?_
  · obtain ⟨b, off, e, hlt, _⟩ := hb.pos h0
    rw [e] at ha
    injection ha with ha
    subst ha
    refine ⟨fun q => ?_, fun q => ?_⟩
    · have := (h2.ge _ q.symm).1
      simp only at this
      omega
    · have := h6 _ q
      simp only at this
      omega
  · intro D3 c3 W3 sq3 g3 e3
    have SL : (S ++ [xs]).length = S.length + 1 := by simp
    have ap := h2.apart h1
    have lD : ∀ i, Value.ownBlock (.slice D L.length c) = some i → i < W.heap.size := fun i q => (h1.jk.2.1.ge i q).2
    have l3 := sq3.ge
    refine hK D3 c3 W3 ⟨fun i => R i ∨ Value.ownBlock (.slice D3 (S.length + 1) c3) = some i, Rq, h1.other g3 (fun i hi q => ?_) (.inl h1.rR) (fun i q => ?_) (fun i q => ⟨.inl (h7 i q).1, (h2.ge i q).1, (h7 i q).2, ap i q⟩), by rw [SL]; exact sq3, OwnS.nil _ _ _, h4, h5, h6, fun i q => ?_, fun i q => (by cases q)⟩
    · rcases q with q | q
      · exact q
      · rcases e3 with e | e
        · rw [e] at q; exact (h7 i q).1
        · rw [e] at q; have := Option.some.inj q; omega
    · rcases q with q | q
      · exact Nat.lt_of_lt_of_le (h1.rw i q) g3.size
      · exact (l3 i q).2
    · rw [SL] at q
      refine ⟨.inr q, fun q2 => ?_⟩
      rcases e3 with e | e
      · rw [e] at q; exact (h7 i q).2 q2
      · rw [e] at q; have := Option.some.inj q; have := lD i q2; omega
/-- 'under = [][]byte{x}'. -/
theorem SU.under (h : SU w W g dg r mb d B D c L Dq cq S none 0 []) {A : Option Addr} {n c' : Nat} {xs : List UInt8} (hb : Bs w A n c' xs) :
    SU w (W.alloc (.cells #[.slice A n c'] 37)) g dg r mb d B D c L Dq cq S (some ⟨W.heap.size, 0, none⟩) 1 [xs] := by
  obtain ⟨R, Rq, h1, h2, h3, h4, h5, h6, h7, h8⟩ := h
  have x := (Ext.refl W).alloc (.cells #[.slice A n c'] 37)
  refine ⟨R, Rq, h1.ext x, h2.ext x, OwnS.one h1.ex.size (hb.ext h1.ex) (fun h0 a ha q => ?_), h4, h5, h6, h7, fun i q q2 => ?_⟩
  · obtain ⟨b, off, e, hlt, _⟩ := hb.pos h0
    rw [e] at ha
    injection ha with ha
    subst ha
    have := h6 _ q
    simp only at this
    omega
  · have e : W.heap.size = i := Option.some.inj q
    have := (h1.jk.2.1.ge i q2).2
    omega
end
end Go.Proofs.Yteaoacinhdjkeaa
