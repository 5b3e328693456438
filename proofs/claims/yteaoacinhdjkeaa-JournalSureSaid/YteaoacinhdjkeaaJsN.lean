/-
  Rows beside a journal that is opened anew; rows joined.
-/
import Derived.Test.YteaoacinhdjkeaaJsM
namespace Go.Proofs.Yteaoacinhdjkeaa
open Go.ChangeShapes Go.WideShapes Go.ChangeAt Go.RowKit Go.Deep Go.Maps
set_option maxRecDepth 100000

section
variable {w W W' : World} {g dg r mb : Nat} {d : Ds} {B : Nat} {D : Option Addr} {c : Nat} {L : List (List UInt8)} {Dq : Option Addr} {cq : Nat} {S : List (List UInt8)} {Du : Option Addr} {cu : Nat} {U : List (List UInt8)}
theorem SU.reopen (h : SU w W g dg r mb d B D c L Dq cq S Du cu U) : Calls Try.prog 14 #[.pointer (some ⟨dg, 0, none⟩)] W fun e W2 => ∃ g' D' c', e = .returned (.tuple #[.pointer (some ⟨g', 0, none⟩), .int .i64 0]) ∧ SU w W2 g' dg r mb d W.heap.size D' c' d.recs Dq cq S Du cu U := by
  obtain ⟨R, Rq, h1, h2, h3, h4, h5, h6, h7, h8⟩ := h
  refine (JN.opened h1.dk h1.ex h1.wd h1.wr h1.wm).mono ?_
  rintro e W2 ⟨g', D', c', he, j2, x2⟩
  have lo := j2.jk.2.1.ge
  have Wl := h1.ex.size
  refine ⟨g', D', c', he, _, fun i => Rq i ∨ W.heap.size ≤ i, j2, (h2.forbid fun i hi q => q.elim id fun z => by omega).ext x2, (h3.forbid fun i hi q => q.elim id fun z => by omega).ext x2, .inl h4, fun i q => .inr (lo i q).1, fun i q => ?_, fun i q => ⟨(h2.ge i q).2, fun q2 => ?_⟩, fun i q q2 => ?_⟩
  · rcases q with q | q
    · exact h6 i q
    · omega
  · have := (lo i q2).1
    have := (h2.ge i q).2
    omega
  · have := (lo i q2).1
    have := (h3.ge i q).2
    omega
theorem SU.got (h : SU w W g dg r mb d B D c L Dq cq S Du cu U) {Dg : Option Addr} {cg : Nat} (o : OwnG W.heap.size W' Dg L.length cg L) (x : Ext W W') : SU w W' g dg r mb d B D c L Dg cg L none 0 [] := by
  obtain ⟨R, Rq, h1, h2, h3, h4, h5, h6, h7, h8⟩ := h
  have lo := o.ge
  have lt : ∀ i, Value.ownBlock (.slice Dg L.length cg) = some i → i < W'.heap.size := fun i q => by
    obtain ⟨vs, o1, _⟩ := o
    exact (World.ownsRow.lt o1 i q).2
  have Wl := h1.ex.size
  refine ⟨fun i => R i ∨ Value.ownBlock (.slice Dg L.length cg) = some i, fun i => w.heap.size ≤ i ∧ i < W.heap.size, h1.other (o := none) ⟨x.os, x.tape, x.output, x.size, fun i hi _ => x.block i hi⟩ (fun i hi q => ?_) (.inl h1.rR) (fun i q => ?_) (fun i q => by cases q), (o.toS fun i q => q.2).lower Wl, OwnS.nil _ _ _, ⟨h1.wr, h1.dk.row.lt⟩, fun i q => ⟨Nat.le_trans h1.wB (h1.jk.2.1.ge i q).1, (h1.jk.2.1.ge i q).2⟩, fun i q => q.1, fun i q => ⟨.inr q, fun q2 => ?_⟩, fun i q => by cases q⟩
  · rcases q with q | q
    · exact q
    · have := lo i q; omega
  · rcases q with q | q
    · exact Nat.lt_of_lt_of_le (h1.rw i q) x.size
    · exact lt i q
  · have := lo i q
    have := (h1.jk.2.1.ge i q2).2
    omega
theorem SU.sure (h : SU w W g dg r mb d B D c L Dq cq S Du cu U) : ∃ Rq, OwnS w.heap.size Rq W Dq S.length cq S := by obtain ⟨R, Rq, h1, h2, _⟩ := h; exact ⟨Rq, h2⟩
theorem SU.und (h : SU w W g dg r mb d B D c L Dq cq S Du cu U) : ∃ Rq, OwnS w.heap.size Rq W Du U.length cu U := by obtain ⟨R, Rq, h1, _, h3, _⟩ := h; exact ⟨Rq, h3⟩
theorem SU.jk (h : SU w W g dg r mb d B D c L Dq cq S Du cu U) : ∃ R, JS B R W g dg D c L := by obtain ⟨R, Rq, h1, _⟩ := h; exact ⟨R, h1.jk⟩
end
theorem cell_lt {w : World} {p : Addr} {v : Value} (h : w.cell? p = some v) : p.block < w.heap.size := by
  rcases Nat.lt_or_ge p.block w.heap.size with q | q
  · exact q
  · exfalso
    unfold World.cell? at h
    rw [Array.getElem?_eq_none q] at h
    cases h
/-- Rows are appended onto a row that is new since W. -/
theorem wp_append_on {W w : World} {o : Oper} {a : Act} {K : Act → World → Prop} {Q : Exit → Act → World → Prop} {D E : Option Addr} {n c m c' Bq : Nat} {Rq : Nat → Prop} {l ys : List (List UInt8)} {s x : Operand}
    (ho : o.op = .call { callee := .builtin .append, args := #[s, x], argTypes := #[50, 50] }) (hs : a.eval s = .slice D n c) (hx : a.eval x = .slice E m c')
    (h : OwnS W.heap.size (fun _ => False) w D n c l) (xw : Ext W w) (k : OwnS Bq Rq W E m c' ys) (hm : n + m ≤ 1000000)
    (hK : ∀ D'' c'' w', OwnS W.heap.size (fun _ => False) w' D'' (n + m) c'' (l ++ ys) → Ext W w' → K (a.put o.dst (.slice D'' (n + m) c'')) w') : o.wp Try.prog a w K Q := by
  obtain ⟨vs, v1, v2, v3⟩ := k.src
  have lo := h.ge
  refine wp_append_gs ho hs hx h v1 k.len (fun h0 => ?_) (fun j hj => ?_) hm xw.size fun D'' c'' w' o' g' _ => hK D'' c'' w' o' ?_
  · obtain ⟨ad, e, hc⟩ := v2 h0
    exact ⟨ad, e, fun j u hu => (xw.cell (cell_lt (hc j u hu))).trans (hc j u hu)⟩
  · obtain ⟨A', n', c', e1, e2, _⟩ := v3 j hj
    refine ⟨A', n', c', e1, e2.ext xw, fun h0 a ha => ⟨fun q => ?_, id⟩⟩
    obtain ⟨b, off, e, hb, _⟩ := e2.pos h0
    rw [e] at ha
    injection ha with ha
    subst ha
    have := (lo _ q.symm).1
    simp only at this
    omega
  · exact Ot.ext (p := fun i => Value.ownBlock (.slice D n c) = some i) xw ⟨g'.os, g'.tape, g'.output, g'.size, fun i hi hn => g'.block i hi (fun q => hn q.symm)⟩ (fun i q => (lo i q).1)
end Go.Proofs.Yteaoacinhdjkeaa
