import Derived.Test.YteaoacinhdjkeaaJsM
import Derived.Test.YteaoacinhdjkeaaPkB
import Derived.Test.YteaoacinhdjkeaaRdS
section
/-
  Rows beside a journal that is opened anew; rows joined.
-/
namespace Go.Proofs.Yteaoacinhdjkeaa
open Go.ChangeShapes Go.WideShapes Go.ChangeAt Go.RowKit Go.Deep Go.Maps
set_option maxRecDepth 100000

section
variable {w W W' : World} {g dg r mb : Nat} {d : Ds} {B : Nat} {D : Option Addr} {c : Nat} {L : List (List UInt8)} {Dq : Option Addr} {cq : Nat} {S : List (List UInt8)} {Du : Option Addr} {cu : Nat} {U : List (List UInt8)}
theorem SU.reopen (h : SU w W g dg r mb d B D c L Dq cq S Du cu U) : Calls Try.prog 14 #[.pointer (some ⟨dg, 0, none⟩)] W fun e W2 => ∃ g' D' c', e = .returned (.tuple #[.pointer (some ⟨g', 0, none⟩), .int .i64 0]) ∧ SU w W2 g' dg r mb d W.heap.size D' c' d.recs Dq cq S Du cu U := by
  obtain ⟨R, Rq, h1, h2, h3, h4, h5, h6, h7, h8⟩ := h
  refine (JN.opened h1.dk h1.ex h1.wd h1.wr h1.wm).mono ?_
  rintro e W2 ⟨g', D', c', he, j2, x2⟩
  have lo := j2.jk.2.1.ge
  have Wl := h1.ex.size
  refine ⟨g', D', c', he, _, fun i => Rq i ∨ W.heap.size ≤ i, j2, (h2.forbid fun i hi q => q.elim id fun z => by omega).ext x2, (h3.forbid fun i hi q => q.elim id fun z => by omega).ext x2, .inl h4, fun i q => .inr (lo i q).1, fun i q => ?_, fun i q => ⟨(h2.ge i q).2, fun q2 => ?_⟩, fun i q q2 => ?_⟩
  · rcases q with q | q
    · exact h6 i q
    · omega
  · have := (lo i q2).1
    have := (h2.ge i q).2
    omega
  · have := (lo i q2).1
    have := (h3.ge i q).2
    omega
theorem SU.got (h : SU w W g dg r mb d B D c L Dq cq S Du cu U) {Dg : Option Addr} {cg : Nat} (o : OwnG W.heap.size W' Dg L.length cg L) (x : Ext W W') : SU w W' g dg r mb d B D c L Dg cg L none 0 [] := by
  obtain ⟨R, Rq, h1, h2, h3, h4, h5, h6, h7, h8⟩ := h
  have lo := o.ge
  have lt : ∀ i, Value.ownBlock (.slice Dg L.length cg) = some i → i < W'.heap.size := fun i q => by
    obtain ⟨vs, o1, _⟩ := o
    exact (World.ownsRow.lt o1 i q).2
  have Wl := h1.ex.size
  refine ⟨fun i => R i ∨ Value.ownBlock (.slice Dg L.length cg) = some i, fun i => w.heap.size ≤ i ∧ i < W.heap.size, h1.other (o := none) ⟨x.os, x.tape, x.output, x.size, fun i hi _ => x.block i hi⟩ (fun i hi q => ?_) (.inl h1.rR) (fun i q => ?_) (fun i q => by cases q), (o.toS fun i q => q.2).lower Wl, OwnS.nil _ _ _, ⟨h1.wr, h1.dk.row.lt⟩, fun i q => ⟨Nat.le_trans h1.wB (h1.jk.2.1.ge i q).1, (h1.jk.2.1.ge i q).2⟩, fun i q => q.1, fun i q => ⟨.inr q, fun q2 => ?_⟩, fun i q => by cases q⟩
  · rcases q with q | q
    · exact q
    · have := lo i q; omega
  · rcases q with q | q
    · exact Nat.lt_of_lt_of_le (h1.rw i q) x.size
    · exact lt i q
  · have := lo i q
    have := (h1.jk.2.1.ge i q2).2
    omega
theorem SU.sure (h : SU w W g dg r mb d B D c L Dq cq S Du cu U) : ∃ Rq, OwnS w.heap.size Rq W Dq S.length cq S := by obtain ⟨R, Rq, h1, h2, _⟩ := h; exact ⟨Rq, h2⟩
theorem SU.und (h : SU w W g dg r mb d B D c L Dq cq S Du cu U) : ∃ Rq, OwnS w.heap.size Rq W Du U.length cu U := by obtain ⟨R, Rq, h1, _, h3, _⟩ := h; exact ⟨Rq, h3⟩
theorem SU.jk (h : SU w W g dg r mb d B D c L Dq cq S Du cu U) : ∃ R, JS B R W g dg D c L := by obtain ⟨R, Rq, h1, _⟩ := h; exact ⟨R, h1.jk⟩
end
theorem cell_lt {w : World} {p : Addr} {v : Value} (h : w.cell? p = some v) : p.block < w.heap.size := by
  rcases Nat.lt_or_ge p.block w.heap.size with q | q
  · exact q
  · exfalso
    unfold World.cell? at h
    rw [Array.getElem?_eq_none q] at h
    cases h
/-- Rows are appended onto a row that is new since W. -/
theorem wp_append_on {W w : World} {o : Oper} {a : Act} {K : Act → World → Prop} {Q : Exit → Act → World → Prop} {D E : Option Addr} {n c m c' Bq : Nat} {Rq : Nat → Prop} {l ys : List (List UInt8)} {s x : Operand}
    (ho : o.op = .call { callee := .builtin .append, args := #[s, x], argTypes := #[50, 50] }) (hs : a.eval s = .slice D n c) (hx : a.eval x = .slice E m c')
    (h : OwnS W.heap.size (fun _ => False) w D n c l) (xw : Ext W w) (k : OwnS Bq Rq W E m c' ys) (hm : n + m ≤ 1000000)
    (hK : ∀ D'' c'' w', OwnS W.heap.size (fun _ => False) w' D'' (n + m) c'' (l ++ ys) → Ext W w' → K (a.put o.dst (.slice D'' (n + m) c'')) w') : o.wp Try.prog a w K Q := by
  obtain ⟨vs, v1, v2, v3⟩ := k.src
  have lo := h.ge
  refine wp_append_gs ho hs hx h v1 k.len (fun h0 => ?_) (fun j hj => ?_) hm xw.size fun D'' c'' w' o' g' _ => hK D'' c'' w' o' ?_
  · obtain ⟨ad, e, hc⟩ := v2 h0
    exact ⟨ad, e, fun j u hu => (xw.cell (cell_lt (hc j u hu))).trans (hc j u hu)⟩
  · obtain ⟨A', n', c', e1, e2, _⟩ := v3 j hj
    refine ⟨A', n', c', e1, e2.ext xw, fun h0 a ha => ⟨fun q => ?_, id⟩⟩
    obtain ⟨b, off, e, hb, _⟩ := e2.pos h0
    rw [e] at ha
    injection ha with ha
    subst ha
    have := (lo _ q.symm).1
    simp only at this
    omega
  · exact Ot.ext (p := fun i => Value.ownBlock (.slice D n c) = some i) xw ⟨g'.os, g'.tape, g'.output, g'.size, fun i hi hn => g'.block i hi (fun q => hn q.symm)⟩ (fun i q => (lo i q).1)
end Go.Proofs.Yteaoacinhdjkeaa
end

section
/-
  palfreyref22: Append (its short ways).
-/
namespace Go.Proofs.Yteaoacinhdjkeaa
open Go.ChangeShapes Go.WideShapes Go.ChangeAt Go.RowKit Go.Deep Go.Maps
set_option maxRecDepth 100000

/-- The document's journal whose records' bytes lie outside R. -/
def RS (B : Nat) (R : Nat → Prop) (w : World) (g dg : Nat) (D : Option Addr) (c : Nat) (L : List (List UInt8)) : Prop := Cb w g 53 [.pointer (some ⟨dg, 0, none⟩), .slice D L.length c] ∧ OwnS B R w D L.length c L ∧ B ≤ g
theorem RJ.toS {B : Nat} {R : Nat → Prop} {w : World} {g dg : Nat} {D : Option Addr} {c : Nat} {L : List (List UInt8)} (h : RJ B w g dg D c L) (hR : ∀ i, R i → i < B) : RS B R w g dg D c L := ⟨h.1, h.2.1.toS hR, h.2.2⟩
theorem RS.ext {B : Nat} {R : Nat → Prop} {w w' : World} {g dg : Nat} {D : Option Addr} {c : Nat} {L : List (List UInt8)} (h : RS B R w g dg D c L) (x : Ext w w') : RS B R w' g dg D c L := ⟨h.1.ext x, h.2.1.ext x, h.2.2⟩
set_option maxHeartbeats 4000000 in
theorem rjappend_short {w : World} {B g dg r m ir : Nat} {R : Nat → Prop} {d : Ds} {X : List (List UInt8)} {D : Option Addr} {c : Nat} {L : List (List UInt8)} {A : Option Addr} {n c' : Nat} {xs : List UInt8} (hj : RS B R w g dg D c L) (hd : RD w dg r m ir d X) (hb : Bs w A n c' xs) (hq : 59 < n ∨ d.S.length ≤ L.length) (hL : L.length ≤ 64) :
    Calls Try.prog 17 #[.pointer (some ⟨g, 0, none⟩), .slice A n c'] w fun e w' => e = .returned (.int .i64 (d.jE L.length xs)) ∧ d.jD L.length xs = d ∧ d.jL L xs = L ∧ Ext w w' := by
  have hx := hb.len
  have h1 := hb.le
  have h2 := hb.cap
  have ok := hd.ok
  have dm := ok.most
  by_cases a59 : 59 < n
  · have e : d.jE L.length xs = 1 := if_pos (by omega)
    have F : Hid (d.jD L.length xs = d ∧ d.jL L xs = L) := ⟨if_pos (by omega), if_neg (by rw [e]; decide)⟩
    rw [e]
    clear hj hd
    have l1 : decide ((59 : Int) < (n : Int)) = true := decide_eq_true (by omega)
    go_enter Try.func17, Try.ntmps17
    go_wp2_with fail
    go_ret
    exact ⟨rfl, F.out.1, F.out.2, Ext.refl w⟩
  · have hk : d.S.length ≤ L.length := hq.resolve_left a59
    have l1 : decide ((59 : Int) < (n : Int)) = false := decide_eq_false (by omega)
    have e : d.jE L.length xs = 8 := by unfold Ds.jE; rw [if_neg (by omega), if_pos hk]
    have F : Hid (d.jD L.length xs = d ∧ d.jL L xs = L) := ⟨by unfold Ds.jD; rw [if_neg (by omega), if_pos hk], if_neg (by rw [e]; decide)⟩
    rw [e]
    have KP : Hid (∀ s, Ext w.drew s → s.cell? ⟨g, 0, none⟩ = some (.pointer (some ⟨dg, 0, none⟩)) ∧ s.cell? ⟨g, 1, none⟩ = some (.slice D L.length c) ∧ s.cell? ⟨dg, 0, none⟩ = some (.slice (some ⟨r, 0, none⟩) d.S.length d.S.length)) := fun s x =>
      ⟨((hj.1.ext (Ext.refl w).drew).ext x).cell rfl, ((hj.1.ext (Ext.refl w).drew).ext x).cell rfl, ((hd.ext (Ext.refl w).drew).ext x).cb.cell rfl⟩
    have l2 : (d.S.length : Int) ≤ (L.length : Int) := by omega
    have x0 : Hid (Ext w w.drew) := (Ext.refl w).drew
    clear hj hd hb
    go_enter Try.func17, Try.ntmps17
    go_upto_region 3 with fail
    refine qgE [0, 1, 2, 3, 4, 5, 6, 7, 8, 9, 10, 11, 12, 13] [] ?_
    repeat ((first | refine qR _ (fun w' e => KP.out w' e) ?_ | refine qS ?_); go_frame)
    refine seq_done ?_
    clear KP
    generalize w.drew = V at *
    go_wp2_with fail
    go_ret
    exact ⟨rfl, F.out.1, F.out.2, x0.out⟩
end Go.Proofs.Yteaoacinhdjkeaa
end
