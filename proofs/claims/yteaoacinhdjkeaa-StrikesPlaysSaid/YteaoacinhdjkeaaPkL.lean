import Derived.Test.YteaoacinhdjkeaaPkO
import Derived.Test.YteaoacinhdjkeaaPkM
import Derived.Test.YteaoacinhdjkeaaJrO
section
/-
  append on a row of the call's own, elements of one cell.
-/
namespace Go.Proofs.Yteaoacinhdjkeaa
open Go.ChangeShapes Go.WideShapes Go.ChangeAt Go.RowKit Go.Deep

/-- 'append(v, s...)' on a row of the call's own, elements of one cell, the source nil or not. -/
theorem append_any {P : Program} {w : World} {B : Nat} {t e : TypeId} {z : Value} {bytes : Nat} (ht : P.underlying t = some (.slice e)) (hinfo : (P.info? e).map (fun i => (i.zero, i.size, i.bytes)) = some (some z, 1, bytes)) (hzs : z.cells.size = 1)
    {A A' : Option Addr} {n c m c' : Nat} {xs news : List Value} (ty : TypeId) (h : w.ownsRow B e 1 (.slice A n c) n xs) (hl : news.length = m) (hsrc : 0 < m → ∃ ad, A' = some ad ∧ ∀ j u, news[j]? = some u → w.cell? (ad.add j) = some u)
    (h1 : ∀ u ∈ news, u.oneCell' = true) (hm : (n + m) * bytes ≤ 140737488355328) (hn : n + m ≤ 140737488355328) (hB : B ≤ w.heap.size) :
    ∃ A'' c'' w', (Builtin.append_ #[t, t] ty #[.slice A n c, .slice A' m c']).run P w = .ok (.slice A'' (n + m) c'') w' ∧ w'.ownsRow B e 1 (.slice A'' (n + m) c'') (n + m) (xs ++ news) ∧ w.grownBy w' (Value.ownBlock (.slice A n c)) ∧
      (Value.ownBlock (.slice A'' (n + m) c'') = Value.ownBlock (.slice A n c) ∨ Value.ownBlock (.slice A'' (n + m) c'') = some w.heap.size) := by
  obtain ⟨i, hi, hz0, hz1, hz2⟩ := info_parts hinfo
  rcases A' with _ | a
  · have hm0 : m = 0 := by
      rcases Nat.eq_zero_or_pos m with h0 | h0
      · exact h0
      · obtain ⟨ad, e, _⟩ := hsrc h0
        cases e
    subst hm0
    have hy := List.eq_nil_of_length_eq_zero hl
    subst hy
    refine ⟨A, c, w, ?_, by simpa using h, ⟨rfl, rfl, rfl, Nat.le_refl _, fun _ _ _ => rfl⟩, .inl rfl⟩
    rcases h.2 with ⟨hv, hn⟩ | ⟨g, cap, cur, hv, _, _, hnc, _⟩
    · rw [hv]
      subst hn
      injection hv with q1 _ q3
      subst q1 q3
      simp [Builtin.append_, run_underlying ht, sizeOf, typeInfo, hi, Builtin.lenOf, Builtin.firstCells]
    · rw [hv]
      injection hv with q1 _ q3
      subst q1 q3
      simp [Builtin.append_, run_underlying ht, sizeOf, typeInfo, hi, Builtin.lenOf, Builtin.firstCells, hnc, storeCells]
  · have hsrc' : ∀ j u, news[j]? = some u → w.cell? (a.add j) = some u := fun j u hu => by
      have hj : j < news.length := (List.getElem?_eq_some_iff.1 hu).1
      obtain ⟨ad, e, hc⟩ := hsrc (by omega)
      injection e with e
      subst e
      exact hc j u hu
    obtain ⟨v', w', hrun, ho, hg, _, hown⟩ := run_append_own_at (P := P) w B t ty e i z 1 bytes ht hi hz0 hz1 hz2 hzs (by decide) (.slice A n c) n xs h a m c' news (by rw [hl, Nat.mul_one]) hsrc' h1 (by unfold maxLen; omega) hm hB
    rcases ho.2 with ⟨hv, hn0⟩ | ⟨g, cap, cur, hv, _⟩
    · subst hv
      refine ⟨none, 0, w', by rw [hrun, hn0], by rw [hn0] at ho ⊢; exact ho, hg, ?_⟩
      rcases hown with q | q
      · exact .inl q
      · exact .inr q
    · subst hv
      exact ⟨_, _, w', hrun, ho, hg, hown⟩
end Go.Proofs.Yteaoacinhdjkeaa
end

section
/-
  A row of slices of bytes of the call's own, the bytes anywhere but in block R. No conditions.
-/
namespace Go.Proofs.Yteaoacinhdjkeaa
open Go.ChangeShapes Go.WideShapes Go.ChangeAt Go.RowKit Go.Deep
set_option maxRecDepth 100000

def OwnS (B : Nat) (R : Nat → Prop) (w : World) (D : Option Addr) (n c : Nat) (l : List (List UInt8)) : Prop :=
  ∃ vs : List Value, w.ownsRow B 37 1 (.slice D n c) n vs ∧ l.length = n ∧
    ∀ j, j < n → ∃ A' n' c', vs[j]? = some (.slice A' n' c') ∧ Bs w A' n' c' (l.getD j []) ∧ (0 < n' → ∀ a, A' = some a → some a.block ≠ Value.ownBlock (.slice D n c) ∧ ¬ R a.block)
section
variable {w w' : World} {B : Nat} {R : Nat → Prop} {D : Option Addr} {n c : Nat} {l : List (List UInt8)}
theorem OwnS.nil (B : Nat) (R : Nat → Prop) (w : World) : OwnS B R w none 0 0 [] := ⟨[], World.ownsRow_nil w B _ 1, rfl, fun j hj => absurd hj (by omega)⟩
theorem OwnS.len (h : OwnS B R w D n c l) : l.length = n := by obtain ⟨_, _, h, _⟩ := h; exact h
theorem OwnS.ext (h : OwnS B R w D n c l) (he : Ext w w') : OwnS B R w' D n c l := by
  obtain ⟨vs, h1, h2, h3⟩ := h
  refine ⟨vs, owns_extG h1 he, h2, fun j hj => ?_⟩
  obtain ⟨A', n', c', e1, e2, e3⟩ := h3 j hj
  exact ⟨A', n', c', e1, e2.ext he, e3⟩
theorem OwnS.ge (h : OwnS B R w D n c l) : ∀ g, Value.ownBlock (.slice D n c) = some g → B ≤ g ∧ g < w.heap.size := fun g hg => by
  obtain ⟨vs, h1, _⟩ := h
  exact ⟨(World.ownsRow.lt h1 g hg).1, (World.ownsRow.lt h1 g hg).2⟩
theorem OwnG.toS (h : OwnG B w D n c l) (hR : ∀ i, R i → i < B) : OwnS B R w D n c l := by
  obtain ⟨vs, h1, h2, h3⟩ := h
  refine ⟨vs, h1, h2, fun j hj => ?_⟩
  obtain ⟨A', n', c', e1, e2, e3⟩ := h3 j hj
  exact ⟨A', n', c', e1, e2, fun h0 a ha => ⟨(e3 h0 a ha).1, fun q => by have := (e3 h0 a ha).2; have := hR _ q; omega⟩⟩
theorem OwnS.lower {B' : Nat} (h : OwnS B R w D n c l) (hB : B' ≤ B) : OwnS B' R w D n c l := by
  obtain ⟨vs, h1, h2, h3⟩ := h
  refine ⟨vs, ⟨h1.1, ?_⟩, h2, h3⟩
  rcases h1.2 with h | ⟨g, cap, cur, hv, hb, r⟩
  · exact .inl h
  · exact .inr ⟨g, cap, cur, hv, Nat.le_trans hB hb, r⟩
theorem OwnS.rw (h : OwnS B R w D n c l) : Rw w D n c l := by
  obtain ⟨vs, h1, h2, h3⟩ := h
  rcases h1.2 with ⟨hv, hn⟩ | ⟨g, cap, cur, hv, hb, hg, hnc, hcm, hcs, htk⟩
  · injection hv with q1 q2 q3
    subst q1 q2 q3
    exact ⟨h2, Nat.le_refl _, Nat.zero_le _, fun h => absurd h (by omega)⟩
  · injection hv with q1 q2 q3
    subst q1 q3
    refine ⟨h2, hnc, hcm, fun h0 => ⟨g, 0, rfl, heap_lt hg, fun j hj => ?_⟩⟩
    rw [Nat.zero_add]
    obtain ⟨A', n', c', e1, e2, _⟩ := h3 j hj
    refine ⟨A', n', c', ?_, e2⟩
    have e : vs[j]? = cur[j]? := by rw [← htk, List.getElem?_take, if_pos (by omega), Array.getElem?_toList]
    rw [e1] at e
    simp [World.cell?, hg, ← e]
theorem OwnS.forbid {R' : Nat → Prop} (h : OwnS B R w D n c l) (hR : ∀ i, i < w.heap.size → R' i → R i) : OwnS B R' w D n c l := by
  obtain ⟨vs, h1, h2, h3⟩ := h
  refine ⟨vs, h1, h2, fun j hj => ?_⟩
  obtain ⟨A', n', c', e1, e2, e3⟩ := h3 j hj
  refine ⟨A', n', c', e1, e2, fun h0 a ha => ⟨(e3 h0 a ha).1, fun q => (e3 h0 a ha).2 (hR _ ?_ q)⟩⟩
  obtain ⟨b, off, e4, hb, _⟩ := e2.pos h0
  rw [e4] at ha
  injection ha with ha
  subst ha
  exact hb
theorem OwnS.ne_of (h : OwnS B R w D n c l) {g : Nat} {t : TypeId} {cs : Array Value} {fr : Nat × Nat} (hg : w.heap[g]? = some (.cells cs t fr)) (ht : t ≠ 37) : Value.ownBlock (.slice D n c) ≠ some g := by
  obtain ⟨vs, h1, _⟩ := h
  rcases h1.2 with ⟨hv, hn⟩ | ⟨g', cap, cur, hv, _, hg', _⟩
  · rw [hv]; intro q; cases q
  · rw [hv]
    intro q
    have e : g' = g := by
      have := Option.some.inj q
      simpa using this
    rw [e, hg] at hg'
    injection hg' with q1
    injection q1 with _ q2
    exact ht q2
theorem OwnS.ne_obj (h : OwnS B R w D n c l) {g : Nat} {o : Obj} (hg : w.heap[g]? = some o) (ho : ∀ cs t f, o ≠ .cells cs t f) : Value.ownBlock (.slice D n c) ≠ some g := by
  obtain ⟨vs, h1, _⟩ := h
  rcases h1.2 with ⟨hv, hn⟩ | ⟨g', cap, cur, hv, _, hg', _⟩
  · rw [hv]; intro q; cases q
  · rw [hv]
    intro q
    have e : g' = g := by
      have := Option.some.inj q
      simpa using this
    rw [e, hg] at hg'
    exact ho _ _ _ (Option.some.inj hg')
/-- What it is made of. -/
theorem OwnS.src (h : OwnS B R w D n c l) : ∃ vs : List Value, vs.length = n ∧ (0 < n → ∃ ad, D = some ad ∧ ∀ j u, vs[j]? = some u → w.cell? (ad.add j) = some u) ∧ ∀ j, j < n → ∃ A' n' c', vs[j]? = some (.slice A' n' c') ∧ Bs w A' n' c' (l.getD j []) ∧ (0 < n' → ∀ a, A' = some a → ¬ R a.block) := by
  obtain ⟨vs, h1, h2, h3⟩ := h
  have hvl : vs.length = n := by simpa using h1.1
  refine ⟨vs, hvl, fun h0 => ?_, fun j hj => ?_⟩
  · rcases h1.2 with ⟨hv, hn⟩ | ⟨g, cap, cur, hv, hb, hg, hnc, hcm, hcs, htk⟩
    · omega
    · injection hv with q1 q2 q3
      refine ⟨_, q1, fun j u hu => ?_⟩
      have hj : j < n := by rw [← hvl]; exact (List.getElem?_eq_some_iff.1 hu).1
      have e : vs[j]? = cur[j]? := by rw [← htk, List.getElem?_take, if_pos (by omega), Array.getElem?_toList]
      have ea : (⟨g, 0, none⟩ : Addr).add j = ⟨g, j, none⟩ := by unfold Addr.add; split <;> simp_all
      rw [ea]
      rw [hu] at e
      simp [World.cell?, hg, ← e]
  · obtain ⟨A', n', c', e1, e2, e3⟩ := h3 j hj
    exact ⟨A', n', c', e1, e2, fun h0 a ha => (e3 h0 a ha).2⟩
theorem OwnS.ot {p : Nat → Prop} (h : OwnS B R w D n c l) (k : Ot p w w') (h1 : ∀ i, p i → Value.ownBlock (.slice D n c) ≠ some i) (h2 : ∀ i, p i → R i ∨ ∀ (j : Nat) (x : Int), w.cell? ⟨i, j, none⟩ ≠ some (.int .u8 x)) : OwnS B R w' D n c l := by
  obtain ⟨vs, o1, o2, o3⟩ := h
  refine ⟨vs, ?_, o2, fun j hj => ?_⟩
  · refine ⟨o1.1, ?_⟩
    rcases o1.2 with h | ⟨g, cap, cur, hv, hb, hg, r⟩
    · exact .inl h
    · exact .inr ⟨g, cap, cur, hv, hb, (k.same (heap_lt hg) (fun q => h1 g q (by rw [hv]; rfl))).trans hg, r⟩
  · obtain ⟨A', n', c', e1, e2, e3⟩ := o3 j hj
    refine ⟨A', n', c', e1, ⟨e2.1, e2.2.1, e2.2.2.1, fun h0 => ?_⟩, e3⟩
    obtain ⟨b, off, rfl, hb, hc⟩ := e2.2.2.2 h0
    refine ⟨b, off, rfl, Nat.lt_of_lt_of_le hb k.size, fun j hj => (World.cell?_of_block (k.same hb fun q => ?_)).trans (hc j hj)⟩
    rcases h2 b q with e | e
    · exact (e3 h0 _ rfl).2 e
    · exact e _ _ (hc j hj)
end
/-- 'append(rows, more...)'. -/
theorem wp_append_gs {w : World} {o : Oper} {a : Act} {K : Act → World → Prop} {Q : Exit → Act → World → Prop} {B : Nat} {R : Nat → Prop} {D E : Option Addr} {n c m c' : Nat} {l ys : List (List UInt8)} {news : List Value} {s x : Operand}
    (ho : o.op = .call { callee := .builtin .append, args := #[s, x], argTypes := #[50, 50] }) (hs : a.eval s = .slice D n c) (hx : a.eval x = .slice E m c')
    (h : OwnS B R w D n c l) (hl : news.length = m) (hyl : ys.length = m) (hsrc : 0 < m → ∃ ad, E = some ad ∧ ∀ j u, news[j]? = some u → w.cell? (ad.add j) = some u)
    (hnew : ∀ j, j < m → ∃ A' n' c', news[j]? = some (.slice A' n' c') ∧ Bs w A' n' c' (ys.getD j []) ∧ (0 < n' → ∀ a, A' = some a → some a.block ≠ Value.ownBlock (.slice D n c) ∧ ¬ R a.block)) (hm : n + m ≤ 1000000) (hB : B ≤ w.heap.size)
    (hK : ∀ D'' c'' w', OwnS B R w' D'' (n + m) c'' (l ++ ys) → w.grownBy w' (Value.ownBlock (.slice D n c)) → (Value.ownBlock (.slice D'' (n + m) c'') = Value.ownBlock (.slice D n c) ∨ Value.ownBlock (.slice D'' (n + m) c'') = some w.heap.size) → K (a.put o.dst (.slice D'' (n + m) c'')) w') : o.wp Try.prog a w K Q := by
  obtain ⟨vs, h1, h2, h3⟩ := h
  have hvl : vs.length = n := by simpa using h1.1
  obtain ⟨D'', c'', w', hrun, ho', hg, hown⟩ := append_any (P := Try.prog) Try.underlying50 info22G rfl o.type h1 hl hsrc (fun u hu => by
    obtain ⟨j, hj, e⟩ := List.getElem_of_mem hu
    obtain ⟨A', n', c', e1, _⟩ := hnew j (by omega)
    rw [List.getElem?_eq_getElem hj, e] at e1
    injection e1 with e1
    rw [e1]
    rfl) (by omega) (by omega) hB
  have fin : OwnS B R w' D'' (n + m) c'' (l ++ ys) := by
    have far : ∀ (A2 : Option Addr) (n2 c2 : Nat) (zs : List UInt8), Bs w A2 n2 c2 zs → (0 < n2 → ∀ a, A2 = some a → some a.block ≠ Value.ownBlock (.slice D n c)) → (0 < n2 → ∀ a, A2 = some a → some a.block ≠ Value.ownBlock (.slice D'' (n + m) c'')) := by
      intro A2 n2 c2 zs hb2 hn2 h0 a ha
      rcases hown with e | e
      · rw [e]; exact hn2 h0 a ha
      · rw [e]
        obtain ⟨b2, off2, e2, hlt, _⟩ := hb2.pos h0
        rw [e2] at ha
        injection ha with ha
        subst ha
        intro q
        injection q with q
        simp only at q
        omega
    refine ⟨vs ++ news, ho', by simp [h2, hyl], fun j hj => ?_⟩
    by_cases hjn : j < n
    · obtain ⟨A2, n2, c2, e1, e2, e3⟩ := h3 j hjn
      refine ⟨A2, n2, c2, by rw [List.getElem?_append_left (by omega)]; exact e1, ?_, fun h0 a ha => ⟨far A2 n2 c2 _ e2 (fun h a q => (e3 h a q).1) h0 a ha, (e3 h0 a ha).2⟩⟩
      have : (l ++ ys).getD j [] = l.getD j [] := by simp [List.getD, List.getElem?_append_left (show j < l.length by omega)]
      rw [this]
      exact e2.grownG hg (fun h a q => (e3 h a q).1)
    · obtain ⟨A2, n2, c2, e1, e2, e3⟩ := hnew (j - n) (by omega)
      refine ⟨A2, n2, c2, by rw [List.getElem?_append_right (by omega), hvl]; exact e1, ?_, fun h0 a ha => ⟨far A2 n2 c2 _ e2 (fun h a q => (e3 h a q).1) h0 a ha, (e3 h0 a ha).2⟩⟩
      have : (l ++ ys).getD j [] = ys.getD (j - n) [] := by simp [List.getD, List.getElem?_append_right (show l.length ≤ j by omega), h2]
      rw [this]
      exact e2.grownG hg (fun h a q => (e3 h a q).1)
  unfold Oper.wp execOp
  simp only [ho, resolve, invoke, builtin, Sem.run_bind, Sem.run_pure, Result.andThen_ok, List.map_toArray, List.map_cons, List.map_nil, hs, hx]
  rw [hrun]
  exact hK D'' c'' w' fin hg hown
/-- A literal of one row; of none. -/
theorem OwnS.one {w : World} {B : Nat} {R : Nat → Prop} {A : Option Addr} {n c : Nat} {xs : List UInt8} (hB : B ≤ w.heap.size) (hb : Bs w A n c xs) (hR : 0 < n → ∀ a, A = some a → ¬ R a.block) : OwnS B R (w.alloc (.cells #[.slice A n c] 37)) (some ⟨w.heap.size, 0, none⟩) 1 1 [xs] := by
  refine ⟨[.slice A n c], ⟨rfl, .inr ⟨w.heap.size, 1, #[.slice A n c], rfl, hB, heap_alloc_new _ _, Nat.le_refl _, by decide, rfl, rfl⟩⟩, rfl, fun j hj => ?_⟩
  obtain rfl : j = 0 := by omega
  refine ⟨A, n, c, rfl, hb.ext ((Ext.refl w).alloc _), fun h0 a ha => ⟨fun q => ?_, hR h0 a ha⟩⟩
  obtain ⟨b, off, e, hlt, _⟩ := hb.pos h0
  rw [e] at ha
  injection ha with ha
  subst ha
  injection q with q
  simp only at q
  omega
theorem OwnS.empty (w : World) {B : Nat} {R : Nat → Prop} (hB : B ≤ w.heap.size) : OwnS B R (w.alloc (.cells #[] 37)) (some ⟨w.heap.size, 0, none⟩) 0 0 [] :=
  ⟨[], ⟨rfl, .inr ⟨w.heap.size, 0, #[], rfl, hB, heap_alloc_new _ _, Nat.le_refl _, by decide, rfl, rfl⟩⟩, rfl, fun j hj => absurd hj (by omega)⟩
end Go.Proofs.Yteaoacinhdjkeaa
end

section
/-
  A journal in memory whose records' bytes lie outside R.
-/
namespace Go.Proofs.Yteaoacinhdjkeaa
open Go.ChangeShapes Go.WideShapes Go.ChangeAt Go.RowKit Go.Deep Go.Maps
set_option maxRecDepth 100000

def JS (B : Nat) (R : Nat → Prop) (w : World) (g dg : Nat) (D : Option Addr) (c : Nat) (L : List (List UInt8)) : Prop := Cb w g 91 [.pointer (some ⟨dg, 0, none⟩), .slice D L.length c] ∧ OwnS B R w D L.length c L ∧ B ≤ g
theorem JS.ext {B : Nat} {R : Nat → Prop} {w w' : World} {g dg : Nat} {D : Option Addr} {c : Nat} {L : List (List UInt8)} (h : JS B R w g dg D c L) (x : Ext w w') : JS B R w' g dg D c L := ⟨h.1.ext x, h.2.1.ext x, h.2.2⟩
theorem JK.toS {B : Nat} {R : Nat → Prop} {w : World} {g dg : Nat} {D : Option Addr} {c : Nat} {L : List (List UInt8)} (h : JK B w g dg D c L) (hR : ∀ i, R i → i < B) : JS B R w g dg D c L := ⟨h.1, h.2.1.toS hR, h.2.2⟩
theorem JS.forbid {B : Nat} {R R' : Nat → Prop} {w : World} {g dg : Nat} {D : Option Addr} {c : Nat} {L : List (List UInt8)} (h : JS B R w g dg D c L) (hR : ∀ i, i < w.heap.size → R' i → R i) : JS B R' w g dg D c L := ⟨h.1, h.2.1.forbid hR, h.2.2⟩
theorem OwnS.turn {B : Nat} {R : Nat → Prop} {w w' : World} {D : Option Addr} {n c g : Nat} {l : List (List UInt8)} {t : TypeId} {cs : Array Value} (h : OwnS B R w D n c l) (hg : w.heap[g]? = some (.cells cs t (0, 0))) (h1 : t ≠ 37) (h2 : ∀ v ∈ cs, ∀ i : Int, v ≠ .int .u8 i) (k : w.grownBy w' (some g)) : OwnS B R w' D n c l :=
  h.ot (p := fun i => i = g) (Ot.of_grown k rfl) (fun i q => by subst q; exact h.ne_of hg h1) fun i q => .inr fun j x z => by
    subst q
    simp only [World.cell?, hg] at z
    exact h2 _ (Array.mem_of_getElem? (xs := cs) (i := j) (a := .int .u8 x) (by simpa using z)) _ rfl
/-- What 'append(nil, s...)' made lies in a new block. -/
theorem far_of_newS {w w1 : World} {B : Nat} {R : Nat → Prop} {A D : Option Addr} {n c k cc : Nat} {xs : List UInt8} {l : List (List UInt8)} (h : Own w.heap.size w1 A n c xs) (hD : OwnS B R w D k cc l) (hR : ∀ i, R i → i < w.heap.size) :
    0 < n → ∀ a, A = some a → some a.block ≠ Value.ownBlock (.slice D k cc) ∧ ¬ R a.block := by
  intro h0 a ha
  subst ha
  obtain ⟨d, hd⟩ : ∃ g : Nat, a.block = g ∧ w.heap.size ≤ g := by
    rcases h.2 with ⟨hv, _⟩ | ⟨g, cap, cur, hv, hb, _⟩
    · injection hv with q1
      cases q1
    · injection hv with q1
      injection q1 with q1
      exact ⟨g, by rw [q1], hb⟩
  refine ⟨fun q => ?_, fun q => ?_⟩
  · have := (hD.ge _ q.symm).2
    omega
  · have := hR _ q
    omega
/-- One row more. -/
theorem wp_append_s1 {w : World} {o : Oper} {a : Act} {K : Act → World → Prop} {Q : Exit → Act → World → Prop} {B : Nat} {R : Nat → Prop} {D A' : Option Addr} {n c n' c' b : Nat} {l : List (List UInt8)} {xs : List UInt8} {s x : Operand}
    (ho : o.op = .call { callee := .builtin .append, args := #[s, x], argTypes := #[50, 50] }) (hs : a.eval s = .slice D n c) (hx : a.eval x = .slice (some ⟨b, 0, none⟩) 1 1)
    (h : OwnS B R w D n c l) (hc : w.cell? ⟨b, 0, none⟩ = some (.slice A' n' c')) (hr : Bs w A' n' c' xs) (hne : 0 < n' → ∀ a, A' = some a → some a.block ≠ Value.ownBlock (.slice D n c) ∧ ¬ R a.block) (hm : n ≤ 900000) (hB : B ≤ w.heap.size)
    (hK : ∀ D'' c'' w', OwnS B R w' D'' (n + 1) c'' (l ++ [xs]) → w.grownBy w' (Value.ownBlock (.slice D n c)) → (Value.ownBlock (.slice D'' (n + 1) c'') = Value.ownBlock (.slice D n c) ∨ Value.ownBlock (.slice D'' (n + 1) c'') = some w.heap.size) → K (a.put o.dst (.slice D'' (n + 1) c'')) w') : o.wp Try.prog a w K Q :=
  wp_append_gs ho hs hx h (news := [.slice A' n' c']) (ys := [xs]) rfl rfl (fun _ => ⟨_, rfl, fun j u hu => by
    have : j = 0 := by
      rcases Nat.eq_zero_or_pos j with h | h
      · exact h
      · rw [List.getElem?_eq_none (show [Value.slice A' n' c'].length ≤ j from h)] at hu; cases hu
    subst this
    simp at hu
    subst hu
    simpa [Addr.add] using hc⟩) (fun j hj => by
    obtain rfl : j = 0 := by omega
    exact ⟨A', n', c', rfl, hr, hne⟩) (by omega) hB hK
end Go.Proofs.Yteaoacinhdjkeaa
end

section
/-
  The journal: Len, All.
-/
namespace Go.Proofs.Yteaoacinhdjkeaa
open Go.ChangeShapes Go.WideShapes Go.ChangeAt Go.RowKit Go.Deep Go.Maps Go.Shelf
set_option maxRecDepth 100000
attribute [local go_sem] Oper.semAt_some

theorem jlen_calls {w : World} {B g dg : Nat} {R : Nat → Prop} {D : Option Addr} {c : Nat} {L : List (List UInt8)} (hj : JS B R w g dg D c L) : Calls Try.prog 26 #[.pointer (some ⟨g, 0, none⟩)] w fun e w' => e = .returned (.int .i64 (L.length : Int)) ∧ w' = w := by
  have c1 := hj.1.cell (j := 1) rfl
  go_enter Try.func26, Try.ntmps26
  go_wp2_with fail
  go_ret
  exact ⟨rfl, rfl⟩
theorem jall_calls {w : World} {v : Option Addr} : Calls Try.prog 54 #[.pointer v] w fun e w' => e = .returned (.func (.func 68) #[] #[.pointer (some ⟨w.heap.size, 0, none⟩)]) ∧ Cb w' w.heap.size 31 [.pointer v] ∧ Ext w w' := by
  go_enter Try.func54, Try.ntmps54
  go_wp2_with fail
  go_ret
  exact ⟨rfl, Cb.new _ _ [_], (Ext.refl w).alloc _⟩

set_option maxHeartbeats 4000000 in
theorem jall1_in {n l bd B g dg : Nat} {R : Nat → Prop} {D : Option Addr} {c : Nat} {L : List (List UInt8)} {J : Nat → World → Prop} {Jx : World → Prop} {W : World} (hL : L.length ≤ 1000) (hlen : ∀ k, k < L.length → (L.getD k []).length ≤ 1000000)
    (hJ : ∀ k w w', J k w → Ext w w' → J k w') (hD : ∀ k w, J k w → JS B R w g dg D c L ∧ Cb w bd 31 [.pointer (some ⟨g, 0, none⟩)])
    (hY : ∀ k v w A m c', J k v → k < L.length → Ext v w → Own v.heap.size w A m c' (L.getD k []) → YieldAt Fence.wide (n - 1) Try.prog l #[.int .i64 (k : Int), .slice A m c'] w fun e w' => (e = .returned (.bool true) ∧ J (k + 1) w') ∨ (e = .returned (.bool false) ∧ Jx w'))
    (h0 : J 0 W) : CallsIn Fence.wide n Try.prog 68 #[.func (.yield l) #[] #[], .pointer (some ⟨bd, 0, none⟩)] W fun e w' => (∃ v, e = .returned v) ∧ (J L.length w' ∨ Jx w') := by
  refine callsIn_of_wp Try.func68 rfl trivial ?_ rfl
  simp only [Try.ntmps68, List.size_toArray, List.length_cons, List.length_nil, Nat.reduceAdd, Nat.reduceSub, Array.replicate_succ, Array.replicate_zero, List.push_toArray, List.append_toArray, List.nil_append, List.cons_append]
  obtain ⟨jk0, bx⟩ := hD _ _ h0
  have c0 := bx.cell (j := 0) rfl
  have c1 := jk0.1.cell (j := 1) rfl
  replace hJ := Lib.hid hJ
  replace hD := Lib.hid hD
  replace hY := Lib.hid hY
  replace h0 := Lib.hid h0
  replace hlen := Lib.hid hlen
  clear jk0 bx
  gi_wp2
  clear c0 c1
  gi_loopw [10] (fun i wr => ∃ k : Nat, i = .int .i64 (k : Int) ∧ k ≤ L.length ∧ J k wr) (fun i _ => L.length - (intOf i).toNat)
  case atStart => exact ⟨0, rfl, Nat.zero_le _, h0.out⟩
  case round =>
    obtain ⟨k, rfl, hk, hj⟩ := hrel
    by_cases hlt : k < L.length
    · obtain ⟨jk, bx⟩ := hD.out _ _ hj
      obtain ⟨b, off, rfl, hb, hcell⟩ := jk.2.1.rw.pos (by omega)
      obtain ⟨A1, n1, c1, hc1, hb1⟩ := hcell k hlt
      have hln := hlen.out k hlt
      have hbl := hb1.len
      have CP := Lib.hid (jcopied_calls hb1 (by omega))
      replace hj := Lib.hid hj
      clear jk bx hcell
      gi_wp2
      refine ⟨trivial, fun q => (by cases q), (callsIn_wide.2 CP.out).mono ?_⟩
      rintro e w4 ⟨A, m, c', rfl, ow, x4⟩
      have YY := hY.out k wr w4 A m c' hj.out hlt x4 ow
      obtain ⟨fn, tmps, assign, body, hy, hR⟩ := YY
      replace hR := Lib.hid hR
      clear CP ow x4 hc1 hb1
      gi_wp2
      refine ⟨fun q => (by cases q), hR.out.mono ?_⟩
      rintro e w5 (⟨rfl, hj5⟩ | ⟨rfl, hx5⟩)
      · gi_wp2
        go_roundw
        case rel => exact ⟨k + 1, by go_num, by omega, hj5⟩
        case measure => simp [intOf]; omega
      · gi_wp2
        refine bodyPost_ret (results_none rfl _ _ _) rfl ?_
        exact ⟨⟨_, rfl⟩, .inr hx5⟩
    · obtain rfl : k = L.length := by omega
      replace hj := Lib.hid hj
      gi_wp2
      go_end0
      exact ⟨⟨_, rfl⟩, .inl hj.out⟩
end Go.Proofs.Yteaoacinhdjkeaa
end
