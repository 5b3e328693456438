/-
  A row of slices of bytes of the call's own, the bytes anywhere but in block R. No conditions.
-/
import Derived.Test.YteaoacinhdjkeaaRfZ
import Derived.Test.YteaoacinhdjkeaaAppAny
import Derived.Test.YteaoacinhdjkeaaOt
namespace Go.Proofs.Yteaoacinhdjkeaa
open Go.ChangeShapes Go.WideShapes Go.ChangeAt Go.RowKit Go.Deep
set_option maxRecDepth 100000

def OwnS (B : Nat) (R : Nat → Prop) (w : World) (D : Option Addr) (n c : Nat) (l : List (List UInt8)) : Prop :=
  ∃ vs : List Value, w.ownsRow B 37 1 (.slice D n c) n vs ∧ l.length = n ∧
    ∀ j, j < n → ∃ A' n' c', vs[j]? = some (.slice A' n' c') ∧ Bs w A' n' c' (l.getD j []) ∧ (0 < n' → ∀ a, A' = some a → some a.block ≠ Value.ownBlock (.slice D n c) ∧ ¬ R a.block)
section
variable {w w' : World} {B : Nat} {R : Nat → Prop} {D : Option Addr} {n c : Nat} {l : List (List UInt8)}
theorem OwnS.nil (B : Nat) (R : Nat → Prop) (w : World) : OwnS B R w none 0 0 [] := ⟨[], World.ownsRow_nil w B _ 1, rfl, fun j hj => absurd hj (by omega)⟩
theorem OwnS.len (h : OwnS B R w D n c l) : l.length = n := by obtain ⟨_, _, h, _⟩ := h; exact h
theorem OwnS.ext (h : OwnS B R w D n c l) (he : Ext w w') : OwnS B R w' D n c l := by
  obtain ⟨vs, h1, h2, h3⟩ := h
  refine ⟨vs, owns_extG h1 he, h2, fun j hj => ?_⟩
  obtain ⟨A', n', c', e1, e2, e3⟩ := h3 j hj
  exact ⟨A', n', c', e1, e2.ext he, e3⟩
theorem OwnS.ge (h : OwnS B R w D n c l) : ∀ g, Value.ownBlock (.slice D n c) = some g → B ≤ g ∧ g < w.heap.size := fun g hg => by
  obtain ⟨vs, h1, _⟩ := h
  exact ⟨(World.ownsRow.lt h1 g hg).1, (World.ownsRow.lt h1 g hg).2⟩
theorem OwnG.toS (h : OwnG B w D n c l) (hR : ∀ i, R i → i < B) : OwnS B R w D n c l := by
  obtain ⟨vs, h1, h2, h3⟩ := h
  refine ⟨vs, h1, h2, fun j hj => ?_⟩
  obtain ⟨A', n', c', e1, e2, e3⟩ := h3 j hj
  exact ⟨A', n', c', e1, e2, fun h0 a ha => ⟨(e3 h0 a ha).1, fun q => by have := (e3 h0 a ha).2; have := hR _ q; omega⟩⟩
theorem OwnS.lower {B' : Nat} (h : OwnS B R w D n c l) (hB : B' ≤ B) : OwnS B' R w D n c l := by
  obtain ⟨vs, h1, h2, h3⟩ := h
  refine ⟨vs, ⟨h1.1, ?_⟩, h2, h3⟩
  rcases h1.2 with h | ⟨g, cap, cur, hv, hb, r⟩
  · exact .inl h
  · exact .inr ⟨g, cap, cur, hv, Nat.le_trans hB hb, r⟩
theorem OwnS.rw (h : OwnS B R w D n c l) : Rw w D n c l := by
  obtain ⟨vs, h1, h2, h3⟩ := h
  rcases h1.2 with ⟨hv, hn⟩ | ⟨g, cap, cur, hv, hb, hg, hnc, hcm, hcs, htk⟩
  · injection hv with q1 q2 q3
    subst q1 q2 q3
    exact ⟨h2, Nat.le_refl _, Nat.zero_le _, fun h => absurd h (by omega)⟩
  · injection hv with q1 q2 q3
    subst q1 q3
    refine ⟨h2, hnc, hcm, fun h0 => ⟨g, 0, rfl, heap_lt hg, fun j hj => ?_⟩⟩
    rw [Nat.zero_add]
    obtain ⟨A', n', c', e1, e2, _⟩ := h3 j hj
    refine ⟨A', n', c', ?_, e2⟩
    have e : vs[j]? = cur[j]? := by rw [← htk, List.getElem?_take, if_pos (by omega), Array.getElem?_toList]
    rw [e1] at e
    simp [World.cell?, hg, ← e]
theorem OwnS.forbid {R' : Nat → Prop} (h : OwnS B R w D n c l) (hR : ∀ i, i < w.heap.size → R' i → R i) : OwnS B R' w D n c l := by
  obtain ⟨vs, h1, h2, h3⟩ := h
  refine ⟨vs, h1, h2, fun j hj => ?_⟩
  obtain ⟨A', n', c', e1, e2, e3⟩ := h3 j hj
  refine ⟨A', n', c', e1, e2, fun h0 a ha => ⟨(e3 h0 a ha).1, fun q => (e3 h0 a ha).2 (hR _ ?_ q)⟩⟩
  obtain ⟨b, off, e4, hb, _⟩ := e2.pos h0
  rw [e4] at ha
  injection ha with ha
  subst ha
  exact hb
theorem OwnS.ne_of (h : OwnS B R w D n c l) {g : Nat} {t : TypeId} {cs : Array Value} {fr : Nat × Nat} (hg : w.heap[g]? = some (.cells cs t fr)) (ht : t ≠ 37) : Value.ownBlock (.slice D n c) ≠ some g := by
  obtain ⟨vs, h1, _⟩ := h
  rcases h1.2 with ⟨hv, hn⟩ | ⟨g', cap, cur, hv, _, hg', _⟩
  · rw [hv]; intro q; cases q
  · rw [hv]
    intro q
    have e : g' = g := by
      have := Option.some.inj q
      simpa using this
    rw [e, hg] at hg'
    injection hg' with q1
    injection q1 with _ q2
    exact ht q2
theorem OwnS.ne_obj (h : OwnS B R w D n c l) {g : Nat} {o : Obj} (hg : w.heap[g]? = some o) (ho : ∀ cs t f, o ≠ .cells cs t f) : Value.ownBlock (.slice D n c) ≠ some g := by
  obtain ⟨vs, h1, _⟩ := h
  rcases h1.2 with ⟨hv, hn⟩ | ⟨g', cap, cur, hv, _, hg', _⟩
  · rw [hv]; intro q; cases q
  · rw [hv]
    intro q
    have e : g' = g := by
      have := Option.some.inj q
      simpa using this
    rw [e, hg] at hg'
    exact ho _ _ _ (Option.some.inj hg')
/-- What it is made of. -/
theorem OwnS.src (h : OwnS B R w D n c l) : ∃ vs : List Value, vs.length = n ∧ (0 < n → ∃ ad, D = some ad ∧ ∀ j u, vs[j]? = some u → w.cell? (ad.add j) = some u) ∧ ∀ j, j < n → ∃ A' n' c', vs[j]? = some (.slice A' n' c') ∧ Bs w A' n' c' (l.getD j []) ∧ (0 < n' → ∀ a, A' = some a → ¬ R a.block) := by
  obtain ⟨vs, h1, h2, h3⟩ := h
  have hvl : vs.length = n := by simpa using h1.1
  refine ⟨vs, hvl, fun h0 => ?_, fun j hj => ?_⟩
  · rcases h1.2 with ⟨hv, hn⟩ | ⟨g, cap, cur, hv, hb, hg, hnc, hcm, hcs, htk⟩
    · omega
    · injection hv with q1 q2 q3
      refine ⟨_, q1, fun j u hu => ?_⟩
      have hj : j < n := by rw [← hvl]; exact (List.getElem?_eq_some_iff.1 hu).1
      have e : vs[j]? = cur[j]? := by rw [← htk, List.getElem?_take, if_pos (by omega), Array.getElem?_toList]
      have ea : (⟨g, 0, none⟩ : Addr).add j = ⟨g, j, none⟩ := by unfold Addr.add; split <;> simp_all
      rw [ea]
      rw [hu] at e
      simp [World.cell?, hg, ← e]
  · obtain ⟨A', n', c', e1, e2, e3⟩ := h3 j hj
    exact ⟨A', n', c', e1, e2, fun h0 a ha => (e3 h0 a ha).2⟩
theorem OwnS.ot {p : Nat → Prop} (h : OwnS B R w D n c l) (k : Ot p w w') (h1 : ∀ i, p i → Value.ownBlock (.slice D n c) ≠ some i) (h2 : ∀ i, p i → R i ∨ ∀ (j : Nat) (x : Int), w.cell? ⟨i, j, none⟩ ≠ some (.int .u8 x)) : OwnS B R w' D n c l := by
  obtain ⟨vs, o1, o2, o3⟩ := h
  refine ⟨vs, ?_, o2, fun j hj => ?_⟩
  · refine ⟨o1.1, ?_⟩
    rcases o1.2 with h | ⟨g, cap, cur, hv, hb, hg, r⟩
    · exact .inl h
    · exact .inr ⟨g, cap, cur, hv, hb, (k.same (heap_lt hg) (fun q => h1 g q (by rw [hv]; rfl))).trans hg, r⟩
  · obtain ⟨A', n', c', e1, e2, e3⟩ := o3 j hj
    refine ⟨A', n', c', e1, ⟨e2.1, e2.2.1, e2.2.2.1, fun h0 => ?_⟩, e3⟩
    obtain ⟨b, off, rfl, hb, hc⟩ := e2.2.2.2 h0
    refine ⟨b, off, rfl, Nat.lt_of_lt_of_le hb k.size, fun j hj => (World.cell?_of_block (k.same hb fun q => ?_)).trans (hc j hj)⟩
    rcases h2 b q with e | e
    · exact (e3 h0 _ rfl).2 e
    · exact e _ _ (hc j hj)
end
/-- 'append(rows, more...)'. -/
theorem wp_append_gs {w : World} {o : Oper} {a : Act} {K : Act → World → Prop} {Q : Exit → Act → World → Prop} {B : Nat} {R : Nat → Prop} {D E : Option Addr} {n c m c' : Nat} {l ys : List (List UInt8)} {news : List Value} {s x : Operand}
    (ho : o.op = .call { callee := .builtin .append, args := #[s, x], argTypes := #[50, 50] }) (hs : a.eval s = .slice D n c) (hx : a.eval x = .slice E m c')
    (h : OwnS B R w D n c l) (hl : news.length = m) (hyl : ys.length = m) (hsrc : 0 < m → ∃ ad, E = some ad ∧ ∀ j u, news[j]? = some u → w.cell? (ad.add j) = some u)
    (hnew : ∀ j, j < m → ∃ A' n' c', news[j]? = some (.slice A' n' c') ∧ Bs w A' n' c' (ys.getD j []) ∧ (0 < n' → ∀ a, A' = some a → some a.block ≠ Value.ownBlock (.slice D n c) ∧ ¬ R a.block)) (hm : n + m ≤ 1000000) (hB : B ≤ w.heap.size)
    (hK : ∀ D'' c'' w', OwnS B R w' D'' (n + m) c'' (l ++ ys) → w.grownBy w' (Value.ownBlock (.slice D n c)) → (Value.ownBlock (.slice D'' (n + m) c'') = Value.ownBlock (.slice D n c) ∨ Value.ownBlock (.slice D'' (n + m) c'') = some w.heap.size) → K (a.put o.dst (.slice D'' (n + m) c'')) w') : o.wp Try.prog a w K Q := by
  obtain ⟨vs, h1, h2, h3⟩ := h
  have hvl : vs.length = n := by simpa using h1.1
  obtain ⟨D'', c'', w', hrun, ho', hg, hown⟩ := append_any (P := Try.prog) Try.underlying50 info22G rfl o.type h1 hl hsrc (fun u hu => by
    obtain ⟨j, hj, e⟩ := List.getElem_of_mem hu
    obtain ⟨A', n', c', e1, _⟩ := hnew j (by omega)
    rw [List.getElem?_eq_getElem hj, e] at e1
    injection e1 with e1
    rw [e1]
    rfl) (by omega) (by omega) hB
  have fin : OwnS B R w' D'' (n + m) c'' (l ++ ys) := by
    have far : ∀ (A2 : Option Addr) (n2 c2 : Nat) (zs : List UInt8), Bs w A2 n2 c2 zs → (0 < n2 → ∀ a, A2 = some a → some a.block ≠ Value.ownBlock (.slice D n c)) → (0 < n2 → ∀ a, A2 = some a → some a.block ≠ Value.ownBlock (.slice D'' (n + m) c'')) := by
      intro A2 n2 c2 zs hb2 hn2 h0 a ha
      rcases hown with e | e
      · rw [e]; exact hn2 h0 a ha
      · rw [e]
        obtain ⟨b2, off2, e2, hlt, _⟩ := hb2.pos h0
        rw [e2] at ha
        injection ha with ha
        subst ha
        intro q
        injection q with q
        simp only at q
        omega
    refine ⟨vs ++ news, ho', by simp [h2, hyl], fun j hj => ?_⟩
    by_cases hjn : j < n
    · obtain ⟨A2, n2, c2, e1, e2, e3⟩ := h3 j hjn
      refine ⟨A2, n2, c2, by rw [List.getElem?_append_left (by omega)]; exact e1, ?_, fun h0 a ha => ⟨far A2 n2 c2 _ e2 (fun h a q => (e3 h a q).1) h0 a ha, (e3 h0 a ha).2⟩⟩
      have : (l ++ ys).getD j [] = l.getD j [] := by simp [List.getD, List.getElem?_append_left (show j < l.length by omega)]
      rw [this]
      exact e2.grownG hg (fun h a q => (e3 h a q).1)
    · obtain ⟨A2, n2, c2, e1, e2, e3⟩ := hnew (j - n) (by omega)
      refine ⟨A2, n2, c2, by rw [List.getElem?_append_right (by omega), hvl]; exact e1, ?_, fun h0 a ha => ⟨far A2 n2 c2 _ e2 (fun h a q => (e3 h a q).1) h0 a ha, (e3 h0 a ha).2⟩⟩
      have : (l ++ ys).getD j [] = ys.getD (j - n) [] := by simp [List.getD, List.getElem?_append_right (show l.length ≤ j by omega), h2]
      rw [this]
      exact e2.grownG hg (fun h a q => (e3 h a q).1)
  unfold Oper.wp execOp
  simp only [ho, resolve, invoke, builtin, Sem.run_bind, Sem.run_pure, Result.andThen_ok, List.map_toArray, List.map_cons, List.map_nil, hs, hx]
  rw [hrun]
  exact hK D'' c'' w' fin hg hown
/-- A literal of one row; of none. -/
theorem OwnS.one {w : World} {B : Nat} {R : Nat → Prop} {A : Option Addr} {n c : Nat} {xs : List UInt8} (hB : B ≤ w.heap.size) (hb : Bs w A n c xs) (hR : 0 < n → ∀ a, A = some a → ¬ R a.block) : OwnS B R (w.alloc (.cells #[.slice A n c] 37)) (some ⟨w.heap.size, 0, none⟩) 1 1 [xs] := by
  refine ⟨[.slice A n c], ⟨rfl, .inr ⟨w.heap.size, 1, #[.slice A n c], rfl, hB, heap_alloc_new _ _, Nat.le_refl _, by decide, rfl, rfl⟩⟩, rfl, fun j hj => ?_⟩
  obtain rfl : j = 0 := by omega
  refine ⟨A, n, c, rfl, hb.ext ((Ext.refl w).alloc _), fun h0 a ha => ⟨fun q => ?_, hR h0 a ha⟩⟩
  obtain ⟨b, off, e, hlt, _⟩ := hb.pos h0
  rw [e] at ha
  injection ha with ha
  subst ha
  injection q with q
  simp only at q
  omega
theorem OwnS.empty (w : World) {B : Nat} {R : Nat → Prop} (hB : B ≤ w.heap.size) : OwnS B R (w.alloc (.cells #[] 37)) (some ⟨w.heap.size, 0, none⟩) 0 0 [] :=
  ⟨[], ⟨rfl, .inr ⟨w.heap.size, 0, #[], rfl, hB, heap_alloc_new _ _, Nat.le_refl _, by decide, rfl, rfl⟩⟩, rfl, fun j hj => absurd hj (by omega)⟩
end Go.Proofs.Yteaoacinhdjkeaa
