import Derived.Test.YteaoacinhdjkeaaRwC
import Derived.Test.YteaoacinhdjkeaaPkG
/-
  A row of slices of bytes of the call's own, the bytes in memory of its own too. No conditions.
-/
namespace Go.Proofs.Yteaoacinhdjkeaa
open Go.ChangeShapes Go.WideShapes Go.ChangeAt Go.RowKit Go.Deep

theorem info22G : (Try.prog.info? 37).map (fun i => (i.zero, i.size, i.bytes)) = some (some (.slice none 0 0), 1, 24) := by kernel_rfl

/-- The slice '.slice D n c' is the call's own row of slices of bytes, and reads as l. -/
def OwnG (B : Nat) (w : World) (D : Option Addr) (n c : Nat) (l : List (List UInt8)) : Prop :=
  ∃ vs : List Value, w.ownsRow B 37 1 (.slice D n c) n vs ∧ l.length = n ∧
    ∀ j, j < n → ∃ A' n' c', vs[j]? = some (.slice A' n' c') ∧ Bs w A' n' c' (l.getD j []) ∧ (0 < n' → ∀ a, A' = some a → some a.block ≠ Value.ownBlock (.slice D n c) ∧ B ≤ a.block)

section
variable {w w' : World} {B : Nat} {D : Option Addr} {n c : Nat} {l : List (List UInt8)}
theorem OwnG.nil (B : Nat) (w : World) : OwnG B w none 0 0 [] := ⟨[], World.ownsRow_nil w B _ 1, rfl, fun j hj => absurd hj (by omega)⟩
theorem OwnG.len (h : OwnG B w D n c l) : l.length = n := by obtain ⟨_, _, h, _⟩ := h; exact h
theorem owns_extG {e : TypeId} {size : Nat} {v : Value} {xs : List Value} (h : w.ownsRow B e size v n xs) (he : Ext w w') : w'.ownsRow B e size v n xs := by
  refine ⟨h.1, ?_⟩
  rcases h.2 with h | ⟨g, cap, cur, hv, hb, hg, r⟩
  · exact .inl h
  · exact .inr ⟨g, cap, cur, hv, hb, (he.block g (by
      rcases Nat.lt_or_ge g w.heap.size with h | h
      · exact h
      · rw [Array.getElem?_eq_none h] at hg; cases hg)).trans hg, r⟩
theorem OwnG.ext (h : OwnG B w D n c l) (he : Ext w w') : OwnG B w' D n c l := by
  obtain ⟨vs, h1, h2, h3⟩ := h
  refine ⟨vs, owns_extG h1 he, h2, fun j hj => ?_⟩
  obtain ⟨A', n', c', e1, e2, e3⟩ := h3 j hj
  exact ⟨A', n', c', e1, e2.ext he, e3⟩
theorem OwnG.ge (h : OwnG B w D n c l) : ∀ g, Value.ownBlock (.slice D n c) = some g → B ≤ g := fun g hg => by
  obtain ⟨vs, h1, _⟩ := h
  exact (World.ownsRow.lt h1 g hg).1
theorem Bs.grownG {A : Option Addr} {m k : Nat} {xs : List UInt8} {row : Option Nat} (h : Bs w A m k xs) (hg : w.grownBy w' row) (hne : 0 < m → ∀ a, A = some a → some a.block ≠ row) : Bs w' A m k xs :=
  ⟨h.1, h.2.1, h.2.2.1, fun h0 => by
    obtain ⟨b, off, rfl, hb, hc⟩ := h.2.2.2 h0
    exact ⟨b, off, rfl, Nat.lt_of_lt_of_le hb hg.size, fun j hj => (World.cell?_of_block (hg.block b hb (hne h0 _ rfl))).trans (hc j hj)⟩⟩
theorem OwnG.rw (h : OwnG B w D n c l) : Rw w D n c l := by
  obtain ⟨vs, h1, h2, h3⟩ := h
  rcases h1.2 with ⟨hv, hn⟩ | ⟨g, cap, cur, hv, hb, hg, hnc, hcm, hcs, htk⟩
  · injection hv with q1 q2 q3
    subst q1 q2 q3
    exact ⟨h2, Nat.le_refl _, Nat.zero_le _, fun h => absurd h (by omega)⟩
  · injection hv with q1 q2 q3
    subst q1 q3
    refine ⟨h2, hnc, hcm, fun h0 => ⟨g, 0, rfl, ?_, fun j hj => ?_⟩⟩
    · rcases Nat.lt_or_ge g w.heap.size with h | h
      · exact h
      · rw [Array.getElem?_eq_none h] at hg; cases hg
    · rw [Nat.zero_add]
      obtain ⟨A', n', c', e1, e2, _⟩ := h3 j hj
      refine ⟨A', n', c', ?_, e2⟩
      have e : vs[j]? = cur[j]? := by rw [← htk, List.getElem?_take, if_pos (by omega), Array.getElem?_toList]
      rw [e1] at e
      simp [World.cell?, hg, ← e]
end

/-- 'append(rows, x)' on a row of the call's own: x lies in a new block of one cell. -/
theorem wp_append_rg {w : World} {o : Oper} {a : Act} {K : Act → World → Prop} {Q : Exit → Act → World → Prop} {B : Nat} {D A' : Option Addr} {n c n' c' b : Nat} {l : List (List UInt8)} {xs : List UInt8} {s x : Operand}
    (ho : o.op = .call { callee := .builtin .append, args := #[s, x], argTypes := #[50, 50] }) (hs : a.eval s = .slice D n c) (hx : a.eval x = .slice (some ⟨b, 0, none⟩) 1 1)
    (h : OwnG B w D n c l) (hc : w.cell? ⟨b, 0, none⟩ = some (.slice A' n' c')) (hr : Bs w A' n' c' xs) (hne : 0 < n' → ∀ a, A' = some a → some a.block ≠ Value.ownBlock (.slice D n c) ∧ B ≤ a.block) (hm : n ≤ 1000000) (hB : B ≤ w.heap.size)
    (hK : ∀ D'' c'' w', OwnG B w' D'' (n + 1) c'' (l ++ [xs]) → Below B w w' → K (a.put o.dst (.slice D'' (n + 1) c'')) w') : o.wp Try.prog a w K Q := by
  have hge := h.ge
  obtain ⟨vs, h1, h2, h3⟩ := h
  obtain ⟨i, hi, hz0, hz1, hz2⟩ := info_parts info22G
  obtain ⟨v', w', hrun, ho', hg, _, hown⟩ := run_append_own_at (P := Try.prog) w B 50 o.type 37 i (.slice none 0 0) 1 24 Try.underlying50 hi hz0 hz1 hz2 rfl (by decide) (.slice D n c) n vs h1 ⟨b, 0, none⟩ 1 1 [.slice A' n' c']
    rfl (fun j u hu => by
      have : j = 0 := by
        rcases Nat.eq_zero_or_pos j with h | h
        · exact h
        · simp [show ¬ j < 1 by omega] at hu
      subst this
      simp at hu
      subst hu
      simpa [Addr.add] using hc) (fun u hu => by simp at hu; subst hu; rfl) (by unfold maxLen; omega) (by omega) hB
  have hb' : Below B w w' := (Below.refl B w).grown hg hB hge
  have fin : ∃ D'' c'', v' = .slice D'' (n + 1) c'' ∧ OwnG B w' D'' (n + 1) c'' (l ++ [xs]) := by
    rcases ho'.2 with ⟨hv, hn⟩ | ⟨g, cap, cur, hv, _⟩
    · omega
    · refine ⟨_, _, hv, vs ++ [.slice A' n' c'], by rw [← hv]; exact ho', by simp [h2], fun j hj => ?_⟩
      have hvl : vs.length = n := by simpa using h1.1
      have far : ∀ (A2 : Option Addr) (n2 c2 : Nat) (ys : List UInt8), Bs w A2 n2 c2 ys → (0 < n2 → ∀ a, A2 = some a → some a.block ≠ Value.ownBlock (.slice D n c)) → (0 < n2 → ∀ a, A2 = some a → some a.block ≠ Value.ownBlock (.slice (some ⟨g, 0, none⟩) (n + 1) cap)) := by
        intro A2 n2 c2 ys hb2 hn2 h0 a ha
        rw [← hv]
        rcases hown with e | e
        · rw [e]; exact hn2 h0 a ha
        · rw [e]
          obtain ⟨b2, off2, e2, hlt, _⟩ := hb2.pos h0
          rw [e2] at ha
          injection ha with ha
          subst ha
          intro q
          injection q with q
          simp only at q
          omega
      by_cases hjn : j < n
      · obtain ⟨A2, n2, c2, e1, e2, e3⟩ := h3 j hjn
        refine ⟨A2, n2, c2, by rw [List.getElem?_append_left (by omega)]; exact e1, ?_, fun h0 a ha => ⟨far A2 n2 c2 _ e2 (fun h a q => (e3 h a q).1) h0 a ha, (e3 h0 a ha).2⟩⟩
        have : (l ++ [xs]).getD j [] = l.getD j [] := by simp [List.getD, List.getElem?_append_left (show j < l.length by omega)]
        rw [this]
        exact e2.grownG hg (fun h a q => (e3 h a q).1)
      · obtain rfl : j = n := by omega
        refine ⟨A', n', c', by rw [List.getElem?_append_right (by omega), hvl]; simp, ?_, fun h0 a ha => ⟨far A' n' c' xs hr (fun h a q => (hne h a q).1) h0 a ha, (hne h0 a ha).2⟩⟩
        have : (l ++ [xs]).getD j [] = xs := by simp [List.getD, List.getElem?_append_right (show l.length ≤ j by omega), h2]
        rw [this]
        exact hr.grownG hg (fun h a q => (hne h a q).1)
  obtain ⟨D'', c'', rfl, hfin⟩ := fin
  unfold Oper.wp execOp
  simp only [ho, resolve, invoke, builtin, Sem.run_bind, Sem.run_pure, Result.andThen_ok, List.map_toArray, List.map_cons, List.map_nil, hs, hx, hrun]
  exact hK D'' c'' w' hfin hb'

theorem wpList_append_rg {w : World} {ops : Array Oper} {rest : List Oper} {o : Oper} {a : Act} {Q : Exit → Act → World → Prop} (hgd : o.guard = none) {B : Nat} {D A' : Option Addr} {n c n' c' b : Nat} {l : List (List UInt8)} {xs : List UInt8} {s x : Operand}
    (ho : o.op = .call { callee := .builtin .append, args := #[s, x], argTypes := #[50, 50] }) (hs : a.eval s = .slice D n c) (hx : a.eval x = .slice (some ⟨b, 0, none⟩) 1 1)
    (h : OwnG B w D n c l) (hc : w.cell? ⟨b, 0, none⟩ = some (.slice A' n' c')) (hr : Bs w A' n' c' xs) (hne : 0 < n' → ∀ a, A' = some a → some a.block ≠ Value.ownBlock (.slice D n c) ∧ B ≤ a.block) (hm : n ≤ 1000000) (hB : B ≤ w.heap.size)
    (hK : ∀ D'' c'' w', OwnG B w' D'' (n + 1) c'' (l ++ [xs]) → Below B w w' → wpList Try.prog ops Q rest (a.put o.dst (.slice D'' (n + 1) c'')) w') : wpList Try.prog ops Q (o :: rest) a w :=
  wpList_plain hgd fun _ hK' => wp_append_rg ho hs hx h hc hr hne hm hB fun D'' c'' w' h2 h3 => hK' _ _ (hK D'' c'' w' h2 h3)

/-- What 'append(nil, s...)' made lies in a new block. -/
theorem far_of_newG {w w1 : World} {B : Nat} {A D : Option Addr} {n c k cc : Nat} {xs : List UInt8} {l : List (List UInt8)} (h : Own w.heap.size w1 A n c xs) (hD : OwnG B w D k cc l) (hB : B ≤ w.heap.size) :
    0 < n → ∀ a, A = some a → some a.block ≠ Value.ownBlock (.slice D k cc) ∧ B ≤ a.block := by
  intro h0 a ha
  subst ha
  obtain ⟨d, hd⟩ : ∃ g : Nat, a.block = g ∧ w.heap.size ≤ g := by
    rcases h.2 with ⟨hv, _⟩ | ⟨g, cap, cur, hv, hb, _⟩
    · injection hv with q1
      cases q1
    · injection hv with q1
      injection q1 with q1
      exact ⟨g, by rw [q1], hb⟩
  refine ⟨fun q => ?_, by omega⟩
  obtain ⟨vs, h1, _⟩ := hD
  have hlt := (World.ownsRow.lt h1 a.block q.symm).2
  omega

end Go.Proofs.Yteaoacinhdjkeaa
