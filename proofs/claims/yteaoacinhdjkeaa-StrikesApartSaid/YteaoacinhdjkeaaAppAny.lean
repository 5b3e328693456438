import Derived.Test.YteaoacinhdjkeaaPkG
/-
  append on a row of the call's own, elements of one cell.
-/
namespace Go.Proofs.Yteaoacinhdjkeaa
open Go.ChangeShapes Go.WideShapes Go.ChangeAt Go.RowKit Go.Deep

/-- 'append(v, s...)' on a row of the call's own, elements of one cell, the source nil or not. -/
theorem append_any {P : Program} {w : World} {B : Nat} {t e : TypeId} {z : Value} {bytes : Nat} (ht : P.underlying t = some (.slice e)) (hinfo : (P.info? e).map (fun i => (i.zero, i.size, i.bytes)) = some (some z, 1, bytes)) (hzs : z.cells.size = 1)
    {A A' : Option Addr} {n c m c' : Nat} {xs news : List Value} (ty : TypeId) (h : w.ownsRow B e 1 (.slice A n c) n xs) (hl : news.length = m) (hsrc : 0 < m → ∃ ad, A' = some ad ∧ ∀ j u, news[j]? = some u → w.cell? (ad.add j) = some u)
    (h1 : ∀ u ∈ news, u.oneCell' = true) (hm : (n + m) * bytes ≤ 140737488355328) (hn : n + m ≤ 140737488355328) (hB : B ≤ w.heap.size) :
    ∃ A'' c'' w', (Builtin.append_ #[t, t] ty #[.slice A n c, .slice A' m c']).run P w = .ok (.slice A'' (n + m) c'') w' ∧ w'.ownsRow B e 1 (.slice A'' (n + m) c'') (n + m) (xs ++ news) ∧ w.grownBy w' (Value.ownBlock (.slice A n c)) ∧
      (Value.ownBlock (.slice A'' (n + m) c'') = Value.ownBlock (.slice A n c) ∨ Value.ownBlock (.slice A'' (n + m) c'') = some w.heap.size) := by
  obtain ⟨i, hi, hz0, hz1, hz2⟩ := info_parts hinfo
  rcases A' with _ | a
  · have hm0 : m = 0 := by
      rcases Nat.eq_zero_or_pos m with h0 | h0
      · exact h0
      · obtain ⟨ad, e, _⟩ := hsrc h0
        cases e
    subst hm0
    have hy := List.eq_nil_of_length_eq_zero hl
    subst hy
    refine ⟨A, c, w, ?_, by simpa using h, ⟨rfl, rfl, rfl, Nat.le_refl _, fun _ _ _ => rfl⟩, .inl rfl⟩
    rcases h.2 with ⟨hv, hn⟩ | ⟨g, cap, cur, hv, _, _, hnc, _⟩
    · rw [hv]
      subst hn
      injection hv with q1 _ q3
      subst q1 q3
      simp [Builtin.append_, run_underlying ht, sizeOf, typeInfo, hi, Builtin.lenOf, Builtin.firstCells]
    · rw [hv]
      injection hv with q1 _ q3
      subst q1 q3
      simp [Builtin.append_, run_underlying ht, sizeOf, typeInfo, hi, Builtin.lenOf, Builtin.firstCells, hnc, storeCells]
  · have hsrc' : ∀ j u, news[j]? = some u → w.cell? (a.add j) = some u := fun j u hu => by
      have hj : j < news.length := (List.getElem?_eq_some_iff.1 hu).1
      obtain ⟨ad, e, hc⟩ := hsrc (by omega)
      injection e with e
      subst e
      exact hc j u hu
    obtain ⟨v', w', hrun, ho, hg, _, hown⟩ := run_append_own_at (P := P) w B t ty e i z 1 bytes ht hi hz0 hz1 hz2 hzs (by decide) (.slice A n c) n xs h a m c' news (by rw [hl, Nat.mul_one]) hsrc' h1 (by unfold maxLen; omega) hm hB
    rcases ho.2 with ⟨hv, hn0⟩ | ⟨g, cap, cur, hv, _⟩
    · subst hv
      refine ⟨none, 0, w', by rw [hrun, hn0], by rw [hn0] at ho ⊢; exact ho, hg, ?_⟩
      rcases hown with q | q
      · exact .inl q
      · exact .inr q
    · subst hv
      exact ⟨_, _, w', hrun, ho, hg, hown⟩
end Go.Proofs.Yteaoacinhdjkeaa
