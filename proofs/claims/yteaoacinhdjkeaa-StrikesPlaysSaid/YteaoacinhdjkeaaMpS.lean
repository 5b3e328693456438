/-
  A store into a map, at a key that is there or not; maps keyed by numbers as functions. No conditions.
-/
import Derived.Test.YteaoacinhdjkeaaMpW
namespace Go.Proofs.Yteaoacinhdjkeaa
open Go.ChangeShapes Go.WideShapes Go.ChangeAt Go.RowKit Go.Deep Go.Maps

section
variable {P : Program} {k t e : TypeId} {w w' : World} {b : Nat} {E E' : List (Value × Value)} {D : DataW Value}
theorem keys_len {A B : List (Value × Value)} (a : A.Pairwise fun p q => p.1 ≠ q.1) (h : ∀ p ∈ A, p.1 ∈ B.map (·.1)) : A.length ≤ B.length := by
  have := List.Nodup.length_le_of_subset (l₁ := A.map (·.1)) (l₂ := B.map (·.1)) (by rw [List.Nodup, List.pairwise_map]; exact a) (fun x hx => by
    obtain ⟨p, hp, rfl⟩ := List.mem_map.1 hx
    exact h p hp)
  simpa using this
theorem Vw.store (h : Vw P k D E) (K : Keyed P k) (T : Tidy D) {key v : Value} {kl : Lit} (hk : keyOf P k key = some kl) (ap : E'.Pairwise fun p q => p.1 ≠ q.1) (hm : ∀ p, p ∈ E' ↔ p = (key, v) ∨ (p.1 ≠ key ∧ p ∈ E)) : Vw P k (D.put kl (.held v)) E' := by
  have IK := K.key hk
  refine ⟨ap, ?_, fun p hp => ?_, fun kl' hh => ?_⟩
  · rw [size_put T]
    cases hh : Maps.has D kl
    · have hmiss := h.miss hk hh
      have l1 : E'.length ≤ ((key, v) :: E).length := keys_len ap fun p hp => by
        rcases (hm p).1 hp with rfl | ⟨_, q⟩
        · simp
        · exact List.mem_map.2 ⟨p, List.mem_cons_of_mem _ q, rfl⟩
      have l2 : ((key, v) :: E).length ≤ E'.length := keys_len (List.pairwise_cons.2 ⟨fun q hq z => hmiss q hq z.symm, h.apart⟩) fun p hp => by
        rcases List.mem_cons.1 hp with rfl | hp
        · exact List.mem_map.2 ⟨_, (hm _).2 (.inl rfl), rfl⟩
        · exact List.mem_map.2 ⟨p, (hm p).2 (.inr ⟨hmiss p hp, hp⟩), rfl⟩
      have := h.size
      simp only [List.length_cons] at l1 l2
      simp only [Bool.false_eq_true, if_false]
      omega
    · obtain ⟨v', hv', _⟩ := h.hit K hk hh
      have l1 : E'.length ≤ E.length := keys_len ap fun p hp => by
        rcases (hm p).1 hp with rfl | ⟨_, q⟩
        · exact List.mem_map.2 ⟨_, hv', rfl⟩
        · exact List.mem_map.2 ⟨p, q, rfl⟩
      have l2 : E.length ≤ E'.length := keys_len h.apart fun p hp => by
        by_cases q : p.1 = key
        · rw [q]; exact List.mem_map.2 ⟨_, (hm _).2 (.inl rfl), rfl⟩
        · exact List.mem_map.2 ⟨p, (hm p).2 (.inr ⟨q, hp⟩), rfl⟩
      have := h.size
      simp only [if_true]
      omega
  · rcases (hm p).1 hp with rfl | ⟨q1, q2⟩
    · exact ⟨kl, hk, has_put_same T.isMap IK _, fun z => atKey_put_same T.isMap IK _ z⟩
    · obtain ⟨kl', h1, h2, h3⟩ := h.into p q2
      have hne : kl' ≠ kl := fun z => q1 (K.inj (h1.trans (congrArg some z)) hk)
      exact ⟨kl', h1, by rw [has_put_other hne]; exact h2, fun z => by rw [atKey_put_other hne]; exact h3 z⟩
  · by_cases z : kl' = kl
    · subst z
      exact ⟨(key, v), (hm _).2 (.inl rfl), hk⟩
    · rw [has_put_other z] at hh
      obtain ⟨p, hp, q⟩ := h.back kl' hh
      refine ⟨p, (hm p).2 (.inr ⟨fun r => z ?_, hp⟩), q⟩
      rw [r, hk] at q
      exact (Option.some.inj q).symm
theorem Mp.store (h : Mp P k w b E) (K : Keyed P k) (ht : P.underlying t = some (.map k e)) (hn : E.length < maxLen) {key v : Value} {kl : Lit} (hkey : keyOf P k key = some kl) (ap : E'.Pairwise fun p q => p.1 ≠ q.1) (hm : ∀ p, p ∈ E' ↔ p = (key, v) ∨ (p.1 ≠ key ∧ p ∈ E)) :
    ∃ w', (Instr.mapUpdate t (.map (some b)) key v).run P w = .ok () w' ∧ Mp P k w' b E' ∧ w.grownBy w' (some b) := by
  obtain ⟨D, h, vw⟩ := h
  obtain ⟨w1, r1, r2, r3⟩ := h.update K ht hn hkey (d := .held v) (ps := []) rfl
  exact ⟨w1, r1, Mp.of r2 (vw.store K (h.tidy K) hkey ap hm), r3⟩

/-- The entries of a function on the numbers below m. -/
def entN (m : Nat) (f : Nat → Option Value) : List (Value × Value) := (List.range m).filterMap fun i => (f i).map fun v => (.int .i64 (i : Int), v)
theorem entN_mem {m : Nat} {f : Nat → Option Value} {p : Value × Value} : p ∈ entN m f ↔ ∃ i v, i < m ∧ f i = some v ∧ p = (.int .i64 (i : Int), v) := by
  unfold entN
  rw [List.mem_filterMap]
  constructor
  · rintro ⟨i, hi, hp⟩
    obtain ⟨v, hv, rfl⟩ := Option.map_eq_some_iff.1 hp
    exact ⟨i, v, List.mem_range.1 hi, hv, rfl⟩
  · rintro ⟨i, v, hi, hv, rfl⟩
    exact ⟨i, List.mem_range.2 hi, by rw [hv]; rfl⟩
theorem entN_apart (m : Nat) (f : Nat → Option Value) : (entN m f).Pairwise fun p q => p.1 ≠ q.1 := by
  unfold entN
  rw [List.pairwise_filterMap]
  refine List.nodup_range.imp ?_
  intro i j hij p hp q hq
  obtain ⟨v, _, rfl⟩ := Option.map_eq_some_iff.1 hp
  obtain ⟨v', _, rfl⟩ := Option.map_eq_some_iff.1 hq
  intro z
  injection z with _ z
  exact hij (by omega)
theorem entN_len (m : Nat) (f : Nat → Option Value) : (entN m f).length ≤ m := by
  have := List.length_filterMap_le (fun i => (f i).map fun v => ((.int .i64 (i : Int), v) : Value × Value)) (List.range m)
  rw [List.length_range] at this
  exact this
theorem entN_set {m i : Nat} {f : Nat → Option Value} {v : Value} (hi : i < m) (p : Value × Value) : p ∈ entN m (fun j => if j = i then some v else f j) ↔ p = (.int .i64 (i : Int), v) ∨ (p.1 ≠ .int .i64 (i : Int) ∧ p ∈ entN m f) := by
  rw [entN_mem, entN_mem]
  constructor
  · rintro ⟨j, u, hj, hu, rfl⟩
    by_cases e : j = i
    · subst e
      rw [if_pos rfl] at hu
      exact .inl (by rw [Option.some.inj hu])
    · rw [if_neg e] at hu
      refine .inr ⟨fun z => e ?_, j, u, hj, hu, rfl⟩
      injection z with _ z
      omega
  · rintro (rfl | ⟨h1, j, u, hj, hu, rfl⟩)
    · exact ⟨i, v, hi, if_pos rfl, rfl⟩
    · refine ⟨j, u, hj, ?_, rfl⟩
      rw [if_neg (fun z => h1 (by rw [z]))]
      exact hu
theorem int_key {ki : TypeId} (hk : P.underlying ki = some (.int .i64)) {i : Int} (hi : -9223372036854775808 ≤ i ∧ i ≤ 9223372036854775807) : keyOf P ki (.int .i64 i) = some (.int .i64 i) :=
  keyOf_int_mk hk (WalkArith.wf_i64 hi)
end
end Go.Proofs.Yteaoacinhdjkeaa
