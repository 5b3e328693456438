/-
  OctetsGrow: rows that are joined one by one are those that are joined at once.
-/
import Derived.Test.YtgmolahjmciegaaLaws1b
namespace Go.Proofs.Ytgmolahjmciegaa
open Go.ChangeShapes Go.WideShapes Go.ChangeAt Go.RowKit Go.Deep

/-- 'append(v, s...)' on a row of the call's own, elements of one cell, the source nil or not. -/
theorem append_any {P : Program} {w : World} {B : Nat} {t e : TypeId} {z : Value} {bytes : Nat} (ht : P.underlying t = some (.slice e)) (hinfo : (P.info? e).map (fun i => (i.zero, i.size, i.bytes)) = some (some z, 1, bytes)) (hzs : z.cells.size = 1)
    {A A' : Option Addr} {n c m c' : Nat} {xs news : List Value} (ty : TypeId) (h : w.ownsRow B e 1 (.slice A n c) n xs) (hl : news.length = m) (hsrc : 0 < m → ∃ ad, A' = some ad ∧ ∀ j u, news[j]? = some u → w.cell? (ad.add j) = some u)
    (h1 : ∀ u ∈ news, u.oneCell' = true) (hm : (n + m) * bytes ≤ 140737488355328) (hn : n + m ≤ 140737488355328) (hB : B ≤ w.heap.size) :
    ∃ A'' c'' w', (Builtin.append_ #[t, t] ty #[.slice A n c, .slice A' m c']).run P w = .ok (.slice A'' (n + m) c'') w' ∧ w'.ownsRow B e 1 (.slice A'' (n + m) c'') (n + m) (xs ++ news) ∧ w.grownBy w' (Value.ownBlock (.slice A n c)) ∧
      (Value.ownBlock (.slice A'' (n + m) c'') = Value.ownBlock (.slice A n c) ∨ Value.ownBlock (.slice A'' (n + m) c'') = some w.heap.size) := by
  obtain ⟨i, hi, hz0, hz1, hz2⟩ := info_parts hinfo
  rcases A' with _ | a
  · have hm0 : m = 0 := by
      rcases Nat.eq_zero_or_pos m with h0 | h0
      · exact h0
      · obtain ⟨ad, e, _⟩ := hsrc h0
        cases e
    subst hm0
    have hy := List.eq_nil_of_length_eq_zero hl
    subst hy
    refine ⟨A, c, w, ?_, by simpa using h, ⟨rfl, rfl, rfl, Nat.le_refl _, fun _ _ _ => rfl⟩, .inl rfl⟩
    rcases h.2 with ⟨hv, hn⟩ | ⟨g, cap, cur, hv, _, _, hnc, _⟩
    · rw [hv]
      subst hn
      injection hv with q1 _ q3
      subst q1 q3
      simp [Builtin.append_, run_underlying ht, sizeOf, typeInfo, hi, Builtin.lenOf, Builtin.firstCells]
    · rw [hv]
      injection hv with q1 _ q3
      subst q1 q3
      simp [Builtin.append_, run_underlying ht, sizeOf, typeInfo, hi, Builtin.lenOf, Builtin.firstCells, hnc, storeCells]
  · have hsrc' : ∀ j u, news[j]? = some u → w.cell? (a.add j) = some u := fun j u hu => by
      have hj : j < news.length := (List.getElem?_eq_some_iff.1 hu).1
      obtain ⟨ad, e, hc⟩ := hsrc (by omega)
      injection e with e
      subst e
      exact hc j u hu
    obtain ⟨v', w', hrun, ho, hg, _, hown⟩ := run_append_own_at (P := P) w B t ty e i z 1 bytes ht hi hz0 hz1 hz2 hzs (by decide) (.slice A n c) n xs h a m c' news (by rw [hl, Nat.mul_one]) hsrc' h1 (by unfold maxLen; omega) hm hB
    rcases ho.2 with ⟨hv, hn0⟩ | ⟨g, cap, cur, hv, _⟩
    · subst hv
      refine ⟨none, 0, w', by rw [hrun, hn0], by rw [hn0] at ho ⊢; exact ho, hg, ?_⟩
      rcases hown with q | q
      · exact .inl q
      · exact .inr q
    · subst hv
      exact ⟨_, _, w', hrun, ho, hg, hown⟩

/-- 'append(rows, s...)', s lying in memory that was there when the call began. -/
theorem wp_append_rws {w w0 : World} {o : Oper} {a : Act} {K : Act → World → Prop} {Q : Exit → Act → World → Prop} {D A' : Option Addr} {n c m c' : Nat} {l l' : List (List UInt8)} {s x : Operand}
    (ho : o.op = .call { callee := .builtin .append, args := #[s, x], argTypes := #[32, 32] }) (hs : a.eval s = .slice D n c) (hx : a.eval x = .slice A' m c')
    (h : OwnR w0.heap.size w D n c l) (hr : Rw w0 A' m c' l') (hE : Ext w0 w) (hm : n + m ≤ 1000000)
    (hK : ∀ D'' c'' w', OwnR w0.heap.size w' D'' (n + m) c'' (l ++ l') → Ext w0 w' → K (a.put o.dst (.slice D'' (n + m) c'')) w') : o.wp Try.prog a w K Q := by
  have hge := h.ge
  obtain ⟨vs, h1, h2, h3⟩ := h
  have src : ∃ news : List Value, news.length = m ∧ (0 < m → ∃ ad, A' = some ad ∧ ∀ j u, news[j]? = some u → w.cell? (ad.add j) = some u) ∧ (∀ u ∈ news, u.oneCell' = true) ∧
      ∀ j, j < m → ∃ A2 n2 c2, news[j]? = some (.slice A2 n2 c2) ∧ Bs w0 A2 n2 c2 (l'.getD j []) := by
    rcases Nat.eq_zero_or_pos m with h0 | h0
    · subst h0
      exact ⟨[], rfl, fun h => absurd h (by omega), (fun u hu => by cases hu), fun j hj => absurd hj (by omega)⟩
    · obtain ⟨b, off, rfl, hb, hc⟩ := hr.pos h0
      have hplain : ∀ j, (⟨b, off, none⟩ : Addr).add j = ⟨b, off + j, none⟩ := fun j => by unfold Addr.add; split <;> simp_all
      have key : ∀ j, j < m → ((List.range m).map fun j => (w0.cell? ⟨b, off + j, none⟩).getD undef)[j]? = w0.cell? ⟨b, off + j, none⟩ := fun j hj => by
        obtain ⟨A2, n2, c2, q1, _⟩ := hc j hj
        simp [hj, q1]
      refine ⟨(List.range m).map fun j => (w0.cell? ⟨b, off + j, none⟩).getD undef, by simp, fun _ => ⟨_, rfl, fun j u hu => ?_⟩, fun u hu => ?_, fun j hj => ?_⟩
      · have hj : j < m := by have := (List.getElem?_eq_some_iff.1 hu).1; simpa using this
        rw [key j hj] at hu
        rw [hplain]
        exact (hE.cell hb).trans hu
      · obtain ⟨j, hj⟩ := List.getElem?_of_mem hu
        have hjm : j < m := by have := (List.getElem?_eq_some_iff.1 hj).1; simpa using this
        obtain ⟨A2, n2, c2, q1, _⟩ := hc j hjm
        rw [key j hjm, q1] at hj
        injection hj with hj
        subst hj
        rfl
      · obtain ⟨A2, n2, c2, q1, q2⟩ := hc j hj
        exact ⟨A2, n2, c2, by rw [key j hj, q1], q2⟩
  obtain ⟨news, n1, n2, n3, n4⟩ := src
  obtain ⟨D'', c'', w', hrun, ho', hg, hown⟩ := append_any (c' := c') Try.underlying32 info22 rfl o.type h1 n1 n2 n3 (by omega) (by omega) hE.size
  have hE' : Ext w0 w' := hE.trans' ((Below.refl _ w).grown hg hE.size hge)
  have hvl : vs.length = n := by simpa using h1.1
  have fin : OwnR w0.heap.size w' D'' (n + m) c'' (l ++ l') := by
    refine ⟨vs ++ news, ho', by rw [List.length_append, h2, hr.len], fun j hj => ?_⟩
    by_cases hjn : j < n
    · obtain ⟨A2, k2, c2, e1, e2, e3⟩ := h3 j hjn
      have e4 : (l ++ l').getD j [] = l.getD j [] := by simp [List.getD, List.getElem?_append_left (show j < l.length by omega)]
      refine ⟨A2, k2, c2, by rw [List.getElem?_append_left (by omega)]; exact e1, by rw [e4]; exact e2.grown hg e3, fun q0 ad had => ?_⟩
      rcases hown with q | q
      · rw [q]; exact e3 q0 ad had
      · rw [q]
        obtain ⟨b2, off2, q2, hlt, _⟩ := e2.pos q0
        rw [q2] at had
        injection had with had
        subst had
        intro hh
        injection hh with hh
        simp only at hh
        omega
    · obtain ⟨A2, k2, c2, e1, e2⟩ := n4 (j - n) (by omega)
      have e4 : (l ++ l').getD j [] = l'.getD (j - n) [] := by simp [List.getD, List.getElem?_append_right (show l.length ≤ j by omega), h2]
      refine ⟨A2, k2, c2, by rw [List.getElem?_append_right (by omega), hvl]; exact e1, by rw [e4]; exact e2.ext hE', fun q0 ad had => ?_⟩
      obtain ⟨b2, off2, q2, hlt, _⟩ := e2.pos q0
      rw [q2] at had
      injection had with had
      subst had
      intro hh
      have := (World.ownsRow.lt ho' b2 hh.symm).1
      omega
  unfold Oper.wp execOp
  simp only [ho, resolve, invoke, builtin, Sem.run_bind, Sem.run_pure, Result.andThen_ok, List.map_toArray, List.map_cons, List.map_nil, hs, hx, hrun]
  exact hK D'' c'' w' fin hE'

theorem wpList_append_rws {w w0 : World} {ops : Array Oper} {rest : List Oper} {o : Oper} {a : Act} {Q : Exit → Act → World → Prop} (hgd : o.guard = none) {D A' : Option Addr} {n c m c' : Nat} {l l' : List (List UInt8)} {s x : Operand}
    (ho : o.op = .call { callee := .builtin .append, args := #[s, x], argTypes := #[32, 32] }) (hs : a.eval s = .slice D n c) (hx : a.eval x = .slice A' m c')
    (h : OwnR w0.heap.size w D n c l) (hr : Rw w0 A' m c' l') (hE : Ext w0 w) (hm : n + m ≤ 1000000)
    (hK : ∀ D'' c'' w', OwnR w0.heap.size w' D'' (n + m) c'' (l ++ l') → Ext w0 w' → wpList Try.prog ops Q rest (a.put o.dst (.slice D'' (n + m) c'')) w') : wpList Try.prog ops Q (o :: rest) a w :=
  wpList_plain hgd fun _ hK' => wp_append_rws ho hs hx h hr hE hm fun D'' c'' w' h2 h3 => hK' _ _ (hK D'' c'' w' h2 h3)

theorem OwnR.empty (w : World) (B : Nat) (hB : B ≤ w.heap.size) : OwnR B (w.alloc (.cells #[] 22)) (some ⟨w.heap.size, 0, none⟩) 0 0 [] :=
  ⟨[], World.ownsRow_lit (e := 22) (size := 1) w #[] 0 hB (Nat.zero_le _) rfl, rfl, fun j hj => absurd hj (by omega)⟩

theorem Rw.one (w : World) (t : TypeId) : Rw (w.alloc (.cells #[.slice none 0 0] t)) (some ⟨w.heap.size, 0, none⟩) 1 1 [[]] :=
  ⟨rfl, Nat.le_refl _, by unfold maxLen; omega, fun _ => ⟨w.heap.size, 0, rfl, by simp, fun j hj => by
    obtain rfl : j = 0 := by omega
    exact ⟨none, 0, 0, cell_new w t _, Bs.nil _⟩⟩⟩

theorem strL_app (x y : List UInt8) : strL x ++ strL y = strL (x ++ y) := by
  apply Go.WideShapes.bytes_inj
  simp [strL]

theorem rows60 {l : List (List UInt8)} (h : lightB l = true) : l.length ≤ 60 := by
  unfold lightB at h
  rw [Bool.and_eq_true, decide_eq_true_iff] at h
  exact h.1

set_option maxHeartbeats 2000000 in
theorem grow_calls {A A' : Option Addr} {n c n' c' : Nat} {l l' : List (List UInt8)} {w : World} (h : Rw w A n c l) (h' : Rw w A' n' c' l') :
    Calls Try.prog 8 #[.slice A n c, .slice A' n' c'] w fun e w' => e = .returned (.bool true) ∧ Ext w w' := by
  obtain ⟨r, hr⟩ : ∃ r, Hid (lightB l = r) := ⟨_, rfl⟩
  obtain ⟨r', hr'⟩ : ∃ r, Hid (lightB l' = r) := ⟨_, rfl⟩
  go_enter Try.func8, Try.ntmps8
  go_wp2_with fail
  refine (awake_calls _).mono ?_
  rintro e w1 ⟨rfl, e1⟩
  go_wp2_with fail
  have hli := light_calls (h.ext e1)
  rw [hr.out] at hli
  refine hli.mono ?_
  rintro e w2 ⟨rfl, rfl⟩
  clear hli
  go_wp2_with fail
  have hli := light_calls (h'.ext e1)
  rw [hr'.out] at hli
  refine hli.mono ?_
  rintro e w2 ⟨rfl, rfl⟩
  clear hli
  cases r with
  | false =>
    go_wp2_with fail
    go_ret
    exact ⟨rfl, e1⟩
  | true =>
    cases r' with
    | false =>
      go_wp2_with fail
      go_ret
      exact ⟨rfl, e1⟩
    | true =>
      have hjl := join_light hr.out
      have hjl' := join_light hr'.out
      have hn : n ≤ 60 := by rw [← h.len]; exact rows60 hr.out
      have hn' : n' ≤ 60 := by rw [← h'.len]; exact rows60 hr'.out
      have hjj : Hid (joinL (l ++ l') = joinL l ++ joinL l') := by unfold Hid joinL; rw [List.flatMap_append]
      go_wp2_with (first
        | (at_builtin; (with_reducible refine wpList_append_rws rfl (w0 := w2) (s := .tmp 21) (x := .tmp 22) rfl rfl rfl (OwnR.empty w2 _ (Nat.le_refl _)) (h.ext e1) ((Ext.refl _).alloc _) (by omega) ?_); intro D3 c3 w3 o3 E3; simp only [Nat.zero_add, List.nil_append] at o3)
        | (at_builtin; (with_reducible refine wpList_append_rws rfl (w0 := w2) (s := .tmp 23) (x := .tmp 24) rfl rfl rfl o3 (h'.ext e1) E3 (by omega) ?_); intro D4 c4 w4 o4 E4))
      have hr4 := o4.rw
      have H4 : Ext w w4 := e1.trans E4
      have sapp := strL_app
      have hss : ¬ (9223372036854775807 < (strL (joinL l)).size + (strL (joinL l')).size) := by rw [strL_size, strL_size]; omega
      refine wp_region_seq (R := Ext) Ext.refl (fun _ _ _ => Ext.trans) [0, 1, 2, 5, 8, 3, 4, 6, 7, 9, 10, 11, 12, 13, 14, 15, 16, 17, 18, 19, 20] [3, 6, 9, 15, 16] [(0, 27, 64), (1, 28, 134217728), (2, 29, 268435968), (6, 30, 805306368), (10, 31, 1342177280), (2, 32, 268435458), (42, 33, 4563402752), (66, 34, 8858370048), (2, 35, 268435460), (322, 36, 34628173824), (514, 37, 68987912192), (1154, 38, 154887258112), (2066, 39, 277293826048), (4098, 40, 550024249344), (8704, 41, 1099511627776), (16384, 42, 2199023255552), (49152, 43, 6597069766656), (81920, 44, 10995116277760), (147456, 45, 19791209299968), (278528, 46, 37383395344384), (1048575, 5, 70368744177664)] (by kernel_rfl) (by kernel_rfl) (by kernel_rfl) rfl (by kernel_rfl) (by kernel_rfl) (fun _ _ d _ _ h => by cases d <;> exact h) ?_
      repeat (first | (refine seq_read (fun _ => True) (fun _ _ => trivial) _ (v := ?_) rfl rfl (by rfl) ?_ ?_; rotate_left; (· intro w' hF; go_simp; (try with_reducible rfl)); simp only [Act.put, List.setIfInBounds_toArray, List.set_cons_zero, List.set_cons_succ]) | (refine seq_skip _ rfl rfl (by rfl) ?_; simp only [Act.put, List.setIfInBounds_toArray, List.set_cons_zero, List.set_cons_succ]))
      refine seq_do _ rfl rfl (by rfl) (fun K hK => ?_)
      go_simp
      have hj := join_calls (hr4.ext (Ext.refl _).drew) (by rw [hjj.out, List.length_append]; omega)
      rw [hjj.out] at hj
      refine hj.mono ?_
      rintro e w5 ⟨A5, n5, c5, rfl, b5, e5⟩
      refine hK.out _ _ e5 ?_
      clear hK K
      try simp only [Act.put, List.setIfInBounds_toArray, List.set_cons_zero, List.set_cons_succ]
      clear hj
      repeat (first | (refine seq_read _ (fun w' e => conv_bs (b5.ext e)) _ (v := ?_) rfl rfl (by rfl) ?_ ?_; rotate_left; (· intro w' hF; go_simp; (try with_reducible rfl)); simp only [Act.put, List.setIfInBounds_toArray, List.set_cons_zero, List.set_cons_succ]) | (refine seq_skip _ rfl rfl (by rfl) ?_; simp only [Act.put, List.setIfInBounds_toArray, List.set_cons_zero, List.set_cons_succ]))
      refine seq_do _ rfl rfl (by rfl) (fun K hK => ?_)
      go_simp
      refine (join_calls (h.ext (H4.drew.trans e5)) (by omega)).mono ?_
      rintro e w6 ⟨A6, n6, c6, rfl, b6, e6⟩
      refine hK.out _ _ e6 ?_
      clear hK K
      try simp only [Act.put, List.setIfInBounds_toArray, List.set_cons_zero, List.set_cons_succ]
      repeat (first | (refine seq_read _ (fun w' e => conv_bs (b6.ext e)) _ (v := ?_) rfl rfl (by rfl) ?_ ?_; rotate_left; (· intro w' hF; go_simp; (try with_reducible rfl)); simp only [Act.put, List.setIfInBounds_toArray, List.set_cons_zero, List.set_cons_succ]) | (refine seq_skip _ rfl rfl (by rfl) ?_; simp only [Act.put, List.setIfInBounds_toArray, List.set_cons_zero, List.set_cons_succ]))
      refine seq_do _ rfl rfl (by rfl) (fun K hK => ?_)
      go_simp
      refine (join_calls (h'.ext ((H4.drew.trans e5).trans e6)) (by omega)).mono ?_
      rintro e w7 ⟨A7, n7, c7, rfl, b7, e7⟩
      refine hK.out _ _ e7 ?_
      clear hK K
      try simp only [Act.put, List.setIfInBounds_toArray, List.set_cons_zero, List.set_cons_succ]
      repeat (first | (refine seq_read _ (fun w' e => conv_bs (b7.ext e)) _ (v := ?_) rfl rfl (by rfl) ?_ ?_; rotate_left; (· intro w' hF; go_simp; (try with_reducible rfl)); simp only [Act.put, List.setIfInBounds_toArray, List.set_cons_zero, List.set_cons_succ]) | (refine seq_skip _ rfl rfl (by rfl) ?_; simp only [Act.put, List.setIfInBounds_toArray, List.set_cons_zero, List.set_cons_succ]))
      refine seq_do _ rfl rfl (by rfl) (fun K hK => ?_)
      go_simp
      refine hK.out _ _ ((Ext.refl _).alloc _) ?_
      clear hK K
      try simp only [Act.put, List.setIfInBounds_toArray, List.set_cons_zero, List.set_cons_succ]
      repeat (first | (refine seq_read (fun _ => True) (fun _ _ => trivial) _ (v := ?_) rfl rfl (by rfl) ?_ ?_; rotate_left; (· intro w' hF; go_simp; (try with_reducible rfl)); simp only [Act.put, List.setIfInBounds_toArray, List.set_cons_zero, List.set_cons_succ]) | (refine seq_skip _ rfl rfl (by rfl) ?_; simp only [Act.put, List.setIfInBounds_toArray, List.set_cons_zero, List.set_cons_succ]))
      refine seq_do _ rfl rfl (by rfl) (fun K hK => ?_)
      go_simp
      refine (join_calls (Rw.one w7 _) (by decide)).mono ?_
      rintro e w8 ⟨A8, n8, c8, rfl, b8, e8⟩
      refine hK.out _ _ e8 ?_
      clear hK K
      try simp only [Act.put, List.setIfInBounds_toArray, List.set_cons_zero, List.set_cons_succ]
      obtain rfl : n8 = 4 := by rw [← b8.len]; rfl
      repeat (first | (refine seq_read (fun _ => True) (fun _ _ => trivial) _ (v := ?_) rfl rfl (by rfl) ?_ ?_; rotate_left; (· intro w' hF; go_simp; (try with_reducible rfl)); simp only [Act.put, List.setIfInBounds_toArray, List.set_cons_zero, List.set_cons_succ]) | (refine seq_skip _ rfl rfl (by rfl) ?_; simp only [Act.put, List.setIfInBounds_toArray, List.set_cons_zero, List.set_cons_succ]))
      refine seq_done ?_
      go_wp2_with fail
      go_ret
      exact ⟨rfl, ((((H4.drew.trans e5).trans e6).trans e7).alloc _).trans e8⟩
end Go.Proofs.Ytgmolahjmciegaa
