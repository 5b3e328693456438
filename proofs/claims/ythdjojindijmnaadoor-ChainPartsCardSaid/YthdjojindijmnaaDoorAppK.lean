/-
  append of a row of keys on a row of keys of the call's own.
-/
import Derived.Test.YthdjojindijmnaaDoorOwnK
namespace Go.Proofs.YthdjojindijmnaaDoor
open Go.ChangeShapes Go.WideShapes Go.ChangeAt Go.RowKit Go.Deep
set_option maxRecDepth 100000

theorem Kl.flat {w : World} {b m : Nat} {l : List (List UInt8)} (h : Kl w (some ⟨b, 0, none⟩) m l) (q : Nat) (u : Value) (hu : (cellsOf l.flatten)[q]? = some u) : w.cell? ⟨b, q, none⟩ = some u := by
  have hf := flat_len h.2.1
  have hq : q < l.flatten.length := by
    have := (List.getElem?_eq_some_iff.1 hu).1
    rwa [cellsOf_len] at this
  have h0 : 0 < m := by
    rcases Nat.eq_zero_or_pos m with e | e
    · have := h.1
      rw [hf, this, e] at hq
      omega
    · exact e
  obtain ⟨b', hb, _, hc⟩ := h.2.2 h0
  injection hb with hb
  injection hb with hb
  subst hb
  have hj : q / 32 < m := by have := h.1; omega
  have hlen : (l.getD (q / 32) []).length = 32 := h.2.1 _ (by have := h.1; simp [List.getD, show q / 32 < l.length by omega])
  have hi : q % 32 < 32 := Nat.mod_lt _ (by omega)
  have he : 32 * (q / 32) + q % 32 = q := by omega
  have := hc (q / 32) hj (q % 32) (.int .u8 (bt (l.getD (q / 32) []) (q % 32) : Int)) (cellsOf_get (by omega))
  rw [he] at this
  rw [this, ← hu, cellsOf_get hq]
  have hb := flat_bt (j := q / 32) (i := q % 32) h.2.1 (by have := h.1; omega) hi
  rw [he] at hb
  rw [hb]

theorem append_kl {w : World} {B : Nat} {A A' : Option Addr} {n c m c' : Nat} {l l' : List (List UInt8)} (ty : TypeId) (h : OwnK B w A n c l) (h' : Kl w A' m l') (hm : n + m ≤ 1000) (hB : B ≤ w.heap.size) :
    ∃ A'' c'' w', (Builtin.append_ #[45, 45] ty #[.slice A n c, .slice A' m c']).run Tryd.prog w = .ok (.slice A'' (n + m) c'') w' ∧ OwnK B w' A'' (n + m) c'' (l ++ l') ∧ w.grownBy w' (Value.ownBlock (.slice A n c)) := by
  obtain ⟨i, hi, hz0, hz1, hz2⟩ := info_parts infoK
  have hfl := flat_len h'.2.1
  have e : cellsOf l.flatten ++ cellsOf l'.flatten = cellsOf (l ++ l').flatten := by
    rw [cellsOf_map, cellsOf_map, cellsOf_map, List.flatten_append]
    simp
  have hl1 : ∀ x ∈ l ++ l', x.length = 32 := fun x hx => by
    rcases List.mem_append.1 hx with q | q
    · exact h.2.1 x q
    · exact h'.2.1 x q
  have hl2 : (l ++ l').length = n + m := by rw [List.length_append, h.2.2, h'.1]
  have go : ∀ a : Addr, (∀ q u, (cellsOf l'.flatten)[q]? = some u → w.cell? (a.add q) = some u) → ∃ A'' c'' w', (Builtin.append_ #[45, 45] ty #[.slice A n c, .slice (some a) m c']).run Tryd.prog w = .ok (.slice A'' (n + m) c'') w' ∧ OwnK B w' A'' (n + m) c'' (l ++ l') ∧ w.grownBy w' (Value.ownBlock (.slice A n c)) := fun a ha => by
    obtain ⟨v', w', hr, hown, hgr, _, _⟩ := run_append_own_at (P := Tryd.prog) w B 45 ty 23 i (.agg zeros32) 32 32 Tryd.underlying45 hi hz0 hz1 hz2 (show (Value.agg zeros32).cells.size = 32 from zeros32_size) (by decide) (.slice A n c) n (cellsOf l.flatten) h.1 a m c' (cellsOf l'.flatten) (by rw [cellsOf_len, hfl, h'.1, Nat.mul_comm]) ha (fun u hu => by
      obtain ⟨_, _, rfl⟩ := List.mem_map.1 hu
      rfl) (by unfold maxLen; omega) (by omega) hB
    rw [e] at hown
    rcases hown.2 with ⟨hv, hn⟩ | ⟨g', cap, cur, hv, _⟩
    · subst hv
      exact ⟨none, 0, w', by rw [hr, hn], ⟨by rw [hn] at hown ⊢; exact hown, hl1, hl2⟩, hgr⟩
    · subst hv
      exact ⟨_, _, w', hr, ⟨hown, hl1, hl2⟩, hgr⟩
  rcases A' with _ | a
  · have hm0 : m = 0 := by
      rcases Nat.eq_zero_or_pos m with h0 | h0
      · exact h0
      · obtain ⟨b, e, _⟩ := h'.2.2 h0
        cases e
    subst hm0
    have hy := List.eq_nil_of_length_eq_zero h'.1
    subst hy
    refine ⟨A, c, w, ?_, by simpa using h, ⟨rfl, rfl, rfl, Nat.le_refl _, fun _ _ _ => rfl⟩⟩
    rcases h.1.2 with ⟨hv, hn⟩ | ⟨g, cap, cur, hv, _, _, hnc, _⟩
    · rw [hv]
      subst hn
      injection hv with q1 _ q3
      subst q1 q3
      simp [Builtin.append_, run_underlying Tryd.underlying45, sizeOf, typeInfo, hi, Builtin.lenOf, Builtin.firstCells]
    · rw [hv]
      injection hv with q1 _ q3
      subst q1 q3
      simp [Builtin.append_, run_underlying Tryd.underlying45, sizeOf, typeInfo, hi, Builtin.lenOf, Builtin.firstCells, hnc, storeCells]
  · refine go a fun q u hu => ?_
    have hq : q < l'.flatten.length := by
      have := (List.getElem?_eq_some_iff.1 hu).1
      rwa [cellsOf_len] at this
    obtain ⟨b, e, _⟩ := h'.2.2 (by have := h'.1; omega)
    injection e with e
    subst e
    have hadd : (⟨b, 0, none⟩ : Addr).add q = ⟨b, q, none⟩ := by unfold Addr.add; split <;> simp_all
    rw [hadd]
    exact h'.flat q u hu

theorem wpList_append_kl {w : World} {ops : Array Oper} {rest : List Oper} {o : Oper} {a : Act} {Q : Exit → Act → World → Prop} (hgd : o.guard = none) {B : Nat} {A A' : Option Addr} {n c m c' : Nat} {l l' : List (List UInt8)} {s x : Operand}
    (ho : o.op = .call { callee := .builtin .append, args := #[s, x], argTypes := #[45, 45] }) (hs : a.eval s = .slice A n c) (hx : a.eval x = .slice A' m c')
    (h : OwnK B w A n c l) (h' : Kl w A' m l') (hm : n + m ≤ 1000) (hB : B ≤ w.heap.size)
    (hK : ∀ A'' c'' w', OwnK B w' A'' (n + m) c'' (l ++ l') → w.grownBy w' (Value.ownBlock (.slice A n c)) → Below B w w' → wpList Tryd.prog ops Q rest (a.put o.dst (.slice A'' (n + m) c'')) w') : wpList Tryd.prog ops Q (o :: rest) a w := by
  refine wpList_plain hgd fun K hK' => ?_
  obtain ⟨A'', c'', w', hr, hown, hgr⟩ := append_kl (c' := c') o.type h h' hm hB
  unfold Oper.wp execOp
  simp only [ho, resolve, invoke, builtin, Sem.run_bind, Sem.run_pure, Result.andThen_ok, List.map_toArray, List.map_cons, List.map_nil, hs, hx, hr]
  exact hK' _ _ (hK A'' c'' w' hown hgr ((Below.refl B w).grown hgr hB h.ge))
theorem OwnK.empty {B : Nat} {w : World} (hB : B ≤ w.heap.size) : OwnK B (w.alloc (.cells #[] 23)) (some ⟨w.heap.size, 0, none⟩) 0 0 [] := ⟨World.ownsRow_made w #[] 0 hB (by unfold maxLen; omega) rfl, fun x hx => by simp at hx, rfl⟩
theorem wpList_append_klP {w : World} {ops : Array Oper} {rest : List Oper} {o : Oper} {a : Act} {Q : Exit → Act → World → Prop} (hgd : o.guard = none) {B : Nat} {A A' : Option Addr} {n c m c' p : Nat} {l l' l'' : List (List UInt8)} {s x : Operand}
    (ho : o.op = .call { callee := .builtin .append, args := #[s, x], argTypes := #[45, 45] }) (hs : a.eval s = .slice A n c) (hx : a.eval x = .slice A' m c')
    (h : OwnK B w A n c l) (h' : Kl w A' m l') (hp : n + m = p) (hl : l ++ l' = l'') (hm : p ≤ 1000) (hB : B ≤ w.heap.size)
    (hK : ∀ A'' c'' w', OwnK B w' A'' p c'' l'' → Below B w w' → wpList Tryd.prog ops Q rest (a.put o.dst (.slice A'' p c'')) w') : wpList Tryd.prog ops Q (o :: rest) a w := by
  subst hp hl
  exact wpList_append_kl hgd ho hs hx h h' hm hB fun A'' c'' w' h1 _ h2 => hK A'' c'' w' h1 h2
theorem wpList_slice_none {w : World} {ops : Array Oper} {rest : List Oper} {o : Oper} {a : Act} {Q : Exit → Act → World → Prop} (hgd : o.guard = none) {g : Nat} (hg : w.heap.size = g)
    (ho : o.op = .buildSlice 45 0 #[])
    (h : wpList Tryd.prog ops Q rest (a.put o.dst (.slice (some ⟨g, 0, none⟩) 0 0)) (w.alloc (.cells #[] 23))) : wpList Tryd.prog ops Q (o :: rest) a w := by
  subst hg
  refine wpList_plain hgd fun K hK' => ?_
  obtain ⟨i, hi, hz0, hz1, hz2⟩ := info_parts infoK
  have hr : (Instr.buildSlice 45 0 #[]).run Tryd.prog w = .ok (.slice (some ⟨w.heap.size, 0, none⟩) 0 0) (w.alloc (.cells #[] 23)) := by
    simp [Instr.buildSlice, run_underlying Tryd.underlying45, sizeOf, typeInfo, hi, Instr.fill, newRow]
    congr 2
    apply Array.ext'
    simp
  unfold Oper.wp execOp
  simp only [ho, Sem.run_bind, List.map_toArray, List.map_nil, hr, Result.andThen_ok]
  exact hK' _ _ h
end Go.Proofs.YthdjojindijmnaaDoor
