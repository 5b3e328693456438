import Derived.Test.YtbnjmmefnjoofaaDoorPkK
/-
  Slices whose elements have several cells: cut, appended. No conditions.
-/
namespace Go.Proofs.YtbnjmmefnjoofaaDoor
open Go.ChangeShapes Go.WideShapes Go.ChangeAt Go.RowKit Go.Deep
set_option maxRecDepth 100000

section
variable {w w' : World} {s : Nat} {A : Option Addr} {n c : Nat} {K : List (List Value)}
theorem add_at {b off k : Nat} : (some (⟨b, off, none⟩ : Addr)).map (·.add k) = some ⟨b, off + k, none⟩ := by
  by_cases hk0 : k = 0
  · subst hk0; simp [Addr.add]
  · simp [Addr.add, hk0]
theorem Cs.cut (h : Cs w s A n c K) {k : Nat} (hk : k ≤ n) : Cs w s (if c = k then A else A.map (·.add (k * s))) (n - k) (c - k) (K.drop k) := by
  have h2 := h.2.1
  refine ⟨⟨by rw [List.length_drop, h.1.1], fun x hx => h.1.2 x (List.mem_of_mem_drop hx)⟩, ⟨by omega, by omega⟩, fun h0 => ?_⟩
  obtain ⟨b, off, rfl, hb, hc⟩ := h.2.2 (by omega)
  rw [if_neg (by omega)]
  refine ⟨b, off + k * s, add_at, hb, fun q v hq => ?_⟩
  rw [Nat.add_assoc]
  refine hc _ v ?_
  have e : K.flatten = (K.take k).flatten ++ (K.drop k).flatten := by rw [← List.flatten_append, List.take_append_drop]
  have l : (K.take k).flatten.length = k * s := by rw [flatten_len fun x hx => h.1.2 x (List.mem_of_mem_take hx), List.length_take, h.1.1, Nat.min_eq_left hk]
  rw [e, List.getElem?_append_right (by omega), l, Nat.add_sub_cancel_left]
  exact hq
end
theorem append_cc {P : Program} {w : World} {B : Nat} {t e ty : TypeId} {s bytes : Nat} {z : Value} (ht : P.underlying t = some (.slice e)) (hinfo : (P.info? e).map (fun i => (i.zero, i.size, i.bytes)) = some (some z, s, bytes)) (hzs : z.cells.size = s) (s0 : 0 < s) (hbytes : bytes ≤ 1000000)
    {A A' : Option Addr} {n c m c' : Nat} {L K : List (List Value)} (h : OwnC B w e s A n c L) (hr : Cs w s A' m c' K) (h1 : ∀ x ∈ K, ∀ u ∈ x, u.oneCell' = true) (hm : n + m ≤ 1000) (hB : B ≤ w.heap.size) :
    ∃ A'' c'' w', (Builtin.append_ #[t, t] ty #[.slice A n c, .slice A' m c']).run P w = .ok (.slice A'' (n + m) c'') w' ∧ OwnC B w' e s A'' (n + m) c'' (L ++ K) ∧ w.grownBy w' (Value.ownBlock (.slice A n c)) ∧ (Value.ownBlock (.slice A'' (n + m) c'') = Value.ownBlock (.slice A n c) ∨ Value.ownBlock (.slice A'' (n + m) c'') = some w.heap.size) := by
  obtain ⟨i, hi, hz0, hz1, hz2⟩ := info_parts hinfo
  have hl2 : (∀ x ∈ L ++ K, x.length = s) ∧ (L ++ K).length = n + m := ⟨fun x hx => by
    rcases List.mem_append.1 hx with q | q
    · exact h.2.1 x q
    · exact hr.1.2 x q, by rw [List.length_append, h.2.2, hr.1.1]⟩
  rcases A' with _ | a
  · have hm0 : m = 0 := by
      rcases Nat.eq_zero_or_pos m with h0 | h0
      · exact h0
      · obtain ⟨b, off, e, _⟩ := hr.2.2 h0
        cases e
    subst hm0
    have hK : K = [] := List.eq_nil_of_length_eq_zero hr.1.1
    subst hK
    refine ⟨A, c, w, ?_, by simpa using h, ⟨rfl, rfl, rfl, Nat.le_refl _, fun _ _ _ => rfl⟩, .inl rfl⟩
    rcases h.1.2 with ⟨hv, hn⟩ | ⟨g, cap, cur, hv, _, _, hnc, _⟩
    · rw [hv]
      subst hn
      injection hv with _ _ h3
      subst h3
      simp [Builtin.append_, run_underlying ht, sizeOf, typeInfo, hi, Builtin.lenOf, Builtin.firstCells]
      exact Eq.symm ‹A = none›
    · rw [hv]
      injection hv with _ _ h3
      subst h3
      simp [Builtin.append_, run_underlying ht, sizeOf, typeInfo, hi, Builtin.lenOf, Builtin.firstCells, hnc, storeCells]
      exact Eq.symm ‹A = some _›
  · obtain ⟨v', w', hrun, hown, hgr, _, how⟩ := run_append_own_at (P := P) w B t ty e i z s bytes ht hi hz0 hz1 hz2 hzs s0 (.slice A n c) n L.flatten h.1 a m c' K.flatten (by rw [flatten_len hr.1.2, hr.1.1]) (fun j u hu => by
      have h0 : 0 < m := by
        rcases Nat.eq_zero_or_pos m with q | q
        · rw [List.eq_nil_of_length_eq_zero (hr.1.1.trans q)] at hu; simp at hu
        · exact q
      obtain ⟨b, off, e1, hb, hc⟩ := hr.2.2 h0
      injection e1 with e1
      subst e1
      have hadd : (⟨b, off, none⟩ : Addr).add j = ⟨b, off + j, none⟩ := by unfold Addr.add; split <;> simp_all
      rw [hadd]
      exact hc j u hu) (fun u hu => by
      obtain ⟨x, hx, hux⟩ := List.mem_flatten.1 hu
      exact h1 x hx u hux) (by unfold maxLen; omega) (by
      have : (n + m) * bytes ≤ 1000 * 1000000 := Nat.mul_le_mul (by omega) hbytes
      omega) hB
    rw [← List.flatten_append] at hown
    have hform : ∃ A'' c'', v' = .slice A'' (n + m) c'' := by
      rcases hown.2 with ⟨hv, hn⟩ | ⟨g', cap, cur, hv, _⟩
      · exact ⟨none, 0, by rw [hv, hn]⟩
      · exact ⟨_, _, hv⟩
    obtain ⟨A'', c'', rfl⟩ := hform
    exact ⟨A'', c'', w', hrun, ⟨hown, hl2⟩, hgr, how⟩
theorem wp_append_cc {P : Program} {w : World} {o : Oper} {a : Act} {H : Act → World → Prop} {Q : Exit → Act → World → Prop} {B : Nat} {t e : TypeId} {s bytes : Nat} {z : Value} (ht : P.underlying t = some (.slice e)) (hinfo : (P.info? e).map (fun i => (i.zero, i.size, i.bytes)) = some (some z, s, bytes)) (hzs : z.cells.size = s) (s0 : 0 < s) (hbytes : bytes ≤ 1000000)
    {A A' : Option Addr} {n c m c' : Nat} {L K : List (List Value)} {x y : Operand} (ho : o.op = .call { callee := .builtin .append, args := #[x, y], argTypes := #[t, t] }) (hx : a.eval x = .slice A n c) (hy : a.eval y = .slice A' m c')
    (h : OwnC B w e s A n c L) (hr : Cs w s A' m c' K) (h1 : ∀ x ∈ K, ∀ u ∈ x, u.oneCell' = true) (hm : n + m ≤ 1000) (hB : B ≤ w.heap.size)
    (hK : ∀ A'' c'' w', OwnC B w' e s A'' (n + m) c'' (L ++ K) → w.grownBy w' (Value.ownBlock (.slice A n c)) → Below B w w' → H (a.put o.dst (.slice A'' (n + m) c'')) w') : o.wp P a w H Q := by
  obtain ⟨A'', c'', w', hrun, h2, h3, _⟩ := append_cc (ty := o.type) ht hinfo hzs s0 hbytes h hr h1 hm hB
  unfold Oper.wp execOp
  simp only [ho, resolve, invoke, builtin, Sem.run_bind, Sem.run_pure, Result.andThen_ok, List.map_toArray, List.map_cons, List.map_nil, hx, hy, hrun]
  exact hK A'' c'' w' h2 h3 ((Below.refl B w).grown h3 hB h.ge)
theorem wp_append_cc2 {P : Program} {w : World} {o : Oper} {a : Act} {H : Act → World → Prop} {Q : Exit → Act → World → Prop} {B : Nat} {t e : TypeId} {s bytes : Nat} {z : Value} (ht : P.underlying t = some (.slice e)) (hinfo : (P.info? e).map (fun i => (i.zero, i.size, i.bytes)) = some (some z, s, bytes)) (hzs : z.cells.size = s) (s0 : 0 < s) (hbytes : bytes ≤ 1000000)
    {A A' : Option Addr} {n c m c' : Nat} {L K : List (List Value)} {x y : Operand} (ho : o.op = .call { callee := .builtin .append, args := #[x, y], argTypes := #[t, t] }) (hx : a.eval x = .slice A n c) (hy : a.eval y = .slice A' m c')
    (h : OwnC B w e s A n c L) (hr : Cs w s A' m c' K) (h1 : ∀ x ∈ K, ∀ u ∈ x, u.oneCell' = true) (hm : n + m ≤ 1000) (hB : B ≤ w.heap.size)
    (hK : ∀ A'' c'' w', OwnC B w' e s A'' (n + m) c'' (L ++ K) → w.grownBy w' (Value.ownBlock (.slice A n c)) → Below B w w' → (Value.ownBlock (.slice A'' (n + m) c'') = Value.ownBlock (.slice A n c) ∨ Value.ownBlock (.slice A'' (n + m) c'') = some w.heap.size) → H (a.put o.dst (.slice A'' (n + m) c'')) w') : o.wp P a w H Q := by
  obtain ⟨A'', c'', w', hrun, h2, h3, h4⟩ := append_cc (ty := o.type) ht hinfo hzs s0 hbytes h hr h1 hm hB
  unfold Oper.wp execOp
  simp only [ho, resolve, invoke, builtin, Sem.run_bind, Sem.run_pure, Result.andThen_ok, List.map_toArray, List.map_cons, List.map_nil, hx, hy, hrun]
  exact hK A'' c'' w' h2 h3 ((Below.refl B w).grown h3 hB h.ge) h4
theorem wpList_append_cc {P : Program} {w : World} {ops : Array Oper} {rest : List Oper} {o : Oper} {a : Act} {Q : Exit → Act → World → Prop} (hgd : o.guard = none) {B : Nat} {t e : TypeId} {s bytes : Nat} {z : Value} (ht : P.underlying t = some (.slice e)) (hinfo : (P.info? e).map (fun i => (i.zero, i.size, i.bytes)) = some (some z, s, bytes)) (hzs : z.cells.size = s) (s0 : 0 < s) (hbytes : bytes ≤ 1000000)
    {A A' : Option Addr} {n c m c' : Nat} {L K : List (List Value)} {x y : Operand} (ho : o.op = .call { callee := .builtin .append, args := #[x, y], argTypes := #[t, t] }) (hx : a.eval x = .slice A n c) (hy : a.eval y = .slice A' m c')
    (h : OwnC B w e s A n c L) (hr : Cs w s A' m c' K) (h1 : ∀ x ∈ K, ∀ u ∈ x, u.oneCell' = true) (hm : n + m ≤ 1000) (hB : B ≤ w.heap.size)
    (hK : ∀ A'' c'' w', OwnC B w' e s A'' (n + m) c'' (L ++ K) → w.grownBy w' (Value.ownBlock (.slice A n c)) → Below B w w' → wpList P ops Q rest (a.put o.dst (.slice A'' (n + m) c'')) w') : wpList P ops Q (o :: rest) a w :=
  wpList_plain hgd fun _ hK' => wp_append_cc ht hinfo hzs s0 hbytes ho hx hy h hr h1 hm hB fun A'' c'' w' h2 h3 h4 => hK' _ _ (hK A'' c'' w' h2 h3 h4)
/-- A slice of one element that is laid. -/
theorem cs_one {w : World} {g : Nat} {T : TypeId} {L : List Value} (h : Cb w g T L) : Cs w L.length (some ⟨g, 0, none⟩) 1 1 [L] :=
  ⟨⟨rfl, fun x hx => by rw [List.mem_singleton.1 hx]⟩, ⟨Nat.le_refl _, by unfold maxLen; omega⟩, fun _ => ⟨g, 0, rfl, h.lt, fun q v hq => by
    rw [Nat.zero_add]
    exact h.cell (by simpa using hq)⟩⟩
theorem wp_slice_c {P : Program} {w : World} {o : Oper} {a : Act} {H : Act → World → Prop} {Q : Exit → Act → World → Prop} {t e : TypeId} {s bytes : Nat} {z : Value} (ht : P.underlying t = some (.slice e)) (hinfo : (P.info? e).map (fun i => (i.zero, i.size, i.bytes)) = some (some z, s, bytes)) (hzs : z.cells.size = s) (s0 : 0 < s) (s1 : s ≤ 1000000)
    {cs : List Value} {x : Operand} (hk : cs.length = s)
    (ho : o.op = .buildSlice t 1 #[(0, x)]) (hx : (a.eval x).cells = cs.toArray)
    (h : H (a.put o.dst (.slice (some ⟨w.heap.size, 0, none⟩) 1 1)) (w.alloc (.cells cs.toArray e))) : o.wp P a w H Q := by
  obtain ⟨i, hi, hz0, hz1, hz2⟩ := info_parts hinfo
  have hfill := Great.fill_whole (s := s) s0 [a.eval x] ((Array.range (1 * s)).map (z.cells[· % z.cells.size]!)) (fun v hv => by
    simp only [List.mem_singleton] at hv
    subst hv
    rw [hx]
    simpa using hk) (by simp)
  simp only [List.zipIdx_cons, List.zipIdx_nil, List.map_cons, List.map_nil, List.flatMap_cons, List.flatMap_nil, List.append_nil, hx] at hfill
  refine wp_buildSlice t e 1 _ ho cs.toArray i _ ht hi hz0 (by rw [hz1]; omega) (by rw [hz1]; omega) ?_ h
  rw [hz1]
  simp only [List.map_toArray, List.map_cons, List.map_nil]
  exact hfill

/-- 's[k:]', 's[:k]'. -/
theorem exec_fromC {w : World} {t e : TypeId} {s : Nat} (ht : Tryd.prog.underlying t = some (.slice e)) (hs : (Tryd.prog.info? e).map (·.size) = some s) {o : Oper} {a : Act} {x lo : Operand} {A : Option Addr} {n c k : Nat} {kd : IntKind} (ho : o.op = .slice t x (some lo) none none) (hx : a.eval x = .slice A n c) (hl : a.eval lo = .int kd (k : Int)) (hk : k ≤ n) (hnc : n ≤ c) :
    (execOp a.eval o).run Tryd.prog w = .ok (.value (.slice (if c = k then A else A.map (·.add (k * s))) (n - k) (c - k))) w := by
  obtain ⟨dst, op, ty, pos, af, gd⟩ := o
  simp only at ho
  subst ho
  obtain ⟨i, hi', hsz⟩ := Option.map_eq_some_iff.1 hs
  have q1 : (k : Int) ≤ (n : Int) := by omega
  simp only [execOp, hx, hl, Option.map, Instr.sliceAt]
  go_simp
  simp [Instr.slice, run_underlying ht, Instr.sliceBounds, Instr.sliceBound, asIntOf, sizeOf, typeInfo, hi', hsz]
  rw [if_pos hk]
  cases A <;> rfl
theorem exec_toC {w : World} {t e : TypeId} {s : Nat} (ht : Tryd.prog.underlying t = some (.slice e)) (hs : (Tryd.prog.info? e).map (·.size) = some s) {o : Oper} {a : Act} {x hi : Operand} {A : Option Addr} {n c k : Nat} {kd : IntKind} (ho : o.op = .slice t x none (some hi) none) (hx : a.eval x = .slice A n c) (hl : a.eval hi = .int kd (k : Int)) (hk : k ≤ c) :
    (execOp a.eval o).run Tryd.prog w = .ok (.value (.slice A k c)) w := by
  obtain ⟨dst, op, ty, pos, af, gd⟩ := o
  simp only at ho
  subst ho
  obtain ⟨i, hi', hsz⟩ := Option.map_eq_some_iff.1 hs
  have q1 : (k : Int) ≤ (c : Int) := by omega
  have q2 : (if c = 0 then A else A.map (·.add 0)) = A := by
    split
    · rfl
    · cases A <;> simp [Addr.add]
  simp only [execOp, hx, hl, Option.map, Instr.sliceAt]
  go_simp
  simp [Instr.slice, run_underlying ht, Instr.sliceBounds, Instr.sliceBound, asIntOf, sizeOf, typeInfo, hi', hsz]
  rw [if_pos hk, q2]
end Go.Proofs.YtbnjmmefnjoofaaDoor
