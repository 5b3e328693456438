/-
  A row of the call's own that is appended to, whose elements have several cells. No conditions.
-/
import Derived.Test.YteaoacinhdjkeaaMid
import Derived.Great.BuildSlice
import Derived.Maps.AppendAt
import Derived.OwnWalk
namespace Go.Proofs.Yteaoacinhdjkeaa
open Go.ChangeShapes Go.WideShapes Go.ChangeAt Go.RowKit Go.Deep

/-- The slice owns a row from block B on, whose elements have the cells of L, s each. -/
def OwnC (B : Nat) (w : World) (e : TypeId) (s : Nat) (A : Option Addr) (n c : Nat) (L : List (List Value)) : Prop := w.ownsRow B e s (.slice A n c) n L.flatten ∧ (∀ x ∈ L, x.length = s) ∧ L.length = n
section
variable {B : Nat} {w w' : World} {e : TypeId} {s : Nat} {A : Option Addr} {n c : Nat} {L : List (List Value)}
theorem OwnC.nil (B : Nat) (w : World) (e : TypeId) (s : Nat) : OwnC B w e s none 0 0 [] := ⟨World.ownsRow_nil w B _ s, fun x hx => by simp at hx, rfl⟩
theorem OwnC.ge (h : OwnC B w e s A n c L) : ∀ g, Value.ownBlock (.slice A n c) = some g → B ≤ g := fun g hg => (World.ownsRow.lt h.1 g hg).1
theorem OwnC.ext (h : OwnC B w e s A n c L) (x : Ext w w') : OwnC B w' e s A n c L := by
  refine ⟨⟨h.1.1, ?_⟩, h.2⟩
  rcases h.1.2 with h | ⟨g, cap, cur, hv, hb, hg, r⟩
  · exact .inl h
  · exact .inr ⟨g, cap, cur, hv, hb, (x.block g (heap_lt hg)).trans hg, r⟩
theorem OwnC.kept {row : Option Nat} (h : OwnC B w e s A n c L) (hg : w.grownBy w' row) (hne : Value.ownBlock (.slice A n c) = none ∨ Value.ownBlock (.slice A n c) ≠ row) : OwnC B w' e s A n c L := by
  refine ⟨⟨h.1.1, ?_⟩, h.2⟩
  rcases h.1.2 with h | ⟨g, cap, cur, hv, hb, hgg, r⟩
  · exact .inl h
  · refine .inr ⟨g, cap, cur, hv, hb, (hg.block g (heap_lt hgg) ?_).trans hgg, r⟩
    intro q
    rw [hv] at hne
    rcases hne with q1 | q1
    · simp [Value.ownBlock] at q1
    · exact q1 (by simp [Value.ownBlock, q])
theorem OwnC.cap (h : OwnC B w e s A n c L) : n ≤ c ∧ c ≤ maxLen := by
  rcases h.1.2 with ⟨hv, hn⟩ | ⟨g, cap, cur, hv, hb, hg, hnc, hcm, _⟩
  · injection hv with _ _ q
    omega
  · injection hv with _ _ q
    subst q
    exact ⟨hnc, hcm⟩
theorem OwnC.cells (h : OwnC B w e s A n c L) : 0 < n → ∃ b, A = some ⟨b, 0, none⟩ ∧ b < w.heap.size ∧ B ≤ b ∧ ∀ q v, L.flatten[q]? = some v → w.cell? ⟨b, q, none⟩ = some v := fun h0 => by
  rcases h.1.2 with ⟨hv, hn⟩ | ⟨g, cap, cur, hv, hb, hg, hnc, hcm, hcs, htk⟩
  · omega
  · injection hv with h1 h2 h3
    subst h1
    refine ⟨g, rfl, heap_lt hg, hb, fun q v hq => ?_⟩
    rw [← htk, List.getElem?_take] at hq
    split at hq
    · rw [cell_of_row w g _ _ _ _ hg]
      simpa using hq
    · cases hq
end
theorem flat_at {α : Type} {s : Nat} : ∀ {L : List (List α)}, (∀ x ∈ L, x.length = s) → ∀ {j i : Nat}, j < L.length → i < s → L.flatten[j * s + i]? = (L.getD j [])[i]?
  | [], _, j, _, h, _ => absurd h (by simp)
  | x :: L, hl, 0, i, _, hi => by
    have hx := hl x (List.mem_cons_self ..)
    rw [List.flatten_cons, List.getElem?_append_left (by omega)]
    simp
  | x :: L, hl, j + 1, i, hj, hi => by
    have hx := hl x (List.mem_cons_self ..)
    rw [List.flatten_cons, List.getElem?_append_right (by rw [hx, Nat.add_mul]; omega), hx, show (j + 1) * s + i - s = j * s + i by rw [Nat.add_mul]; omega, flat_at (fun y hy => hl y (List.mem_cons_of_mem _ hy)) (by simpa using hj) hi]
    simp
theorem wpList_append_c {P : Program} {w : World} {ops : Array Oper} {rest : List Oper} {o : Oper} {a : Act} {Q : Exit → Act → World → Prop} (hgd : o.guard = none) {B : Nat} {t e te : TypeId} {s bytes : Nat} {z : Value} (ht : P.underlying t = some (.slice e)) (hinfo : (P.info? e).map (fun i => (i.zero, i.size, i.bytes)) = some (some z, s, bytes)) (hzs : z.cells.size = s) (s0 : 0 < s) (hbytes : bytes ≤ 1000000)
    {A : Option Addr} {n c g : Nat} {L : List (List Value)} {cs : List Value} {fr : Nat × Nat} {x y : Operand}
    (ho : o.op = .call { callee := .builtin .append, args := #[x, y], argTypes := #[t, t] }) (hx : a.eval x = .slice A n c) (hy : a.eval y = .slice (some ⟨g, 0, none⟩) 1 1)
    (h : OwnC B w e s A n c L) (hg : w.heap[g]? = some (.cells cs.toArray te fr)) (hk : cs.length = s) (h1 : ∀ u ∈ cs, u.oneCell' = true) (hm : n ≤ 1000) (hB : B ≤ w.heap.size)
    (hK : ∀ A'' c'' w', OwnC B w' e s A'' (n + 1) c'' (L ++ [cs]) → w.grownBy w' (Value.ownBlock (.slice A n c)) → Below B w w' → wpList P ops Q rest (a.put o.dst (.slice A'' (n + 1) c'')) w') : wpList P ops Q (o :: rest) a w := by
  refine wpList_plain hgd fun K hK' => ?_
  obtain ⟨i, hi, hz0, hz1, hz2⟩ := info_parts hinfo
  obtain ⟨v', w', hr, hown, hgr, _, _⟩ := run_append_own_at (P := P) w B t o.type e i z s bytes ht hi hz0 hz1 hz2 hzs s0 (.slice A n c) n L.flatten h.1 ⟨g, 0, none⟩ 1 1 cs (by rw [hk, Nat.one_mul]) (fun j u hu => by
    have hadd : (⟨g, 0, none⟩ : Addr).add j = ⟨g, j, none⟩ := by unfold Addr.add; split <;> simp_all
    rw [hadd, cell_of_row w g j _ _ _ hg]
    simpa using hu) h1 (by unfold maxLen; omega) (by
      have : (n + 1) * bytes ≤ 1001 * 1000000 := Nat.mul_le_mul (by omega) hbytes
      omega) hB
  have ee : L.flatten ++ cs = (L ++ [cs]).flatten := by simp
  rw [ee] at hown
  have hl1 : ∀ x ∈ L ++ [cs], x.length = s := fun x hx => by
    rcases List.mem_append.1 hx with q | q
    · exact h.2.1 x q
    · simp at q; subst q; exact hk
  have hl2 : (L ++ [cs]).length = n + 1 := by rw [List.length_append, h.2.2]; rfl
  have hform : ∃ A'' c'', v' = .slice A'' (n + 1) c'' := by
    rcases hown.2 with ⟨hv, hn⟩ | ⟨g', cap, cur, hv, _⟩
    · omega
    · exact ⟨_, _, hv⟩
  obtain ⟨A'', c'', rfl⟩ := hform
  unfold Oper.wp execOp
  simp only [ho, resolve, invoke, builtin, Sem.run_bind, Sem.run_pure, Result.andThen_ok, List.map_toArray, List.map_cons, List.map_nil, hx, hy, hr]
  exact hK' _ _ (hK A'' c'' w' ⟨hown, hl1, hl2⟩ hgr ((Below.refl B w).grown hgr hB h.ge))
/-- A slice of one element. -/
theorem wpList_slice_c {P : Program} {w : World} {ops : Array Oper} {rest : List Oper} {o : Oper} {a : Act} {Q : Exit → Act → World → Prop} (hgd : o.guard = none) {t e : TypeId} {s bytes : Nat} {z : Value} (ht : P.underlying t = some (.slice e)) (hinfo : (P.info? e).map (fun i => (i.zero, i.size, i.bytes)) = some (some z, s, bytes)) (hzs : z.cells.size = s) (s0 : 0 < s) (s1 : s ≤ 1000000)
    {cs : List Value} {x : Operand} {g : Nat} (hk : cs.length = s) (hg : w.heap.size = g)
    (ho : o.op = .buildSlice t 1 #[(0, x)]) (hx : (a.eval x).cells = cs.toArray)
    (h : wpList P ops Q rest (a.put o.dst (.slice (some ⟨g, 0, none⟩) 1 1)) (w.alloc (.cells cs.toArray e))) : wpList P ops Q (o :: rest) a w := by
  subst hg
  obtain ⟨i, hi, hz0, hz1, hz2⟩ := info_parts hinfo
  refine wpList_buildSlice hgd t e 1 _ ho cs.toArray i _ ht hi hz0 (by rw [hz1]; omega) (by rw [hz1]; omega) ?_ h
  rw [hz1]
  simp only [List.map_toArray, List.map_cons, List.map_nil]
  have := Great.fill_whole (s := s) s0 [a.eval x] ((Array.range (1 * s)).map (z.cells[· % z.cells.size]!)) (fun v hv => by
    simp only [List.mem_singleton] at hv
    subst hv
    rw [hx]
    simpa using hk) (by simp)
  simp only [List.zipIdx_cons, List.zipIdx_nil, List.map_cons, List.map_nil, List.flatMap_cons, List.flatMap_nil, List.append_nil, hx] at this
  exact this
end Go.Proofs.Yteaoacinhdjkeaa
