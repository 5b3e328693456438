/-
  Maps at the operations of a walk: what is stored, struck, looked up. No conditions.
-/
import Derived.Test.YteaoacinhdjkeaaMp
namespace Go.Proofs.Yteaoacinhdjkeaa
open Go.ChangeShapes Go.WideShapes Go.ChangeAt Go.RowKit Go.Deep Go.Maps

section
variable {P : Program} {ops : Array Oper} {rest : List Oper} {o : Oper} {a : Act} {w w' : World} {K : Act → World → Prop} {Q : Exit → Act → World → Prop} {t k : TypeId} {m x y : Operand} {mv xv yv : Value}
theorem wp_mapUpdate (ho : o.op = .mapUpdate t m x y) (hm : a.eval m = mv) (hx : a.eval x = xv) (hy : a.eval y = yv) (hr : (Instr.mapUpdate t mv xv yv).run P w = .ok () w') (h : K (a.put o.dst undef) w') : o.wp P a w K Q := by
  subst hm
  subst hx
  subst hy
  unfold Oper.wp execOp
  simp only [ho, Sem.run_bind, hr, Result.andThen_ok, Sem.run_pure]
  exact h
theorem wp_delete (ho : o.op = .call { callee := .builtin .delete, args := #[m, x], argTypes := #[t, k] }) (hm : a.eval m = mv) (hx : a.eval x = xv) (hr : (Builtin.delete_ #[t, k] 0 #[mv, xv]).run P w = .ok (.tuple #[]) w') (h : K (a.put o.dst (.tuple #[])) w') : o.wp P a w K Q := by
  subst hm
  subst hx
  replace hr : (Builtin.delete_ #[t, k] o.type #[a.eval m, a.eval x]).run P w = .ok (.tuple #[]) w' := hr
  unfold Oper.wp execOp
  simp only [ho, resolve, invoke, builtin, Sem.run_bind, Sem.run_pure, Result.andThen_ok, List.map_toArray, List.map_cons, List.map_nil, hr]
  exact h
theorem wp_call_len (ho : o.op = .call { callee := .builtin .len, args := #[m], argTypes := #[t] }) {v : Value} (hm : a.eval m = mv) (hr : (Builtin.len_ #[t] o.type #[mv]).run P w = .ok v w') (h : K (a.put o.dst v) w') : o.wp P a w K Q := by
  subst hm
  replace hr : (Builtin.len_ #[t] o.type #[a.eval m]).run P w = .ok v w' := hr
  unfold Oper.wp execOp
  simp only [ho, resolve, invoke, builtin, Sem.run_bind, Sem.run_pure, Result.andThen_ok, List.map_toArray, List.map_cons, List.map_nil, hr]
  exact h
theorem wpList_of_wp (hg : o.guard = none) (h : ∀ K : Act → World → Prop, (∀ a w, wpList P ops Q rest a w → K a w) → o.wp P a w K Q) : wpList P ops Q (o :: rest) a w := wpList_plain hg fun K hK => h K hK
theorem exec_lookup {c : Bool} {v : Value} (ho : o.op = .lookup t m x c) (hm : a.eval m = mv) (hx : a.eval x = xv) (hr : (Instr.lookup t mv xv c).run P w = .ok v w) : (execOp a.eval o).run P w = .ok (.value v) w := by
  subst hm
  subst hx
  unfold execOp
  simp only [ho, Sem.run_bind, hr, Result.andThen_ok, Sem.run_pure]
theorem wpList_range_mp {e : TypeId} {b r : Nat} {E : List (Value × Value)} (hg : o.guard = none) (m : Operand) (hop : o.op = Op.range t m) (Kk : Keyed P k) (ht : P.underlying t = some (.map k e)) (hm : a.eval m = .map (some b)) (h : Mp P k w b E) (hr : w.heap.size = r)
    (hK : ∀ w', Mr P k w' b r E (fun _ => True) E.length → Ext w w' → wpList P ops Q rest (a.put o.dst (.pointer (some ⟨r, 0, none⟩))) w') : wpList P ops Q (o :: rest) a w := by
  subst hr
  refine wpList_plain hg fun K' hK' => ?_
  obtain ⟨w1, r1, r2, r3⟩ := h.range Kk ht
  unfold Oper.wp
  simp [execOp, hop, hm, r1, Result.andThen]
  exact hK' _ _ (hK w1 r2 r3)
theorem wpList_next_mr {α : Type} {L : List α} (kv vv : α → Value) {b r cnt : Nat} {lf : Value → Prop} (hg : o.guard = none) (it : Operand) (hop : o.op = Op.next it false) (Kk : Keyed P k) (hit : a.eval it = .pointer (some ⟨r, 0, none⟩)) (h : Mr P k w b r (L.map fun x => (kv x, vv x)) lf cnt)
    (hDone : (∀ x ∈ L, ¬ lf (kv x)) → wpList P ops Q rest (a.put o.dst (.tuple #[.bool false])) w)
    (hMore : ∀ x ∈ L, lf (kv x) → ∀ w' cnt', Mr P k w' b r (L.map fun x => (kv x, vv x)) (fun key => lf key ∧ key ≠ kv x) cnt' → cnt' < cnt → w.grownBy w' (some r) → w'.heap.size = w.heap.size →
      (Instr.entry (.pointer (some ⟨r, 0, none⟩))).run P w' = .ok (.tuple #[kv x, vv x]) w' → wpList P ops Q rest (a.put o.dst (.tuple #[.bool true, kv x, vv x])) w') :
    wpList P ops Q (o :: rest) a w := by
  refine wpList_plain hg fun K' hK' => ?_
  unfold Oper.wp
  rcases h.next Kk o.type with ⟨h0, hrun⟩ | ⟨p, hp, hlf, w1, cnt1, hrun, hmr, hlt, hgr, hsz, hen⟩
  · simp [execOp, hop, hit, hrun, Result.andThen]
    exact hK' _ _ (hDone fun x hx => h0 _ (List.mem_map.2 ⟨x, hx, rfl⟩))
  · obtain ⟨x, hx, rfl⟩ := List.mem_map.1 hp
    simp [execOp, hop, hit, hrun, Result.andThen]
    exact hK' _ _ (hMore x hx hlf w1 cnt1 hmr hlt hgr hsz hen)
end
end Go.Proofs.Yteaoacinhdjkeaa
