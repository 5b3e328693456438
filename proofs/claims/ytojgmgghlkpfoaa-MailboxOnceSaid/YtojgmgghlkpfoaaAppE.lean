/-
  append onto an empty literal: nothing old turns.
-/
import Derived.Test.YtojgmgghlkpfoaaOwn
import Derived.Deep.AppendSrc
import Derived.Deep.Upon
namespace Go.Proofs.Ytojgmgghlkpfoaa
open Go.ChangeShapes Go.WideShapes Go.ChangeAt Go.RowKit Go.Deep
set_option maxRecDepth 100000

theorem append_empty {w : World} {a : Addr} {A' : Option Addr} {m c' : Nat} {ys : List UInt8} (ty : TypeId) (hr : Bs w A' m c' ys) (hm : m ≤ 100000000) :
    ∃ A'' c'' w', (Builtin.append_ #[26, 26] ty #[.slice (some a) 0 0, .slice A' m c']).run Try.prog w = .ok (.slice A'' m c'') w' ∧ Bs w' A'' m c'' ys ∧ Ext w w' ∧ (0 < m → ∀ q, A'' = some q → q.block = w.heap.size) := by
  obtain ⟨i, hi, hz0, hz1, hz2⟩ := info_parts info8
  rcases Nat.eq_zero_or_pos m with h0 | h0
  · subst h0
    have hy := hr.zero
    subst hy
    have hsrc : Src Try.prog i.size 26 (.slice A' 0 c') 0 [] w := by
      rcases A' with _ | a'
      · exact Src.ofNil w Try.underlying26 c'
      · exact Src.ofSlice w Try.underlying26 a' 0 c' [] (by simp) (fun j u hu => by simp at hu) (fun u hu => by simp at hu)
    exact ⟨some a, 0, w, run_append_nothing w 26 26 ty 5 i Try.underlying26 hi (some a) 0 0 (Nat.le_refl _) _ hsrc, ⟨rfl, Nat.le_refl _, Nat.zero_le _, fun h => absurd h (by omega)⟩, Ext.refl w, fun h => absurd h (by omega)⟩
  · obtain ⟨b, off, rfl, hb, hc⟩ := hr.pos h0
    have hl := hr.len
    have hrun := run_append_grow (P := Try.prog) w 26 ty 5 i (.int .u8 0) Try.underlying26 hi hz0 a 0 0 [] (by simp) (fun j v hv => by simp at hv) ⟨b, off, none⟩ m c' (ys.map u8v) (by rw [List.length_map, hl, hz1, Nat.mul_one]) (fun j u hu => by
        have hj : j < ys.length := by
          rcases Nat.lt_or_ge j ys.length with h | h
          · exact h
          · simp [h] at hu
        have hplain : (⟨b, off, none⟩ : Addr).add j = ⟨b, off + j, none⟩ := by unfold Addr.add; split <;> simp_all
        rw [hplain, hc j (by omega), ← u8v_bt hj, hu]) (by omega) (by omega) (by rw [hz2]; simp [Builtin.nextslicecap]; split <;> omega)
    rw [Nat.zero_add] at hrun
    refine ⟨_, _, _, hrun, ⟨hl, grownCap_ge w m 0 5, grownCap_le_maxLen w m 0 5 (by unfold maxLen; omega), fun _ => ⟨w.heap.size, 0, rfl, by simp [World.alloc], fun j hj => ?_⟩⟩, ((Ext.refl w).drew).alloc _, fun _ q hq => by cases hq; rfl⟩
    have hn := heap_alloc_new w.drew (.cells (([] : List Value).toArray ++ (ys.map u8v).toArray ++ Builtin.zeroCells (Value.int .u8 0).cells (grownCap w m 0 5 - m)) 5)
    refine (cell_of_row _ _ (0 + j) _ _ (0, 0) hn).trans ?_
    rw [Nat.zero_add]
    rw [Array.getElem?_append_left (by simp; omega)]
    simp only [List.append_toArray, List.nil_append, List.getElem?_toArray]
    exact u8v_bt (by omega)

theorem wp_append_empty {w : World} {o : Oper} {a : Act} {K : Act → World → Prop} {Q : Exit → Act → World → Prop} {p : Addr} {A' : Option Addr} {m c' : Nat} {ys : List UInt8} {s x : Operand}
    (ho : o.op = .call { callee := .builtin .append, args := #[s, x], argTypes := #[26, 26] }) (hs : a.eval s = .slice (some p) 0 0) (hx : a.eval x = .slice A' m c')
    (hr : Bs w A' m c' ys) (hm : m ≤ 100000000)
    (hK : ∀ A'' c'' w', Bs w' A'' m c'' ys → Ext w w' → K (a.put o.dst (.slice A'' m c'')) w') : o.wp Try.prog a w K Q := by
  obtain ⟨A'', c'', w', hrun, h2, h3, _⟩ := append_empty (a := p) o.type hr hm
  unfold Oper.wp execOp
  simp only [ho, resolve, invoke, builtin, Sem.run_bind, Sem.run_pure, Result.andThen_ok, List.map_toArray, List.map_cons, List.map_nil, hs, hx, hrun]
  exact hK A'' c'' w' h2 h3
theorem wpList_append_emptyN {w : World} {ops : Array Oper} {rest : List Oper} {o : Oper} {a : Act} {Q : Exit → Act → World → Prop} (hgd : o.guard = none) {p : Addr} {A' : Option Addr} {m c' : Nat} {ys : List UInt8} {s x : Operand}
    (ho : o.op = .call { callee := .builtin .append, args := #[s, x], argTypes := #[26, 26] }) (hs : a.eval s = .slice (some p) 0 0) (hx : a.eval x = .slice A' m c')
    (hr : Bs w A' m c' ys) (hm : m ≤ 100000000)
    (hK : ∀ A'' c'' w', Bs w' A'' m c'' ys → Ext w w' → (0 < m → ∀ q, A'' = some q → q.block = w.heap.size) → wpList Try.prog ops Q rest (a.put o.dst (.slice A'' m c'')) w') : wpList Try.prog ops Q (o :: rest) a w :=
  wpList_plain hgd fun K hK' => by
    obtain ⟨A'', c'', w', hrun, h2, h3, h4⟩ := append_empty (a := p) o.type hr hm
    unfold Oper.wp execOp
    simp only [ho, resolve, invoke, builtin, Sem.run_bind, Sem.run_pure, Result.andThen_ok, List.map_toArray, List.map_cons, List.map_nil, hs, hx, hrun]
    exact hK' _ _ (hK A'' c'' w' h2 h3 h4)
end Go.Proofs.Ytojgmgghlkpfoaa
