/-
  append onto an own row: where it comes to lie; what else stands as it stood.
-/
import Derived.Test.YteaoacinhdjkeaaAppStr
namespace Go.Proofs.Yteaoacinhdjkeaa
open Go.ChangeShapes Go.WideShapes Go.ChangeAt Go.RowKit Go.Deep

theorem wp_append_bs2 {w : World} {o : Oper} {a : Act} {K : Act → World → Prop} {Q : Exit → Act → World → Prop} {B : Nat} {A A' : Option Addr} {n c m c' : Nat} {xs ys : List UInt8} {s x : Operand}
    (ho : o.op = .call { callee := .builtin .append, args := #[s, x], argTypes := #[37, 37] }) (hs : a.eval s = .slice A n c) (hx : a.eval x = .slice A' m c')
    (h : Own B w A n c xs) (hr : Bs w A' m c' ys) (hm : n + m ≤ 140737488355328) (hB : B ≤ w.heap.size)
    (hK : ∀ A'' c'' w', Own B w' A'' (n + m) c'' (xs ++ ys) → w.grownBy w' (Value.ownBlock (.slice A n c)) → Below B w w' → (Value.ownBlock (.slice A'' (n + m) c'') = Value.ownBlock (.slice A n c) ∨ Value.ownBlock (.slice A'' (n + m) c'') = some w.heap.size) → K (a.put o.dst (.slice A'' (n + m) c'')) w') : o.wp Try.prog a w K Q := by
  obtain ⟨A'', c'', w', hrun, h2, h3, h4⟩ := append_bs o.type h hr hm hB
  unfold Oper.wp execOp
  simp only [ho, resolve, invoke, builtin, Sem.run_bind, Sem.run_pure, Result.andThen_ok, List.map_toArray, List.map_cons, List.map_nil, hs, hx, hrun]
  exact hK A'' c'' w' h2 h3 ((Below.refl B w).grown h3 hB h.ge) h4
theorem Bs.grown {w w' : World} {g o n c : Nat} {xs : List UInt8} {row : Option Nat} (h : Bs w (some ⟨g, o, none⟩) n c xs) (e : w.grownBy w' row) (hne : row ≠ some g) : Bs w' (some ⟨g, o, none⟩) n c xs :=
  ⟨h.1, h.2.1, h.2.2.1, fun h0 => by
    obtain ⟨b, off, q, hb, hc⟩ := h.2.2.2 h0
    injection q with q
    injection q with q1 q2
    subst q1 q2
    refine ⟨g, o, rfl, Nat.lt_of_lt_of_le hb e.size, fun j hj => ?_⟩
    unfold World.cell?
    simp only
    rw [e.block g hb (fun q => hne q.symm)]
    exact hc j hj⟩
/-- A block of another kind is not the own row's. -/
theorem Own.ne_of {B : Nat} {w : World} {A : Option Addr} {n c : Nat} {xs : List UInt8} (h : Own B w A n c xs) {g : Nat} {t : TypeId} {cs : Array Value} {fr : Nat × Nat} (hg : w.heap[g]? = some (.cells cs t fr)) (ht : t ≠ 5) : Value.ownBlock (.slice A n c) ≠ some g := by
  rcases h.2 with ⟨hv, _⟩ | ⟨g', cap, cur, hv, _, hg', _⟩
  · rw [hv]; simp [Value.ownBlock]
  · rw [hv]
    simp only [Value.ownBlock]
    intro q
    injection q with q
    subst q
    rw [hg] at hg'
    injection hg' with h1
    injection h1 with _ h2 _
    exact ht h2
theorem own_at {V V' : Value} {g s : Nat} (h : V.ownBlock ≠ some g) (hs : g < s) (h3 : V'.ownBlock = V.ownBlock ∨ V'.ownBlock = some s) : V'.ownBlock ≠ some g := fun q => by
  rcases h3 with h3 | h3
  · exact h (h3 ▸ q)
  · rw [h3] at q
    injection q with q
    omega
theorem own_lit {g s n c : Nat} (h : g < s) : Value.ownBlock (.slice (some ⟨s, 0, none⟩) n c) ≠ some g := by
  simp only [Value.ownBlock]
  intro q
  injection q with q
  omega
theorem Own.ne_size {B : Nat} {w : World} {A : Option Addr} {n c : Nat} {xs : List UInt8} (h : Own B w A n c xs) : Value.ownBlock (.slice A n c) ≠ some w.heap.size := fun q => by
  have := (World.ownsRow.lt h _ q).2
  omega
end Go.Proofs.Yteaoacinhdjkeaa
