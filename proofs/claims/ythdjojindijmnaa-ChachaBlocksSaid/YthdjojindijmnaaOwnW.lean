/-
  A row of words of the call's own that is appended to.
-/
import Derived.Test.YthdjojindijmnaaAppAny
import Derived.Test.YthdjojindijmnaaWords
namespace Go.Proofs.Ythdjojindijmnaa
open Go.ChangeShapes Go.WideShapes Go.ChangeAt Go.RowKit Go.Deep

theorem info32 : (Try.prog.info? 25).map (fun i => (i.zero, i.size, i.bytes)) = some (some (.int .u32 0), 1, 4) := by kernel_rfl
/-- The slice '.slice A n c' reads as the words vs (each cell; nil let in). -/
def Ws (w : World) (A : Option Addr) (n : Nat) (vs : List Nat) : Prop := vs.length = n ∧ (0 < n → ∃ b off, A = some ⟨b, off, none⟩ ∧ b < w.heap.size ∧ ∀ j, j < n → w.cell? ⟨b, off + j, none⟩ = some (.int .u32 (wd vs j : Int)))
theorem Ws.ext {w w' : World} {A : Option Addr} {n : Nat} {vs : List Nat} (h : Ws w A n vs) (e : Ext w w') : Ws w' A n vs := ⟨h.1, fun h0 => by
  obtain ⟨b, off, q, hb, hc⟩ := h.2 h0
  exact ⟨b, off, q, Nat.lt_of_lt_of_le hb e.size, fun j hj => (e.cell hb).trans (hc j hj)⟩⟩
/-- The slice is the call's own row of words. -/
def OwnW (B : Nat) (w : World) (A : Option Addr) (n c : Nat) (vs : List Nat) : Prop := w.ownsRow B 25 1 (.slice A n c) n (wcells vs)
section
variable {w w' : World} {B : Nat} {A : Option Addr} {n c : Nat} {vs : List Nat}
theorem OwnW.nil (B : Nat) (w : World) : OwnW B w none 0 0 [] := World.ownsRow_nil w B _ 1
theorem OwnW.empty (w : World) (B : Nat) (hB : B ≤ w.heap.size) : OwnW B (w.alloc (.cells #[] 25)) (some ⟨w.heap.size, 0, none⟩) 0 0 [] := World.ownsRow_lit (e := 25) (size := 1) w #[] 0 hB (Nat.zero_le _) rfl
theorem OwnW.len (h : OwnW B w A n c vs) : vs.length = n := by simpa [wcells] using h.1
theorem OwnW.ge (h : OwnW B w A n c vs) : ∀ g, Value.ownBlock (.slice A n c) = some g → B ≤ g := fun g hg => (World.ownsRow.lt h g hg).1
theorem OwnW.ext (h : OwnW B w A n c vs) (he : Ext w w') : OwnW B w' A n c vs := by
  refine ⟨h.1, ?_⟩
  rcases h.2 with h | ⟨g, cap, cur, hv, hb, hg, r⟩
  · exact .inl h
  · exact .inr ⟨g, cap, cur, hv, hb, (he.block g (heap_lt hg)).trans hg, r⟩
theorem OwnW.ws (h : OwnW B w A n c vs) : Ws w A n vs := by
  have hl := h.len
  refine ⟨hl, fun h0 => ?_⟩
  rcases h.2 with ⟨hv, hn⟩ | ⟨g, cap, cur, hv, hb, hg, hnc, hcm, hcs, htk⟩
  · omega
  · injection hv with h1 h2 h3
    subst h1 h3
    refine ⟨g, 0, rfl, heap_lt hg, fun j hj => ?_⟩
    rw [Nat.zero_add]
    have e : (wcells vs)[j]? = cur[j]? := by
      rw [← htk, List.getElem?_take, if_pos (by omega), Array.getElem?_toList]
    have e2 : (wcells vs)[j]? = some (.int .u32 (wd vs j : Int)) := by simp [wcells, wd, List.getD, show j < vs.length by omega]
    rw [e2] at e
    simp [World.cell?, hg, ← e]
end
theorem wp_append_ws {w : World} {o : Oper} {a : Act} {K : Act → World → Prop} {Q : Exit → Act → World → Prop} {B : Nat} {A A' : Option Addr} {n c m c' : Nat} {us vs : List Nat} {s x : Operand}
    (ho : o.op = .call { callee := .builtin .append, args := #[s, x], argTypes := #[41, 41] }) (hs : a.eval s = .slice A n c) (hx : a.eval x = .slice A' m c')
    (h : OwnW B w A n c us) (hr : Ws w A' m vs) (hm : n + m ≤ 1000000) (hB : B ≤ w.heap.size)
    (hK : ∀ A'' c'' w', OwnW B w' A'' (n + m) c'' (us ++ vs) → w.grownBy w' (Value.ownBlock (.slice A n c)) → Below B w w' → K (a.put o.dst (.slice A'' (n + m) c'')) w') : o.wp Try.prog a w K Q := by
  obtain ⟨A'', c'', w', hrun, h2, h3, h4⟩ := append_any (c' := c') Try.underlying41 info32 rfl o.type h (news := wcells vs) (m := m) (A' := A') (by rw [← hr.1]; simp [wcells]) (fun h0 => by
    obtain ⟨b, off, q, hb, hc⟩ := hr.2 h0
    refine ⟨⟨b, off, none⟩, q, fun j u hu => ?_⟩
    have hj : j < vs.length := by
      have := (List.getElem?_eq_some_iff.1 hu).1
      simpa [wcells] using this
    have e2 : (wcells vs)[j]? = some (.int .u32 (wd vs j : Int)) := by simp [wcells, wd, List.getD, hj]
    have hplain : (⟨b, off, none⟩ : Addr).add j = ⟨b, off + j, none⟩ := by unfold Addr.add; split <;> simp_all
    rw [hplain, hc j (by rw [← hr.1]; exact hj), ← e2, hu]) (fun u hu => by
    obtain ⟨x, _, rfl⟩ := List.mem_map.1 hu
    rfl) (by omega) (by omega) hB
  unfold Oper.wp execOp
  simp only [ho, resolve, invoke, builtin, Sem.run_bind, Sem.run_pure, Result.andThen_ok, List.map_toArray, List.map_cons, List.map_nil, hs, hx, hrun]
  refine hK A'' c'' w' ?_ h3 ((Below.refl B w).grown h3 hB h.ge)
  unfold OwnW
  have : wcells (us ++ vs) = wcells us ++ wcells vs := by simp [wcells]
  rw [this]
  exact h2
theorem wpList_append_ws {w : World} {ops : Array Oper} {rest : List Oper} {o : Oper} {a : Act} {Q : Exit → Act → World → Prop} (hgd : o.guard = none) {B : Nat} {A A' : Option Addr} {n c m c' : Nat} {us vs : List Nat} {s x : Operand}
    (ho : o.op = .call { callee := .builtin .append, args := #[s, x], argTypes := #[41, 41] }) (hs : a.eval s = .slice A n c) (hx : a.eval x = .slice A' m c')
    (h : OwnW B w A n c us) (hr : Ws w A' m vs) (hm : n + m ≤ 1000000) (hB : B ≤ w.heap.size)
    (hK : ∀ A'' c'' w', OwnW B w' A'' (n + m) c'' (us ++ vs) → w.grownBy w' (Value.ownBlock (.slice A n c)) → Below B w w' → wpList Try.prog ops Q rest (a.put o.dst (.slice A'' (n + m) c'')) w') : wpList Try.prog ops Q (o :: rest) a w :=
  wpList_plain hgd fun _ hK' => wp_append_ws ho hs hx h hr hm hB fun A'' c'' w' h2 h3 h4 => hK' _ _ (hK A'' c'' w' h2 h3 h4)
end Go.Proofs.Ythdjojindijmnaa
