import Derived.Test.YthdjojindijmnaaDoorRefMac
import Derived.Test.YthdjojindijmnaaDoorPkL
import Derived.Test.YthdjojindijmnaaDoorPkK
section
/-
  The document's Tag.
-/
namespace Go.Proofs.YthdjojindijmnaaDoor
open Go.ChangeShapes Go.WideShapes Go.ChangeAt Go.RowKit Go.Deep

set_option maxRecDepth 100000 in
set_option maxHeartbeats 1000000 in
theorem refTag_calls {A : Option Addr} {m d : Nat} {ks bs : List UInt8} {w : World} (hk : ks.length = 32) (h : Bs w A m d bs) (hm : m ≤ 1000000) :
    Calls Tryd.prog 31 #[.agg (cellsOf ks).toArray, .slice A m d] w fun e w' => e = .returned (.agg (cellsOf (macL ks bs)).toArray) ∧ Ext w w' := by
  have hal : ∀ w, (zeroValue 23).run Tryd.prog w = .ok (.agg zeros32) w := fun _ => by kernel_rfl
  have HL : (cellsOf (macL ks bs)).toArray.size = 32 := by simp [cellsOf_len, macL_len]
  have H1 := cellsOf_one (macL ks bs)
  have KB : Hid (∀ o, Bs ((w.alloc (Obj.cells (cellsOf ks).toArray 23)).alloc o) (some ⟨w.heap.size, 0, none⟩) 32 32 ks) := fun o => (Ky.bs (Ky.boxed w hk)).ext ((Ext.refl _).alloc _)
  have CALL : Hid (∀ W, Ext w W → Bs W (some ⟨w.heap.size, 0, none⟩) 32 32 ks → Calls Tryd.prog 41 #[.slice (some ⟨w.heap.size, 0, none⟩) 32 32, .slice A m d] W fun e w' => e = .returned (.tuple #[.agg (cellsOf (macL ks bs)).toArray, .int .i64 0]) ∧ Ext W w') :=
    fun W e b => refMac_calls b (h.ext e) (by omega) hm
  have hz0 := zeros32_size
  generalize zeros32 = Z at *
  generalize (cellsOf (macL ks bs)).toArray = D at *
  generalize (cellsOf ks).toArray = KS at *
  go_enter Tryd.func31, Tryd.ntmps31
  go_wp2_with fail
  refine (CALL.out _ (((Ext.refl w).alloc _).alloc _) (KB.out _)).mono ?_
  rintro e w1 ⟨rfl, e1⟩
  have r0 := Lib.hid ((e1.block (w.heap.size + 1) (by rw [size_alloc, size_alloc]; omega)).trans (heap_alloc2 w (Obj.cells KS 23) (Obj.cells Z 23)))
  have r1 : Hid (((w1.alloc (Obj.cells Z 23)).setRow w1.heap.size D).heap[w.heap.size + 1]? = some (Obj.cells Z 23)) := (setRow_other _ _ _ _ (Nat.ne_of_lt (heap_lt r0.out))).trans (((Ext.refl w1).alloc _ |>.block _ (heap_lt r0.out)).trans r0.out)
  clear CALL KB
  go_wp2_with (first
    | refine wpList_store_row rfl 23 _ _ rfl w1.heap.size D rfl rfl 23 _ (by with_reducible exact heap_alloc_new _ _) (by rw [HL]; rfl) (by rw [HL]; exact hz0) H1 ?_
    | refine wpList_load_row rfl 23 _ rfl w1.heap.size rfl 23 D (0, 0) _ (by with_reducible exact setRow_heap _ _ _ _ _ _ (heap_alloc_new _ _)) rfl rfl (by rw [HL]; rfl) ?_
    | refine wpList_store_row rfl 23 _ _ rfl (w.heap.size + 1) D rfl rfl 23 Z (by with_reducible exact r1.out) (by rw [HL]; rfl) (by rw [HL]; exact hz0) H1 ?_)
  (try simp only [Exit.inBlock, Exit.then])
  refine bodyPost_ret (results_cell_row rfl _ _ (w.heap.size + 1) 23 D (0, 0) _ rfl (setRow_heap _ _ _ _ _ _ r1.out) rfl rfl (by rw [HL]; rfl)) rfl ?_
  exact ⟨rfl, below_setRow (below_setRow (((((Ext.refl w).alloc _).alloc _).trans e1).alloc _) (Nat.le_trans (Nat.le_succ _) (Nat.le_of_lt (heap_lt r0.out))) _) (Nat.le_succ _) _⟩
end Go.Proofs.YthdjojindijmnaaDoor
end

section
/-
  append onto an own row: where it comes to lie; what else stands as it stood.
-/
namespace Go.Proofs.YthdjojindijmnaaDoor
open Go.ChangeShapes Go.WideShapes Go.ChangeAt Go.RowKit Go.Deep

theorem wp_append_bs2 {w : World} {o : Oper} {a : Act} {K : Act → World → Prop} {Q : Exit → Act → World → Prop} {B : Nat} {A A' : Option Addr} {n c m c' : Nat} {xs ys : List UInt8} {s x : Operand}
    (ho : o.op = .call { callee := .builtin .append, args := #[s, x], argTypes := #[34, 34] }) (hs : a.eval s = .slice A n c) (hx : a.eval x = .slice A' m c')
    (h : Own B w A n c xs) (hr : Bs w A' m c' ys) (hm : n + m ≤ 140737488355328) (hB : B ≤ w.heap.size)
    (hK : ∀ A'' c'' w', Own B w' A'' (n + m) c'' (xs ++ ys) → w.grownBy w' (Value.ownBlock (.slice A n c)) → Below B w w' → (Value.ownBlock (.slice A'' (n + m) c'') = Value.ownBlock (.slice A n c) ∨ Value.ownBlock (.slice A'' (n + m) c'') = some w.heap.size) → K (a.put o.dst (.slice A'' (n + m) c'')) w') : o.wp Tryd.prog a w K Q := by
  obtain ⟨A'', c'', w', hrun, h2, h3, h4⟩ := append_bs o.type h hr hm hB
  unfold Oper.wp execOp
  simp only [ho, resolve, invoke, builtin, Sem.run_bind, Sem.run_pure, Result.andThen_ok, List.map_toArray, List.map_cons, List.map_nil, hs, hx, hrun]
  exact hK A'' c'' w' h2 h3 ((Below.refl B w).grown h3 hB h.ge) h4
theorem Bs.grown {w w' : World} {g o n c : Nat} {xs : List UInt8} {row : Option Nat} (h : Bs w (some ⟨g, o, none⟩) n c xs) (e : w.grownBy w' row) (hne : row ≠ some g) : Bs w' (some ⟨g, o, none⟩) n c xs :=
  ⟨h.1, h.2.1, h.2.2.1, fun h0 => by
    obtain ⟨b, off, q, hb, hc⟩ := h.2.2.2 h0
    injection q with q
    injection q with q1 q2
    subst q1 q2
    refine ⟨g, o, rfl, Nat.lt_of_lt_of_le hb e.size, fun j hj => ?_⟩
    unfold World.cell?
    simp only
    rw [e.block g hb (fun q => hne q.symm)]
    exact hc j hj⟩
/-- A block of another kind is not the own row's. -/
theorem Own.ne_of {B : Nat} {w : World} {A : Option Addr} {n c : Nat} {xs : List UInt8} (h : Own B w A n c xs) {g : Nat} {t : TypeId} {cs : Array Value} {fr : Nat × Nat} (hg : w.heap[g]? = some (.cells cs t fr)) (ht : t ≠ 5) : Value.ownBlock (.slice A n c) ≠ some g := by
  rcases h.2 with ⟨hv, _⟩ | ⟨g', cap, cur, hv, _, hg', _⟩
  · rw [hv]; simp [Value.ownBlock]
  · rw [hv]
    simp only [Value.ownBlock]
    intro q
    injection q with q
    subst q
    rw [hg] at hg'
    injection hg' with h1
    injection h1 with _ h2 _
    exact ht h2
theorem own_at {V V' : Value} {g s : Nat} (h : V.ownBlock ≠ some g) (hs : g < s) (h3 : V'.ownBlock = V.ownBlock ∨ V'.ownBlock = some s) : V'.ownBlock ≠ some g := fun q => by
  rcases h3 with h3 | h3
  · exact h (h3 ▸ q)
  · rw [h3] at q
    injection q with q
    omega
theorem own_lit {g s n c : Nat} (h : g < s) : Value.ownBlock (.slice (some ⟨s, 0, none⟩) n c) ≠ some g := by
  simp only [Value.ownBlock]
  intro q
  injection q with q
  omega
theorem Own.ne_size {B : Nat} {w : World} {A : Option Addr} {n c : Nat} {xs : List UInt8} (h : Own B w A n c xs) : Value.ownBlock (.slice A n c) ≠ some w.heap.size := fun q => by
  have := (World.ownsRow.lt h _ q).2
  omega
end Go.Proofs.YthdjojindijmnaaDoor
end
