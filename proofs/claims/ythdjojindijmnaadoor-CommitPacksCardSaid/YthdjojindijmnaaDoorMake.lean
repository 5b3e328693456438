/-
  commit.Make.
-/
import Derived.Test.YthdjojindijmnaaDoorMade
import Derived.Test.YthdjojindijmnaaDoorInfoK
namespace Go.Proofs.YthdjojindijmnaaDoor
open Go.ChangeShapes Go.WideShapes Go.ChangeAt Go.RowKit Go.Deep

theorem exec_field_key {o : Oper} {a : Act} {w : World} {x : Operand} {K : Array Value} (ho : o.op = .field 51 x 0) (hx : a.eval x = .agg K) (hK : K.size = 32) : (execOp a.eval o).run Tryd.prog w = .ok (.value (.agg K)) w := by
  have hr : (Instr.field 51 (.agg K) 0).run Tryd.prog w = (Sem.run Tryd.prog (part 23 K 0) w) := by
    simp [Instr.field, run_underlying Tryd.underlying51, asAgg]
  have hp : (part 23 K 0).run Tryd.prog w = .ok (.agg K) w := by
    obtain ⟨i, hi, hz0, hz1, hz2⟩ := info_parts infoK
    have he : K.extract 0 32 = K := by rw [← hK]; exact Array.extract_size
    simp [part, isAgg, run_underlying Tryd.underlying23, sizeOf, typeInfo, hi, hz1, he]
  unfold execOp
  simp only [ho, hx, Sem.run_bind, hr, hp, Result.andThen_ok, Sem.run_pure]

set_option maxRecDepth 100000 in
set_option maxHeartbeats 1000000 in
theorem make_calls {A : Option Addr} {n c : Nat} {l : List (List UInt8)} {ks : List UInt8} {w : World} (hk : ks.length = 32) (h : Rw w A n c l) (hm : (joinL l).length ≤ 100000000) {tg : TypeId × Nat × Nat} (hG : Gl w tg) :
    Calls Tryd.prog 15 #[.agg (cellsOf ks).toArray, .slice A n c] w fun e w' => e = .returned (.agg (cellsOf (macL ks (joinL l))).toArray) ∧ Ext w w' := by
  have MADE : Hid (∀ (W : World), Ext w W → Calls Tryd.prog 30 #[.agg (cellsOf ks).toArray, .slice A n c] W fun e w' => e = .returned (.agg (cellsOf (macL ks (joinL l))).toArray) ∧ Ext W w') := fun W e => made_calls hk (h.ext e) hm (hG.kept e hG.lt)
  clear hG h
  have ML := macL_len ks (joinL l)
  generalize macL ks (joinL l) = D at *
  have KS : (cellsOf ks).toArray.size = 32 := by simp [cellsOf_len, hk]
  have DS : (cellsOf D).toArray.size = 32 := by simp [cellsOf_len, ML]
  have D1 := cellsOf_one D
  have hal := key_alloc
  have hz0 := zeros32_size
  generalize zeros32 = Z at *
  have B0 : Hid (Ky ((w.alloc (Obj.cells (cellsOf ks).toArray 23)).alloc (Obj.cells Z 23)) w.heap.size ks) := ⟨heap_alloc1 _ _ _, hk⟩
  have B1 : Hid (((w.alloc (Obj.cells (cellsOf ks).toArray 23)).alloc (Obj.cells Z 23)).heap[w.heap.size + 1]? = some (.cells Z 23 (0, 0))) := heap_alloc2 _ _ _
  go_enter Tryd.func15, Tryd.ntmps15
  go_wp2_with (refine wpList_load_row rfl 23 _ rfl w.heap.size rfl 23 (cellsOf ks).toArray (0, 0) _ B0.out.1 rfl rfl (by rw [KS]; rfl) ?_; simp only [Act.put, List.setIfInBounds_toArray, List.set_cons_zero, List.set_cons_succ])
  refine (MADE.out _ (((Ext.refl w).alloc _).alloc _)).mono ?_
  rintro e w1 ⟨rfl, e1⟩
  have r1 := Lib.hid ((e1.block _ (heap_lt B1.out)).trans B1.out)
  have x1 : Hid (Ext w w1) := (((Ext.refl w).alloc _).alloc _).trans e1
  clear MADE B0 B1 e1
  go_wp2_with (first
    | (refine wpList_exec rfl (exec_field_key rfl rfl DS) ?_; simp only [Act.put, List.setIfInBounds_toArray, List.set_cons_zero, List.set_cons_succ])
    | (refine wpList_store_row rfl 23 _ _ rfl (w.heap.size + 1) (cellsOf D).toArray rfl rfl 23 Z r1.out (by rw [DS]; rfl) (by rw [DS]; exact hz0) D1 ?_; simp only [Act.put, List.setIfInBounds_toArray, List.set_cons_zero, List.set_cons_succ]))
  (try simp only [Exit.inBlock, Exit.then])
  refine bodyPost_ret (results_cell_row rfl _ _ (w.heap.size + 1) 23 (cellsOf D).toArray (0, 0) _ rfl (setRow_heap _ _ _ _ _ _ r1.out) rfl rfl (by rw [DS]; rfl)) rfl ?_
  exact ⟨rfl, below_setRow x1.out (Nat.le_succ _) _⟩
end Go.Proofs.YthdjojindijmnaaDoor
