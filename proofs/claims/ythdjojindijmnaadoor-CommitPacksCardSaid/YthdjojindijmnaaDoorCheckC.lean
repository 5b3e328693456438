/-
  commit.Check.
-/
import Derived.Test.YthdjojindijmnaaDoorMake
namespace Go.Proofs.YthdjojindijmnaaDoor
open Go.ChangeShapes Go.WideShapes Go.ChangeAt Go.RowKit Go.Deep
set_option maxRecDepth 100000

theorem part_key {w : World} {K : Array Value} (hK : K.size = 32) : (part 23 K 0).run Tryd.prog w = .ok (.agg K) w := by
  obtain ⟨i, hi, hz0, hz1, hz2⟩ := info_parts infoK
  have he : K.extract 0 32 = K := by rw [← hK]; exact Array.extract_size
  simp [part, isAgg, run_underlying Tryd.underlying23, sizeOf, typeInfo, hi, hz1, he]
theorem made_fields : ∃ f : Field, (Tryd.prog.fieldsOf 51).toList = [f] ∧ f.type = 23 ∧ f.offset = 0 ∧ f.name ≠ "_" := by
  have h : ((Tryd.prog.fieldsOf 51).toList.map fun f => (f.name, f.type, f.offset)) = [("key", 23, 0)] := by kernel_rfl
  match hl : (Tryd.prog.fieldsOf 51).toList with
  | [] => rw [hl] at h; simp at h
  | [f] =>
    rw [hl] at h
    simp only [List.map_cons, List.map_nil, List.cons.injEq, and_true, Prod.mk.injEq] at h
    exact ⟨f, rfl, h.2.1, h.2.2, by rw [h.1]; decide⟩
  | f :: g :: r => rw [hl] at h; simp at h
theorem made_equal {xs ys : List UInt8} (hx : xs.length = 32) (hy : ys.length = 32) (w : World) :
    (Op.equalIn 10000 51 (.agg (cellsOf xs).toArray) (.agg (cellsOf ys).toArray)).run Tryd.prog w = .ok (decide (xs = ys)) w := by
  have hX : (cellsOf xs).toArray.size = 32 := by simp [cellsOf_len, hx]
  have hY : (cellsOf ys).toArray.size = 32 := by simp [cellsOf_len, hy]
  have hk : (Op.equalIn 9999 23 (.agg (cellsOf xs).toArray) (.agg (cellsOf ys).toArray)).run Tryd.prog w = .ok (decide (xs = ys)) w := by
    rw [cellsOf_cell, cellsOf_cell, run_equalIn_bytes w 9997 23 5 32 rfl rfl (fun _ => rfl) xs ys hx hy]
    congr 1
    rw [Bool.eq_iff_iff]; simp
  obtain ⟨f, hf, ht, ho, hn⟩ := made_fields
  rw [run_equalIn_struct w 9999 51 _ _ (by kernel_rfl) (by kernel_rfl), hf]
  simp only [Op.eqFields, ht, ho, if_pos hn, Sem.run_bind, part_key hX, part_key hY, Result.andThen_ok, hk]
  cases decide (xs = ys) <;> rfl
theorem made_guard : Tryd.prog.eqGuardType Tryd.prog.depth 51 = false := by kernel_rfl
theorem exec_neq_made {o : Oper} {a : Act} {w : World} {x y : Operand} {t' : TypeId} {xs ys : List UInt8} {b : Bool} (hb : (!decide (xs = ys)) = b) (lx : xs.length = 32) (ly : ys.length = 32) (ho : o.op = .binOp .neq 51 x y t') (hx : a.eval x = .agg (cellsOf xs).toArray) (hy : a.eval y = .agg (cellsOf ys).toArray) :
    (execOp a.eval o).run Tryd.prog w = .ok (.value (.bool b)) w := by
  unfold execOp
  simp only [ho, hx, hy, Sem.run_bind, run_eqGuard_agg _ _ _ _ _ _ _ made_guard, Result.andThen_ok, run_neq_struct, made_equal lx ly, Sem.run_pure, hb]

set_option maxRecDepth 100000 in
set_option maxHeartbeats 1000000 in
theorem check14_calls {A : Option Addr} {n c : Nat} {l : List (List UInt8)} {ks xs : List UInt8} {b : Bool} {w : World} (hk : ks.length = 32) (hx : xs.length = 32) (hb : (!decide (macL ks (joinL l) = xs)) = b) (h : Rw w A n c l) (hm : (joinL l).length ≤ 100000000) {tg : TypeId × Nat × Nat} (hG : Gl w tg) :
    Calls Tryd.prog 16 #[.agg (cellsOf xs).toArray, .agg (cellsOf ks).toArray, .slice A n c] w fun e w' => e = .returned (.int .i64 (if b then 4 else 0)) ∧ Ext w w' := by
  have MADE : Hid (∀ (W : World), Ext w W → Calls Tryd.prog 30 #[.agg (cellsOf ks).toArray, .slice A n c] W fun e w' => e = .returned (.agg (cellsOf (macL ks (joinL l))).toArray) ∧ Ext W w') := fun W e => made_calls hk (h.ext e) hm (hG.kept e hG.lt)
  clear hG h
  have ML := macL_len ks (joinL l)
  generalize macL ks (joinL l) = D at *
  replace hb := Lib.hid hb
  have KS : (cellsOf ks).toArray.size = 32 := by simp [cellsOf_len, hk]
  have XS : (cellsOf xs).toArray.size = 32 := by simp [cellsOf_len, hx]
  have hbd : Hid (Tryd.prog.built 51 [(0, .agg (cellsOf xs).toArray)] = some (cellsOf xs).toArray) := made_built XS
  have B0 : Hid (∀ w', Ext ((w.alloc (Obj.cells (cellsOf xs).toArray 23)).alloc (Obj.cells (cellsOf ks).toArray 23)) w' → Ky w' w.heap.size xs ∧ Ky w' (w.heap.size + 1) ks ∧ Ext w w') := fun w' e => ⟨⟨(e.block _ (by rw [size_alloc, size_alloc]; omega)).trans (heap_alloc1 _ _ _), hx⟩, ⟨(e.block _ (by rw [size_alloc, size_alloc]; omega)).trans (heap_alloc2 _ _ _), hk⟩, (((Ext.refl w).alloc _).alloc _).trans e⟩
  go_enter Tryd.func16, Tryd.ntmps16
  go_upto_region 1 with fail
  refine wp_gen (fun W => ∀ w', Ext W w' → Ky w' w.heap.size xs ∧ Ky w' (w.heap.size + 1) ks ∧ Ext w w') B0.out ?_
  clear B0
  rintro w0 b0
  have B0 := Lib.hid b0
  clear b0
  go_wp2_with fail
  refine wp_region_seq (R := Ext) Ext.refl (fun _ _ _ => Ext.trans) [0, 1, 3, 4, 2, 5] [2] [(0, 8, 32), (0, 9, 8), (3, 10, 768), (0, 11, 16), (8, 12, 2048), (20, 13, 5120)] (by kernel_rfl) (by kernel_rfl) (by kernel_rfl) rfl (by kernel_rfl) (by kernel_rfl) (fun _ _ d _ _ h => by cases d <;> exact h) ?_
  refine seq_read (fun w' => w'.heap[(w.heap.size + 1)]? = some (.cells (cellsOf ks).toArray 23 (0, 0))) (fun w' e => (B0.out w' ((Ext.refl _).drew.trans e)).2.1.1) _ (v := .agg (cellsOf ks).toArray) rfl rfl (by rfl) (fun w' hF => exec_load_row rfl rfl hF rfl rfl (by rw [KS]; rfl)) ?_
  simp only [Act.put, List.setIfInBounds_toArray, List.set_cons_zero, List.set_cons_succ]
  repeat (first | (refine seq_read (fun _ => True) (fun _ _ => trivial) _ (v := ?_) rfl rfl (by rfl) ?_ ?_; rotate_left; (· intro w' hF; go_simp; (try with_reducible rfl)); simp only [Act.put, List.setIfInBounds_toArray, List.set_cons_zero, List.set_cons_succ]) | (refine seq_skip _ rfl rfl (by rfl) ?_; simp only [Act.put, List.setIfInBounds_toArray, List.set_cons_zero, List.set_cons_succ]))
  refine seq_read (fun w' => w'.heap[w.heap.size]? = some (.cells (cellsOf xs).toArray 23 (0, 0))) (fun w' e => (B0.out w' ((Ext.refl _).drew.trans e)).1.1) _ (v := .agg (cellsOf xs).toArray) rfl rfl (by rfl) (fun w' hF => exec_load_row rfl rfl hF rfl rfl (by rw [XS]; rfl)) ?_
  simp only [Act.put, List.setIfInBounds_toArray, List.set_cons_zero, List.set_cons_succ]
  refine seq_read (fun _ => True) (fun _ _ => trivial) _ (v := .agg (cellsOf xs).toArray) rfl rfl (by rfl) (fun w' _ => exec_build_as rfl (by simp only [List.map_toArray, List.map_cons, List.map_nil]; exact hbd.out)) ?_
  simp only [Act.put, List.setIfInBounds_toArray, List.set_cons_zero, List.set_cons_succ]
  refine seq_do _ rfl rfl (by rfl) (fun K hK => ?_)
  go_simp
  refine (MADE.out _ (B0.out _ (Ext.refl _).drew).2.2).mono ?_
  rintro e w1 ⟨rfl, e1⟩
  refine hK.out _ _ e1 ?_
  clear hK K
  try simp only [Act.put, List.setIfInBounds_toArray, List.set_cons_zero, List.set_cons_succ]
  refine seq_read (fun _ => True) (fun _ _ => trivial) _ (v := .bool b) rfl rfl (by rfl) (fun w' _ => exec_neq_made hb.out ML hx rfl rfl rfl) ?_
  simp only [Act.put, List.setIfInBounds_toArray, List.set_cons_zero, List.set_cons_succ]
  refine seq_done ?_
  have E1 : Hid (Ext w w1) := (B0.out _ ((Ext.refl _).drew.trans e1)).2.2
  clear MADE B0 hbd e1 hb
  cases b
  · go_wp2_with fail
    go_ret
    exact ⟨rfl, E1.out⟩
  · go_wp2_with fail
    go_ret
    exact ⟨rfl, E1.out⟩
end Go.Proofs.YthdjojindijmnaaDoor
