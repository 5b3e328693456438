/-
  Keys (32 bytes) are compared; whole arrays are read under a guard.
-/
import Derived.Test.YtbnjmmefnjoofaaDoorRowOps
import Derived.Stop.BytesEq
import Derived.Lib.SlBytesConst
namespace Go.Proofs.YtbnjmmefnjoofaaDoor
open Go.ChangeShapes Go.WideShapes Go.ChangeAt Go.RowKit Go.Deep
set_option maxRecDepth 100000

theorem key_guard : Tryd.prog.eqGuardType Tryd.prog.depth 23 = false := by kernel_rfl
theorem cellsOf_cell (xs : List UInt8) : cellsOf xs = xs.map Extern.Stop.cell := by rw [cellsOf_map]; rfl
theorem key_equal {xs ys : List UInt8} (hx : xs.length = 32) (hy : ys.length = 32) (w : World) :
    (Op.equalIn 10000 23 (.agg (cellsOf xs).toArray) (.agg (cellsOf ys).toArray)).run Tryd.prog w = .ok (decide (xs = ys)) w := by
  rw [cellsOf_cell, cellsOf_cell, run_equalIn_bytes w 9998 23 5 32 rfl rfl (fun _ => rfl) xs ys hx hy]
  congr 1
  rw [Bool.eq_iff_iff]; simp
theorem exec_eql_key {o : Oper} {a : Act} {w : World} {x y : Operand} {t' : TypeId} {xs ys : List UInt8} (ho : o.op = .binOp .eql 23 x y t') (hx : a.eval x = .agg (cellsOf xs).toArray) (hy : a.eval y = .agg (cellsOf ys).toArray) (lx : xs.length = 32) (ly : ys.length = 32) :
    (execOp a.eval o).run Tryd.prog w = .ok (.value (.bool (decide (xs = ys)))) w := by
  unfold execOp
  simp only [ho, hx, hy, Sem.run_bind, run_eqGuard_agg _ _ _ _ _ _ _ key_guard, Result.andThen_ok, run_eql_struct, key_equal lx ly, Sem.run_pure]
theorem exec_neq_key {o : Oper} {a : Act} {w : World} {x y : Operand} {t' : TypeId} {xs ys : List UInt8} (ho : o.op = .binOp .neq 23 x y t') (hx : a.eval x = .agg (cellsOf xs).toArray) (hy : a.eval y = .agg (cellsOf ys).toArray) (lx : xs.length = 32) (ly : ys.length = 32) :
    (execOp a.eval o).run Tryd.prog w = .ok (.value (.bool (!decide (xs = ys)))) w := by
  unfold execOp
  simp only [ho, hx, hy, Sem.run_bind, run_eqGuard_agg _ _ _ _ _ _ _ key_guard, Result.andThen_ok, run_neq_struct, key_equal lx ly, Sem.run_pure]

section
variable {ops : Array Oper} {rest : List Oper} {o : Oper} {a : Act} {w : World} {Q : Exit → Act → World → Prop}
/-- What yields a value and leaves the world. -/
theorem wpList_exec {P : Program} {v : Value} (hw : Region.wanted o (yielded ops a.tmps) = true) (hr : (execOp a.eval o).run P w = .ok (.value v) w) (h : wpList P ops Q rest (a.put o.dst v) w) : wpList P ops Q (o :: rest) a w :=
  BigFrame.wpList_want hw fun K hK => by
    unfold Oper.wp
    rw [hr]
    exact hK _ _ h
theorem exec_build_as {P : Program} {t : TypeId} {parts : Array (Nat × Operand)} {cells : Array Value} (ho : o.op = .build t parts) (hf : P.built t (parts.map fun (i, x) => (i, a.eval x)).toList = some cells) : (execOp a.eval o).run P w = .ok (.value (.agg cells)) w := by
  unfold execOp
  simp only [ho, Sem.run_bind, run_build w t _ cells hf, Result.andThen_ok, Sem.run_pure]
theorem wpList_eql_key (hw : Region.wanted o (yielded ops a.tmps) = true) (x y : Operand) (t' : TypeId) (ho : o.op = .binOp .eql 23 x y t') (xs ys : List UInt8) (hx : a.eval x = .agg (cellsOf xs).toArray) (hy : a.eval y = .agg (cellsOf ys).toArray) (lx : xs.length = 32) (ly : ys.length = 32)
    (h : wpList Tryd.prog ops Q rest (a.put o.dst (.bool (decide (xs = ys)))) w) : wpList Tryd.prog ops Q (o :: rest) a w := wpList_exec hw (exec_eql_key ho hx hy lx ly) h
theorem wpList_eql_keyB (hw : Region.wanted o (yielded ops a.tmps) = true) (x y : Operand) (t' : TypeId) (ho : o.op = .binOp .eql 23 x y t') (xs ys : List UInt8) (b : Bool) (hb : decide (xs = ys) = b) (hx : a.eval x = .agg (cellsOf xs).toArray) (hy : a.eval y = .agg (cellsOf ys).toArray) (lx : xs.length = 32) (ly : ys.length = 32)
    (h : wpList Tryd.prog ops Q rest (a.put o.dst (.bool b)) w) : wpList Tryd.prog ops Q (o :: rest) a w := wpList_exec hw (hb ▸ exec_eql_key ho hx hy lx ly) h
theorem wpList_neq_keyB (hw : Region.wanted o (yielded ops a.tmps) = true) (x y : Operand) (t' : TypeId) (ho : o.op = .binOp .neq 23 x y t') (xs ys : List UInt8) (b : Bool) (hb : (!decide (xs = ys)) = b) (hx : a.eval x = .agg (cellsOf xs).toArray) (hy : a.eval y = .agg (cellsOf ys).toArray) (lx : xs.length = 32) (ly : ys.length = 32)
    (h : wpList Tryd.prog ops Q rest (a.put o.dst (.bool b)) w) : wpList Tryd.prog ops Q (o :: rest) a w := wpList_exec hw (hb ▸ exec_neq_key ho hx hy lx ly) h
theorem wpList_neq_key (hw : Region.wanted o (yielded ops a.tmps) = true) (x y : Operand) (t' : TypeId) (ho : o.op = .binOp .neq 23 x y t') (xs ys : List UInt8) (hx : a.eval x = .agg (cellsOf xs).toArray) (hy : a.eval y = .agg (cellsOf ys).toArray) (lx : xs.length = 32) (ly : ys.length = 32)
    (h : wpList Tryd.prog ops Q rest (a.put o.dst (.bool (!decide (xs = ys)))) w) : wpList Tryd.prog ops Q (o :: rest) a w := wpList_exec hw (exec_neq_key ho hx hy lx ly) h
theorem wpList_load_rowW {P : Program} (hw : Region.wanted o (yielded ops a.tmps) = true) (ty : TypeId) (x : Operand) (ho : o.op = .load ty x)
    (g : Nat) (hx : a.eval x = .pointer (some ⟨g, 0, none⟩)) (t : TypeId) (cs : Array Value) (fr : Nat × Nat) (d : TypeDesc) (hg : w.heap[g]? = some (.cells cs t fr))
    (hu : P.underlying ty = some d) (hd : (match d with | .struct _ | .array _ _ => true | _ => false) = true) (hi : (P.info? ty).map (·.size) = some cs.size)
    (h : wpList P ops Q rest (a.put o.dst (.agg cs)) w) : wpList P ops Q (o :: rest) a w := wpList_exec hw (exec_load_row ho hx hg hu hd hi) h
end

/-- A slice of a whole block. -/
theorem Bs.of_list {w : World} {g n : Nat} {t : TypeId} {fr : Nat × Nat} {cs : Array Value} {xs : List UInt8} (hc : cs = (cellsOf xs).toArray) (h : w.heap[g]? = some (.cells cs t fr)) (hn : xs.length = n ∧ n ≤ 1000000) : Bs w (some ⟨g, 0, none⟩) n n xs := by
  subst hc
  have := Bs.part h (o := 0) (n := n) (c := n) (by omega) (by omega) (by omega)
  rw [List.drop_zero, List.take_of_length_le (by omega)] at this
  exact this
/-- Block g is a key's. -/
def Ky (w : World) (g : Nat) (xs : List UInt8) : Prop := w.heap[g]? = some (.cells (cellsOf xs).toArray 23 (0, 0)) ∧ xs.length = 32
theorem Ky.ext {w w' : World} {g : Nat} {xs : List UInt8} (h : Ky w g xs) (e : Ext w w') : Ky w' g xs := ⟨(e.block g (heap_lt h.1)).trans h.1, h.2⟩
theorem Ky.size {w : World} {g : Nat} {xs : List UInt8} (h : Ky w g xs) : (cellsOf xs).toArray.size = 32 := by simp [cellsOf_len, h.2]
theorem Ky.cell {w : World} {g : Nat} {xs : List UInt8} (h : Ky w g xs) {j : Nat} (hj : j < 32) : w.cell? ⟨g, j, none⟩ = some (.int .u8 (bt xs j : Int)) := by
  rw [cell_of_row w g j _ _ (0, 0) h.1]
  have := cellsOf_get (xs := xs) (j := j) (by rw [h.2]; exact hj)
  simpa using this
theorem Ky.frozen {w : World} {g : Nat} {xs : List UInt8} (h : Ky w g xs) (j : Nat) : w.frozen? ⟨g, j, none⟩ = false := frozen_of_row w g j _ _ h.1
theorem Ky.bs {w : World} {g : Nat} {xs : List UInt8} (h : Ky w g xs) : Bs w (some ⟨g, 0, none⟩) 32 32 xs := Bs.key h.1 h.2
theorem Ky.put {w : World} {g : Nat} {old xs : List UInt8} (h : Ky w g old) (hx : xs.length = 32) : Ky (w.setRow g (cellsOf xs).toArray) g xs := ⟨setRow_heap _ _ _ _ _ _ h.1, hx⟩
theorem Ky.new {w : World} {xs : List UInt8} (o : Array Value) (hx : xs.length = 32) : Ky ((w.alloc (.cells o 23)).setRow w.heap.size (cellsOf xs).toArray) w.heap.size xs := ⟨setRow_heap _ _ _ _ _ _ (heap_alloc_new _ _), hx⟩
theorem Ky.boxed (w : World) {xs : List UInt8} (hx : xs.length = 32) : Ky (w.alloc (.cells (cellsOf xs).toArray 23)) w.heap.size xs := ⟨heap_alloc_new _ _, hx⟩
theorem Ext.newRow (w : World) (o : Obj) (C : Array Value) : Ext w ((w.alloc o).setRow w.heap.size C) := below_setRow ((Ext.refl w).alloc _) (Nat.le_refl _) _
theorem conv_const (w : World) (C : Array Value) (n c : Nat) : (convert 35 35 (.slice (some ⟨w.heap.size, 0, none⟩) n c)).run Tryd.prog (w.alloc (.cells C 5)) = .ok (.slice (some ⟨w.heap.size, 0, none⟩) n c) (w.alloc (.cells C 5 (C.size, C.size + 1))) :=
  Lib.run_convert_bytes_const (P := Tryd.prog) w 35 5 C n c Tryd.underlying35 Tryd.underlying5
theorem key_alloc (w : World) : (zeroValue 23).run Tryd.prog w = .ok (.agg zeros32) w := by kernel_rfl
end Go.Proofs.YtbnjmmefnjoofaaDoor
