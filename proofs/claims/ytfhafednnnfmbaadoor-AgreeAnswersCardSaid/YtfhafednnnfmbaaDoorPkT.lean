import Derived.Test.YtfhafednnnfmbaaDoorPkU
import Derived.Laws.ResultCell
import Derived.Stop.BytesEq
import Derived.Lib.SlBytesConst
import Derived.Great.FillDense
import Derived.Deep.MidRow
import Derived.Deep.Upon
import Derived.Laws.StructEq
section
/-
  Whole arrays, read or written within a region; results that are an array and a number; composites. No conditions.
-/
namespace Go.Proofs.YtfhafednnnfmbaaDoor
open Go.ChangeShapes Go.WideShapes Go.ChangeAt Go.RowKit Go.Deep

theorem exec_load_row {P : Program} {o : Oper} {a : Act} {w : World} {ty : TypeId} {x : Operand} {g : Nat} {t : TypeId} {cs : Array Value} {fr : Nat × Nat} {d : TypeDesc} (ho : o.op = .load ty x) (hx : a.eval x = .pointer (some ⟨g, 0, none⟩)) (hg : w.heap[g]? = some (.cells cs t fr))
    (hu : P.underlying ty = some d) (hd : (match d with | .struct _ | .array _ _ => true | _ => false) = true) (hi : (P.info? ty).map (·.size) = some cs.size) : (execOp a.eval o).run P w = .ok (.value (.agg cs)) w := by
  unfold execOp
  simp only [ho, hx, Instr.loadAt, Instr.sureAddr, Sem.run_bind, Sem.run_pure, Result.andThen_ok, run_loadVar_row w g t ty cs fr d hg hu hd hi]

theorem results_row_tmp {P : Program} {fn : Func} {p u : Tmp} {ty : TypeId} (h : fn.results = #[.cell p ty, .tmp u]) (tmps : Array Value) (w : World) (g : Nat) (t : TypeId) (cs : Array Value) (fr : Nat × Nat) (d : TypeDesc) (v : Value)
    (hp : tmps.getD p undef = .pointer (some ⟨g, 0, none⟩)) (hv : tmps.getD u undef = v) (hg : w.heap[g]? = some (.cells cs t fr))
    (hu : P.underlying ty = some d) (hd : (match d with | .struct _ | .array _ _ => true | _ => false) = true) (hi : (P.info? ty).map (·.size) = some cs.size) :
    (results fn tmps).run P w = .ok (.tuple #[.agg cs, v]) w := by
  rw [results_cell_tmp h, hp, hv]
  simp only [asAddr, Sem.run_pure, Result.andThen_ok, run_loadVar_row w g t ty cs fr d hg hu hd hi]

theorem gen_q {F : Exit → Act → World → Prop} {x : Exit} {a : Act} {W : World} (ψ : World → Prop) (h1 : ψ W) (h2 : ∀ w1, ψ w1 → F x a w1) : F x a W := h2 W h1
/-- A composite whose cells are known under a name. -/
theorem wpList_build_as {P : Program} {ops : Array Oper} {rest : List Oper} {o : Oper} {a : Act} {w : World} {Q : Exit → Act → World → Prop} (hg : o.guard = none) (t : TypeId) (parts : Array (Nat × Operand)) (ho : o.op = .build t parts) (cells : Array Value)
    (hf : P.built t (parts.map fun (i, x) => (i, a.eval x)).toList = some cells) (h : wpList P ops Q rest (a.put o.dst (.agg cells)) w) : wpList P ops Q (o :: rest) a w :=
  wpList_build hg t parts ho (by rw [hf]; rfl) (by rw [hf]; exact h)
def zeros32 : Array Value := (List.replicate 32 (Value.int .u8 0)).toArray
theorem zeros32_size : zeros32.size = 32 := by simp [zeros32]
theorem zeros32_one : zeros32.all (·.oneCell') = true := by kernel_rfl
theorem zeros32_built : Tryd.prog.built 23 [] = some zeros32 := by kernel_rfl
theorem zeros32_cells : (cellsOf (List.replicate 32 0)).toArray = zeros32 := by kernel_rfl
end Go.Proofs.YtfhafednnnfmbaaDoor
end

section
/-
  Keys (32 bytes) are compared; whole arrays are read under a guard.
-/
namespace Go.Proofs.YtfhafednnnfmbaaDoor
open Go.ChangeShapes Go.WideShapes Go.ChangeAt Go.RowKit Go.Deep
set_option maxRecDepth 100000

theorem key_guard : Tryd.prog.eqGuardType Tryd.prog.depth 23 = false := by kernel_rfl
theorem cellsOf_cell (xs : List UInt8) : cellsOf xs = xs.map Extern.Stop.cell := by rw [cellsOf_map]; rfl
theorem key_equal {xs ys : List UInt8} (hx : xs.length = 32) (hy : ys.length = 32) (w : World) :
    (Op.equalIn 10000 23 (.agg (cellsOf xs).toArray) (.agg (cellsOf ys).toArray)).run Tryd.prog w = .ok (decide (xs = ys)) w := by
  rw [cellsOf_cell, cellsOf_cell, run_equalIn_bytes w 9998 23 5 32 rfl rfl (fun _ => rfl) xs ys hx hy]
  congr 1
  rw [Bool.eq_iff_iff]; simp
theorem exec_eql_key {o : Oper} {a : Act} {w : World} {x y : Operand} {t' : TypeId} {xs ys : List UInt8} (ho : o.op = .binOp .eql 23 x y t') (hx : a.eval x = .agg (cellsOf xs).toArray) (hy : a.eval y = .agg (cellsOf ys).toArray) (lx : xs.length = 32) (ly : ys.length = 32) :
    (execOp a.eval o).run Tryd.prog w = .ok (.value (.bool (decide (xs = ys)))) w := by
  unfold execOp
  simp only [ho, hx, hy, Sem.run_bind, run_eqGuard_agg _ _ _ _ _ _ _ key_guard, Result.andThen_ok, run_eql_struct, key_equal lx ly, Sem.run_pure]
theorem exec_neq_key {o : Oper} {a : Act} {w : World} {x y : Operand} {t' : TypeId} {xs ys : List UInt8} (ho : o.op = .binOp .neq 23 x y t') (hx : a.eval x = .agg (cellsOf xs).toArray) (hy : a.eval y = .agg (cellsOf ys).toArray) (lx : xs.length = 32) (ly : ys.length = 32) :
    (execOp a.eval o).run Tryd.prog w = .ok (.value (.bool (!decide (xs = ys)))) w := by
  unfold execOp
  simp only [ho, hx, hy, Sem.run_bind, run_eqGuard_agg _ _ _ _ _ _ _ key_guard, Result.andThen_ok, run_neq_struct, key_equal lx ly, Sem.run_pure]

section
variable {ops : Array Oper} {rest : List Oper} {o : Oper} {a : Act} {w : World} {Q : Exit → Act → World → Prop}
/-- What yields a value and leaves the world. -/
theorem wpList_exec {P : Program} {v : Value} (hw : Region.wanted o (yielded ops a.tmps) = true) (hr : (execOp a.eval o).run P w = .ok (.value v) w) (h : wpList P ops Q rest (a.put o.dst v) w) : wpList P ops Q (o :: rest) a w :=
  BigFrame.wpList_want hw fun K hK => by
    unfold Oper.wp
    rw [hr]
    exact hK _ _ h
theorem exec_build_as {P : Program} {t : TypeId} {parts : Array (Nat × Operand)} {cells : Array Value} (ho : o.op = .build t parts) (hf : P.built t (parts.map fun (i, x) => (i, a.eval x)).toList = some cells) : (execOp a.eval o).run P w = .ok (.value (.agg cells)) w := by
  unfold execOp
  simp only [ho, Sem.run_bind, run_build w t _ cells hf, Result.andThen_ok, Sem.run_pure]
theorem wpList_eql_key (hw : Region.wanted o (yielded ops a.tmps) = true) (x y : Operand) (t' : TypeId) (ho : o.op = .binOp .eql 23 x y t') (xs ys : List UInt8) (hx : a.eval x = .agg (cellsOf xs).toArray) (hy : a.eval y = .agg (cellsOf ys).toArray) (lx : xs.length = 32) (ly : ys.length = 32)
    (h : wpList Tryd.prog ops Q rest (a.put o.dst (.bool (decide (xs = ys)))) w) : wpList Tryd.prog ops Q (o :: rest) a w := wpList_exec hw (exec_eql_key ho hx hy lx ly) h
theorem wpList_eql_keyB (hw : Region.wanted o (yielded ops a.tmps) = true) (x y : Operand) (t' : TypeId) (ho : o.op = .binOp .eql 23 x y t') (xs ys : List UInt8) (b : Bool) (hb : decide (xs = ys) = b) (hx : a.eval x = .agg (cellsOf xs).toArray) (hy : a.eval y = .agg (cellsOf ys).toArray) (lx : xs.length = 32) (ly : ys.length = 32)
    (h : wpList Tryd.prog ops Q rest (a.put o.dst (.bool b)) w) : wpList Tryd.prog ops Q (o :: rest) a w := wpList_exec hw (hb ▸ exec_eql_key ho hx hy lx ly) h
theorem wpList_neq_keyB (hw : Region.wanted o (yielded ops a.tmps) = true) (x y : Operand) (t' : TypeId) (ho : o.op = .binOp .neq 23 x y t') (xs ys : List UInt8) (b : Bool) (hb : (!decide (xs = ys)) = b) (hx : a.eval x = .agg (cellsOf xs).toArray) (hy : a.eval y = .agg (cellsOf ys).toArray) (lx : xs.length = 32) (ly : ys.length = 32)
    (h : wpList Tryd.prog ops Q rest (a.put o.dst (.bool b)) w) : wpList Tryd.prog ops Q (o :: rest) a w := wpList_exec hw (hb ▸ exec_neq_key ho hx hy lx ly) h
theorem wpList_neq_key (hw : Region.wanted o (yielded ops a.tmps) = true) (x y : Operand) (t' : TypeId) (ho : o.op = .binOp .neq 23 x y t') (xs ys : List UInt8) (hx : a.eval x = .agg (cellsOf xs).toArray) (hy : a.eval y = .agg (cellsOf ys).toArray) (lx : xs.length = 32) (ly : ys.length = 32)
    (h : wpList Tryd.prog ops Q rest (a.put o.dst (.bool (!decide (xs = ys)))) w) : wpList Tryd.prog ops Q (o :: rest) a w := wpList_exec hw (exec_neq_key ho hx hy lx ly) h
theorem wpList_load_rowW {P : Program} (hw : Region.wanted o (yielded ops a.tmps) = true) (ty : TypeId) (x : Operand) (ho : o.op = .load ty x)
    (g : Nat) (hx : a.eval x = .pointer (some ⟨g, 0, none⟩)) (t : TypeId) (cs : Array Value) (fr : Nat × Nat) (d : TypeDesc) (hg : w.heap[g]? = some (.cells cs t fr))
    (hu : P.underlying ty = some d) (hd : (match d with | .struct _ | .array _ _ => true | _ => false) = true) (hi : (P.info? ty).map (·.size) = some cs.size)
    (h : wpList P ops Q rest (a.put o.dst (.agg cs)) w) : wpList P ops Q (o :: rest) a w := wpList_exec hw (exec_load_row ho hx hg hu hd hi) h
end

/-- A slice of a whole block. -/
theorem Bs.of_list {w : World} {g n : Nat} {t : TypeId} {fr : Nat × Nat} {cs : Array Value} {xs : List UInt8} (hc : cs = (cellsOf xs).toArray) (h : w.heap[g]? = some (.cells cs t fr)) (hn : xs.length = n ∧ n ≤ 1000000) : Bs w (some ⟨g, 0, none⟩) n n xs := by
  subst hc
  have := Bs.part h (o := 0) (n := n) (c := n) (by omega) (by omega) (by omega)
  rw [List.drop_zero, List.take_of_length_le (by omega)] at this
  exact this
/-- Block g is a key's. -/
def Ky (w : World) (g : Nat) (xs : List UInt8) : Prop := w.heap[g]? = some (.cells (cellsOf xs).toArray 23 (0, 0)) ∧ xs.length = 32
theorem Ky.ext {w w' : World} {g : Nat} {xs : List UInt8} (h : Ky w g xs) (e : Ext w w') : Ky w' g xs := ⟨(e.block g (heap_lt h.1)).trans h.1, h.2⟩
theorem Ky.size {w : World} {g : Nat} {xs : List UInt8} (h : Ky w g xs) : (cellsOf xs).toArray.size = 32 := by simp [cellsOf_len, h.2]
theorem Ky.cell {w : World} {g : Nat} {xs : List UInt8} (h : Ky w g xs) {j : Nat} (hj : j < 32) : w.cell? ⟨g, j, none⟩ = some (.int .u8 (bt xs j : Int)) := by
  rw [cell_of_row w g j _ _ (0, 0) h.1]
  have := cellsOf_get (xs := xs) (j := j) (by rw [h.2]; exact hj)
  simpa using this
theorem Ky.frozen {w : World} {g : Nat} {xs : List UInt8} (h : Ky w g xs) (j : Nat) : w.frozen? ⟨g, j, none⟩ = false := frozen_of_row w g j _ _ h.1
theorem Ky.bs {w : World} {g : Nat} {xs : List UInt8} (h : Ky w g xs) : Bs w (some ⟨g, 0, none⟩) 32 32 xs := Bs.key h.1 h.2
theorem Ky.put {w : World} {g : Nat} {old xs : List UInt8} (h : Ky w g old) (hx : xs.length = 32) : Ky (w.setRow g (cellsOf xs).toArray) g xs := ⟨setRow_heap _ _ _ _ _ _ h.1, hx⟩
theorem Ky.new {w : World} {xs : List UInt8} (o : Array Value) (hx : xs.length = 32) : Ky ((w.alloc (.cells o 23)).setRow w.heap.size (cellsOf xs).toArray) w.heap.size xs := ⟨setRow_heap _ _ _ _ _ _ (heap_alloc_new _ _), hx⟩
theorem Ky.boxed (w : World) {xs : List UInt8} (hx : xs.length = 32) : Ky (w.alloc (.cells (cellsOf xs).toArray 23)) w.heap.size xs := ⟨heap_alloc_new _ _, hx⟩
theorem Ext.newRow (w : World) (o : Obj) (C : Array Value) : Ext w ((w.alloc o).setRow w.heap.size C) := below_setRow ((Ext.refl w).alloc _) (Nat.le_refl _) _
theorem conv_const (w : World) (C : Array Value) (n c : Nat) : (convert 45 45 (.slice (some ⟨w.heap.size, 0, none⟩) n c)).run Tryd.prog (w.alloc (.cells C 5)) = .ok (.slice (some ⟨w.heap.size, 0, none⟩) n c) (w.alloc (.cells C 5 (C.size, C.size + 1))) :=
  Lib.run_convert_bytes_const (P := Tryd.prog) w 45 5 C n c Tryd.underlying45 Tryd.underlying5
theorem key_alloc (w : World) : (zeroValue 23).run Tryd.prog w = .ok (.agg zeros32) w := by kernel_rfl
end Go.Proofs.YtfhafednnnfmbaaDoor
end

section
/-
  A struct of two parts is laid of its parts. No conditions.
-/
namespace Go.Proofs.YtfhafednnnfmbaaDoor
open Go.ChangeShapes Go.WideShapes Go.ChangeAt Go.RowKit Go.Deep

theorem fold_cells (off : Nat) (v : Array Value) (cs : Array Value) : v.zipIdx.foldl (fun cs (c, j) => cs.setIfInBounds (off + j) c) cs = (v.toList.zipIdx 0).foldl (fun cs (x : Value × Nat) => cs.setIfInBounds (off + x.2) x.1) cs := by
  rw [← Array.foldl_toList, Array.toList_zipIdx]
theorem fill_two {p q : Nat} {K L Z : Array Value} (pl : Nat → Option (Nat × Nat)) (h0 : pl 0 = some (0, p)) (h1 : pl 1 = some (p, q)) (hK : K.size = p) (hL : L.size = q) (hZ : Z.size = p + q) : Instr.fill pl Z [(0, .agg K), (1, .agg L)] = some (K ++ L) := by
  have c0 : (Value.agg K).cells = K := rfl
  have c1 : (Value.agg L).cells = L := rfl
  obtain ⟨g1, g2⟩ := Great.foldl_set 0 K.toList 0 Z
  obtain ⟨g3, g4⟩ := Great.foldl_set p L.toList 0 ((K.toList.zipIdx 0).foldl (fun cs (x : Value × Nat) => cs.setIfInBounds (0 + x.2) x.1) Z)
  unfold Instr.fill
  simp only [h0, c0, hK]
  rw [if_neg (by simp; omega)]
  unfold Instr.fill
  simp only [h1, c1, hL]
  rw [if_neg (by rw [fold_cells, g1]; simp; omega)]
  unfold Instr.fill
  rw [fold_cells, fold_cells]
  congr 1
  apply Array.ext_getElem?
  intro k
  rw [g4 k, g2 k, g1]
  simp only [Nat.add_zero, Nat.zero_add, Nat.zero_le, true_and, Array.length_toList, hK, hL, hZ, Nat.sub_zero]
  by_cases a : k < p
  · rw [if_neg (by omega), if_pos ⟨a, by omega⟩, Array.getElem?_append_left (by omega)]
    simp
  · by_cases b : k < p + q
    · rw [if_pos ⟨by omega, b, b⟩, Array.getElem?_append_right (by omega), hK]
      simp
    · rw [if_neg (by omega), if_neg (by omega), Array.getElem?_eq_none (by omega), Array.getElem?_eq_none (by rw [Array.size_append]; omega)]
end Go.Proofs.YtfhafednnnfmbaaDoor
end

section
/-
  An array in the midst of a block is read.
-/
namespace Go.Proofs.YtfhafednnnfmbaaDoor
open Go.ChangeShapes Go.WideShapes Go.ChangeAt Go.RowKit Go.Deep

/-- An array in the midst of a block. -/
theorem exec_load_mid {P : Program} {o : Oper} {a : Act} {w : World} {ty : TypeId} {x : Operand} {g off : Nat} {ys : List Value} {d : TypeDesc} (ho : o.op = .load ty x) (hx : a.eval x = .pointer (some ⟨g, off, none⟩)) (hc : ∀ j v, ys[j]? = some v → w.cell? ⟨g, off + j, none⟩ = some v)
    (hu : P.underlying ty = some d) (hd : (match d with | .struct _ | .array _ _ => true | _ => false) = true) (hi : (P.info? ty).map (·.size) = some ys.length) : (execOp a.eval o).run P w = .ok (.value (.agg ys.toArray)) w := by
  have hl : (loadCells ⟨g, off, none⟩ ys.length).run P w = .ok ys.toArray w := run_loadCells_list (P := P) w ⟨g, off, none⟩ ys (fun j v hv => by
    have hadd : (⟨g, off, none⟩ : Addr).add j = ⟨g, off + j, none⟩ := by unfold Addr.add; split <;> simp_all
    rw [hadd]
    exact hc j v hv)
  have hv : (loadVar ty ⟨g, off, none⟩).run P w = .ok (.agg ys.toArray) w := by
    cases hq : P.info? ty with
    | none => simp [hq] at hi
    | some i =>
      have hs : i.size = ys.length := by simpa [hq] using hi
      have hagg : (isAgg ty).run P w = .ok true w := by
        unfold isAgg
        rw [Sem.run_bind, run_underlying hu w]
        cases d <;> simp_all
      simp [loadVar, Sem.run_bind, hagg, sizeOf, typeInfo, hq, hs, hl]
  unfold execOp
  simp only [ho, hx, Instr.loadAt, Instr.sureAddr, Sem.run_bind, Sem.run_pure, Result.andThen_ok, hv]

theorem wpList_load_mid {P : Program} {ops : Array Oper} {rest : List Oper} {o : Oper} {a : Act} {w : World} {Q : Exit → Act → World → Prop} (hw : Region.wanted o (yielded ops a.tmps) = true) {ty : TypeId} {x : Operand} {g off : Nat} {ys : List Value} {d : TypeDesc} (ho : o.op = .load ty x) (hx : a.eval x = .pointer (some ⟨g, off, none⟩)) (hc : ∀ j v, ys[j]? = some v → w.cell? ⟨g, off + j, none⟩ = some v)
    (hu : P.underlying ty = some d) (hd : (match d with | .struct _ | .array _ _ => true | _ => false) = true) (hi : (P.info? ty).map (·.size) = some ys.length) (h : wpList P ops Q rest (a.put o.dst (.agg ys.toArray)) w) : wpList P ops Q (o :: rest) a w :=
  wpList_exec hw (exec_load_mid ho hx hc hu hd hi) h
theorem exec_eql_keyB {o : Oper} {a : Act} {w : World} {x y : Operand} {t' : TypeId} {xs ys : List UInt8} {b : Bool} (hb : decide (xs = ys) = b) (lx : xs.length = 32) (ly : ys.length = 32) (ho : o.op = .binOp .eql 23 x y t') (hx : a.eval x = .agg (cellsOf xs).toArray) (hy : a.eval y = .agg (cellsOf ys).toArray) :
    (execOp a.eval o).run Tryd.prog w = .ok (.value (.bool b)) w := hb ▸ exec_eql_key ho hx hy lx ly
theorem exec_neq_keyB {o : Oper} {a : Act} {w : World} {x y : Operand} {t' : TypeId} {xs ys : List UInt8} {b : Bool} (hb : (!decide (xs = ys)) = b) (lx : xs.length = 32) (ly : ys.length = 32) (ho : o.op = .binOp .neq 23 x y t') (hx : a.eval x = .agg (cellsOf xs).toArray) (hy : a.eval y = .agg (cellsOf ys).toArray) :
    (execOp a.eval o).run Tryd.prog w = .ok (.value (.bool b)) w := hb ▸ exec_neq_key ho hx hy lx ly
end Go.Proofs.YtfhafednnnfmbaaDoor
end

section
/-
  Cells stored into the midst of a block whose cells are known. No conditions.
-/
namespace Go.Proofs.YtfhafednnnfmbaaDoor
open Go.ChangeShapes Go.WideShapes Go.ChangeAt Go.RowKit Go.Deep

theorem splice_cons {α : Type} (L : List α) (o : Nat) (v : α) (r : List α) (h : o < L.length) : splice (L.set o v) (o + 1) r = splice L o (v :: r) := by
  unfold splice
  rw [List.take_set, List.drop_set, if_pos (by omega)]
  have e : (L.take (o + 1)).set o v = L.take o ++ [v] := by
    apply List.ext_getElem?
    intro i
    rw [List.getElem?_set]
    by_cases hi : o = i
    · subst hi
      rw [if_pos rfl, if_pos (by simp; omega), List.getElem?_append_right (by rw [List.length_take]; omega), List.length_take]
      simp [show min o L.length = o by omega]
    · rw [if_neg hi]
      by_cases h2 : i < o
      · rw [List.getElem?_append_left (by simp; omega), List.getElem?_take, List.getElem?_take, if_pos (by omega), if_pos h2]
      · rw [List.getElem?_take, if_neg (by omega), List.getElem?_eq_none (by simp; omega)]
  rw [e, List.append_assoc, show o + 1 + r.length = o + (v :: r).length by simp; omega]
  rfl
theorem heap_setCells_row {g : Nat} {t : TypeId} {fr : Nat × Nat} : ∀ (vs : List Value) (o : Nat) (w : World) (A : List Value), w.heap[g]? = some (.cells A.toArray t fr) → o + vs.length ≤ A.length → (w.setCells g o vs).heap[g]? = some (.cells (splice A o vs).toArray t fr)
  | [], o, w, A, h, hl => by
    have : splice A o [] = A := by simp [splice]
    rw [this]; exact h
  | v :: r, o, w, A, h, hl => by
    have h1 : (w.setCell ⟨g, o, none⟩ v).heap[g]? = some (.cells (A.set o v).toArray t fr) := by
      simp [World.setCell, Array.getElem?_modify, h]
    have := heap_setCells_row r (o + 1) _ (A.set o v) h1 (by simp at hl ⊢; omega)
    rw [splice_cons A o v r (by simp at hl; omega)] at this
    exact this
theorem there_of_row {w : World} {g o n : Nat} {A : List Value} {t : TypeId} (h : w.heap[g]? = some (.cells A.toArray t (0, 0))) (hl : o + n ≤ A.length) : w.there g o n := fun j hj => by
  refine ⟨?_, frozen_of_row w g _ _ _ h⟩
  rw [cell_of_row w g _ _ _ _ h]
  simp
  omega
theorem grown_setCells {w : World} {g o : Nat} {vs : List Value} : w.grownBy (w.setCells g o vs) (some g) := by
  have hk := World.keptBut_setCells g (may := fun _ => True) vs o w (fun _ _ => trivial)
  refine ⟨hk.1, ?_, hk.2.1, ?_, fun i hi hne => World.heap_setCells_other w g o vs hi (fun e => hne (by rw [e]))⟩
  · clear hk
    induction vs generalizing o w with
    | nil => rfl
    | cons v r ih => exact (ih (o := o + 1) (w := w.setCell ⟨g, o, none⟩ v)).trans rfl
  · clear hk
    induction vs generalizing o w with
    | nil => exact Nat.le_refl _
    | cons v r ih => exact Nat.le_trans (by simp [World.setCell]) (ih (o := o + 1) (w := w.setCell ⟨g, o, none⟩ v))
theorem grown_trans' {a b c : World} {r : Option Nat} (h : a.grownBy b r) (k : b.grownBy c r) : a.grownBy c r :=
  ⟨k.os.trans h.os, k.tape.trans h.tape, k.output.trans h.output, Nat.le_trans h.size k.size, fun i hi hne => (k.block i (Nat.lt_of_lt_of_le hi h.size) hne).trans (h.block i hi hne)⟩
theorem below_grown {a b : World} {g : Nat} (hg : g < a.heap.size) (h : a.grownBy b (some g)) : Below g a b :=
  ⟨h.os, h.tape, h.output, h.size, fun i hi => h.block i (Nat.lt_trans hi hg) (fun q => by cases q; exact Nat.lt_irrefl _ hi)⟩
end Go.Proofs.YtfhafednnnfmbaaDoor
end

section
/-
  A struct is laid part by part; parts of a block of bytes are read. No conditions.
-/
namespace Go.Proofs.YtfhafednnnfmbaaDoor
open Go.ChangeShapes Go.WideShapes Go.ChangeAt Go.RowKit Go.Deep
set_option maxRecDepth 100000

theorem splice_at {α : Type} {L cs : List α} {off : Nat} (h : off + cs.length ≤ L.length) (k : Nat) : (splice L off cs)[k]? = if off ≤ k ∧ k < off + cs.length then cs[k - off]? else L[k]? := by
  unfold splice
  by_cases h1 : k < off
  · rw [List.getElem?_append_left (by simp; omega), List.getElem?_take, if_pos h1, if_neg (by omega)]
  · rw [List.getElem?_append_right (by simp; omega), List.length_take, Nat.min_eq_left (by omega)]
    by_cases h2 : k < off + cs.length
    · rw [List.getElem?_append_left (by omega), if_pos (by omega)]
    · rw [List.getElem?_append_right (by omega), List.getElem?_drop, if_neg (by omega)]
      congr 1
      omega
theorem fill_step {pl : Nat → Option (Nat × Nat)} {i off n : Nat} {v : Value} {ps : List (Nat × Value)} {Z : List Value} (h : pl i = some (off, n)) (hv : v.cells.size = n) (hz : off + n ≤ Z.length) :
    Instr.fill pl Z.toArray ((i, v) :: ps) = Instr.fill pl (splice Z off v.cells.toList).toArray ps := by
  conv => lhs; unfold Instr.fill
  simp only [h, hv]
  rw [if_neg (by simp; omega), fold_cells]
  congr 1
  obtain ⟨_, g2⟩ := Great.foldl_set off v.cells.toList 0 Z.toArray
  apply Array.ext_getElem?
  intro k
  rw [g2]
  simp only [List.getElem?_toArray]
  rw [splice_at (by simp [hv]; omega)]
  simp only [Nat.add_zero, Array.length_toList, hv, List.size_toArray, List.getElem?_toArray, Array.getElem?_toList]
  by_cases hk : off ≤ k ∧ k < off + n
  · rw [if_pos ⟨hk.1, hk.2, by omega⟩, if_pos hk]
  · rw [if_neg (fun q => hk ⟨q.1, q.2.1⟩), if_neg hk]
theorem splice_mid {α : Type} {p y q z : List α} {off : Nat} (hp : p.length = off) (hl : y.length = z.length) : splice (p ++ (y ++ q)) off z = p ++ (z ++ q) := by
  unfold splice
  rw [List.take_left' hp]
  congr 2
  rw [← hl, ← List.append_assoc, List.drop_left' (by rw [List.length_append, hp])]
theorem splice_zero {α : Type} {y q z : List α} (hl : y.length = z.length) : splice (y ++ q) 0 z = z ++ q := splice_mid (p := []) rfl hl
theorem cells_agg (K : Array Value) : (Value.agg K).cells = K := rfl
theorem cells_bool (b : Bool) : (Value.bool b).cells = #[.bool b] := rfl
theorem cellsOf_app (xs ys : List UInt8) : cellsOf (xs ++ ys) = cellsOf xs ++ cellsOf ys := by rw [cellsOf_map, cellsOf_map, cellsOf_map, List.map_append]

/-- Block g has these cells. -/
def Cb (w : World) (g : Nat) (T : TypeId) (L : List Value) : Prop := w.heap[g]? = some (.cells L.toArray T (0, 0))
section
variable {w w' : World} {g : Nat} {T : TypeId} {L : List Value}
theorem Cb.lt (h : Cb w g T L) : g < w.heap.size := heap_lt h
theorem Cb.ext (h : Cb w g T L) (e : Ext w w') : Cb w' g T L := (e.block g (heap_lt h)).trans h
theorem Cb.kept {B : Nat} (h : Cb w g T L) (e : Below B w w') (hB : g < B) : Cb w' g T L := (e.block g hB).trans h
theorem Cb.frozen (h : Cb w g T L) (j : Nat) : w.frozen? ⟨g, j, none⟩ = false := frozen_of_row w g j _ _ h
theorem Cb.cell (h : Cb w g T L) {j : Nat} {v : Value} (hv : L[j]? = some v) : w.cell? ⟨g, j, none⟩ = some v := by rw [cell_of_row w g _ _ _ _ h, List.getElem?_toArray, hv]
/-- A part of it. -/
theorem Cb.mid (h : Cb w g T L) {p y q : List Value} {off : Nat} (hL : L = p ++ (y ++ q)) (hp : p.length = off) : ∀ j v, y[j]? = some v → w.cell? ⟨g, off + j, none⟩ = some v := fun j v hv => h.cell (by
  rw [hL, List.getElem?_append_right (by omega), hp, Nat.add_sub_cancel_left, List.getElem?_append_left (List.getElem?_eq_some_iff.1 hv).1, hv])
theorem Cb.put (h : Cb w g T L) {p y q z : List Value} {off : Nat} (hL : L = p ++ (y ++ q)) (hp : p.length = off) (hl : y.length = z.length) : Cb (w.setCells g off z) g T (p ++ (z ++ q)) := by
  have := heap_setCells_row z off w L h (by rw [hL]; simp; omega)
  rwa [hL, splice_mid hp hl] at this
theorem Cb.there (h : Cb w g T L) {o n : Nat} (hl : o + n ≤ L.length) : w.there g o n := there_of_row h hl
theorem Cb.row (h : Cb w g T L) {r : Nat} {C : Array Value} (hne : g ≠ r) : Cb (w.setRow r C) g T L := (setRow_other _ _ _ _ hne).trans h
theorem Cb.new (w : World) (T : TypeId) (L : List Value) : Cb (w.alloc (.cells L.toArray T)) w.heap.size T L := heap_alloc_new _ _
theorem Cb.set {L' : List Value} (h : Cb w g T L) : Cb (w.setRow g L'.toArray) g T L' := setRow_heap _ _ _ _ _ _ h
theorem Cb.setCell (h : Cb w g T L) {o : Nat} {v : Value} : Cb (w.setCell ⟨g, o, none⟩ v) g T (L.set o v) := by
  unfold Cb at *
  simp [World.setCell, Array.getElem?_modify, h]
end
theorem one_cells {L : List Value} (h : ∀ v ∈ L, v.oneCell' = true) : L.toArray.all (·.oneCell') = true := by
  simp only [List.all_toArray, List.all_eq_true]
  exact h
theorem one_mem (xs : List UInt8) : ∀ v ∈ cellsOf xs, v.oneCell' = true := fun v hv => by
  simp only [cellsOf, List.mem_map] at hv
  obtain ⟨j, _, rfl⟩ := hv
  rfl
end Go.Proofs.YtfhafednnnfmbaaDoor
end

section
/-
  What is known of the type of keys. No conditions.
-/
namespace Go.Proofs.YtfhafednnnfmbaaDoor
open Go.ChangeShapes Go.WideShapes Go.ChangeAt Go.RowKit Go.Deep

theorem infoK : (Tryd.prog.info? 23).map (fun i => (i.zero, i.size, i.bytes)) = some (some (.agg zeros32), 32, 32) := by kernel_rfl
end Go.Proofs.YtfhafednnnfmbaaDoor
end

section
/-
  api.Pair: two keys, as 64 bytes; laid of its parts, compared, read.
-/
namespace Go.Proofs.YtfhafednnnfmbaaDoor
open Go.ChangeShapes Go.WideShapes Go.ChangeAt Go.RowKit Go.Deep
set_option maxRecDepth 100000

def Z64p : Array Value := (cellsOf (List.replicate 64 0)).toArray
theorem Z64p_size : Z64p.size = 64 := by simp [Z64p, cellsOf_len]
theorem apair_alloc (w : World) : (zeroValue 25).run Tryd.prog w = .ok (.agg (cellsOf (List.replicate 64 0)).toArray) w := by kernel_rfl
theorem apair_zero : Tryd.prog.built 25 [] = some (cellsOf (List.replicate 64 0)).toArray := by kernel_rfl
theorem apair_built {xs ys : List UInt8} (hx : xs.length = 32) (hy : ys.length = 32) : Tryd.prog.built 25 [(0, .agg (cellsOf xs).toArray), (1, .agg (cellsOf ys).toArray)] = some (cellsOf (xs ++ ys)).toArray := by
  have h : ∃ pl : Nat → Option (Nat × Nat), pl 0 = some (0, 32) ∧ pl 1 = some (32, 32) ∧ ∀ ps, Tryd.prog.built 25 ps = Instr.fill pl Z64p ps := ⟨(#[(0, 32), (32, 32)][·]?), rfl, rfl, fun ps => by kernel_rfl⟩
  obtain ⟨pl, h0, h1, h2⟩ := h
  rw [h2, fill_two pl h0 h1 (by simp [cellsOf_len, hx]) (by simp [cellsOf_len, hy]) Z64p_size, cellsOf_app, List.append_toArray]
theorem part_key0 {w : World} {K : Array Value} {off : Nat} : (part 23 K off).run Tryd.prog w = .ok (.agg (K.extract off (off + 32))) w := by
  obtain ⟨i, hi, hz0, hz1, hz2⟩ := info_parts infoK
  simp [part, isAgg, run_underlying Tryd.underlying23, sizeOf, typeInfo, hi, hz1]
theorem key_equal1 {d : Nat} {xs ys : List UInt8} (hx : xs.length = 32) (hy : ys.length = 32) (w : World) :
    (Op.equalIn (d + 2) 23 (.agg (cellsOf xs).toArray) (.agg (cellsOf ys).toArray)).run Tryd.prog w = .ok (decide (xs = ys)) w := by
  rw [cellsOf_cell, cellsOf_cell, run_equalIn_bytes w d 23 5 32 rfl rfl (fun _ => rfl) xs ys hx hy]
  congr 1
  rw [Bool.eq_iff_iff]; simp
theorem apair_fields : ∃ f g : Field, (Tryd.prog.fieldsOf 25).toList = [f, g] ∧ (f.type = 23 ∧ f.offset = 0 ∧ f.name ≠ "_") ∧ (g.type = 23 ∧ g.offset = 32 ∧ g.name ≠ "_") := by
  have h : ((Tryd.prog.fieldsOf 25).toList.map fun f => (f.name, f.type, f.offset)) = [("Secret", 23, 0), ("Public", 23, 32)] := by kernel_rfl
  match hl : (Tryd.prog.fieldsOf 25).toList with
  | [] => rw [hl] at h; simp at h
  | [f] => rw [hl] at h; simp at h
  | [f, g] =>
    rw [hl] at h
    simp only [List.map_cons, List.map_nil, List.cons.injEq, and_true, Prod.mk.injEq] at h
    exact ⟨f, g, rfl, ⟨h.1.2.1, h.1.2.2, by rw [h.1.1]; decide⟩, h.2.2.1, h.2.2.2, by rw [h.2.1]; decide⟩
  | f :: g :: e :: r => rw [hl] at h; simp at h
theorem ext_lo {xs ys : List UInt8} (hx : xs.length = 32) : (cellsOf (xs ++ ys)).toArray.extract 0 (0 + 32) = (cellsOf xs).toArray := by
  rw [cellsOf_app, List.extract_toArray, List.extract, List.drop_zero, List.take_left' (by simp [cellsOf_len, hx])]
theorem ext_hi {xs ys : List UInt8} (hx : xs.length = 32) (hy : ys.length = 32) : (cellsOf (xs ++ ys)).toArray.extract 32 (32 + 32) = (cellsOf ys).toArray := by
  rw [cellsOf_app, List.extract_toArray, List.extract, List.drop_left' (by simp [cellsOf_len, hx]), List.take_of_length_le (by simp [cellsOf_len, hy])]
theorem apair_equal {a b c d : List UInt8} (ha : a.length = 32) (hb : b.length = 32) (hc : c.length = 32) (hd : d.length = 32) (w : World) :
    (Op.equalIn 10000 25 (.agg (cellsOf (a ++ b)).toArray) (.agg (cellsOf (c ++ d)).toArray)).run Tryd.prog w = .ok (decide (a ++ b = c ++ d)) w := by
  obtain ⟨f, g, hf, ⟨ht, ho, hn⟩, gt, go, gn⟩ := apair_fields
  rw [run_equalIn_struct w 9999 25 _ _ (by kernel_rfl) (by kernel_rfl), hf]
  simp only [Op.eqFields, ht, ho, if_pos hn, gt, go, if_pos gn, Sem.run_bind, part_key0, Result.andThen_ok, ext_lo ha, ext_lo hc, ext_hi ha hb, ext_hi hc hd, key_equal1 (d := 9997) ha hc, key_equal1 (d := 9997) hb hd]
  have e : (a ++ b = c ++ d) ↔ (a = c ∧ b = d) := ⟨fun h => List.append_inj h (by rw [ha, hc]), fun h => by rw [h.1, h.2]⟩
  by_cases h1 : a = c
  · rw [decide_eq_true h1]
    simp only [Bool.not_true, Bool.false_eq_true, if_false, Sem.run_bind, part_key0, Result.andThen_ok, ext_hi ha hb, ext_hi hc hd, key_equal1 (d := 9997) hb hd]
    by_cases h2 : b = d
    · rw [decide_eq_true h2, decide_eq_true (e.2 ⟨h1, h2⟩)]; rfl
    · rw [decide_eq_false h2, decide_eq_false (fun h => h2 (e.1 h).2)]; rfl
  · rw [decide_eq_false h1, decide_eq_false (fun h => h1 (e.1 h).1)]; rfl
theorem apair_guard : Tryd.prog.eqGuardType Tryd.prog.depth 25 = false := by kernel_rfl
theorem split64 {xs : List UInt8} (h : xs.length = 64) : ∃ a b, xs = a ++ b ∧ a.length = 32 ∧ b.length = 32 := ⟨xs.take 32, xs.drop 32, (List.take_append_drop 32 xs).symm, by simp [h], by simp [h]⟩
theorem exec_eql_pairB {o : Oper} {a : Act} {w : World} {x y : Operand} {t' : TypeId} {xs ys : List UInt8} {b : Bool} (hb : decide (xs = ys) = b) (lx : xs.length = 64) (ly : ys.length = 64) (ho : o.op = .binOp .eql 25 x y t') (hx : a.eval x = .agg (cellsOf xs).toArray) (hy : a.eval y = .agg (cellsOf ys).toArray) :
    (execOp a.eval o).run Tryd.prog w = .ok (.value (.bool b)) w := by
  obtain ⟨p, q, rfl, hp, hq⟩ := split64 lx
  obtain ⟨r, s, rfl, hr, hs⟩ := split64 ly
  unfold execOp
  simp only [ho, hx, hy, Sem.run_bind, run_eqGuard_agg _ _ _ _ _ _ _ apair_guard, Result.andThen_ok, run_eql_struct, apair_equal hp hq hr hs, Sem.run_pure, hb]
theorem exec_neq_pairB {o : Oper} {a : Act} {w : World} {x y : Operand} {t' : TypeId} {xs ys : List UInt8} {b : Bool} (hb : (!decide (xs = ys)) = b) (lx : xs.length = 64) (ly : ys.length = 64) (ho : o.op = .binOp .neq 25 x y t') (hx : a.eval x = .agg (cellsOf xs).toArray) (hy : a.eval y = .agg (cellsOf ys).toArray) :
    (execOp a.eval o).run Tryd.prog w = .ok (.value (.bool b)) w := by
  obtain ⟨p, q, rfl, hp, hq⟩ := split64 lx
  obtain ⟨r, s, rfl, hr, hs⟩ := split64 ly
  unfold execOp
  simp only [ho, hx, hy, Sem.run_bind, run_eqGuard_agg _ _ _ _ _ _ _ apair_guard, Result.andThen_ok, run_neq_struct, apair_equal hp hq hr hs, Sem.run_pure, hb]

/-- Block g holds a pair. -/
def Kp (w : World) (g : Nat) (xs : List UInt8) : Prop := w.heap[g]? = some (.cells (cellsOf xs).toArray 25 (0, 0)) ∧ xs.length = 64
section
variable {w w' : World} {g : Nat} {xs ys : List UInt8}
theorem Kp.lt (h : Kp w g xs) : g < w.heap.size := heap_lt h.1
theorem Kp.ext (h : Kp w g xs) (e : Ext w w') : Kp w' g xs := ⟨(e.block g h.lt).trans h.1, h.2⟩
theorem Kp.other {h' : Nat} (h : Kp w g xs) (k : w.grownBy w' (some h')) (hne : g ≠ h') : Kp w' g xs := ⟨(k.block g h.lt (fun e => hne (Option.some.inj e))).trans h.1, h.2⟩
theorem Kp.at0 (h : Kp w g (xs ++ ys)) : ∀ j v, (cellsOf xs)[j]? = some v → w.cell? ⟨g, 0 + j, none⟩ = some v := fun j v hv => by
  rw [cell_of_row w g _ _ _ _ h.1, List.getElem?_toArray, cellsOf_app, Nat.zero_add, List.getElem?_append_left (List.getElem?_eq_some_iff.1 hv).1, hv]
theorem Kp.at32 (h : Kp w g (xs ++ ys)) (hx : xs.length = 32) : ∀ j v, (cellsOf ys)[j]? = some v → w.cell? ⟨g, 32 + j, none⟩ = some v := fun j v hv => by
  rw [cell_of_row w g _ _ _ _ h.1, List.getElem?_toArray, cellsOf_app, List.getElem?_append_right (by simp [cellsOf_len, hx]), cellsOf_len, hx, Nat.add_sub_cancel_left, hv]
end
end Go.Proofs.YtfhafednnnfmbaaDoor
end

section
/-
  Numbers as limbs of 32 bits: sums, differences, products. No conditions.
-/
namespace Go.Proofs.YtfhafednnnfmbaaDoor

/-- The i-th limb of a number. -/
def lb (x i : Nat) : Nat := x / 4294967296 ^ i % 4294967296
def lbs (n x : Nat) : List Nat := (List.range n).map (lb x)
theorem lb_lt (x i : Nat) : lb x i < 4294967296 := Nat.mod_lt _ (by decide)
theorem lbs_len (n x : Nat) : (lbs n x).length = n := by simp [lbs]
theorem wd_lbs {n x i : Nat} (h : i < n) : wd (lbs n x) i = lb x i := by simp [wd, lbs, List.getD, h]
theorem div_step (x i : Nat) : x / 4294967296 ^ (i + 1) = x / 4294967296 ^ i / 4294967296 := by rw [Nat.pow_succ, Nat.div_div_eq_div_mul]
/-- What is carried into the i-th limb of a sum. -/
def cA (x y : Nat) : Nat → Nat
  | 0 => 0
  | i + 1 => (lb x i + lb y i + cA x y i) / 4294967296
theorem cA_le (x y : Nat) : ∀ i, cA x y i ≤ 1
  | 0 => Nat.zero_le _
  | i + 1 => by have := cA_le x y i; have h1 := lb_lt x i; have h2 := lb_lt y i; rw [cA]; omega
theorem add_div (x y : Nat) : ∀ i, (x + y) / 4294967296 ^ i = x / 4294967296 ^ i + y / 4294967296 ^ i + cA x y i
  | 0 => by simp [cA]
  | i + 1 => by
    rw [div_step, add_div x y i, div_step x, div_step y, cA]
    unfold lb
    generalize x / 4294967296 ^ i = X
    generalize y / 4294967296 ^ i = Y
    generalize cA x y i = c
    omega
theorem lb_add (x y i : Nat) : lb (x + y) i = (lb x i + lb y i + cA x y i) % 4294967296 := by
  unfold lb
  rw [add_div]
  generalize x / 4294967296 ^ i = X
  generalize y / 4294967296 ^ i = Y
  generalize cA x y i = c
  omega
/-- What is borrowed from the i-th limb of a difference. -/
def bS (x y : Nat) : Nat → Nat
  | 0 => 0
  | i + 1 => if lb x i < lb y i + bS x y i then 1 else 0
theorem bS_le (x y : Nat) : ∀ i, bS x y i ≤ 1
  | 0 => Nat.zero_le _
  | i + 1 => by rw [bS]; split <;> omega
theorem sub_div {x y : Nat} (hy : y < 4294967296 ^ 8) : ∀ k i, i + k = 8 → (x + 4294967296 ^ 8 - y) / 4294967296 ^ i + y / 4294967296 ^ i + bS x y i = x / 4294967296 ^ i + 4294967296 ^ k
  | k, 0, h => by
    obtain rfl : k = 8 := by omega
    simp only [Nat.pow_zero, Nat.div_one, bS]
    generalize 4294967296 ^ 8 = M at *
    omega
  | k, i + 1, h => by
    have ih := sub_div (x := x) hy (k + 1) i (by omega)
    have hb := bS_le x y i
    rw [show (4294967296 : Nat) ^ (k + 1) = 4294967296 ^ k * 4294967296 from Nat.pow_succ _ _] at ih
    rw [div_step, div_step x, div_step y, bS]
    unfold lb
    generalize (x + 4294967296 ^ 8 - y) / 4294967296 ^ i = D at *
    generalize x / 4294967296 ^ i = X at *
    generalize y / 4294967296 ^ i = Y at *
    generalize bS x y i = b at *
    obtain ⟨M, hM⟩ : ∃ M, M = 4294967296 ^ k := ⟨_, rfl⟩
    rw [← hM] at ih ⊢
    clear hM hy
    split <;> omega
theorem lb_sub {x y : Nat} (hy : y < 4294967296 ^ 8) {i : Nat} (hi : i < 8) : lb (x + 4294967296 ^ 8 - y) i = (lb x i + 4294967296 - lb y i - bS x y i) % 4294967296 := by
  have h := sub_div (x := x) hy (8 - i) i (by omega)
  have hb := bS_le x y i
  obtain ⟨k, hk⟩ : ∃ k, 8 - i = k + 1 := ⟨8 - i - 1, by omega⟩
  rw [hk, show (4294967296 : Nat) ^ (k + 1) = 4294967296 ^ k * 4294967296 from Nat.pow_succ _ _] at h
  unfold lb
  generalize (x + 4294967296 ^ 8 - y) / 4294967296 ^ i = D at *
  generalize x / 4294967296 ^ i = X at *
  generalize y / 4294967296 ^ i = Y at *
  generalize bS x y i = b at *
  obtain ⟨M, hM⟩ : ∃ M, M = 4294967296 ^ k := ⟨_, rfl⟩
  rw [← hM] at h
  clear hM hy
  omega
theorem bS_eight {x y : Nat} (hx : x < 4294967296 ^ 8) (hy : y < 4294967296 ^ 8) : bS x y 8 = if x < y then 1 else 0 := by
  have h := sub_div (x := x) hy 0 8 rfl
  have hb := bS_le x y 8
  rw [Nat.div_eq_of_lt hx, Nat.div_eq_of_lt hy, Nat.pow_zero] at h
  by_cases q : x < y
  · rw [if_pos q]
    rw [Nat.div_eq_of_lt (show x + 4294967296 ^ 8 - y < 4294967296 ^ 8 by omega)] at h
    omega
  · rw [if_neg q]
    have : (x + 4294967296 ^ 8 - y) / 4294967296 ^ 8 = 1 := by
      generalize hM : 4294967296 ^ 8 = M at *
      have : 0 < M := by omega
      rw [show x + M - y = (x - y) + M by omega, Nat.add_div_right _ this, Nat.div_eq_of_lt (by omega)]
    omega
/-- What limbs come to. -/
def valL : List Nat → Nat
  | [] => 0
  | d :: ds => d + 4294967296 * valL ds
theorem lb_valL : ∀ (vs : List Nat), (∀ i, i < vs.length → wd vs i < 4294967296) → ∀ i, lb (valL vs) i = wd vs i
  | [], _, i => by simp [lb, valL, wd]
  | d :: ds, h, 0 => by
    have := h 0 (by simp)
    simp only [wd, List.getD, List.getElem?_cons_zero, Option.getD_some] at this
    simp [lb, valL, wd]; omega
  | d :: ds, h, i + 1 => by
    have h0 := h 0 (by simp)
    simp only [wd, List.getD, List.getElem?_cons_zero, Option.getD_some] at h0
    have ih := lb_valL ds (fun j hj => by
      have := h (j + 1) (by simp; omega)
      simpa [wd, List.getD] using this) i
    rw [show wd (d :: ds) (i + 1) = wd ds i by simp [wd, List.getD], ← ih]
    unfold lb
    rw [valL, Nat.pow_succ', ← Nat.div_div_eq_div_mul, show (d + 4294967296 * valL ds) / 4294967296 = valL ds by omega]
theorem lbs_valL {vs : List Nat} {n : Nat} (hl : vs.length = n) (h : ∀ i, i < n → wd vs i < 4294967296) : vs = lbs n (valL vs) := by
  subst hl
  refine List.ext_getElem (by rw [lbs_len]) fun i h1 h2 => ?_
  have := lb_valL vs h i
  simp [wd, List.getD, h1] at this
  simp [lbs, this]
theorem valL_set : ∀ {vs : List Nat} {k z : Nat}, k < vs.length → valL (vs.set k z) + wd vs k * 4294967296 ^ k = valL vs + z * 4294967296 ^ k
  | [], k, z, h => absurd h (by simp)
  | d :: ds, 0, z, _ => by simp [valL, wd, List.getD]; omega
  | d :: ds, k + 1, z, h => by
    have ih := valL_set (vs := ds) (k := k) (z := z) (by simpa using h)
    rw [show wd (d :: ds) (k + 1) = wd ds k by simp [wd, List.getD], List.set_cons_succ, valL, valL, Nat.pow_succ]
    have e1 : wd ds k * (4294967296 ^ k * 4294967296) = 4294967296 * (wd ds k * 4294967296 ^ k) := by rw [← Nat.mul_assoc, Nat.mul_comm]
    have e2 : z * (4294967296 ^ k * 4294967296) = 4294967296 * (z * 4294967296 ^ k) := by rw [← Nat.mul_assoc, Nat.mul_comm]
    rw [e1, e2]
    generalize wd ds k * 4294967296 ^ k = a at *
    generalize z * 4294967296 ^ k = b at *
    omega
theorem mod_step (x i : Nat) : x % 4294967296 ^ (i + 1) = x % 4294967296 ^ i + lb x i * 4294967296 ^ i := by
  unfold lb
  rw [Nat.pow_succ, Nat.mod_mul]
  rw [Nat.mul_comm (4294967296 ^ i)]
theorem valL_snoc : ∀ (vs : List Nat) (z : Nat), valL (vs ++ [z]) = valL vs + z * 4294967296 ^ vs.length
  | [], z => by simp [valL]
  | d :: ds, z => by
    rw [List.cons_append, valL, valL_snoc ds z, valL, List.length_cons, Nat.pow_succ]
    have e2 : z * (4294967296 ^ ds.length * 4294967296) = 4294967296 * (z * 4294967296 ^ ds.length) := by rw [← Nat.mul_assoc, Nat.mul_comm]
    rw [e2, Nat.mul_add, Nat.add_assoc]
theorem lbs_snoc (n x : Nat) : lbs (n + 1) x = lbs n x ++ [lb x n] := by simp [lbs, List.range_succ]
theorem valL_lbs (x : Nat) : ∀ n, valL (lbs n x) = x % 4294967296 ^ n
  | 0 => by rw [Nat.pow_zero, Nat.mod_one]; rfl
  | n + 1 => by rw [lbs_snoc, valL_snoc, valL_lbs x n, lbs_len, mod_step]
theorem lbs_add_big (n x : Nat) : lbs n (x + 4294967296 ^ n) = lbs n x := by
  have h := lbs_valL (vs := lbs n (x + 4294967296 ^ n)) (lbs_len _ _) (fun i hi => by rw [wd_lbs hi]; exact lb_lt _ _)
  have h' := lbs_valL (vs := lbs n x) (lbs_len _ _) (fun i hi => by rw [wd_lbs hi]; exact lb_lt _ _)
  rw [h, h', valL_lbs, valL_lbs, Nat.add_mod_right]
theorem lbs_mod (n x : Nat) : lbs n (x % 4294967296 ^ n) = lbs n x := by
  have h := lbs_valL (vs := lbs n (x % 4294967296 ^ n)) (lbs_len _ _) (fun i hi => by rw [wd_lbs hi]; exact lb_lt _ _)
  have h' := lbs_valL (vs := lbs n x) (lbs_len _ _) (fun i hi => by rw [wd_lbs hi]; exact lb_lt _ _)
  rw [h, h', valL_lbs, valL_lbs, Nat.mod_mod]
end Go.Proofs.YtfhafednnnfmbaaDoor
end
