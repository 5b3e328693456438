import Derived.Test.YtbnjmmefnjoofaaDoorMix
import Derived.Test.YtbnjmmefnjoofaaDoorPkP
import Derived.Laws.ResultCell
import Derived.Great.FillDense
import Derived.Stop.BytesEq
import Derived.Lib.SlBytesConst
section
/-
  Words as cells of a block. No conditions.
-/
namespace Go.Proofs.YtbnjmmefnjoofaaDoor
open Go.ChangeShapes Go.WideShapes Go.ChangeAt Go.RowKit Go.Deep
set_option maxRecDepth 100000

theorem heap_lt {w : World} {g : Nat} {o : Obj} (h : w.heap[g]? = some o) : g < w.heap.size := by
  rcases Nat.lt_or_ge g w.heap.size with h1 | h1
  · exact h1
  · rw [Array.getElem?_eq_none h1] at h; cases h
/-- Words as cells. -/
def wcells (vs : List Nat) : List Value := vs.map fun x : Nat => Value.int .u32 (x : Int)

/-- Block g holds the words vs, and nothing else. -/
def Wr (w : World) (g : Nat) (t : TypeId) (vs : List Nat) : Prop := w.heap[g]? = some (.cells (wcells vs).toArray t (0, 0))
section
variable {w w' : World} {g : Nat} {t : TypeId} {vs : List Nat}
theorem Wr.lt (h : Wr w g t vs) : g < w.heap.size := by
  rcases Nat.lt_or_ge g w.heap.size with h1 | h1
  · exact h1
  · unfold Wr at h; rw [Array.getElem?_eq_none h1] at h; cases h
theorem Wr.cell (h : Wr w g t vs) {i : Nat} (hi : i < vs.length) : w.cell? ⟨g, i, none⟩ = some (.int .u32 (wd vs i : Int)) := by
  rw [cell_of_row w g i _ t (0, 0) h]
  simp [wcells, wd, List.getD, hi]
theorem Wr.frozen (h : Wr w g t vs) (i : Nat) : w.frozen? ⟨g, i, none⟩ = false := by
  unfold Wr at h
  simp [World.frozen?, h]
theorem Wr.set (h : Wr w g t vs) {k x : Nat} : Wr (w.setCell ⟨g, k, none⟩ (.int .u32 (x : Int))) g t (vs.set k x) := by
  have h1 := setCell_eq_setRow w g k _ t (0, 0) (.int .u32 (x : Int)) h
  unfold Wr
  rw [h1, setRow_heap w g _ _ t _ h]
  simp [wcells, List.map_set]
theorem Wr.arr (h : Wr w g t vs) (hb : ∀ i, i < vs.length → wd vs i < 4294967296) : Arr w g vs := ⟨h.lt, fun i hi => ⟨h.cell hi, h.frozen i, hb i hi⟩⟩
theorem Wr.kept {B : Nat} (h : Wr w g t vs) (he : Below B w w') (hB : g < B) : Wr w' g t vs := (he.block g hB).trans h
end

/-- The bytes of a block of bytes. -/
theorem Bs.part {w : World} {g : Nat} {t : TypeId} {fr : Nat × Nat} {xs : List UInt8} (h : w.heap[g]? = some (.cells (cellsOf xs).toArray t fr)) {o n c : Nat} (ho : o + n ≤ xs.length) (hn : n ≤ c) (hc : c ≤ 1000000) : Bs w (some ⟨g, o, none⟩) n c ((xs.drop o).take n) := by
  have hlt : g < w.heap.size := by
    rcases Nat.lt_or_ge g w.heap.size with h1 | h1
    · exact h1
    · rw [Array.getElem?_eq_none h1] at h; cases h
  refine ⟨by simp; omega, hn, Nat.le_trans hc (by decide), fun _ => ⟨g, o, rfl, hlt, fun j hj => ?_⟩⟩
  rw [cell_of_row w g (o + j) _ t fr h]
  have hb : bt ((xs.drop o).take n) j = bt xs (o + j) := by
    unfold bt
    simp [List.getD, List.getElem?_take, hj]
  rw [hb]
  have := cellsOf_get (xs := xs) (j := o + j) (by omega)
  simpa using this

theorem size_alloc (w : World) (o : Obj) : (w.alloc o).heap.size = w.heap.size + 1 := by
  simp only [World.alloc, Array.size_push]
theorem heap_alloc30 (w : World) (o1 o2 o3 : Obj) : (((w.alloc o1).alloc o2).alloc o3).heap[w.heap.size]? = some o1 := by
  rw [Below.heap_alloc _ _ _ (by rw [size_alloc, size_alloc]; omega)]
  exact heap_alloc1 w o1 o2
theorem heap_alloc31 (w : World) (o1 o2 o3 : Obj) : (((w.alloc o1).alloc o2).alloc o3).heap[w.heap.size + 1]? = some o2 := by
  rw [Below.heap_alloc _ _ _ (by rw [size_alloc, size_alloc]; omega)]
  exact heap_alloc2 w o1 o2
theorem heap_alloc32 (w : World) (o1 o2 o3 : Obj) : (((w.alloc o1).alloc o2).alloc o3).heap[w.heap.size + 1 + 1]? = some o3 := by
  have := heap_alloc2 (w.alloc o1) o2 o3
  rwa [size_alloc] at this
theorem wc8' {vs : List Nat} {n : Nat} (h : vs.length = n) : (wcells vs).length = n := by simp [wcells, h]
theorem wcells_size {vs : List Nat} {n : Nat} (h : vs.length = n) : (wcells vs).toArray.size = n := by simp [wcells, h]
theorem wcells_one (vs : List Nat) : (wcells vs).toArray.all (·.oneCell') = true := by
  rw [Array.all_eq_true_iff_forall_mem]
  intro v hv
  obtain ⟨j, _, rfl⟩ := List.mem_map.1 (List.mem_toArray.1 hv)
  rfl
theorem cellsOf_map (xs : List UInt8) : cellsOf xs = xs.map fun x => Value.int .u8 (x.toNat : Int) := by
  apply List.ext_getElem?
  intro j
  by_cases q : j < xs.length
  · rw [cellsOf_get q]
    simp [bt, List.getD, q]
  · rw [List.getElem?_eq_none (by rw [cellsOf_len]; omega), List.getElem?_eq_none (by simp; omega)]
theorem cellsOf_splice (xs ys : List UInt8) (o : Nat) : splice (cellsOf xs) o (cellsOf ys) = cellsOf (splice xs o ys) := by
  simp [cellsOf_map, splice]
theorem splice_len {xs ys : List UInt8} {o : Nat} (h : o + ys.length ≤ xs.length) : (splice xs o ys).length = xs.length := by
  simp [splice]; omega
theorem bt_splice {xs ys : List UInt8} {o j : Nat} (h : o + ys.length ≤ xs.length) (hj : j < o + ys.length) : bt (splice xs o ys) j = if j < o then bt xs j else bt ys (j - o) := by
  unfold bt splice
  simp only [List.getD, List.getElem?_append, List.length_take]
  by_cases q : j < o
  · rw [if_pos q, if_pos (by omega)]
    simp [List.getElem?_take, q]
  · rw [if_neg q, if_neg (by omega), if_pos (by omega), Nat.min_eq_left (by omega)]
theorem list_bt {xs ys : List UInt8} (h : xs.length = ys.length) (hb : ∀ j, j < xs.length → bt xs j = bt ys j) : xs = ys := (same_iff h).2 fun j hj => UInt8.toNat_inj.1 (hb j hj)
theorem index_word {vs : List Nat} {w : World} {k n : Nat} {t : TypeId} (ht : Tryd.prog.underlying t = some (.array n 134)) (hl : vs.length = n) (hk : k < n) :
    (Instr.index t (.agg (wcells vs).toArray) (.int .i64 (k : Int))).run Tryd.prog w = .ok (.int .u32 (wd vs k : Int)) w := by
  have h1 : (0 : Int) ≤ (k : Int) ∧ (k : Int) < (n : Int) := by omega
  have hs : (sizeOf 134).run Tryd.prog w = .ok 1 w := rfl
  have hg : (wcells vs).toArray[k]? = some (.int .u32 (wd vs k : Int)) := by
    simp [wcells, wd, List.getD, show k < vs.length by omega]
  unfold Instr.index
  simp only [Sem.run_bind, asIntOf, Sem.run_pure, Result.andThen_ok, run_underlying ht]
  rw [if_pos h1]
  simp only [Sem.run_bind, hs, Result.andThen_ok]
  have ha : (isAgg 134).run Tryd.prog w = .ok false w := rfl
  unfold part
  simp only [Sem.run_bind, ha, Result.andThen_ok, Int.toNat_natCast, Nat.mul_one, Bool.false_eq_true, if_false, hg, Sem.run_pure]
/-- A key's own bytes. -/
theorem Bs.key {w : World} {g : Nat} {t : TypeId} {xs : List UInt8} (h : w.heap[g]? = some (.cells (cellsOf xs).toArray t (0, 0))) (hl : xs.length = 32) : Bs w (some ⟨g, 0, none⟩) 32 32 xs := by
  have := Bs.part h (o := 0) (n := 32) (c := 32) (by omega) (by omega) (by omega)
  rw [List.drop_zero, List.take_of_length_le (by omega)] at this
  exact this
/-- The bytes of words. -/
def bytesL (vs : List Nat) : List UInt8 := (List.range (4 * vs.length)).map fun i => UInt8.ofNat (wd vs (i / 4) / 256 ^ (i % 4))

theorem bytesL_len (vs : List Nat) : (bytesL vs).length = 4 * vs.length := by simp [bytesL]
theorem bt_bytesL {vs : List Nat} {j : Nat} (hj : j < 4 * vs.length) : bt (bytesL vs) j = wd vs (j / 4) / 256 ^ (j % 4) % 256 := by
  unfold bt bytesL
  simp [List.getD, hj]
/-- xs[4*k:] of an array. -/
theorem sliceFrom4 {w : World} {g k n : Nat} {t : TypeId} (ht : Tryd.prog.underlying t = some (.array (Tryd.prog.arrayLen t) (Tryd.prog.elem t))) (hs : ∀ w, (sizeOf (Tryd.prog.elem t)).run Tryd.prog w = .ok 1 w) (hn : Tryd.prog.arrayLen t = n) (hk : 4 * k < n) :
    (Instr.sliceAt t (.pointer (some ⟨g, 0, none⟩)) (some (.int .i64 (4 * (k : Int)))) none none).run Tryd.prog w = .ok (.slice (some ⟨g, 4 * k, none⟩) (n - 4 * k) (n - 4 * k)) w := by
  rw [run_sliceAt_array_l w t _ ht .i64 _ (by omega) (by rw [hn]; omega)]
  rw [hs]
  have h1 : (4 * (k : Int)).toNat = 4 * k := by omega
  have h3 : (⟨g, 0, none⟩ : Addr).add (4 * k * 1) = ⟨g, 4 * k, none⟩ := by unfold Addr.add; split <;> simp_all
  show Result.ok (slicedAt _ _ _ _ _) w = _
  rw [hn, h1]
  unfold slicedAt
  rw [if_neg (by omega), h3]
end Go.Proofs.YtbnjmmefnjoofaaDoor
end

section
/-
  Whole arrays, read or written within a region; results that are an array and a number; composites. No conditions.
-/
namespace Go.Proofs.YtbnjmmefnjoofaaDoor
open Go.ChangeShapes Go.WideShapes Go.ChangeAt Go.RowKit Go.Deep

theorem exec_load_row {P : Program} {o : Oper} {a : Act} {w : World} {ty : TypeId} {x : Operand} {g : Nat} {t : TypeId} {cs : Array Value} {fr : Nat × Nat} {d : TypeDesc} (ho : o.op = .load ty x) (hx : a.eval x = .pointer (some ⟨g, 0, none⟩)) (hg : w.heap[g]? = some (.cells cs t fr))
    (hu : P.underlying ty = some d) (hd : (match d with | .struct _ | .array _ _ => true | _ => false) = true) (hi : (P.info? ty).map (·.size) = some cs.size) : (execOp a.eval o).run P w = .ok (.value (.agg cs)) w := by
  unfold execOp
  simp only [ho, hx, Instr.loadAt, Instr.sureAddr, Sem.run_bind, Sem.run_pure, Result.andThen_ok, run_loadVar_row w g t ty cs fr d hg hu hd hi]

theorem results_row_tmp {P : Program} {fn : Func} {p u : Tmp} {ty : TypeId} (h : fn.results = #[.cell p ty, .tmp u]) (tmps : Array Value) (w : World) (g : Nat) (t : TypeId) (cs : Array Value) (fr : Nat × Nat) (d : TypeDesc) (v : Value)
    (hp : tmps.getD p undef = .pointer (some ⟨g, 0, none⟩)) (hv : tmps.getD u undef = v) (hg : w.heap[g]? = some (.cells cs t fr))
    (hu : P.underlying ty = some d) (hd : (match d with | .struct _ | .array _ _ => true | _ => false) = true) (hi : (P.info? ty).map (·.size) = some cs.size) :
    (results fn tmps).run P w = .ok (.tuple #[.agg cs, v]) w := by
  rw [results_cell_tmp h, hp, hv]
  simp only [asAddr, Sem.run_pure, Result.andThen_ok, run_loadVar_row w g t ty cs fr d hg hu hd hi]

theorem gen_q {F : Exit → Act → World → Prop} {x : Exit} {a : Act} {W : World} (ψ : World → Prop) (h1 : ψ W) (h2 : ∀ w1, ψ w1 → F x a w1) : F x a W := h2 W h1
/-- A composite whose cells are known under a name. -/
theorem wpList_build_as {P : Program} {ops : Array Oper} {rest : List Oper} {o : Oper} {a : Act} {w : World} {Q : Exit → Act → World → Prop} (hg : o.guard = none) (t : TypeId) (parts : Array (Nat × Operand)) (ho : o.op = .build t parts) (cells : Array Value)
    (hf : P.built t (parts.map fun (i, x) => (i, a.eval x)).toList = some cells) (h : wpList P ops Q rest (a.put o.dst (.agg cells)) w) : wpList P ops Q (o :: rest) a w :=
  wpList_build hg t parts ho (by rw [hf]; rfl) (by rw [hf]; exact h)
def zeros32 : Array Value := (List.replicate 32 (Value.int .u8 0)).toArray
theorem zeros32_size : zeros32.size = 32 := by simp [zeros32]
theorem zeros32_one : zeros32.all (·.oneCell') = true := by kernel_rfl
theorem zeros32_built : Tryd.prog.built 23 [] = some zeros32 := by kernel_rfl
theorem zeros32_cells : (cellsOf (List.replicate 32 0)).toArray = zeros32 := by kernel_rfl
end Go.Proofs.YtbnjmmefnjoofaaDoor
end

section
/-
  A struct of two parts is laid of its parts. No conditions.
-/
namespace Go.Proofs.YtbnjmmefnjoofaaDoor
open Go.ChangeShapes Go.WideShapes Go.ChangeAt Go.RowKit Go.Deep

theorem fold_cells (off : Nat) (v : Array Value) (cs : Array Value) : v.zipIdx.foldl (fun cs (c, j) => cs.setIfInBounds (off + j) c) cs = (v.toList.zipIdx 0).foldl (fun cs (x : Value × Nat) => cs.setIfInBounds (off + x.2) x.1) cs := by
  rw [← Array.foldl_toList, Array.toList_zipIdx]
theorem fill_two {p q : Nat} {K L Z : Array Value} (pl : Nat → Option (Nat × Nat)) (h0 : pl 0 = some (0, p)) (h1 : pl 1 = some (p, q)) (hK : K.size = p) (hL : L.size = q) (hZ : Z.size = p + q) : Instr.fill pl Z [(0, .agg K), (1, .agg L)] = some (K ++ L) := by
  have c0 : (Value.agg K).cells = K := rfl
  have c1 : (Value.agg L).cells = L := rfl
  obtain ⟨g1, g2⟩ := Great.foldl_set 0 K.toList 0 Z
  obtain ⟨g3, g4⟩ := Great.foldl_set p L.toList 0 ((K.toList.zipIdx 0).foldl (fun cs (x : Value × Nat) => cs.setIfInBounds (0 + x.2) x.1) Z)
  unfold Instr.fill
  simp only [h0, c0, hK]
  rw [if_neg (by simp; omega)]
  unfold Instr.fill
  simp only [h1, c1, hL]
  rw [if_neg (by rw [fold_cells, g1]; simp; omega)]
  unfold Instr.fill
  rw [fold_cells, fold_cells]
  congr 1
  apply Array.ext_getElem?
  intro k
  rw [g4 k, g2 k, g1]
  simp only [Nat.add_zero, Nat.zero_add, Nat.zero_le, true_and, Array.length_toList, hK, hL, hZ, Nat.sub_zero]
  by_cases a : k < p
  · rw [if_neg (by omega), if_pos ⟨a, by omega⟩, Array.getElem?_append_left (by omega)]
    simp
  · by_cases b : k < p + q
    · rw [if_pos ⟨by omega, b, b⟩, Array.getElem?_append_right (by omega), hK]
      simp
    · rw [if_neg (by omega), if_neg (by omega), Array.getElem?_eq_none (by omega), Array.getElem?_eq_none (by rw [Array.size_append]; omega)]
end Go.Proofs.YtbnjmmefnjoofaaDoor
end

section
/-
  Keys (32 bytes) are compared; whole arrays are read under a guard.
-/
namespace Go.Proofs.YtbnjmmefnjoofaaDoor
open Go.ChangeShapes Go.WideShapes Go.ChangeAt Go.RowKit Go.Deep
set_option maxRecDepth 100000

theorem key_guard : Tryd.prog.eqGuardType Tryd.prog.depth 23 = false := by kernel_rfl
theorem cellsOf_cell (xs : List UInt8) : cellsOf xs = xs.map Extern.Stop.cell := by rw [cellsOf_map]; rfl
theorem key_equal {xs ys : List UInt8} (hx : xs.length = 32) (hy : ys.length = 32) (w : World) :
    (Op.equalIn 10000 23 (.agg (cellsOf xs).toArray) (.agg (cellsOf ys).toArray)).run Tryd.prog w = .ok (decide (xs = ys)) w := by
  rw [cellsOf_cell, cellsOf_cell, run_equalIn_bytes w 9998 23 5 32 rfl rfl (fun _ => rfl) xs ys hx hy]
  congr 1
  rw [Bool.eq_iff_iff]; simp
theorem exec_eql_key {o : Oper} {a : Act} {w : World} {x y : Operand} {t' : TypeId} {xs ys : List UInt8} (ho : o.op = .binOp .eql 23 x y t') (hx : a.eval x = .agg (cellsOf xs).toArray) (hy : a.eval y = .agg (cellsOf ys).toArray) (lx : xs.length = 32) (ly : ys.length = 32) :
    (execOp a.eval o).run Tryd.prog w = .ok (.value (.bool (decide (xs = ys)))) w := by
  unfold execOp
  simp only [ho, hx, hy, Sem.run_bind, run_eqGuard_agg _ _ _ _ _ _ _ key_guard, Result.andThen_ok, run_eql_struct, key_equal lx ly, Sem.run_pure]
theorem exec_neq_key {o : Oper} {a : Act} {w : World} {x y : Operand} {t' : TypeId} {xs ys : List UInt8} (ho : o.op = .binOp .neq 23 x y t') (hx : a.eval x = .agg (cellsOf xs).toArray) (hy : a.eval y = .agg (cellsOf ys).toArray) (lx : xs.length = 32) (ly : ys.length = 32) :
    (execOp a.eval o).run Tryd.prog w = .ok (.value (.bool (!decide (xs = ys)))) w := by
  unfold execOp
  simp only [ho, hx, hy, Sem.run_bind, run_eqGuard_agg _ _ _ _ _ _ _ key_guard, Result.andThen_ok, run_neq_struct, key_equal lx ly, Sem.run_pure]

section
variable {ops : Array Oper} {rest : List Oper} {o : Oper} {a : Act} {w : World} {Q : Exit → Act → World → Prop}
/-- What yields a value and leaves the world. -/
theorem wpList_exec {P : Program} {v : Value} (hw : Region.wanted o (yielded ops a.tmps) = true) (hr : (execOp a.eval o).run P w = .ok (.value v) w) (h : wpList P ops Q rest (a.put o.dst v) w) : wpList P ops Q (o :: rest) a w :=
  BigFrame.wpList_want hw fun K hK => by
    unfold Oper.wp
    rw [hr]
    exact hK _ _ h
theorem exec_build_as {P : Program} {t : TypeId} {parts : Array (Nat × Operand)} {cells : Array Value} (ho : o.op = .build t parts) (hf : P.built t (parts.map fun (i, x) => (i, a.eval x)).toList = some cells) : (execOp a.eval o).run P w = .ok (.value (.agg cells)) w := by
  unfold execOp
  simp only [ho, Sem.run_bind, run_build w t _ cells hf, Result.andThen_ok, Sem.run_pure]
theorem wpList_eql_key (hw : Region.wanted o (yielded ops a.tmps) = true) (x y : Operand) (t' : TypeId) (ho : o.op = .binOp .eql 23 x y t') (xs ys : List UInt8) (hx : a.eval x = .agg (cellsOf xs).toArray) (hy : a.eval y = .agg (cellsOf ys).toArray) (lx : xs.length = 32) (ly : ys.length = 32)
    (h : wpList Tryd.prog ops Q rest (a.put o.dst (.bool (decide (xs = ys)))) w) : wpList Tryd.prog ops Q (o :: rest) a w := wpList_exec hw (exec_eql_key ho hx hy lx ly) h
theorem wpList_eql_keyB (hw : Region.wanted o (yielded ops a.tmps) = true) (x y : Operand) (t' : TypeId) (ho : o.op = .binOp .eql 23 x y t') (xs ys : List UInt8) (b : Bool) (hb : decide (xs = ys) = b) (hx : a.eval x = .agg (cellsOf xs).toArray) (hy : a.eval y = .agg (cellsOf ys).toArray) (lx : xs.length = 32) (ly : ys.length = 32)
    (h : wpList Tryd.prog ops Q rest (a.put o.dst (.bool b)) w) : wpList Tryd.prog ops Q (o :: rest) a w := wpList_exec hw (hb ▸ exec_eql_key ho hx hy lx ly) h
theorem wpList_neq_keyB (hw : Region.wanted o (yielded ops a.tmps) = true) (x y : Operand) (t' : TypeId) (ho : o.op = .binOp .neq 23 x y t') (xs ys : List UInt8) (b : Bool) (hb : (!decide (xs = ys)) = b) (hx : a.eval x = .agg (cellsOf xs).toArray) (hy : a.eval y = .agg (cellsOf ys).toArray) (lx : xs.length = 32) (ly : ys.length = 32)
    (h : wpList Tryd.prog ops Q rest (a.put o.dst (.bool b)) w) : wpList Tryd.prog ops Q (o :: rest) a w := wpList_exec hw (hb ▸ exec_neq_key ho hx hy lx ly) h
theorem wpList_neq_key (hw : Region.wanted o (yielded ops a.tmps) = true) (x y : Operand) (t' : TypeId) (ho : o.op = .binOp .neq 23 x y t') (xs ys : List UInt8) (hx : a.eval x = .agg (cellsOf xs).toArray) (hy : a.eval y = .agg (cellsOf ys).toArray) (lx : xs.length = 32) (ly : ys.length = 32)
    (h : wpList Tryd.prog ops Q rest (a.put o.dst (.bool (!decide (xs = ys)))) w) : wpList Tryd.prog ops Q (o :: rest) a w := wpList_exec hw (exec_neq_key ho hx hy lx ly) h
theorem wpList_load_rowW {P : Program} (hw : Region.wanted o (yielded ops a.tmps) = true) (ty : TypeId) (x : Operand) (ho : o.op = .load ty x)
    (g : Nat) (hx : a.eval x = .pointer (some ⟨g, 0, none⟩)) (t : TypeId) (cs : Array Value) (fr : Nat × Nat) (d : TypeDesc) (hg : w.heap[g]? = some (.cells cs t fr))
    (hu : P.underlying ty = some d) (hd : (match d with | .struct _ | .array _ _ => true | _ => false) = true) (hi : (P.info? ty).map (·.size) = some cs.size)
    (h : wpList P ops Q rest (a.put o.dst (.agg cs)) w) : wpList P ops Q (o :: rest) a w := wpList_exec hw (exec_load_row ho hx hg hu hd hi) h
end

/-- A slice of a whole block. -/
theorem Bs.of_list {w : World} {g n : Nat} {t : TypeId} {fr : Nat × Nat} {cs : Array Value} {xs : List UInt8} (hc : cs = (cellsOf xs).toArray) (h : w.heap[g]? = some (.cells cs t fr)) (hn : xs.length = n ∧ n ≤ 1000000) : Bs w (some ⟨g, 0, none⟩) n n xs := by
  subst hc
  have := Bs.part h (o := 0) (n := n) (c := n) (by omega) (by omega) (by omega)
  rw [List.drop_zero, List.take_of_length_le (by omega)] at this
  exact this
/-- Block g is a key's. -/
def Ky (w : World) (g : Nat) (xs : List UInt8) : Prop := w.heap[g]? = some (.cells (cellsOf xs).toArray 23 (0, 0)) ∧ xs.length = 32
theorem Ky.ext {w w' : World} {g : Nat} {xs : List UInt8} (h : Ky w g xs) (e : Ext w w') : Ky w' g xs := ⟨(e.block g (heap_lt h.1)).trans h.1, h.2⟩
theorem Ky.size {w : World} {g : Nat} {xs : List UInt8} (h : Ky w g xs) : (cellsOf xs).toArray.size = 32 := by simp [cellsOf_len, h.2]
theorem Ky.cell {w : World} {g : Nat} {xs : List UInt8} (h : Ky w g xs) {j : Nat} (hj : j < 32) : w.cell? ⟨g, j, none⟩ = some (.int .u8 (bt xs j : Int)) := by
  rw [cell_of_row w g j _ _ (0, 0) h.1]
  have := cellsOf_get (xs := xs) (j := j) (by rw [h.2]; exact hj)
  simpa using this
theorem Ky.frozen {w : World} {g : Nat} {xs : List UInt8} (h : Ky w g xs) (j : Nat) : w.frozen? ⟨g, j, none⟩ = false := frozen_of_row w g j _ _ h.1
theorem Ky.bs {w : World} {g : Nat} {xs : List UInt8} (h : Ky w g xs) : Bs w (some ⟨g, 0, none⟩) 32 32 xs := Bs.key h.1 h.2
theorem Ky.put {w : World} {g : Nat} {old xs : List UInt8} (h : Ky w g old) (hx : xs.length = 32) : Ky (w.setRow g (cellsOf xs).toArray) g xs := ⟨setRow_heap _ _ _ _ _ _ h.1, hx⟩
theorem Ky.new {w : World} {xs : List UInt8} (o : Array Value) (hx : xs.length = 32) : Ky ((w.alloc (.cells o 23)).setRow w.heap.size (cellsOf xs).toArray) w.heap.size xs := ⟨setRow_heap _ _ _ _ _ _ (heap_alloc_new _ _), hx⟩
theorem Ky.boxed (w : World) {xs : List UInt8} (hx : xs.length = 32) : Ky (w.alloc (.cells (cellsOf xs).toArray 23)) w.heap.size xs := ⟨heap_alloc_new _ _, hx⟩
theorem Ext.newRow (w : World) (o : Obj) (C : Array Value) : Ext w ((w.alloc o).setRow w.heap.size C) := below_setRow ((Ext.refl w).alloc _) (Nat.le_refl _) _
theorem conv_const (w : World) (C : Array Value) (n c : Nat) : (convert 35 35 (.slice (some ⟨w.heap.size, 0, none⟩) n c)).run Tryd.prog (w.alloc (.cells C 5)) = .ok (.slice (some ⟨w.heap.size, 0, none⟩) n c) (w.alloc (.cells C 5 (C.size, C.size + 1))) :=
  Lib.run_convert_bytes_const (P := Tryd.prog) w 35 5 C n c Tryd.underlying35 Tryd.underlying5
theorem key_alloc (w : World) : (zeroValue 23).run Tryd.prog w = .ok (.agg zeros32) w := by kernel_rfl
end Go.Proofs.YtbnjmmefnjoofaaDoor
end
