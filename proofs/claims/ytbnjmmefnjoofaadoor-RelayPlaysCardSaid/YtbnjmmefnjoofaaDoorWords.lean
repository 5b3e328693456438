/-
  Words as cells of a block. No conditions.
-/
import Derived.Test.YtbnjmmefnjoofaaDoorMix
import Derived.Test.YtbnjmmefnjoofaaDoorSameL
import Derived.Test.YtbnjmmefnjoofaaDoorCells
namespace Go.Proofs.YtbnjmmefnjoofaaDoor
open Go.ChangeShapes Go.WideShapes Go.ChangeAt Go.RowKit Go.Deep
set_option maxRecDepth 100000

theorem heap_lt {w : World} {g : Nat} {o : Obj} (h : w.heap[g]? = some o) : g < w.heap.size := by
  rcases Nat.lt_or_ge g w.heap.size with h1 | h1
  · exact h1
  · rw [Array.getElem?_eq_none h1] at h; cases h
/-- Words as cells. -/
def wcells (vs : List Nat) : List Value := vs.map fun x : Nat => Value.int .u32 (x : Int)

/-- Block g holds the words vs, and nothing else. -/
def Wr (w : World) (g : Nat) (t : TypeId) (vs : List Nat) : Prop := w.heap[g]? = some (.cells (wcells vs).toArray t (0, 0))
section
variable {w w' : World} {g : Nat} {t : TypeId} {vs : List Nat}
theorem Wr.lt (h : Wr w g t vs) : g < w.heap.size := by
  rcases Nat.lt_or_ge g w.heap.size with h1 | h1
  · exact h1
  · unfold Wr at h; rw [Array.getElem?_eq_none h1] at h; cases h
theorem Wr.cell (h : Wr w g t vs) {i : Nat} (hi : i < vs.length) : w.cell? ⟨g, i, none⟩ = some (.int .u32 (wd vs i : Int)) := by
  rw [cell_of_row w g i _ t (0, 0) h]
  simp [wcells, wd, List.getD, hi]
theorem Wr.frozen (h : Wr w g t vs) (i : Nat) : w.frozen? ⟨g, i, none⟩ = false := by
  unfold Wr at h
  simp [World.frozen?, h]
theorem Wr.set (h : Wr w g t vs) {k x : Nat} : Wr (w.setCell ⟨g, k, none⟩ (.int .u32 (x : Int))) g t (vs.set k x) := by
  have h1 := setCell_eq_setRow w g k _ t (0, 0) (.int .u32 (x : Int)) h
  unfold Wr
  rw [h1, setRow_heap w g _ _ t _ h]
  simp [wcells, List.map_set]
theorem Wr.arr (h : Wr w g t vs) (hb : ∀ i, i < vs.length → wd vs i < 4294967296) : Arr w g vs := ⟨h.lt, fun i hi => ⟨h.cell hi, h.frozen i, hb i hi⟩⟩
theorem Wr.kept {B : Nat} (h : Wr w g t vs) (he : Below B w w') (hB : g < B) : Wr w' g t vs := (he.block g hB).trans h
end

/-- The bytes of a block of bytes. -/
theorem Bs.part {w : World} {g : Nat} {t : TypeId} {fr : Nat × Nat} {xs : List UInt8} (h : w.heap[g]? = some (.cells (cellsOf xs).toArray t fr)) {o n c : Nat} (ho : o + n ≤ xs.length) (hn : n ≤ c) (hc : c ≤ 1000000) : Bs w (some ⟨g, o, none⟩) n c ((xs.drop o).take n) := by
  have hlt : g < w.heap.size := by
    rcases Nat.lt_or_ge g w.heap.size with h1 | h1
    · exact h1
    · rw [Array.getElem?_eq_none h1] at h; cases h
  refine ⟨by simp; omega, hn, Nat.le_trans hc (by decide), fun _ => ⟨g, o, rfl, hlt, fun j hj => ?_⟩⟩
  rw [cell_of_row w g (o + j) _ t fr h]
  have hb : bt ((xs.drop o).take n) j = bt xs (o + j) := by
    unfold bt
    simp [List.getD, List.getElem?_take, hj]
  rw [hb]
  have := cellsOf_get (xs := xs) (j := o + j) (by omega)
  simpa using this

theorem size_alloc (w : World) (o : Obj) : (w.alloc o).heap.size = w.heap.size + 1 := by
  simp only [World.alloc, Array.size_push]
theorem heap_alloc30 (w : World) (o1 o2 o3 : Obj) : (((w.alloc o1).alloc o2).alloc o3).heap[w.heap.size]? = some o1 := by
  rw [Below.heap_alloc _ _ _ (by rw [size_alloc, size_alloc]; omega)]
  exact heap_alloc1 w o1 o2
theorem heap_alloc31 (w : World) (o1 o2 o3 : Obj) : (((w.alloc o1).alloc o2).alloc o3).heap[w.heap.size + 1]? = some o2 := by
  rw [Below.heap_alloc _ _ _ (by rw [size_alloc, size_alloc]; omega)]
  exact heap_alloc2 w o1 o2
theorem heap_alloc32 (w : World) (o1 o2 o3 : Obj) : (((w.alloc o1).alloc o2).alloc o3).heap[w.heap.size + 1 + 1]? = some o3 := by
  have := heap_alloc2 (w.alloc o1) o2 o3
  rwa [size_alloc] at this
theorem wc8' {vs : List Nat} {n : Nat} (h : vs.length = n) : (wcells vs).length = n := by simp [wcells, h]
theorem wcells_size {vs : List Nat} {n : Nat} (h : vs.length = n) : (wcells vs).toArray.size = n := by simp [wcells, h]
theorem wcells_one (vs : List Nat) : (wcells vs).toArray.all (·.oneCell') = true := by
  rw [Array.all_eq_true_iff_forall_mem]
  intro v hv
  obtain ⟨j, _, rfl⟩ := List.mem_map.1 (List.mem_toArray.1 hv)
  rfl
theorem cellsOf_map (xs : List UInt8) : cellsOf xs = xs.map fun x => Value.int .u8 (x.toNat : Int) := by
  apply List.ext_getElem?
  intro j
  by_cases q : j < xs.length
  · rw [cellsOf_get q]
    simp [bt, List.getD, q]
  · rw [List.getElem?_eq_none (by rw [cellsOf_len]; omega), List.getElem?_eq_none (by simp; omega)]
theorem cellsOf_splice (xs ys : List UInt8) (o : Nat) : splice (cellsOf xs) o (cellsOf ys) = cellsOf (splice xs o ys) := by
  simp [cellsOf_map, splice]
theorem splice_len {xs ys : List UInt8} {o : Nat} (h : o + ys.length ≤ xs.length) : (splice xs o ys).length = xs.length := by
  simp [splice]; omega
theorem bt_splice {xs ys : List UInt8} {o j : Nat} (h : o + ys.length ≤ xs.length) (hj : j < o + ys.length) : bt (splice xs o ys) j = if j < o then bt xs j else bt ys (j - o) := by
  unfold bt splice
  simp only [List.getD, List.getElem?_append, List.length_take]
  by_cases q : j < o
  · rw [if_pos q, if_pos (by omega)]
    simp [List.getElem?_take, q]
  · rw [if_neg q, if_neg (by omega), if_pos (by omega), Nat.min_eq_left (by omega)]
theorem list_bt {xs ys : List UInt8} (h : xs.length = ys.length) (hb : ∀ j, j < xs.length → bt xs j = bt ys j) : xs = ys := (same_iff h).2 fun j hj => UInt8.toNat_inj.1 (hb j hj)
theorem index_word {vs : List Nat} {w : World} {k n : Nat} {t : TypeId} (ht : Tryd.prog.underlying t = some (.array n 134)) (hl : vs.length = n) (hk : k < n) :
    (Instr.index t (.agg (wcells vs).toArray) (.int .i64 (k : Int))).run Tryd.prog w = .ok (.int .u32 (wd vs k : Int)) w := by
  have h1 : (0 : Int) ≤ (k : Int) ∧ (k : Int) < (n : Int) := by omega
  have hs : (sizeOf 134).run Tryd.prog w = .ok 1 w := rfl
  have hg : (wcells vs).toArray[k]? = some (.int .u32 (wd vs k : Int)) := by
    simp [wcells, wd, List.getD, show k < vs.length by omega]
  unfold Instr.index
  simp only [Sem.run_bind, asIntOf, Sem.run_pure, Result.andThen_ok, run_underlying ht]
  rw [if_pos h1]
  simp only [Sem.run_bind, hs, Result.andThen_ok]
  have ha : (isAgg 134).run Tryd.prog w = .ok false w := rfl
  unfold part
  simp only [Sem.run_bind, ha, Result.andThen_ok, Int.toNat_natCast, Nat.mul_one, Bool.false_eq_true, if_false, hg, Sem.run_pure]
/-- A key's own bytes. -/
theorem Bs.key {w : World} {g : Nat} {t : TypeId} {xs : List UInt8} (h : w.heap[g]? = some (.cells (cellsOf xs).toArray t (0, 0))) (hl : xs.length = 32) : Bs w (some ⟨g, 0, none⟩) 32 32 xs := by
  have := Bs.part h (o := 0) (n := 32) (c := 32) (by omega) (by omega) (by omega)
  rw [List.drop_zero, List.take_of_length_le (by omega)] at this
  exact this
/-- The bytes of words. -/
def bytesL (vs : List Nat) : List UInt8 := (List.range (4 * vs.length)).map fun i => UInt8.ofNat (wd vs (i / 4) / 256 ^ (i % 4))

theorem bytesL_len (vs : List Nat) : (bytesL vs).length = 4 * vs.length := by simp [bytesL]
theorem bt_bytesL {vs : List Nat} {j : Nat} (hj : j < 4 * vs.length) : bt (bytesL vs) j = wd vs (j / 4) / 256 ^ (j % 4) % 256 := by
  unfold bt bytesL
  simp [List.getD, hj]
/-- xs[4*k:] of an array. -/
theorem sliceFrom4 {w : World} {g k n : Nat} {t : TypeId} (ht : Tryd.prog.underlying t = some (.array (Tryd.prog.arrayLen t) (Tryd.prog.elem t))) (hs : ∀ w, (sizeOf (Tryd.prog.elem t)).run Tryd.prog w = .ok 1 w) (hn : Tryd.prog.arrayLen t = n) (hk : 4 * k < n) :
    (Instr.sliceAt t (.pointer (some ⟨g, 0, none⟩)) (some (.int .i64 (4 * (k : Int)))) none none).run Tryd.prog w = .ok (.slice (some ⟨g, 4 * k, none⟩) (n - 4 * k) (n - 4 * k)) w := by
  rw [run_sliceAt_array_l w t _ ht .i64 _ (by omega) (by rw [hn]; omega)]
  rw [hs]
  have h1 : (4 * (k : Int)).toNat = 4 * k := by omega
  have h3 : (⟨g, 0, none⟩ : Addr).add (4 * k * 1) = ⟨g, 4 * k, none⟩ := by unfold Addr.add; split <;> simp_all
  show Result.ok (slicedAt _ _ _ _ _) w = _
  rw [hn, h1]
  unfold slicedAt
  rw [if_neg (by omega), h3]
end Go.Proofs.YtbnjmmefnjoofaaDoor
