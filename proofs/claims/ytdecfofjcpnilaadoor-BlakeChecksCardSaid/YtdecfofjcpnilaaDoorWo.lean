/-
  blake.wordsOf.
-/
import Derived.Test.YtdecfofjcpnilaaDoorPad
namespace Go.Proofs.YtdecfofjcpnilaaDoor
open Go.ChangeShapes Go.WideShapes Go.ChangeAt Go.RowKit Go.Deep

/-- The words of bytes. -/
def wordAt (xs : List UInt8) (i : Nat) : Nat := ofLowL ((xs.drop (4 * i)).take 4)
theorem wordAt_lt (xs : List UInt8) (i : Nat) : wordAt xs i < 4294967296 := by
  have h := ofLowL_lt ((xs.drop (4 * i)).take 4)
  have hl : ((xs.drop (4 * i)).take 4).length ≤ 4 := by simp; omega
  exact Nat.lt_of_lt_of_le h (Nat.le_trans (Nat.pow_le_pow_right (by omega) hl) (by decide))
def wordsL (xs : List UInt8) (n : Nat) : List Nat := (List.range n).map (wordAt xs)
/-- Words as cells. -/
def wcells (vs : List Nat) : List Value := vs.map fun x : Nat => Value.int .u32 (x : Int)

/-- Block g holds the words vs, and nothing else. -/
def Wr (w : World) (g : Nat) (t : TypeId) (vs : List Nat) : Prop := w.heap[g]? = some (.cells (wcells vs).toArray t (0, 0))
section
variable {w w' : World} {g : Nat} {t : TypeId} {vs : List Nat}
theorem Wr.lt (h : Wr w g t vs) : g < w.heap.size := by
  rcases Nat.lt_or_ge g w.heap.size with h1 | h1
  · exact h1
  · unfold Wr at h; rw [Array.getElem?_eq_none h1] at h; cases h
theorem Wr.cell (h : Wr w g t vs) {i : Nat} (hi : i < vs.length) : w.cell? ⟨g, i, none⟩ = some (.int .u32 (wd vs i : Int)) := by
  rw [cell_of_row w g i _ t (0, 0) h]
  simp [wcells, wd, List.getD, hi]
theorem Wr.frozen (h : Wr w g t vs) (i : Nat) : w.frozen? ⟨g, i, none⟩ = false := by
  unfold Wr at h
  simp [World.frozen?, h]
theorem Wr.set (h : Wr w g t vs) {k x : Nat} : Wr (w.setCell ⟨g, k, none⟩ (.int .u32 (x : Int))) g t (vs.set k x) := by
  have h1 := setCell_eq_setRow w g k _ t (0, 0) (.int .u32 (x : Int)) h
  unfold Wr
  rw [h1, setRow_heap w g _ _ t _ h]
  simp [wcells, List.map_set]
theorem Wr.arr (h : Wr w g t vs) (hb : ∀ i, i < vs.length → wd vs i < 4294967296) : Arr w g vs := ⟨h.lt, fun i hi => ⟨h.cell hi, h.frozen i, hb i hi⟩⟩
theorem Wr.kept {B : Nat} (h : Wr w g t vs) (he : Below B w w') (hB : g < B) : Wr w' g t vs := (he.block g hB).trans h
end

/-- The bytes of a block of bytes. -/
theorem Bs.part {w : World} {g : Nat} {t : TypeId} {fr : Nat × Nat} {xs : List UInt8} (h : w.heap[g]? = some (.cells (cellsOf xs).toArray t fr)) {o n c : Nat} (ho : o + n ≤ xs.length) (hn : n ≤ c) (hc : c ≤ 1000000) : Bs w (some ⟨g, o, none⟩) n c ((xs.drop o).take n) := by
  have hlt : g < w.heap.size := by
    rcases Nat.lt_or_ge g w.heap.size with h1 | h1
    · exact h1
    · rw [Array.getElem?_eq_none h1] at h; cases h
  refine ⟨by simp; omega, hn, Nat.le_trans hc (by decide), fun _ => ⟨g, o, rfl, hlt, fun j hj => ?_⟩⟩
  rw [cell_of_row w g (o + j) _ t fr h]
  have hb : bt ((xs.drop o).take n) j = bt xs (o + j) := by
    unfold bt
    simp [List.getD, List.getElem?_take, hj]
  rw [hb]
  have := cellsOf_get (xs := xs) (j := o + j) (by omega)
  simpa using this

theorem size_alloc (w : World) (o : Obj) : (w.alloc o).heap.size = w.heap.size + 1 := by
  simp only [World.alloc, Array.size_push]
theorem heap_alloc30 (w : World) (o1 o2 o3 : Obj) : (((w.alloc o1).alloc o2).alloc o3).heap[w.heap.size]? = some o1 := by
  rw [Below.heap_alloc _ _ _ (by rw [size_alloc, size_alloc]; omega)]
  exact heap_alloc1 w o1 o2
theorem heap_alloc31 (w : World) (o1 o2 o3 : Obj) : (((w.alloc o1).alloc o2).alloc o3).heap[w.heap.size + 1]? = some o2 := by
  rw [Below.heap_alloc _ _ _ (by rw [size_alloc, size_alloc]; omega)]
  exact heap_alloc2 w o1 o2
theorem heap_alloc32 (w : World) (o1 o2 o3 : Obj) : (((w.alloc o1).alloc o2).alloc o3).heap[w.heap.size + 1 + 1]? = some o3 := by
  have := heap_alloc2 (w.alloc o1) o2 o3
  rwa [size_alloc] at this
theorem slice4 {w : World} {g k : Nat} (hk : k < 16) : (Instr.sliceAt 40 (.pointer (some ⟨g, 0, none⟩)) (some (.int .i64 (4 * (k : Int)))) (some (.int .i64 (4 * (k : Int) + 4))) none).run Tryd.prog w = .ok (.slice (some ⟨g, 4 * k, none⟩) 4 (64 - 4 * k)) w := by
  have hn : Tryd.prog.arrayLen 40 = 64 := rfl
  rw [run_sliceAt_array_lh w 40 _ rfl .i64 .i64 _ _ (by omega) (by omega) (by rw [hn]; omega)]
  have hs : (sizeOf (Tryd.prog.elem 40)).run Tryd.prog w = .ok 1 w := rfl
  rw [hs]
  have h1 : (4 * (k : Int)).toNat = 4 * k := by omega
  have h2 : (4 * (k : Int) + 4).toNat = 4 * k + 4 := by omega
  have h3 : (⟨g, 0, none⟩ : Addr).add (4 * k * 1) = ⟨g, 4 * k, none⟩ := by unfold Addr.add; split <;> simp_all
  show Result.ok (slicedAt _ _ _ _ _) w = _
  rw [hn, h1, h2]
  unfold slicedAt
  rw [if_neg (by omega), h3, show 4 * k + 4 - 4 * k = 4 by omega]
theorem wcells_size {vs : List Nat} {n : Nat} (h : vs.length = n) : (wcells vs).toArray.size = n := by simp [wcells, h]
theorem wcells_one (vs : List Nat) : (wcells vs).toArray.all (·.oneCell') = true := by
  rw [Array.all_eq_true_iff_forall_mem]
  intro v hv
  obtain ⟨j, _, rfl⟩ := List.mem_map.1 (List.mem_toArray.1 hv)
  rfl
theorem words_all {vs : List Nat} {xs : List UInt8} {n : Nat} (hl : vs.length = n) (h : ∀ j, j < n → wd vs j = wordAt xs j) : wordsL xs n = vs := by
  refine List.ext_getElem (by simp [wordsL, hl]) fun j h1 h2 => ?_
  have := h j (by omega)
  unfold wd at this
  simp only [wordsL, List.getElem_map, List.getElem_range]
  rw [← this]
  simp [List.getD, h2]

set_option maxRecDepth 100000 in
set_option maxHeartbeats 1000000 in
theorem wordsOf_calls {xs : List UInt8} {w : World} (h : xs.length = 64) :
    Calls Tryd.prog 20 #[.agg (cellsOf xs).toArray] w fun e w' => e = .returned (.agg (wcells (wordsL xs 16)).toArray) ∧ Ext w w' := by
  go_enter Tryd.func20, Tryd.ntmps20
  go_wp2_with fail
  go_loopw [5] (fun i wr => ∃ (k : Nat) (vs : List Nat), k ≤ 16 ∧ i = .int .i64 k ∧ vs.length = 16 ∧ (∀ j, j < k → wd vs j = wordAt xs j) ∧ Ext w wr ∧ wr.heap[w.heap.size]? = some (.cells (cellsOf xs).toArray 40 (0, 0)) ∧ Wr wr (w.heap.size + 1) 47 (List.replicate 16 0) ∧ Wr wr (w.heap.size + 1 + 1) 47 vs) (fun i _ => 16 - (intOf i).toNat)
  case atStart =>
    exact ⟨0, List.replicate 16 0, Nat.zero_le _, rfl, rfl, fun j hj => absurd hj (by omega), (((Ext.refl _).alloc _).alloc _).alloc _, heap_alloc30 _ _ _ _, heap_alloc31 _ _ _ _, heap_alloc32 _ _ _ _⟩
  case round =>
    obtain ⟨k, vs, hk, rfl, hl, hv, he, h0, h1, h2⟩ := hrel
    by_cases hlt : k < 16
    · have g3 := h2.cell (i := k) (by omega)
      have g4 := h2.frozen k
      have hsl : (Instr.sliceAt 40 (.pointer (some ⟨w.heap.size, 0, none⟩)) (some (.int .i64 (4 * (k : Int)))) (some (.int .i64 (4 * (k : Int) + 4))) none).run Tryd.prog wr = .ok (.slice (some ⟨w.heap.size, 4 * k, none⟩) 4 (64 - 4 * k)) wr := slice4 hlt
      have HC := Lib.hid (ofLow_calls (m := 4) (Bs.part h0 (o := 4 * k) (n := 4) (c := 64 - 4 * k) (by omega) (by omega) (by omega)) (by omega) (by omega) (by decide))
      have hcv : IntKind.u32.wrap (ofLowL (((xs.drop (4 * k)).take 4).take 4) : Int) = (wordAt xs k : Int) := by
        rw [List.take_take, IntKind.wrap_u32]
        have := wordAt_lt xs k
        show (wordAt xs k : Int) % 4294967296 = _
        omega
      go_wp2_with fail
      refine HC.out.mono ?_
      rintro e w1 ⟨rfl, rfl⟩
      go_wp2_with fail
      refine ⟨⟨k + 1, vs.set k (wordAt xs k), by omega, by go_num, by rw [List.length_set]; exact hl, fun j hj => ?_, he.setCell (by show w.heap.size ≤ w.heap.size + 1 + 1; omega) _, ?_, ?_, h2.set⟩, by simp [intOf]; omega⟩
      · rw [wd_set (by omega)]
        by_cases q : j = k
        · rw [if_pos q, q]
        · rw [if_neg q]; exact hv j (by omega)
      · exact (Below.heap_setCell _ _ _ _ (by show w.heap.size ≠ w.heap.size + 1 + 1; omega)).trans h0
      · exact (Below.heap_setCell _ _ _ _ (by show w.heap.size + 1 ≠ w.heap.size + 1 + 1; omega)).trans h1
    · obtain rfl : k = 16 := by omega
      have hvs := Lib.hid (words_all hl hv)
      have HL := wcells_size hl
      have hone := wcells_one vs
      unfold Wr at h1 h2
      generalize hC : (wcells vs).toArray = C at h2 HL hone
      replace h1 := Lib.hid h1
      replace h2 := Lib.hid h2
      go_wp2_with (first
        | refine wpList_load_row rfl 47 _ rfl (w.heap.size + 1 + 1) rfl 47 C (0, 0) _ h2.out rfl rfl (by rw [HL]; rfl) ?_
        | refine wpList_store_row rfl 47 _ _ rfl (w.heap.size + 1) C rfl rfl 47 _ h1.out (by rw [HL]; rfl) (by rw [HL]; rfl) hone ?_)
      (try simp only [Exit.inBlock, Exit.then])
      refine bodyPost_ret (results_cell_row rfl _ _ (w.heap.size + 1) 47 C (0, 0) _ rfl (setRow_heap _ _ _ _ _ _ h1.out) rfl rfl (by rw [HL]; rfl)) rfl ?_
      exact ⟨by rw [hvs.out, hC], below_setRow he (by omega) _⟩
end Go.Proofs.YtdecfofjcpnilaaDoor
