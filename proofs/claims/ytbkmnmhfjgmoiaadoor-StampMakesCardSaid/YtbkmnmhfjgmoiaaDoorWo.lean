/-
  blake.wordsOf.
-/
import Derived.Test.YtbkmnmhfjgmoiaaDoorPad
import Derived.Test.YtbkmnmhfjgmoiaaDoorWords
namespace Go.Proofs.YtbkmnmhfjgmoiaaDoor
open Go.ChangeShapes Go.WideShapes Go.ChangeAt Go.RowKit Go.Deep
set_option maxRecDepth 100000

/-- The words of bytes. -/
def wordAt (xs : List UInt8) (i : Nat) : Nat := ofLowL ((xs.drop (4 * i)).take 4)
theorem wordAt_lt (xs : List UInt8) (i : Nat) : wordAt xs i < 4294967296 := by
  have h := ofLowL_lt ((xs.drop (4 * i)).take 4)
  have hl : ((xs.drop (4 * i)).take 4).length ≤ 4 := by simp; omega
  exact Nat.lt_of_lt_of_le h (Nat.le_trans (Nat.pow_le_pow_right (by omega) hl) (by decide))
def wordsL (xs : List UInt8) (n : Nat) : List Nat := (List.range n).map (wordAt xs)
theorem slice4 {w : World} {g k : Nat} (hk : k < 16) : (Instr.sliceAt 75 (.pointer (some ⟨g, 0, none⟩)) (some (.int .i64 (4 * (k : Int)))) (some (.int .i64 (4 * (k : Int) + 4))) none).run Tryd.prog w = .ok (.slice (some ⟨g, 4 * k, none⟩) 4 (64 - 4 * k)) w := by
  have hn : Tryd.prog.arrayLen 75 = 64 := rfl
  rw [run_sliceAt_array_lh w 75 _ rfl .i64 .i64 _ _ (by omega) (by omega) (by rw [hn]; omega)]
  have hs : (sizeOf (Tryd.prog.elem 75)).run Tryd.prog w = .ok 1 w := rfl
  rw [hs]
  have h1 : (4 * (k : Int)).toNat = 4 * k := by omega
  have h2 : (4 * (k : Int) + 4).toNat = 4 * k + 4 := by omega
  have h3 : (⟨g, 0, none⟩ : Addr).add (4 * k * 1) = ⟨g, 4 * k, none⟩ := by unfold Addr.add; split <;> simp_all
  show Result.ok (slicedAt _ _ _ _ _) w = _
  rw [hn, h1, h2]
  unfold slicedAt
  rw [if_neg (by omega), h3, show 4 * k + 4 - 4 * k = 4 by omega]
theorem words_all {vs : List Nat} {xs : List UInt8} {n : Nat} (hl : vs.length = n) (h : ∀ j, j < n → wd vs j = wordAt xs j) : wordsL xs n = vs := by
  refine List.ext_getElem (by simp [wordsL, hl]) fun j h1 h2 => ?_
  have := h j (by omega)
  unfold wd at this
  simp only [wordsL, List.getElem_map, List.getElem_range]
  rw [← this]
  simp [List.getD, h2]

set_option maxRecDepth 100000 in
set_option maxHeartbeats 1000000 in
theorem wordsOf_calls {xs : List UInt8} {w : World} (h : xs.length = 64) :
    Calls Tryd.prog 45 #[.agg (cellsOf xs).toArray] w fun e w' => e = .returned (.agg (wcells (wordsL xs 16)).toArray) ∧ Ext w w' := by
  go_enter Tryd.func45, Tryd.ntmps45
  go_wp2_with fail
  go_loopw [5] (fun i wr => ∃ (k : Nat) (vs : List Nat), k ≤ 16 ∧ i = .int .i64 k ∧ vs.length = 16 ∧ (∀ j, j < k → wd vs j = wordAt xs j) ∧ Ext w wr ∧ wr.heap[w.heap.size]? = some (.cells (cellsOf xs).toArray 75 (0, 0)) ∧ Wr wr (w.heap.size + 1) 79 (List.replicate 16 0) ∧ Wr wr (w.heap.size + 1 + 1) 79 vs) (fun i _ => 16 - (intOf i).toNat)
  case atStart =>
    exact ⟨0, List.replicate 16 0, Nat.zero_le _, rfl, rfl, fun j hj => absurd hj (by omega), (((Ext.refl _).alloc _).alloc _).alloc _, heap_alloc30 _ _ _ _, heap_alloc31 _ _ _ _, heap_alloc32 _ _ _ _⟩
  case round =>
    obtain ⟨k, vs, hk, rfl, hl, hv, he, h0, h1, h2⟩ := hrel
    by_cases hlt : k < 16
    · have g3 := h2.cell (i := k) (by omega)
      have g4 := h2.frozen k
      have hsl : (Instr.sliceAt 75 (.pointer (some ⟨w.heap.size, 0, none⟩)) (some (.int .i64 (4 * (k : Int)))) (some (.int .i64 (4 * (k : Int) + 4))) none).run Tryd.prog wr = .ok (.slice (some ⟨w.heap.size, 4 * k, none⟩) 4 (64 - 4 * k)) wr := slice4 hlt
      have HC := Lib.hid (ofLow_calls (m := 4) (Bs.part h0 (o := 4 * k) (n := 4) (c := 64 - 4 * k) (by omega) (by omega) (by omega)) (by omega) (by omega) (by decide))
      have hcv : IntKind.u32.wrap (ofLowL (((xs.drop (4 * k)).take 4).take 4) : Int) = (wordAt xs k : Int) := by
        rw [List.take_take, IntKind.wrap_u32]
        have := wordAt_lt xs k
        show (wordAt xs k : Int) % 4294967296 = _
        omega
      go_wp2_with fail
      refine HC.out.mono ?_
      rintro e w1 ⟨rfl, rfl⟩
      go_wp2_with fail
      refine ⟨⟨k + 1, vs.set k (wordAt xs k), by omega, by go_num, by rw [List.length_set]; exact hl, fun j hj => ?_, he.setCell (by show w.heap.size ≤ w.heap.size + 1 + 1; omega) _, ?_, ?_, h2.set⟩, by simp [intOf]; omega⟩
      · rw [wd_set (by omega)]
        by_cases q : j = k
        · rw [if_pos q, q]
        · rw [if_neg q]; exact hv j (by omega)
      · exact (Below.heap_setCell _ _ _ _ (by show w.heap.size ≠ w.heap.size + 1 + 1; omega)).trans h0
      · exact (Below.heap_setCell _ _ _ _ (by show w.heap.size + 1 ≠ w.heap.size + 1 + 1; omega)).trans h1
    · obtain rfl : k = 16 := by omega
      have hvs := Lib.hid (words_all hl hv)
      have HL := wcells_size hl
      have hone := wcells_one vs
      unfold Wr at h1 h2
      generalize hC : (wcells vs).toArray = C at h2 HL hone
      replace h1 := Lib.hid h1
      replace h2 := Lib.hid h2
      go_wp2_with (first
        | refine wpList_load_row rfl 79 _ rfl (w.heap.size + 1 + 1) rfl 79 C (0, 0) _ h2.out rfl rfl (by rw [HL]; rfl) ?_
        | refine wpList_store_row rfl 79 _ _ rfl (w.heap.size + 1) C rfl rfl 79 _ h1.out (by rw [HL]; rfl) (by rw [HL]; rfl) hone ?_)
      (try simp only [Exit.inBlock, Exit.then])
      refine bodyPost_ret (results_cell_row rfl _ _ (w.heap.size + 1) 79 C (0, 0) _ rfl (setRow_heap _ _ _ _ _ _ h1.out) rfl rfl (by rw [HL]; rfl)) rfl ?_
      exact ⟨by rw [hvs.out, hC], below_setRow he (by omega) _⟩
end Go.Proofs.YtbkmnmhfjgmoiaaDoor
