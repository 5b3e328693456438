import Derived.Test.YtbnjmmefnjoofaaDoorPkN
import Derived.Test.YtbnjmmefnjoofaaDoorMx
import Derived.Test.YtbnjmmefnjoofaaDoorPkP
import Derived.Test.YtbnjmmefnjoofaaDoorPkO
section
/-
  blake.padded.
-/
namespace Go.Proofs.YtbnjmmefnjoofaaDoor
open Go.ChangeShapes Go.WideShapes Go.ChangeAt Go.RowKit Go.Deep

def padL (xs : List UInt8) : List UInt8 := xs ++ List.replicate (64 - xs.length) 0
theorem padL_len {xs : List UInt8} (h : xs.length ≤ 64) : (padL xs).length = 64 := by simp [padL]; omega
theorem splice_pad {xs : List UInt8} : splice (List.replicate 64 (Value.int .u8 0)) 0 (cellsOf xs) = cellsOf (padL xs) := by
  have hb : ∀ j, (if j < xs.length then Value.int .u8 (bt xs j : Int) else .int .u8 0) = .int .u8 (bt (padL xs) j : Int) := fun j => by
    by_cases q : j < xs.length
    · simp [q, bt, padL, List.getD, List.getElem?_append]
    · rw [if_neg q]
      unfold bt padL
      simp only [List.getD, List.getElem?_append, if_neg q, List.getElem?_replicate]
      split <;> rfl
  unfold splice
  simp only [List.take_zero, List.nil_append, Nat.zero_add, List.drop_replicate, cellsOf_len]
  apply List.ext_getElem?
  intro j
  rw [List.getElem?_append, cellsOf_len]
  by_cases q : j < xs.length
  · rw [if_pos q, cellsOf_get q, cellsOf_get (by simp [padL]; omega)]
    have := hb j
    rw [if_pos q] at this
    rw [this]
  · rw [if_neg q, List.getElem?_replicate]
    by_cases q2 : j - xs.length < 64 - xs.length
    · have := hb j
      rw [if_neg q] at this
      rw [if_pos q2, cellsOf_get (by simp [padL]; omega), this]
    · rw [if_neg q2, List.getElem?_eq_none (by rw [cellsOf_len]; simp [padL]; omega)]
set_option maxRecDepth 100000 in
set_option maxHeartbeats 1000000 in
theorem padded_calls {A : Option Addr} {n c : Nat} {xs : List UInt8} {w : World} (h : Bs w A n c xs) (hn : n ≤ 64) :
    Calls Tryd.prog 70 #[.slice A n c] w fun e w' => e = .returned (.agg (cellsOf (padL xs)).toArray) ∧ Ext w w' := by
  go_enter Tryd.func70, Tryd.ntmps70
  go_wp2_with fail
  refine upon_copy (cur := List.replicate 64 (Value.int .u8 0)) rfl (heap_alloc2 _ _ _) (h.ext (((Ext.refl _).alloc _).alloc _)) hn (by simp; omega) ?_
  intro W' h1 h2
  have hE : Hid (Ext w W') := Below.trans (((Ext.refl _).alloc _).alloc _) (h2.out w.heap.size (by omega))
  have h0 : Hid (W'.heap[w.heap.size]? = some (.cells (List.replicate 64 (Value.int .u8 0)).toArray 138 (0, 0))) := ((h2.out (w.heap.size + 1) (Nat.le_refl _)).block w.heap.size (by omega)).trans (heap_alloc1 _ _ _)
  clear h2
  rw [splice_pad] at h1
  have hlen : (cellsOf (padL xs)).toArray.size = 64 := by simp [cellsOf_len, padL_len (xs := xs) (by rw [h.len]; exact hn)]
  have hone : (cellsOf (padL xs)).toArray.all (·.oneCell') = true := cellsOf_one _
  generalize hC : (cellsOf (padL xs)).toArray = C at h1 hlen hone
  replace hC := Lib.hid hC
  go_wp2_with (first
    | refine wpList_load_row rfl 138 _ rfl (w.heap.size + 1) rfl 138 C (0, 0) _ h1.out rfl rfl (by rw [hlen]; rfl) ?_
    | refine wpList_store_row rfl 138 _ _ rfl w.heap.size C rfl rfl 138 _ h0.out (by rw [hlen]; rfl) (by rw [hlen]; rfl) hone ?_)
  (try simp only [Exit.inBlock, Exit.then])
  refine bodyPost_ret (results_cell_row rfl _ _ w.heap.size 138 C (0, 0) _ rfl (setRow_heap W' _ _ _ _ _ h0.out) rfl rfl (by rw [hlen]; rfl)) rfl ?_
  exact ⟨by rw [hC.out], below_setRow hE.out (Nat.le_refl _) _⟩
end Go.Proofs.YtbnjmmefnjoofaaDoor
end

section
/-
  blake.wordsOf.
-/
namespace Go.Proofs.YtbnjmmefnjoofaaDoor
open Go.ChangeShapes Go.WideShapes Go.ChangeAt Go.RowKit Go.Deep
set_option maxRecDepth 100000

/-- The words of bytes. -/
def wordAt (xs : List UInt8) (i : Nat) : Nat := ofLowL ((xs.drop (4 * i)).take 4)
theorem wordAt_lt (xs : List UInt8) (i : Nat) : wordAt xs i < 4294967296 := by
  have h := ofLowL_lt ((xs.drop (4 * i)).take 4)
  have hl : ((xs.drop (4 * i)).take 4).length ≤ 4 := by simp; omega
  exact Nat.lt_of_lt_of_le h (Nat.le_trans (Nat.pow_le_pow_right (by omega) hl) (by decide))
def wordsL (xs : List UInt8) (n : Nat) : List Nat := (List.range n).map (wordAt xs)
theorem slice4 {w : World} {g k : Nat} (hk : k < 16) : (Instr.sliceAt 138 (.pointer (some ⟨g, 0, none⟩)) (some (.int .i64 (4 * (k : Int)))) (some (.int .i64 (4 * (k : Int) + 4))) none).run Tryd.prog w = .ok (.slice (some ⟨g, 4 * k, none⟩) 4 (64 - 4 * k)) w := by
  have hn : Tryd.prog.arrayLen 138 = 64 := rfl
  rw [run_sliceAt_array_lh w 138 _ rfl .i64 .i64 _ _ (by omega) (by omega) (by rw [hn]; omega)]
  have hs : (sizeOf (Tryd.prog.elem 138)).run Tryd.prog w = .ok 1 w := rfl
  rw [hs]
  have h1 : (4 * (k : Int)).toNat = 4 * k := by omega
  have h2 : (4 * (k : Int) + 4).toNat = 4 * k + 4 := by omega
  have h3 : (⟨g, 0, none⟩ : Addr).add (4 * k * 1) = ⟨g, 4 * k, none⟩ := by unfold Addr.add; split <;> simp_all
  show Result.ok (slicedAt _ _ _ _ _) w = _
  rw [hn, h1, h2]
  unfold slicedAt
  rw [if_neg (by omega), h3, show 4 * k + 4 - 4 * k = 4 by omega]
theorem words_all {vs : List Nat} {xs : List UInt8} {n : Nat} (hl : vs.length = n) (h : ∀ j, j < n → wd vs j = wordAt xs j) : wordsL xs n = vs := by
  refine List.ext_getElem (by simp [wordsL, hl]) fun j h1 h2 => ?_
  have := h j (by omega)
  unfold wd at this
  simp only [wordsL, List.getElem_map, List.getElem_range]
  rw [← this]
  simp [List.getD, h2]

set_option maxRecDepth 100000 in
set_option maxHeartbeats 1000000 in
theorem wordsOf_calls {xs : List UInt8} {w : World} (h : xs.length = 64) :
    Calls Tryd.prog 88 #[.agg (cellsOf xs).toArray] w fun e w' => e = .returned (.agg (wcells (wordsL xs 16)).toArray) ∧ Ext w w' := by
  go_enter Tryd.func88, Tryd.ntmps88
  go_wp2_with fail
  go_loopw [5] (fun i wr => ∃ (k : Nat) (vs : List Nat), k ≤ 16 ∧ i = .int .i64 k ∧ vs.length = 16 ∧ (∀ j, j < k → wd vs j = wordAt xs j) ∧ Ext w wr ∧ wr.heap[w.heap.size]? = some (.cells (cellsOf xs).toArray 138 (0, 0)) ∧ Wr wr (w.heap.size + 1) 162 (List.replicate 16 0) ∧ Wr wr (w.heap.size + 1 + 1) 162 vs) (fun i _ => 16 - (intOf i).toNat)
  case atStart =>
    exact ⟨0, List.replicate 16 0, Nat.zero_le _, rfl, rfl, fun j hj => absurd hj (by omega), (((Ext.refl _).alloc _).alloc _).alloc _, heap_alloc30 _ _ _ _, heap_alloc31 _ _ _ _, heap_alloc32 _ _ _ _⟩
  case round =>
    obtain ⟨k, vs, hk, rfl, hl, hv, he, h0, h1, h2⟩ := hrel
    by_cases hlt : k < 16
    · have g3 := h2.cell (i := k) (by omega)
      have g4 := h2.frozen k
      have hsl : (Instr.sliceAt 138 (.pointer (some ⟨w.heap.size, 0, none⟩)) (some (.int .i64 (4 * (k : Int)))) (some (.int .i64 (4 * (k : Int) + 4))) none).run Tryd.prog wr = .ok (.slice (some ⟨w.heap.size, 4 * k, none⟩) 4 (64 - 4 * k)) wr := slice4 hlt
      have HC := Lib.hid (ofLow_calls (m := 4) (Bs.part h0 (o := 4 * k) (n := 4) (c := 64 - 4 * k) (by omega) (by omega) (by omega)) (by omega) (by omega) (by decide))
      have hcv : IntKind.u32.wrap (ofLowL (((xs.drop (4 * k)).take 4).take 4) : Int) = (wordAt xs k : Int) := by
        rw [List.take_take, IntKind.wrap_u32]
        have := wordAt_lt xs k
        show (wordAt xs k : Int) % 4294967296 = _
        omega
      go_wp2_with fail
      refine HC.out.mono ?_
      rintro e w1 ⟨rfl, rfl⟩
      go_wp2_with fail
      refine ⟨⟨k + 1, vs.set k (wordAt xs k), by omega, by go_num, by rw [List.length_set]; exact hl, fun j hj => ?_, he.setCell (by show w.heap.size ≤ w.heap.size + 1 + 1; omega) _, ?_, ?_, h2.set⟩, by simp [intOf]; omega⟩
      · rw [wd_set (by omega)]
        by_cases q : j = k
        · rw [if_pos q, q]
        · rw [if_neg q]; exact hv j (by omega)
      · exact (Below.heap_setCell _ _ _ _ (by show w.heap.size ≠ w.heap.size + 1 + 1; omega)).trans h0
      · exact (Below.heap_setCell _ _ _ _ (by show w.heap.size + 1 ≠ w.heap.size + 1 + 1; omega)).trans h1
    · obtain rfl : k = 16 := by omega
      have hvs := Lib.hid (words_all hl hv)
      have HL := wcells_size hl
      have hone := wcells_one vs
      unfold Wr at h1 h2
      generalize hC : (wcells vs).toArray = C at h2 HL hone
      replace h1 := Lib.hid h1
      replace h2 := Lib.hid h2
      go_wp2_with (first
        | refine wpList_load_row rfl 162 _ rfl (w.heap.size + 1 + 1) rfl 162 C (0, 0) _ h2.out rfl rfl (by rw [HL]; rfl) ?_
        | refine wpList_store_row rfl 162 _ _ rfl (w.heap.size + 1) C rfl rfl 162 _ h1.out (by rw [HL]; rfl) (by rw [HL]; rfl) hone ?_)
      (try simp only [Exit.inBlock, Exit.then])
      refine bodyPost_ret (results_cell_row rfl _ _ (w.heap.size + 1) 162 C (0, 0) _ rfl (setRow_heap _ _ _ _ _ _ h1.out) rfl rfl (by rw [HL]; rfl)) rfl ?_
      exact ⟨by rw [hvs.out, hC], below_setRow he (by omega) _⟩
end Go.Proofs.YtbnjmmefnjoofaaDoor
end

section
/-
  blake.permutations.
-/
namespace Go.Proofs.YtbnjmmefnjoofaaDoor
open Go.ChangeShapes Go.WideShapes Go.ChangeAt Go.RowKit Go.Deep

def permL : List (List Nat) := [
  [0, 1, 2, 3, 4, 5, 6, 7, 8, 9, 10, 11, 12, 13, 14, 15],
  [14, 10, 4, 8, 9, 15, 13, 6, 1, 12, 0, 2, 11, 7, 5, 3],
  [11, 8, 12, 0, 5, 2, 15, 13, 10, 14, 3, 6, 7, 1, 9, 4],
  [7, 9, 3, 1, 13, 12, 11, 14, 2, 6, 5, 10, 4, 0, 15, 8],
  [9, 0, 5, 7, 2, 4, 10, 15, 14, 1, 11, 12, 6, 8, 3, 13],
  [2, 12, 6, 10, 0, 11, 8, 3, 4, 13, 7, 5, 15, 14, 1, 9],
  [12, 5, 1, 15, 14, 13, 4, 10, 0, 7, 6, 3, 9, 2, 8, 11],
  [13, 11, 7, 14, 12, 1, 3, 9, 5, 0, 15, 4, 8, 6, 2, 10],
  [6, 15, 14, 9, 11, 3, 0, 8, 12, 2, 13, 7, 1, 4, 10, 5],
  [10, 2, 8, 4, 7, 6, 1, 5, 15, 11, 9, 14, 3, 12, 13, 0]]
def permC : Array Value := ((permL.flatten).map fun x : Nat => Value.int .u8 (x : Int)).toArray

set_option maxRecDepth 100000 in
set_option maxHeartbeats 1000000 in
theorem perm_calls {w : World} :
    Calls Tryd.prog 89 #[] w fun e w' => e = .returned (.agg permC) ∧ Ext w w' := by
  have hz : ∀ w, (zeroValue 166).run Tryd.prog w = .ok (.agg (Array.replicate 160 (.int .u8 0))) w := fun _ => by kernel_rfl
  have hg := Lib.hid (heap_alloc_new w (Obj.cells (Array.replicate 160 (.int .u8 0)) 166))
  have he : Hid (Ext w (w.alloc (Obj.cells (Array.replicate 160 (.int .u8 0)) 166))) := (Ext.refl _).alloc _
  have hZ : (Array.replicate 160 (Value.int .u8 0)).size = 160 := by simp
  have hp : permC.size = 160 := by kernel_rfl
  have hone : permC.all (·.oneCell') = true := by kernel_rfl
  generalize Array.replicate 160 (Value.int .u8 0) = Z at hz hg he hZ
  go_enter Tryd.func89, Tryd.ntmps89
  go_wp2_with (refine wpList_build rfl _ _ rfl (by kernel_rfl) ?_)
  rename_i hyp
  clear hyp
  generalize hB : Option.getD (Program.built Tryd.prog 166 _) #[] = B
  have hBp : B = permC := hB.symm.trans (by kernel_rfl)
  clear hB
  subst hBp
  have hst := run_storeCells_from (P := Tryd.prog) w.heap.size 166 permC.toList 0 Z _ hg.out (by rw [Array.length_toList, hp, hZ]) (fun v hv => (Array.all_eq_true_iff_forall_mem.1 hone) v (by simpa using hv))
  rw [hst]
  simp only [List.take_zero, List.nil_append, Array.toArray_toList]
  iterate 10 (generalize Option.getD (Program.built Tryd.prog 165 _) #[] = B)
  go_wp2_with fail
  (try simp only [Exit.inBlock, Exit.then])
  refine bodyPost_ret (results_cell_row rfl _ _ w.heap.size 166 permC (0, 0) _ rfl (setRow_heap _ _ _ _ _ _ hg.out) rfl rfl (by rw [hp]; rfl)) rfl ?_
  exact ⟨rfl, below_setRow he.out (Nat.le_refl _) _⟩
end Go.Proofs.YtbnjmmefnjoofaaDoor
end

section
/-
  blake's first words, and the variable that holds them.
-/
namespace Go.Proofs.YtbnjmmefnjoofaaDoor
open Go.ChangeShapes Go.WideShapes Go.ChangeAt Go.RowKit Go.Deep

def initL : List Nat := [0x6a09e667, 0xbb67ae85, 0x3c6ef372, 0xa54ff53a, 0x510e527f, 0x9b05688c, 0x1f83d9ab, 0x5be0cd19]
/-- The variable blake.initial holds the first words. -/
def Gl (w : World) (tg : TypeId × Nat × Nat) : Prop := w.heap[0]? = some (.cells (wcells initL).toArray tg.1 tg.2)
section
variable {w w' : World} {tg : TypeId × Nat × Nat}
theorem Gl.lt (h : Gl w tg) : 0 < w.heap.size := by
  rcases Nat.lt_or_ge 0 w.heap.size with h1 | h1
  · exact h1
  · unfold Gl at h; rw [Array.getElem?_eq_none h1] at h; cases h
theorem Gl.cell (h : Gl w tg) {i : Nat} (hi : i < initL.length) : w.cell? ⟨0, i, none⟩ = some (.int .u32 (wd initL i : Int)) := by
  rw [cell_of_row w 0 i _ tg.1 tg.2 h]
  simp [wcells, wd, List.getD, hi]
theorem Gl.kept {B : Nat} (h : Gl w tg) (he : Below B w w') (hB : 0 < B) : Gl w' tg := (he.block 0 hB).trans h
theorem Gl.ext (h : Gl w tg) (he : Ext w w') : Gl w' tg := h.kept he h.lt
end
end Go.Proofs.YtbnjmmefnjoofaaDoor
end
