/-
  blake.padded.
-/
import Derived.Test.YtbkmnmhfjgmoiaaDoorLowB
import Derived.Test.YtbkmnmhfjgmoiaaDoorMx
import Derived.Test.YtbkmnmhfjgmoiaaDoorCells
namespace Go.Proofs.YtbkmnmhfjgmoiaaDoor
open Go.ChangeShapes Go.WideShapes Go.ChangeAt Go.RowKit Go.Deep

def padL (xs : List UInt8) : List UInt8 := xs ++ List.replicate (64 - xs.length) 0
theorem padL_len {xs : List UInt8} (h : xs.length ≤ 64) : (padL xs).length = 64 := by simp [padL]; omega
theorem splice_pad {xs : List UInt8} : splice (List.replicate 64 (Value.int .u8 0)) 0 (cellsOf xs) = cellsOf (padL xs) := by
  have hb : ∀ j, (if j < xs.length then Value.int .u8 (bt xs j : Int) else .int .u8 0) = .int .u8 (bt (padL xs) j : Int) := fun j => by
    by_cases q : j < xs.length
    · simp [q, bt, padL, List.getD, List.getElem?_append]
    · rw [if_neg q]
      unfold bt padL
      simp only [List.getD, List.getElem?_append, if_neg q, List.getElem?_replicate]
      split <;> rfl
  unfold splice
  simp only [List.take_zero, List.nil_append, Nat.zero_add, List.drop_replicate, cellsOf_len]
  apply List.ext_getElem?
  intro j
  rw [List.getElem?_append, cellsOf_len]
  by_cases q : j < xs.length
  · rw [if_pos q, cellsOf_get q, cellsOf_get (by simp [padL]; omega)]
    have := hb j
    rw [if_pos q] at this
    rw [this]
  · rw [if_neg q, List.getElem?_replicate]
    by_cases q2 : j - xs.length < 64 - xs.length
    · have := hb j
      rw [if_neg q] at this
      rw [if_pos q2, cellsOf_get (by simp [padL]; omega), this]
    · rw [if_neg q2, List.getElem?_eq_none (by rw [cellsOf_len]; simp [padL]; omega)]
set_option maxRecDepth 100000 in
set_option maxHeartbeats 1000000 in
theorem padded_calls {A : Option Addr} {n c : Nat} {xs : List UInt8} {w : World} (h : Bs w A n c xs) (hn : n ≤ 64) :
    Calls Tryd.prog 39 #[.slice A n c] w fun e w' => e = .returned (.agg (cellsOf (padL xs)).toArray) ∧ Ext w w' := by
  go_enter Tryd.func39, Tryd.ntmps39
  go_wp2_with fail
  refine upon_copy (cur := List.replicate 64 (Value.int .u8 0)) rfl (heap_alloc2 _ _ _) (h.ext (((Ext.refl _).alloc _).alloc _)) hn (by simp; omega) ?_
  intro W' h1 h2
  have hE : Hid (Ext w W') := Below.trans (((Ext.refl _).alloc _).alloc _) (h2.out w.heap.size (by omega))
  have h0 : Hid (W'.heap[w.heap.size]? = some (.cells (List.replicate 64 (Value.int .u8 0)).toArray 75 (0, 0))) := ((h2.out (w.heap.size + 1) (Nat.le_refl _)).block w.heap.size (by omega)).trans (heap_alloc1 _ _ _)
  clear h2
  rw [splice_pad] at h1
  have hlen : (cellsOf (padL xs)).toArray.size = 64 := by simp [cellsOf_len, padL_len (xs := xs) (by rw [h.len]; exact hn)]
  have hone : (cellsOf (padL xs)).toArray.all (·.oneCell') = true := cellsOf_one _
  generalize hC : (cellsOf (padL xs)).toArray = C at h1 hlen hone
  replace hC := Lib.hid hC
  go_wp2_with (first
    | refine wpList_load_row rfl 75 _ rfl (w.heap.size + 1) rfl 75 C (0, 0) _ h1.out rfl rfl (by rw [hlen]; rfl) ?_
    | refine wpList_store_row rfl 75 _ _ rfl w.heap.size C rfl rfl 75 _ h0.out (by rw [hlen]; rfl) (by rw [hlen]; rfl) hone ?_)
  (try simp only [Exit.inBlock, Exit.then])
  refine bodyPost_ret (results_cell_row rfl _ _ w.heap.size 75 C (0, 0) _ rfl (setRow_heap W' _ _ _ _ _ h0.out) rfl rfl (by rw [hlen]; rfl)) rfl ?_
  exact ⟨by rw [hC.out], below_setRow hE.out (Nat.le_refl _) _⟩
end Go.Proofs.YtbkmnmhfjgmoiaaDoor
