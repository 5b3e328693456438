/-
  The law's awake (layer 4): a block, reckoned out by the kernel; the parts of a job.
-/
import Derived.Test.YthdjojindijmnaaTurn
import Derived.Test.YthdjojindijmnaaFlip
import Derived.Test.YthdjojindijmnaaMid
namespace Go.Proofs.Ythdjojindijmnaa
open Go.ChangeShapes Go.WideShapes Go.ChangeAt Go.RowKit Go.Deep

def abcK : List UInt8 := (List.range 32).map UInt8.ofNat
def abcN : List UInt8 := [0, 0, 0, 9, 0, 0, 0, 74, 0, 0, 0, 0]
theorem blk0 : bt (blockL abcK abcN 1) 0 = 16 := by decide +kernel
theorem blk1 : bt (blockL abcK abcN 1) 1 = 241 := by decide +kernel
theorem blk63 : bt (blockL abcK abcN 1) 63 = 78 := by decide +kernel
theorem Ky.setB {w : World} {g j x : Nat} {xs : List UInt8} (h : Ky w g xs) (hj : j < 32) (hx : x < 256) : Ky (w.setCell ⟨g, j, none⟩ (.int .u8 (x : Int))) g (xs.set j (UInt8.ofNat x)) := by
  refine ⟨?_, by rw [List.length_set]; exact h.2⟩
  rw [setCell_eq_setRow w g j _ _ (0, 0) _ h.1, setRow_heap w g _ _ _ _ h.1]
  congr 2
  have hl := h.2
  apply Array.ext'
  rw [Array.toList_setIfInBounds]
  apply List.ext_getElem?
  intro i
  simp only [List.getElem?_set, cellsOf_len]
  by_cases hi : i < 32
  · rw [cellsOf_get (xs := xs.set j (UInt8.ofNat x)) (by rw [List.length_set]; omega), bt_set (by omega) hx]
    by_cases e : j = i
    · subst e; simp [show j < xs.length by omega]
    · rw [if_neg e, if_neg (Ne.symm e)]
      have := cellsOf_get (xs := xs) (j := i) (by omega)
      simpa using this
  · have h1 : (cellsOf xs)[i]? = none := List.getElem?_eq_none (by rw [cellsOf_len]; omega)
    have h2 : (cellsOf (xs.set j (UInt8.ofNat x)))[i]? = none := List.getElem?_eq_none (by rw [cellsOf_len, List.length_set]; omega)
    rw [if_neg (by omega)]
    simp only [h2]
    simpa using h1

set_option maxRecDepth 100000 in
set_option maxHeartbeats 1000000 in
theorem awake_calls {w : World} : Calls Try.prog 5 #[] w fun e w' => e = .returned (.bool true) ∧ Ext w w' := by
  have hal : ∀ w, (zeroValue 23).run Try.prog w = .ok (.agg (cellsOf (List.replicate 32 0)).toArray) w := fun w => by rw [zeros32_cells]; exact key_alloc w
  have hal2 : ∀ w, (zeroValue 29).run Try.prog w = .ok (.agg (cellsOf (List.replicate 64 0)).toArray) w := fun _ => by kernel_rfl
  have OS : (cellsOf (List.replicate 64 (0 : UInt8))).toArray.size = 64 := by simp [cellsOf_len]
  generalize (cellsOf (List.replicate 64 (0 : UInt8))).toArray = O at *
  have e0 := Lib.hid blk0
  have e1 := Lib.hid blk1
  have e63 := Lib.hid blk63
  have BL := blockL_len abcK abcN 1
  have CALL : Hid (∀ W, Calls Try.prog 6 #[.agg (cellsOf abcK).toArray, .agg (cellsOf abcN).toArray, .int .u32 1] W fun e w' => e = .returned (.agg (cellsOf (blockL abcK abcN 1)).toArray) ∧ Ext W w') := fun W => block_calls (n := 1) (by decide) (by decide) (by decide)
  generalize blockL abcK abcN 1 = BK at *
  have BS : (cellsOf BK).toArray.size = 64 := by simp [cellsOf_len, BL]
  have B1 := cellsOf_one BK
  have AS : (cellsOf abcK).toArray.size = 32 := by kernel_rfl
  have ky0 : Hid (Ky (w.alloc (Obj.cells (cellsOf (List.replicate 32 0)).toArray 23)) w.heap.size (List.replicate 32 0)) := Ky.boxed w rfl
  generalize hZ : List.replicate 32 (0 : UInt8) = zs at *
  have ZL : zs.length = 32 := by rw [← hZ]; rfl
  clear hZ
  go_enter Try.func5, Try.ntmps5
  go_wp2_with fail
  go_loopw [2] (fun i wr => ∃ (k : Nat) (xs : List UInt8), k ≤ 32 ∧ i = .int .i64 k ∧ xs.length = 32 ∧ (∀ j, j < k → bt xs j = j) ∧ Ext w wr ∧ Ky wr w.heap.size xs) (fun i _ => 32 - (intOf i).toNat)
  case atStart => exact ⟨0, zs, Nat.zero_le _, rfl, ZL, fun j hj => absurd hj (by omega), (Ext.refl w).alloc _, ky0.out⟩
  case round =>
    obtain ⟨k, xs, hk, rfl, hl, hv, he, ky⟩ := hrel
    clear ky0
    by_cases hlt : k < 32
    · have g1 := ky.cell hlt
      have g2 := ky.frozen k
      have ik : (k : Int) < 32 := by omega
      replace hv := Lib.hid hv
      replace ky := Lib.hid ky
      replace he := Lib.hid he
      go_wp2_with fail
      refine ⟨⟨k + 1, xs.set k (UInt8.ofNat k), by omega, by go_num, by rw [List.length_set]; exact hl, fun j hj => ?_, he.out.setCell (Nat.le_refl _) _, ky.out.setB hlt (by omega)⟩, by simp [intOf]; omega⟩
      rw [bt_set (by omega) (by omega)]
      by_cases q : j = k
      · rw [if_pos q, q]
      · rw [if_neg q]; exact hv.out j (by omega)
    · obtain rfl : k = 32 := by omega
      have hx : xs = abcK := list_bt (by rw [hl]; rfl) fun j hj => by
        rw [hv j (by omega)]
        have : ∀ j, j < 32 → j = bt abcK j := by decide
        exact this j (by omega)
      subst hx
      clear hv hl
      replace ky := Lib.hid ky
      replace he := Lib.hid he
      go_wp2_with (first
        | (refine wpList_load_row rfl 23 _ rfl w.heap.size rfl 23 (cellsOf abcK).toArray (0, 0) _ ky.out.1 rfl rfl (by rw [AS]; rfl) ?_; simp only [Act.put, List.setIfInBounds_toArray, List.set_cons_zero, List.set_cons_succ])
        | (refine wpList_build_as rfl _ _ rfl (cellsOf abcN).toArray (by kernel_rfl) ?_; simp only [Act.put, List.setIfInBounds_toArray, List.set_cons_zero, List.set_cons_succ]))
      refine (CALL.out _).mono ?_
      rintro e w1 ⟨rfl, x1⟩
      go_upto_region 7 with (refine wpList_store_row rfl 29 _ _ rfl w1.heap.size (cellsOf BK).toArray rfl rfl 29 _ (by with_reducible exact heap_alloc_new _ _) (by rw [BS]; rfl) (by rw [BS]; exact OS) B1 ?_; simp only [Act.put, List.setIfInBounds_toArray, List.set_cons_zero, List.set_cons_succ])
      refine wp_gen (fun W => Ext w W ∧ W.heap[w1.heap.size]? = some (.cells (cellsOf BK).toArray 29 (0, 0))) ⟨(he.out.trans x1).trans (below_setRow ((Ext.refl w1).alloc _) (Nat.le_refl _) _), setRow_heap _ _ _ _ _ _ (heap_alloc_new _ _)⟩ ?_
      rintro W ⟨x2, kb⟩
      have ce : ∀ j, j < 64 → W.cell? ⟨w1.heap.size, j, none⟩ = some (.int .u8 (bt BK j : Int)) := fun j hj => by
        rw [cell_of_row W _ j _ _ (0, 0) kb]
        have := cellsOf_get (xs := BK) (j := j) (by omega)
        simpa using this
      have k0 := ce 0 (by omega)
      have k1 := ce 1 (by omega)
      have k63 := ce 63 (by omega)
      rw [e0.out] at k0
      rw [e1.out] at k1
      rw [e63.out] at k63
      clear ce kb
      go_wp2_with fail
      go_ret
      exact ⟨rfl, x2⟩
end Go.Proofs.Ythdjojindijmnaa
