/-
  A job: a key, a nonce and a number, in one block.
-/
import Derived.Test.YthdjojindijmnaaAwake4
namespace Go.Proofs.Ythdjojindijmnaa
open Go.ChangeShapes Go.WideShapes Go.ChangeAt Go.RowKit Go.Deep

def jobL (ks ns : List UInt8) (n : Nat) : List Value := cellsOf ks ++ (cellsOf ns ++ [.int .u32 (n : Int)])
/-- Block g is a job's. -/
def Jb (w : World) (g : Nat) (ks ns : List UInt8) (n : Nat) : Prop := w.heap[g]? = some (.cells (jobL ks ns n).toArray 27 (0, 0)) ∧ ks.length = 32 ∧ ns.length = 12 ∧ n < 4294967296
section
variable {w w' : World} {g : Nat} {ks ns : List UInt8} {n : Nat}
theorem Jb.ext (h : Jb w g ks ns n) (e : Ext w w') : Jb w' g ks ns n := ⟨(e.block g (heap_lt h.1)).trans h.1, h.2⟩
theorem Jb.key (h : Jb w g ks ns n) : ∀ j v, (cellsOf ks)[j]? = some v → w.cell? ⟨g, 0 + j, none⟩ = some v := fun j v hv => by
  have hj := (List.getElem?_eq_some_iff.1 hv).1
  rw [cell_of_row w g _ _ _ (0, 0) h.1, Nat.zero_add]
  rw [List.getElem?_toArray]
  unfold jobL
  rw [List.getElem?_append_left hj]; exact hv
theorem Jb.non (h : Jb w g ks ns n) : ∀ j v, (cellsOf ns)[j]? = some v → w.cell? ⟨g, 32 + j, none⟩ = some v := fun j v hv => by
  have hj := (List.getElem?_eq_some_iff.1 hv).1
  rw [cell_of_row w g _ _ _ (0, 0) h.1]
  rw [List.getElem?_toArray]
  unfold jobL
  rw [List.getElem?_append_right (by rw [cellsOf_len, h.2.1]; omega), cellsOf_len, h.2.1, Nat.add_sub_cancel_left, List.getElem?_append_left hj]; exact hv
theorem Jb.num (h : Jb w g ks ns n) : w.cell? ⟨g, 44, none⟩ = some (.int .u32 (n : Int)) := by
  rw [cell_of_row w g _ _ _ (0, 0) h.1]
  rw [List.getElem?_toArray]
  unfold jobL
  rw [List.getElem?_append_right (by rw [cellsOf_len, h.2.1]; omega), List.getElem?_append_right (by rw [cellsOf_len, cellsOf_len, h.2.1, h.2.2.1]; omega), cellsOf_len, cellsOf_len, h.2.1, h.2.2.1]
  rfl
theorem Jb.boxed (w : World) (hk : ks.length = 32) (hn : ns.length = 12) (hN : n < 4294967296) : Jb (w.alloc (.cells (jobL ks ns n).toArray 27)) w.heap.size ks ns n := ⟨heap_alloc_new _ _, hk, hn, hN⟩
end
theorem turn_twice {ks ns : List UInt8} {n : Nat} {bs : List UInt8} : turnL ks ns n (turnL ks ns n bs) = bs := by
  refine list_bt (by rw [turnL_len, turnL_len]) fun j hj => ?_
  rw [turnL_len, turnL_len] at hj
  rw [bt_turnL (by rw [turnL_len]; exact hj), bt_turnL hj, Nat.xor_assoc, Nat.xor_self, Nat.xor_zero]
end Go.Proofs.Ythdjojindijmnaa
