/-
  (seal.sealer).turn; parts of a block of bytes.
-/
import Derived.Test.YthdjojindijmnaaDoorSealer
import Derived.Test.YthdjojindijmnaaDoorTurn
namespace Go.Proofs.YthdjojindijmnaaDoor
open Go.ChangeShapes Go.WideShapes Go.ChangeAt Go.RowKit Go.Deep
set_option maxRecDepth 100000

theorem part_cells {w : World} {g o : Nat} {t : TypeId} {p x q S : List UInt8} (h : w.heap[g]? = some (.cells (cellsOf S).toArray t (0, 0))) (hS : S = p ++ x ++ q) (ho : p.length = o) : ∀ j v, (cellsOf x)[j]? = some v → w.cell? ⟨g, o + j, none⟩ = some v := fun j v hv => by
  have hj := (List.getElem?_eq_some_iff.1 hv).1
  rw [cell_of_row w g _ _ _ (0, 0) h, List.getElem?_toArray, hS, cellsOf_append, cellsOf_append]
  rw [List.getElem?_append_left (by rw [List.length_append, cellsOf_len, ho]; omega), List.getElem?_append_right (by rw [cellsOf_len, ho]; omega), cellsOf_len, ho, Nat.add_sub_cancel_left]
  exact hv
theorem part_bs {w : World} {g o n : Nat} {t : TypeId} {p x q S : List UInt8} (h : w.heap[g]? = some (.cells (cellsOf S).toArray t (0, 0))) (hS : S = p ++ x ++ q) (ho : p.length = o) (hx : x.length = n) (hn : n ≤ 1000000) : Bs w (some ⟨g, o, none⟩) n n x :=
  ⟨hx, Nat.le_refl _, by unfold maxLen; omega, fun _ => ⟨g, o, rfl, heap_lt h, fun j hj => part_cells h hS ho j _ (cellsOf_get (by omega))⟩⟩

def non0 : List UInt8 := List.replicate 12 0
theorem non0_built : Tryd.prog.built 73 [] = some (cellsOf non0).toArray := by kernel_rfl

set_option maxHeartbeats 1000000 in
theorem sturn_calls {A : Option Addr} {n c : Nat} {a t k S bs : List UInt8} {w : World} (ha : a.length = 32) (hS : S = a ++ t ++ k) (h : Bs w A n c bs) (hn : n ≤ 100000000) :
    Calls Tryd.prog 34 #[.agg (cellsOf S).toArray, .slice A n c] w (RetOwn (turnL a non0 0 bs) w) := by
  have TURN : Hid (∀ W, Ext w W → Calls Tryd.prog 44 #[.agg (cellsOf a).toArray, .agg (cellsOf non0).toArray, .int .u32 0, .slice A n c] W (RetOwn (turnL a non0 0 bs) W)) := fun W e => turn_own (n := 0) ha rfl (by omega) (h.ext e) (by omega)
  have hb := non0_built
  generalize non0 = nn at *
  have KA : (cellsOf a).length = 32 := by rw [cellsOf_len, ha]
  have R0 : Hid (∀ j v, (cellsOf a)[j]? = some v → (w.alloc (Obj.cells (cellsOf S).toArray 58)).cell? ⟨w.heap.size, 0 + j, none⟩ = some v) := part_cells (p := []) (q := t ++ k) (heap_alloc_new _ _) (by rw [hS]; simp) rfl
  have h1 := h.le
  have h2 := h.cap
  clear h hS
  go_enter Tryd.func34, Tryd.ntmps34
  go_wp2_with (first
    | (refine wpList_exec rfl (exec_load_mid (ys := cellsOf a) (g := w.heap.size) (off := 0) rfl rfl R0.out rfl rfl (by rw [KA]; rfl)) ?_; simp only [Act.put, List.setIfInBounds_toArray, List.set_cons_zero, List.set_cons_succ])
    | (refine wpList_build_as rfl _ _ rfl (cellsOf nn).toArray (by simp only [List.map_toArray, List.map_nil]; exact hb) ?_; simp only [Act.put, List.setIfInBounds_toArray, List.set_cons_zero, List.set_cons_succ]))
  refine (TURN.out _ ((Ext.refl w).alloc _)).mono ?_
  rintro e w1 ⟨A1, n1, c1, rfl, b1, e1⟩
  go_wp2_with fail
  go_ret
  exact ⟨_, _, _, rfl, b1.lower (by rw [size_alloc]; omega), ((Ext.refl w).alloc _).trans e1⟩
end Go.Proofs.YthdjojindijmnaaDoor
