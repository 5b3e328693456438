/-
  A struct is laid part by part; parts of a block of bytes are read. No conditions.
-/
import Derived.Test.YtbnjmmefnjoofaaDoorFillTwo
import Derived.Test.YtbnjmmefnjoofaaDoorKeyEq
import Derived.Test.YtbnjmmefnjoofaaDoorSetC
namespace Go.Proofs.YtbnjmmefnjoofaaDoor
open Go.ChangeShapes Go.WideShapes Go.ChangeAt Go.RowKit Go.Deep
set_option maxRecDepth 100000

theorem splice_at {α : Type} {L cs : List α} {off : Nat} (h : off + cs.length ≤ L.length) (k : Nat) : (splice L off cs)[k]? = if off ≤ k ∧ k < off + cs.length then cs[k - off]? else L[k]? := by
  unfold splice
  by_cases h1 : k < off
  · rw [List.getElem?_append_left (by simp; omega), List.getElem?_take, if_pos h1, if_neg (by omega)]
  · rw [List.getElem?_append_right (by simp; omega), List.length_take, Nat.min_eq_left (by omega)]
    by_cases h2 : k < off + cs.length
    · rw [List.getElem?_append_left (by omega), if_pos (by omega)]
    · rw [List.getElem?_append_right (by omega), List.getElem?_drop, if_neg (by omega)]
      congr 1
      omega
theorem fill_step {pl : Nat → Option (Nat × Nat)} {i off n : Nat} {v : Value} {ps : List (Nat × Value)} {Z : List Value} (h : pl i = some (off, n)) (hv : v.cells.size = n) (hz : off + n ≤ Z.length) :
    Instr.fill pl Z.toArray ((i, v) :: ps) = Instr.fill pl (splice Z off v.cells.toList).toArray ps := by
  conv => lhs; unfold Instr.fill
  simp only [h, hv]
  rw [if_neg (by simp; omega), fold_cells]
  congr 1
  obtain ⟨_, g2⟩ := Great.foldl_set off v.cells.toList 0 Z.toArray
  apply Array.ext_getElem?
  intro k
  rw [g2]
  simp only [List.getElem?_toArray]
  rw [splice_at (by simp [hv]; omega)]
  simp only [Nat.add_zero, Array.length_toList, hv, List.size_toArray, List.getElem?_toArray, Array.getElem?_toList]
  by_cases hk : off ≤ k ∧ k < off + n
  · rw [if_pos ⟨hk.1, hk.2, by omega⟩, if_pos hk]
  · rw [if_neg (fun q => hk ⟨q.1, q.2.1⟩), if_neg hk]
theorem splice_mid {α : Type} {p y q z : List α} {off : Nat} (hp : p.length = off) (hl : y.length = z.length) : splice (p ++ (y ++ q)) off z = p ++ (z ++ q) := by
  unfold splice
  rw [List.take_left' hp]
  congr 2
  rw [← hl, ← List.append_assoc, List.drop_left' (by rw [List.length_append, hp])]
theorem splice_zero {α : Type} {y q z : List α} (hl : y.length = z.length) : splice (y ++ q) 0 z = z ++ q := splice_mid (p := []) rfl hl
theorem cells_agg (K : Array Value) : (Value.agg K).cells = K := rfl
theorem cells_bool (b : Bool) : (Value.bool b).cells = #[.bool b] := rfl
theorem cellsOf_app (xs ys : List UInt8) : cellsOf (xs ++ ys) = cellsOf xs ++ cellsOf ys := by rw [cellsOf_map, cellsOf_map, cellsOf_map, List.map_append]

/-- Block g has these cells. -/
def Cb (w : World) (g : Nat) (T : TypeId) (L : List Value) : Prop := w.heap[g]? = some (.cells L.toArray T (0, 0))
section
variable {w w' : World} {g : Nat} {T : TypeId} {L : List Value}
theorem Cb.lt (h : Cb w g T L) : g < w.heap.size := heap_lt h
theorem Cb.ext (h : Cb w g T L) (e : Ext w w') : Cb w' g T L := (e.block g (heap_lt h)).trans h
theorem Cb.kept {B : Nat} (h : Cb w g T L) (e : Below B w w') (hB : g < B) : Cb w' g T L := (e.block g hB).trans h
theorem Cb.frozen (h : Cb w g T L) (j : Nat) : w.frozen? ⟨g, j, none⟩ = false := frozen_of_row w g j _ _ h
theorem Cb.cell (h : Cb w g T L) {j : Nat} {v : Value} (hv : L[j]? = some v) : w.cell? ⟨g, j, none⟩ = some v := by rw [cell_of_row w g _ _ _ _ h, List.getElem?_toArray, hv]
/-- A part of it. -/
theorem Cb.mid (h : Cb w g T L) {p y q : List Value} {off : Nat} (hL : L = p ++ (y ++ q)) (hp : p.length = off) : ∀ j v, y[j]? = some v → w.cell? ⟨g, off + j, none⟩ = some v := fun j v hv => h.cell (by
  rw [hL, List.getElem?_append_right (by omega), hp, Nat.add_sub_cancel_left, List.getElem?_append_left (List.getElem?_eq_some_iff.1 hv).1, hv])
theorem Cb.put (h : Cb w g T L) {p y q z : List Value} {off : Nat} (hL : L = p ++ (y ++ q)) (hp : p.length = off) (hl : y.length = z.length) : Cb (w.setCells g off z) g T (p ++ (z ++ q)) := by
  have := heap_setCells_row z off w L h (by rw [hL]; simp; omega)
  rwa [hL, splice_mid hp hl] at this
theorem Cb.there (h : Cb w g T L) {o n : Nat} (hl : o + n ≤ L.length) : w.there g o n := there_of_row h hl
theorem Cb.row (h : Cb w g T L) {r : Nat} {C : Array Value} (hne : g ≠ r) : Cb (w.setRow r C) g T L := (setRow_other _ _ _ _ hne).trans h
theorem Cb.new (w : World) (T : TypeId) (L : List Value) : Cb (w.alloc (.cells L.toArray T)) w.heap.size T L := heap_alloc_new _ _
theorem Cb.set {L' : List Value} (h : Cb w g T L) : Cb (w.setRow g L'.toArray) g T L' := setRow_heap _ _ _ _ _ _ h
theorem Cb.setCell (h : Cb w g T L) {o : Nat} {v : Value} : Cb (w.setCell ⟨g, o, none⟩ v) g T (L.set o v) := by
  unfold Cb at *
  simp [World.setCell, Array.getElem?_modify, h]
end
theorem one_cells {L : List Value} (h : ∀ v ∈ L, v.oneCell' = true) : L.toArray.all (·.oneCell') = true := by
  simp only [List.all_toArray, List.all_eq_true]
  exact h
theorem one_mem (xs : List UInt8) : ∀ v ∈ cellsOf xs, v.oneCell' = true := fun v hv => by
  simp only [cellsOf, List.mem_map] at hv
  obtain ⟨j, _, rfl⟩ := hv
  rfl
end Go.Proofs.YtbnjmmefnjoofaaDoor
