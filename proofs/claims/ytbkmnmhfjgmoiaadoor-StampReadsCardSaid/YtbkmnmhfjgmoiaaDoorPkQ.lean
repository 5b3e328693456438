import Derived.Test.YtbkmnmhfjgmoiaaDoorMid
import Derived.Deep.MidRow
import Derived.Deep.Upon
import Derived.Test.YtbkmnmhfjgmoiaaDoorFillTwo
import Derived.Test.YtbkmnmhfjgmoiaaDoorKeyEq
section
/-
  Cells stored into the midst of a block whose cells are known. No conditions.
-/
namespace Go.Proofs.YtbkmnmhfjgmoiaaDoor
open Go.ChangeShapes Go.WideShapes Go.ChangeAt Go.RowKit Go.Deep

theorem splice_cons {α : Type} (L : List α) (o : Nat) (v : α) (r : List α) (h : o < L.length) : splice (L.set o v) (o + 1) r = splice L o (v :: r) := by
  unfold splice
  rw [List.take_set, List.drop_set, if_pos (by omega)]
  have e : (L.take (o + 1)).set o v = L.take o ++ [v] := by
    apply List.ext_getElem?
    intro i
    rw [List.getElem?_set]
    by_cases hi : o = i
    · subst hi
      rw [if_pos rfl, if_pos (by simp; omega), List.getElem?_append_right (by rw [List.length_take]; omega), List.length_take]
      simp [show min o L.length = o by omega]
    · rw [if_neg hi]
      by_cases h2 : i < o
      · rw [List.getElem?_append_left (by simp; omega), List.getElem?_take, List.getElem?_take, if_pos (by omega), if_pos h2]
      · rw [List.getElem?_take, if_neg (by omega), List.getElem?_eq_none (by simp; omega)]
  rw [e, List.append_assoc, show o + 1 + r.length = o + (v :: r).length by simp; omega]
  rfl
theorem heap_setCells_row {g : Nat} {t : TypeId} {fr : Nat × Nat} : ∀ (vs : List Value) (o : Nat) (w : World) (A : List Value), w.heap[g]? = some (.cells A.toArray t fr) → o + vs.length ≤ A.length → (w.setCells g o vs).heap[g]? = some (.cells (splice A o vs).toArray t fr)
  | [], o, w, A, h, hl => by
    have : splice A o [] = A := by simp [splice]
    rw [this]; exact h
  | v :: r, o, w, A, h, hl => by
    have h1 : (w.setCell ⟨g, o, none⟩ v).heap[g]? = some (.cells (A.set o v).toArray t fr) := by
      simp [World.setCell, Array.getElem?_modify, h]
    have := heap_setCells_row r (o + 1) _ (A.set o v) h1 (by simp at hl ⊢; omega)
    rw [splice_cons A o v r (by simp at hl; omega)] at this
    exact this
theorem there_of_row {w : World} {g o n : Nat} {A : List Value} {t : TypeId} (h : w.heap[g]? = some (.cells A.toArray t (0, 0))) (hl : o + n ≤ A.length) : w.there g o n := fun j hj => by
  refine ⟨?_, frozen_of_row w g _ _ _ h⟩
  rw [cell_of_row w g _ _ _ _ h]
  simp
  omega
theorem grown_setCells {w : World} {g o : Nat} {vs : List Value} : w.grownBy (w.setCells g o vs) (some g) := by
  have hk := World.keptBut_setCells g (may := fun _ => True) vs o w (fun _ _ => trivial)
  refine ⟨hk.1, ?_, hk.2.1, ?_, fun i hi hne => World.heap_setCells_other w g o vs hi (fun e => hne (by rw [e]))⟩
  · clear hk
    induction vs generalizing o w with
    | nil => rfl
    | cons v r ih => exact (ih (o := o + 1) (w := w.setCell ⟨g, o, none⟩ v)).trans rfl
  · clear hk
    induction vs generalizing o w with
    | nil => exact Nat.le_refl _
    | cons v r ih => exact Nat.le_trans (by simp [World.setCell]) (ih (o := o + 1) (w := w.setCell ⟨g, o, none⟩ v))
theorem grown_trans' {a b c : World} {r : Option Nat} (h : a.grownBy b r) (k : b.grownBy c r) : a.grownBy c r :=
  ⟨k.os.trans h.os, k.tape.trans h.tape, k.output.trans h.output, Nat.le_trans h.size k.size, fun i hi hne => (k.block i (Nat.lt_of_lt_of_le hi h.size) hne).trans (h.block i hi hne)⟩
theorem below_grown {a b : World} {g : Nat} (hg : g < a.heap.size) (h : a.grownBy b (some g)) : Below g a b :=
  ⟨h.os, h.tape, h.output, h.size, fun i hi => h.block i (Nat.lt_trans hi hg) (fun q => by cases q; exact Nat.lt_irrefl _ hi)⟩
end Go.Proofs.YtbkmnmhfjgmoiaaDoor
end

section
/-
  A struct is laid part by part; parts of a block of bytes are read. No conditions.
-/
namespace Go.Proofs.YtbkmnmhfjgmoiaaDoor
open Go.ChangeShapes Go.WideShapes Go.ChangeAt Go.RowKit Go.Deep
set_option maxRecDepth 100000

theorem splice_at {α : Type} {L cs : List α} {off : Nat} (h : off + cs.length ≤ L.length) (k : Nat) : (splice L off cs)[k]? = if off ≤ k ∧ k < off + cs.length then cs[k - off]? else L[k]? := by
  unfold splice
  by_cases h1 : k < off
  · rw [List.getElem?_append_left (by simp; omega), List.getElem?_take, if_pos h1, if_neg (by omega)]
  · rw [List.getElem?_append_right (by simp; omega), List.length_take, Nat.min_eq_left (by omega)]
    by_cases h2 : k < off + cs.length
    · rw [List.getElem?_append_left (by omega), if_pos (by omega)]
    · rw [List.getElem?_append_right (by omega), List.getElem?_drop, if_neg (by omega)]
      congr 1
      omega
theorem fill_step {pl : Nat → Option (Nat × Nat)} {i off n : Nat} {v : Value} {ps : List (Nat × Value)} {Z : List Value} (h : pl i = some (off, n)) (hv : v.cells.size = n) (hz : off + n ≤ Z.length) :
    Instr.fill pl Z.toArray ((i, v) :: ps) = Instr.fill pl (splice Z off v.cells.toList).toArray ps := by
  conv => lhs; unfold Instr.fill
  simp only [h, hv]
  rw [if_neg (by simp; omega), fold_cells]
  congr 1
  obtain ⟨_, g2⟩ := Great.foldl_set off v.cells.toList 0 Z.toArray
  apply Array.ext_getElem?
  intro k
  rw [g2]
  simp only [List.getElem?_toArray]
  rw [splice_at (by simp [hv]; omega)]
  simp only [Nat.add_zero, Array.length_toList, hv, List.size_toArray, List.getElem?_toArray, Array.getElem?_toList]
  by_cases hk : off ≤ k ∧ k < off + n
  · rw [if_pos ⟨hk.1, hk.2, by omega⟩, if_pos hk]
  · rw [if_neg (fun q => hk ⟨q.1, q.2.1⟩), if_neg hk]
theorem splice_mid {α : Type} {p y q z : List α} {off : Nat} (hp : p.length = off) (hl : y.length = z.length) : splice (p ++ (y ++ q)) off z = p ++ (z ++ q) := by
  unfold splice
  rw [List.take_left' hp]
  congr 2
  rw [← hl, ← List.append_assoc, List.drop_left' (by rw [List.length_append, hp])]
theorem splice_zero {α : Type} {y q z : List α} (hl : y.length = z.length) : splice (y ++ q) 0 z = z ++ q := splice_mid (p := []) rfl hl
theorem cells_agg (K : Array Value) : (Value.agg K).cells = K := rfl
theorem cells_bool (b : Bool) : (Value.bool b).cells = #[.bool b] := rfl
theorem cellsOf_app (xs ys : List UInt8) : cellsOf (xs ++ ys) = cellsOf xs ++ cellsOf ys := by rw [cellsOf_map, cellsOf_map, cellsOf_map, List.map_append]

/-- Block g has these cells. -/
def Cb (w : World) (g : Nat) (T : TypeId) (L : List Value) : Prop := w.heap[g]? = some (.cells L.toArray T (0, 0))
section
variable {w w' : World} {g : Nat} {T : TypeId} {L : List Value}
theorem Cb.lt (h : Cb w g T L) : g < w.heap.size := heap_lt h
theorem Cb.ext (h : Cb w g T L) (e : Ext w w') : Cb w' g T L := (e.block g (heap_lt h)).trans h
theorem Cb.kept {B : Nat} (h : Cb w g T L) (e : Below B w w') (hB : g < B) : Cb w' g T L := (e.block g hB).trans h
theorem Cb.frozen (h : Cb w g T L) (j : Nat) : w.frozen? ⟨g, j, none⟩ = false := frozen_of_row w g j _ _ h
theorem Cb.cell (h : Cb w g T L) {j : Nat} {v : Value} (hv : L[j]? = some v) : w.cell? ⟨g, j, none⟩ = some v := by rw [cell_of_row w g _ _ _ _ h, List.getElem?_toArray, hv]
/-- A part of it. -/
theorem Cb.mid (h : Cb w g T L) {p y q : List Value} {off : Nat} (hL : L = p ++ (y ++ q)) (hp : p.length = off) : ∀ j v, y[j]? = some v → w.cell? ⟨g, off + j, none⟩ = some v := fun j v hv => h.cell (by
  rw [hL, List.getElem?_append_right (by omega), hp, Nat.add_sub_cancel_left, List.getElem?_append_left (List.getElem?_eq_some_iff.1 hv).1, hv])
theorem Cb.put (h : Cb w g T L) {p y q z : List Value} {off : Nat} (hL : L = p ++ (y ++ q)) (hp : p.length = off) (hl : y.length = z.length) : Cb (w.setCells g off z) g T (p ++ (z ++ q)) := by
  have := heap_setCells_row z off w L h (by rw [hL]; simp; omega)
  rwa [hL, splice_mid hp hl] at this
theorem Cb.there (h : Cb w g T L) {o n : Nat} (hl : o + n ≤ L.length) : w.there g o n := there_of_row h hl
theorem Cb.row (h : Cb w g T L) {r : Nat} {C : Array Value} (hne : g ≠ r) : Cb (w.setRow r C) g T L := (setRow_other _ _ _ _ hne).trans h
theorem Cb.new (w : World) (T : TypeId) (L : List Value) : Cb (w.alloc (.cells L.toArray T)) w.heap.size T L := heap_alloc_new _ _
theorem Cb.set {L' : List Value} (h : Cb w g T L) : Cb (w.setRow g L'.toArray) g T L' := setRow_heap _ _ _ _ _ _ h
theorem Cb.setCell (h : Cb w g T L) {o : Nat} {v : Value} : Cb (w.setCell ⟨g, o, none⟩ v) g T (L.set o v) := by
  unfold Cb at *
  simp [World.setCell, Array.getElem?_modify, h]
end
theorem one_cells {L : List Value} (h : ∀ v ∈ L, v.oneCell' = true) : L.toArray.all (·.oneCell') = true := by
  simp only [List.all_toArray, List.all_eq_true]
  exact h
theorem one_mem (xs : List UInt8) : ∀ v ∈ cellsOf xs, v.oneCell' = true := fun v hv => by
  simp only [cellsOf, List.mem_map] at hv
  obtain ⟨j, _, rfl⟩ := hv
  rfl
end Go.Proofs.YtbkmnmhfjgmoiaaDoor
end

section
/-
  A stamp's cells. No conditions.
-/
namespace Go.Proofs.YtbkmnmhfjgmoiaaDoor
open Go.ChangeShapes Go.WideShapes Go.ChangeAt Go.RowKit Go.Deep
set_option maxRecDepth 100000

/-- A stamp's cells. -/
def stC (ep f t tm : Int) (c g : List UInt8) : List Value := [.int .i64 ep, .int .i64 f, .int .i64 t, .int .i64 tm] ++ (cellsOf c ++ cellsOf g)
theorem stC_len {c g : List UInt8} (hc : c.length = 32) (hg : g.length = 32) (ep f t tm : Int) : (stC ep f t tm c g).length = 68 := by simp [stC, cellsOf_len, hc, hg]

theorem one_st {ep f t tm : Int} {c g : List UInt8} : ∀ v ∈ stC ep f t tm c g, v.oneCell' = true := fun v hv => by
  simp only [stC, List.mem_append, List.mem_cons, List.not_mem_nil, or_false] at hv
  rcases hv with (rfl | rfl | rfl | rfl) | h | h
  · rfl
  · rfl
  · rfl
  · rfl
  · exact one_mem _ v h
  · exact one_mem _ v h
end Go.Proofs.YtbkmnmhfjgmoiaaDoor
end

section
/-
  The cells of heads and envelopes. No conditions.
-/
namespace Go.Proofs.YtbkmnmhfjgmoiaaDoor
open Go.ChangeShapes Go.WideShapes Go.ChangeAt Go.RowKit Go.Deep
set_option maxRecDepth 100000

def upB (z m : Int) : Bool := decide (0 ≤ z) && decide (z ≤ m)
/-- the cells of a head -/
def hdC (pk : List UInt8) (p n : Int) : List Value := cellsOf pk ++ [.int .i64 p, .int .i64 n]
theorem hdC_len {pk : List UInt8} (h : pk.length = 32) (p n : Int) : (hdC pk p n).length = 34 := by simp [hdC, cellsOf_len, h]
/-- the cells of an envelope -/
def evC (f t : Int) (cm pk : List UInt8) (p n : Int) (A : Option Addr) (m c : Nat) : List Value := [.int .i64 f, .int .i64 t] ++ (cellsOf cm ++ (hdC pk p n ++ [.slice A m c]))
theorem evC_len {cm pk : List UInt8} (hc : cm.length = 32) (hk : pk.length = 32) (f t p n : Int) (A : Option Addr) (m c : Nat) : (evC f t cm pk p n A m c).length = 69 := by simp [evC, hdC_len hk, cellsOf_len, hc]
theorem ev_cells {cm pk : List UInt8} (hc : cm.length = 32) (hk : pk.length = 32) (f t p n : Int) (A : Option Addr) (m c : Nat) :
    (evC f t cm pk p n A m c)[0]? = some (.int .i64 f) ∧ (evC f t cm pk p n A m c)[1]? = some (.int .i64 t) ∧ (evC f t cm pk p n A m c)[68]? = some (.slice A m c) ∧
    evC f t cm pk p n A m c = ([.int .i64 f, .int .i64 t] ++ cellsOf cm) ++ (hdC pk p n ++ [.slice A m c]) ∧ evC f t cm pk p n A m c = [.int .i64 f, .int .i64 t] ++ (cellsOf cm ++ (hdC pk p n ++ [.slice A m c])) := by
  refine ⟨rfl, rfl, ?_, by simp [evC], rfl⟩
  unfold evC
  rw [List.getElem?_append_right (by simp), List.getElem?_append_right (by simp [cellsOf_len, hc]), List.getElem?_append_right (by simp [cellsOf_len, hc, hdC_len hk])]
  simp [cellsOf_len, hc, hdC_len hk]
theorem one_hd {pk : List UInt8} {p n : Int} : ∀ v ∈ hdC pk p n, v.oneCell' = true := fun v hv => by
  simp only [hdC, List.mem_append, List.mem_cons, List.not_mem_nil, or_false] at hv
  rcases hv with h | rfl | rfl
  · exact one_mem _ v h
  · rfl
  · rfl
theorem one_ev {f t p n : Int} {cm pk : List UInt8} {A : Option Addr} {m c : Nat} : ∀ v ∈ evC f t cm pk p n A m c, v.oneCell' = true := fun v hv => by
  simp only [evC, List.mem_append, List.mem_cons, List.not_mem_nil, or_false] at hv
  rcases hv with (rfl | rfl) | h | h | rfl
  · rfl
  · rfl
  · exact one_mem _ v h
  · exact one_hd v h
  · rfl
end Go.Proofs.YtbkmnmhfjgmoiaaDoor
end
