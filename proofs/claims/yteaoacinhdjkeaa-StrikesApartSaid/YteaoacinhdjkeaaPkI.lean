import Derived.Test.YteaoacinhdjkeaaPkJ
import Derived.Great.FillDense
import Derived.Stop.BytesEq
import Derived.Lib.SlBytesConst
import Derived.Deep.MidRow
import Derived.Deep.Upon
import Derived.Great.BuildSlice
import Derived.Maps.AppendAt
import Derived.OwnWalk
section
/-
  A struct of two parts is laid of its parts. No conditions.
-/
namespace Go.Proofs.Yteaoacinhdjkeaa
open Go.ChangeShapes Go.WideShapes Go.ChangeAt Go.RowKit Go.Deep

theorem fold_cells (off : Nat) (v : Array Value) (cs : Array Value) : v.zipIdx.foldl (fun cs (c, j) => cs.setIfInBounds (off + j) c) cs = (v.toList.zipIdx 0).foldl (fun cs (x : Value × Nat) => cs.setIfInBounds (off + x.2) x.1) cs := by
  rw [← Array.foldl_toList, Array.toList_zipIdx]
theorem fill_two {p q : Nat} {K L Z : Array Value} (pl : Nat → Option (Nat × Nat)) (h0 : pl 0 = some (0, p)) (h1 : pl 1 = some (p, q)) (hK : K.size = p) (hL : L.size = q) (hZ : Z.size = p + q) : Instr.fill pl Z [(0, .agg K), (1, .agg L)] = some (K ++ L) := by
  have c0 : (Value.agg K).cells = K := rfl
  have c1 : (Value.agg L).cells = L := rfl
  obtain ⟨g1, g2⟩ := Great.foldl_set 0 K.toList 0 Z
  obtain ⟨g3, g4⟩ := Great.foldl_set p L.toList 0 ((K.toList.zipIdx 0).foldl (fun cs (x : Value × Nat) => cs.setIfInBounds (0 + x.2) x.1) Z)
  unfold Instr.fill
  simp only [h0, c0, hK]
  rw [if_neg (by simp; omega)]
  unfold Instr.fill
  simp only [h1, c1, hL]
  rw [if_neg (by rw [fold_cells, g1]; simp; omega)]
  unfold Instr.fill
  rw [fold_cells, fold_cells]
  congr 1
  apply Array.ext_getElem?
  intro k
  rw [g4 k, g2 k, g1]
  simp only [Nat.add_zero, Nat.zero_add, Nat.zero_le, true_and, Array.length_toList, hK, hL, hZ, Nat.sub_zero]
  by_cases a : k < p
  · rw [if_neg (by omega), if_pos ⟨a, by omega⟩, Array.getElem?_append_left (by omega)]
    simp
  · by_cases b : k < p + q
    · rw [if_pos ⟨by omega, b, b⟩, Array.getElem?_append_right (by omega), hK]
      simp
    · rw [if_neg (by omega), if_neg (by omega), Array.getElem?_eq_none (by omega), Array.getElem?_eq_none (by rw [Array.size_append]; omega)]
end Go.Proofs.Yteaoacinhdjkeaa
end

section
/-
  Keys (32 bytes) are compared; whole arrays are read under a guard.
-/
namespace Go.Proofs.Yteaoacinhdjkeaa
open Go.ChangeShapes Go.WideShapes Go.ChangeAt Go.RowKit Go.Deep
set_option maxRecDepth 100000

theorem cellsOf_cell (xs : List UInt8) : cellsOf xs = xs.map Extern.Stop.cell := by rw [cellsOf_map]; rfl

section
variable {ops : Array Oper} {rest : List Oper} {o : Oper} {a : Act} {w : World} {Q : Exit → Act → World → Prop}
/-- What yields a value and leaves the world. -/
theorem wpList_exec {P : Program} {v : Value} (hw : Region.wanted o (yielded ops a.tmps) = true) (hr : (execOp a.eval o).run P w = .ok (.value v) w) (h : wpList P ops Q rest (a.put o.dst v) w) : wpList P ops Q (o :: rest) a w :=
  BigFrame.wpList_want hw fun K hK => by
    unfold Oper.wp
    rw [hr]
    exact hK _ _ h
theorem exec_build_as {P : Program} {t : TypeId} {parts : Array (Nat × Operand)} {cells : Array Value} (ho : o.op = .build t parts) (hf : P.built t (parts.map fun (i, x) => (i, a.eval x)).toList = some cells) : (execOp a.eval o).run P w = .ok (.value (.agg cells)) w := by
  unfold execOp
  simp only [ho, Sem.run_bind, run_build w t _ cells hf, Result.andThen_ok, Sem.run_pure]
theorem wpList_load_rowW {P : Program} (hw : Region.wanted o (yielded ops a.tmps) = true) (ty : TypeId) (x : Operand) (ho : o.op = .load ty x)
    (g : Nat) (hx : a.eval x = .pointer (some ⟨g, 0, none⟩)) (t : TypeId) (cs : Array Value) (fr : Nat × Nat) (d : TypeDesc) (hg : w.heap[g]? = some (.cells cs t fr))
    (hu : P.underlying ty = some d) (hd : (match d with | .struct _ | .array _ _ => true | _ => false) = true) (hi : (P.info? ty).map (·.size) = some cs.size)
    (h : wpList P ops Q rest (a.put o.dst (.agg cs)) w) : wpList P ops Q (o :: rest) a w := wpList_exec hw (exec_load_row ho hx hg hu hd hi) h
end

/-- A slice of a whole block. -/
theorem Bs.of_list {w : World} {g n : Nat} {t : TypeId} {fr : Nat × Nat} {cs : Array Value} {xs : List UInt8} (hc : cs = (cellsOf xs).toArray) (h : w.heap[g]? = some (.cells cs t fr)) (hn : xs.length = n ∧ n ≤ 1000000) : Bs w (some ⟨g, 0, none⟩) n n xs := by
  subst hc
  have := Bs.part h (o := 0) (n := n) (c := n) (by omega) (by omega) (by omega)
  rw [List.drop_zero, List.take_of_length_le (by omega)] at this
  exact this
/-- Block g is a key's. -/
theorem Ext.newRow (w : World) (o : Obj) (C : Array Value) : Ext w ((w.alloc o).setRow w.heap.size C) := below_setRow ((Ext.refl w).alloc _) (Nat.le_refl _) _
theorem conv_const (w : World) (C : Array Value) (n c : Nat) : (convert 37 37 (.slice (some ⟨w.heap.size, 0, none⟩) n c)).run Try.prog (w.alloc (.cells C 5)) = .ok (.slice (some ⟨w.heap.size, 0, none⟩) n c) (w.alloc (.cells C 5 (C.size, C.size + 1))) :=
  Lib.run_convert_bytes_const (P := Try.prog) w 37 5 C n c Try.underlying37 Try.underlying5
end Go.Proofs.Yteaoacinhdjkeaa
end

section
/-
  An array in the midst of a block is read.
-/
namespace Go.Proofs.Yteaoacinhdjkeaa
open Go.ChangeShapes Go.WideShapes Go.ChangeAt Go.RowKit Go.Deep

/-- An array in the midst of a block. -/
theorem exec_load_mid {P : Program} {o : Oper} {a : Act} {w : World} {ty : TypeId} {x : Operand} {g off : Nat} {ys : List Value} {d : TypeDesc} (ho : o.op = .load ty x) (hx : a.eval x = .pointer (some ⟨g, off, none⟩)) (hc : ∀ j v, ys[j]? = some v → w.cell? ⟨g, off + j, none⟩ = some v)
    (hu : P.underlying ty = some d) (hd : (match d with | .struct _ | .array _ _ => true | _ => false) = true) (hi : (P.info? ty).map (·.size) = some ys.length) : (execOp a.eval o).run P w = .ok (.value (.agg ys.toArray)) w := by
  have hl : (loadCells ⟨g, off, none⟩ ys.length).run P w = .ok ys.toArray w := run_loadCells_list (P := P) w ⟨g, off, none⟩ ys (fun j v hv => by
    have hadd : (⟨g, off, none⟩ : Addr).add j = ⟨g, off + j, none⟩ := by unfold Addr.add; split <;> simp_all
    rw [hadd]
    exact hc j v hv)
  have hv : (loadVar ty ⟨g, off, none⟩).run P w = .ok (.agg ys.toArray) w := by
    cases hq : P.info? ty with
    | none => simp [hq] at hi
    | some i =>
      have hs : i.size = ys.length := by simpa [hq] using hi
      have hagg : (isAgg ty).run P w = .ok true w := by
        unfold isAgg
        rw [Sem.run_bind, run_underlying hu w]
        cases d <;> simp_all
      simp [loadVar, Sem.run_bind, hagg, sizeOf, typeInfo, hq, hs, hl]
  unfold execOp
  simp only [ho, hx, Instr.loadAt, Instr.sureAddr, Sem.run_bind, Sem.run_pure, Result.andThen_ok, hv]

theorem wpList_load_mid {P : Program} {ops : Array Oper} {rest : List Oper} {o : Oper} {a : Act} {w : World} {Q : Exit → Act → World → Prop} (hw : Region.wanted o (yielded ops a.tmps) = true) {ty : TypeId} {x : Operand} {g off : Nat} {ys : List Value} {d : TypeDesc} (ho : o.op = .load ty x) (hx : a.eval x = .pointer (some ⟨g, off, none⟩)) (hc : ∀ j v, ys[j]? = some v → w.cell? ⟨g, off + j, none⟩ = some v)
    (hu : P.underlying ty = some d) (hd : (match d with | .struct _ | .array _ _ => true | _ => false) = true) (hi : (P.info? ty).map (·.size) = some ys.length) (h : wpList P ops Q rest (a.put o.dst (.agg ys.toArray)) w) : wpList P ops Q (o :: rest) a w :=
  wpList_exec hw (exec_load_mid ho hx hc hu hd hi) h
end Go.Proofs.Yteaoacinhdjkeaa
end

section
/-
  Cells stored into the midst of a block whose cells are known. No conditions.
-/
namespace Go.Proofs.Yteaoacinhdjkeaa
open Go.ChangeShapes Go.WideShapes Go.ChangeAt Go.RowKit Go.Deep

theorem splice_cons {α : Type} (L : List α) (o : Nat) (v : α) (r : List α) (h : o < L.length) : splice (L.set o v) (o + 1) r = splice L o (v :: r) := by
  unfold splice
  rw [List.take_set, List.drop_set, if_pos (by omega)]
  have e : (L.take (o + 1)).set o v = L.take o ++ [v] := by
    apply List.ext_getElem?
    intro i
    rw [List.getElem?_set]
    by_cases hi : o = i
    · subst hi
      rw [if_pos rfl, if_pos (by simp; omega), List.getElem?_append_right (by rw [List.length_take]; omega), List.length_take]
      simp [show min o L.length = o by omega]
    · rw [if_neg hi]
      by_cases h2 : i < o
      · rw [List.getElem?_append_left (by simp; omega), List.getElem?_take, List.getElem?_take, if_pos (by omega), if_pos h2]
      · rw [List.getElem?_take, if_neg (by omega), List.getElem?_eq_none (by simp; omega)]
  rw [e, List.append_assoc, show o + 1 + r.length = o + (v :: r).length by simp; omega]
  rfl
theorem heap_setCells_row {g : Nat} {t : TypeId} {fr : Nat × Nat} : ∀ (vs : List Value) (o : Nat) (w : World) (A : List Value), w.heap[g]? = some (.cells A.toArray t fr) → o + vs.length ≤ A.length → (w.setCells g o vs).heap[g]? = some (.cells (splice A o vs).toArray t fr)
  | [], o, w, A, h, hl => by
    have : splice A o [] = A := by simp [splice]
    rw [this]; exact h
  | v :: r, o, w, A, h, hl => by
    have h1 : (w.setCell ⟨g, o, none⟩ v).heap[g]? = some (.cells (A.set o v).toArray t fr) := by
      simp [World.setCell, Array.getElem?_modify, h]
    have := heap_setCells_row r (o + 1) _ (A.set o v) h1 (by simp at hl ⊢; omega)
    rw [splice_cons A o v r (by simp at hl; omega)] at this
    exact this
theorem there_of_row {w : World} {g o n : Nat} {A : List Value} {t : TypeId} (h : w.heap[g]? = some (.cells A.toArray t (0, 0))) (hl : o + n ≤ A.length) : w.there g o n := fun j hj => by
  refine ⟨?_, frozen_of_row w g _ _ _ h⟩
  rw [cell_of_row w g _ _ _ _ h]
  simp
  omega
theorem grown_setCells {w : World} {g o : Nat} {vs : List Value} : w.grownBy (w.setCells g o vs) (some g) := by
  have hk := World.keptBut_setCells g (may := fun _ => True) vs o w (fun _ _ => trivial)
  refine ⟨hk.1, ?_, hk.2.1, ?_, fun i hi hne => World.heap_setCells_other w g o vs hi (fun e => hne (by rw [e]))⟩
  · clear hk
    induction vs generalizing o w with
    | nil => rfl
    | cons v r ih => exact (ih (o := o + 1) (w := w.setCell ⟨g, o, none⟩ v)).trans rfl
  · clear hk
    induction vs generalizing o w with
    | nil => exact Nat.le_refl _
    | cons v r ih => exact Nat.le_trans (by simp [World.setCell]) (ih (o := o + 1) (w := w.setCell ⟨g, o, none⟩ v))
theorem grown_trans' {a b c : World} {r : Option Nat} (h : a.grownBy b r) (k : b.grownBy c r) : a.grownBy c r :=
  ⟨k.os.trans h.os, k.tape.trans h.tape, k.output.trans h.output, Nat.le_trans h.size k.size, fun i hi hne => (k.block i (Nat.lt_of_lt_of_le hi h.size) hne).trans (h.block i hi hne)⟩
theorem below_grown {a b : World} {g : Nat} (hg : g < a.heap.size) (h : a.grownBy b (some g)) : Below g a b :=
  ⟨h.os, h.tape, h.output, h.size, fun i hi => h.block i (Nat.lt_trans hi hg) (fun q => by cases q; exact Nat.lt_irrefl _ hi)⟩
end Go.Proofs.Yteaoacinhdjkeaa
end

section
/-
  A struct is laid part by part; parts of a block of bytes are read. No conditions.
-/
namespace Go.Proofs.Yteaoacinhdjkeaa
open Go.ChangeShapes Go.WideShapes Go.ChangeAt Go.RowKit Go.Deep
set_option maxRecDepth 100000

theorem splice_at {α : Type} {L cs : List α} {off : Nat} (h : off + cs.length ≤ L.length) (k : Nat) : (splice L off cs)[k]? = if off ≤ k ∧ k < off + cs.length then cs[k - off]? else L[k]? := by
  unfold splice
  by_cases h1 : k < off
  · rw [List.getElem?_append_left (by simp; omega), List.getElem?_take, if_pos h1, if_neg (by omega)]
  · rw [List.getElem?_append_right (by simp; omega), List.length_take, Nat.min_eq_left (by omega)]
    by_cases h2 : k < off + cs.length
    · rw [List.getElem?_append_left (by omega), if_pos (by omega)]
    · rw [List.getElem?_append_right (by omega), List.getElem?_drop, if_neg (by omega)]
      congr 1
      omega
theorem fill_step {pl : Nat → Option (Nat × Nat)} {i off n : Nat} {v : Value} {ps : List (Nat × Value)} {Z : List Value} (h : pl i = some (off, n)) (hv : v.cells.size = n) (hz : off + n ≤ Z.length) :
    Instr.fill pl Z.toArray ((i, v) :: ps) = Instr.fill pl (splice Z off v.cells.toList).toArray ps := by
  conv => lhs; unfold Instr.fill
  simp only [h, hv]
  rw [if_neg (by simp; omega), fold_cells]
  congr 1
  obtain ⟨_, g2⟩ := Great.foldl_set off v.cells.toList 0 Z.toArray
  apply Array.ext_getElem?
  intro k
  rw [g2]
  simp only [List.getElem?_toArray]
  rw [splice_at (by simp [hv]; omega)]
  simp only [Nat.add_zero, Array.length_toList, hv, List.size_toArray, List.getElem?_toArray, Array.getElem?_toList]
  by_cases hk : off ≤ k ∧ k < off + n
  · rw [if_pos ⟨hk.1, hk.2, by omega⟩, if_pos hk]
  · rw [if_neg (fun q => hk ⟨q.1, q.2.1⟩), if_neg hk]
theorem splice_mid {α : Type} {p y q z : List α} {off : Nat} (hp : p.length = off) (hl : y.length = z.length) : splice (p ++ (y ++ q)) off z = p ++ (z ++ q) := by
  unfold splice
  rw [List.take_left' hp]
  congr 2
  rw [← hl, ← List.append_assoc, List.drop_left' (by rw [List.length_append, hp])]
theorem splice_zero {α : Type} {y q z : List α} (hl : y.length = z.length) : splice (y ++ q) 0 z = z ++ q := splice_mid (p := []) rfl hl
theorem cells_agg (K : Array Value) : (Value.agg K).cells = K := rfl
theorem cells_bool (b : Bool) : (Value.bool b).cells = #[.bool b] := rfl
theorem cellsOf_app (xs ys : List UInt8) : cellsOf (xs ++ ys) = cellsOf xs ++ cellsOf ys := by rw [cellsOf_map, cellsOf_map, cellsOf_map, List.map_append]

/-- Block g has these cells. -/
def Cb (w : World) (g : Nat) (T : TypeId) (L : List Value) : Prop := w.heap[g]? = some (.cells L.toArray T (0, 0))
section
variable {w w' : World} {g : Nat} {T : TypeId} {L : List Value}
theorem Cb.lt (h : Cb w g T L) : g < w.heap.size := heap_lt h
theorem Cb.ext (h : Cb w g T L) (e : Ext w w') : Cb w' g T L := (e.block g (heap_lt h)).trans h
theorem Cb.kept {B : Nat} (h : Cb w g T L) (e : Below B w w') (hB : g < B) : Cb w' g T L := (e.block g hB).trans h
theorem Cb.frozen (h : Cb w g T L) (j : Nat) : w.frozen? ⟨g, j, none⟩ = false := frozen_of_row w g j _ _ h
theorem Cb.cell (h : Cb w g T L) {j : Nat} {v : Value} (hv : L[j]? = some v) : w.cell? ⟨g, j, none⟩ = some v := by rw [cell_of_row w g _ _ _ _ h, List.getElem?_toArray, hv]
/-- A part of it. -/
theorem Cb.mid (h : Cb w g T L) {p y q : List Value} {off : Nat} (hL : L = p ++ (y ++ q)) (hp : p.length = off) : ∀ j v, y[j]? = some v → w.cell? ⟨g, off + j, none⟩ = some v := fun j v hv => h.cell (by
  rw [hL, List.getElem?_append_right (by omega), hp, Nat.add_sub_cancel_left, List.getElem?_append_left (List.getElem?_eq_some_iff.1 hv).1, hv])
theorem Cb.put (h : Cb w g T L) {p y q z : List Value} {off : Nat} (hL : L = p ++ (y ++ q)) (hp : p.length = off) (hl : y.length = z.length) : Cb (w.setCells g off z) g T (p ++ (z ++ q)) := by
  have := heap_setCells_row z off w L h (by rw [hL]; simp; omega)
  rwa [hL, splice_mid hp hl] at this
theorem Cb.there (h : Cb w g T L) {o n : Nat} (hl : o + n ≤ L.length) : w.there g o n := there_of_row h hl
theorem Cb.row (h : Cb w g T L) {r : Nat} {C : Array Value} (hne : g ≠ r) : Cb (w.setRow r C) g T L := (setRow_other _ _ _ _ hne).trans h
theorem Cb.new (w : World) (T : TypeId) (L : List Value) : Cb (w.alloc (.cells L.toArray T)) w.heap.size T L := heap_alloc_new _ _
theorem Cb.set {L' : List Value} (h : Cb w g T L) : Cb (w.setRow g L'.toArray) g T L' := setRow_heap _ _ _ _ _ _ h
theorem Cb.setCell (h : Cb w g T L) {o : Nat} {v : Value} : Cb (w.setCell ⟨g, o, none⟩ v) g T (L.set o v) := by
  unfold Cb at *
  simp [World.setCell, Array.getElem?_modify, h]
end
theorem one_cells {L : List Value} (h : ∀ v ∈ L, v.oneCell' = true) : L.toArray.all (·.oneCell') = true := by
  simp only [List.all_toArray, List.all_eq_true]
  exact h
theorem one_mem (xs : List UInt8) : ∀ v ∈ cellsOf xs, v.oneCell' = true := fun v hv => by
  simp only [cellsOf, List.mem_map] at hv
  obtain ⟨j, _, rfl⟩ := hv
  rfl
end Go.Proofs.Yteaoacinhdjkeaa
end

section
/-
  A row of the call's own that is appended to, whose elements have several cells. No conditions.
-/
namespace Go.Proofs.Yteaoacinhdjkeaa
open Go.ChangeShapes Go.WideShapes Go.ChangeAt Go.RowKit Go.Deep

/-- The slice owns a row from block B on, whose elements have the cells of L, s each. -/
def OwnC (B : Nat) (w : World) (e : TypeId) (s : Nat) (A : Option Addr) (n c : Nat) (L : List (List Value)) : Prop := w.ownsRow B e s (.slice A n c) n L.flatten ∧ (∀ x ∈ L, x.length = s) ∧ L.length = n
section
variable {B : Nat} {w w' : World} {e : TypeId} {s : Nat} {A : Option Addr} {n c : Nat} {L : List (List Value)}
theorem OwnC.nil (B : Nat) (w : World) (e : TypeId) (s : Nat) : OwnC B w e s none 0 0 [] := ⟨World.ownsRow_nil w B _ s, fun x hx => by simp at hx, rfl⟩
theorem OwnC.ge (h : OwnC B w e s A n c L) : ∀ g, Value.ownBlock (.slice A n c) = some g → B ≤ g := fun g hg => (World.ownsRow.lt h.1 g hg).1
theorem OwnC.ext (h : OwnC B w e s A n c L) (x : Ext w w') : OwnC B w' e s A n c L := by
  refine ⟨⟨h.1.1, ?_⟩, h.2⟩
  rcases h.1.2 with h | ⟨g, cap, cur, hv, hb, hg, r⟩
  · exact .inl h
  · exact .inr ⟨g, cap, cur, hv, hb, (x.block g (heap_lt hg)).trans hg, r⟩
theorem OwnC.kept {row : Option Nat} (h : OwnC B w e s A n c L) (hg : w.grownBy w' row) (hne : Value.ownBlock (.slice A n c) = none ∨ Value.ownBlock (.slice A n c) ≠ row) : OwnC B w' e s A n c L := by
  refine ⟨⟨h.1.1, ?_⟩, h.2⟩
  rcases h.1.2 with h | ⟨g, cap, cur, hv, hb, hgg, r⟩
  · exact .inl h
  · refine .inr ⟨g, cap, cur, hv, hb, (hg.block g (heap_lt hgg) ?_).trans hgg, r⟩
    intro q
    rw [hv] at hne
    rcases hne with q1 | q1
    · simp [Value.ownBlock] at q1
    · exact q1 (by simp [Value.ownBlock, q])
theorem OwnC.cap (h : OwnC B w e s A n c L) : n ≤ c ∧ c ≤ maxLen := by
  rcases h.1.2 with ⟨hv, hn⟩ | ⟨g, cap, cur, hv, hb, hg, hnc, hcm, _⟩
  · injection hv with _ _ q
    omega
  · injection hv with _ _ q
    subst q
    exact ⟨hnc, hcm⟩
theorem OwnC.cells (h : OwnC B w e s A n c L) : 0 < n → ∃ b, A = some ⟨b, 0, none⟩ ∧ b < w.heap.size ∧ B ≤ b ∧ ∀ q v, L.flatten[q]? = some v → w.cell? ⟨b, q, none⟩ = some v := fun h0 => by
  rcases h.1.2 with ⟨hv, hn⟩ | ⟨g, cap, cur, hv, hb, hg, hnc, hcm, hcs, htk⟩
  · omega
  · injection hv with h1 h2 h3
    subst h1
    refine ⟨g, rfl, heap_lt hg, hb, fun q v hq => ?_⟩
    rw [← htk, List.getElem?_take] at hq
    split at hq
    · rw [cell_of_row w g _ _ _ _ hg]
      simpa using hq
    · cases hq
end
theorem flat_at {α : Type} {s : Nat} : ∀ {L : List (List α)}, (∀ x ∈ L, x.length = s) → ∀ {j i : Nat}, j < L.length → i < s → L.flatten[j * s + i]? = (L.getD j [])[i]?
  | [], _, j, _, h, _ => absurd h (by simp)
  | x :: L, hl, 0, i, _, hi => by
    have hx := hl x (List.mem_cons_self ..)
    rw [List.flatten_cons, List.getElem?_append_left (by omega)]
    simp
  | x :: L, hl, j + 1, i, hj, hi => by
    have hx := hl x (List.mem_cons_self ..)
    rw [List.flatten_cons, List.getElem?_append_right (by rw [hx, Nat.add_mul]; omega), hx, show (j + 1) * s + i - s = j * s + i by rw [Nat.add_mul]; omega, flat_at (fun y hy => hl y (List.mem_cons_of_mem _ hy)) (by simpa using hj) hi]
    simp
theorem wpList_append_c {P : Program} {w : World} {ops : Array Oper} {rest : List Oper} {o : Oper} {a : Act} {Q : Exit → Act → World → Prop} (hgd : o.guard = none) {B : Nat} {t e te : TypeId} {s bytes : Nat} {z : Value} (ht : P.underlying t = some (.slice e)) (hinfo : (P.info? e).map (fun i => (i.zero, i.size, i.bytes)) = some (some z, s, bytes)) (hzs : z.cells.size = s) (s0 : 0 < s) (hbytes : bytes ≤ 1000000)
    {A : Option Addr} {n c g : Nat} {L : List (List Value)} {cs : List Value} {fr : Nat × Nat} {x y : Operand}
    (ho : o.op = .call { callee := .builtin .append, args := #[x, y], argTypes := #[t, t] }) (hx : a.eval x = .slice A n c) (hy : a.eval y = .slice (some ⟨g, 0, none⟩) 1 1)
    (h : OwnC B w e s A n c L) (hg : w.heap[g]? = some (.cells cs.toArray te fr)) (hk : cs.length = s) (h1 : ∀ u ∈ cs, u.oneCell' = true) (hm : n ≤ 1000) (hB : B ≤ w.heap.size)
    (hK : ∀ A'' c'' w', OwnC B w' e s A'' (n + 1) c'' (L ++ [cs]) → w.grownBy w' (Value.ownBlock (.slice A n c)) → Below B w w' → wpList P ops Q rest (a.put o.dst (.slice A'' (n + 1) c'')) w') : wpList P ops Q (o :: rest) a w := by
  refine wpList_plain hgd fun K hK' => ?_
  obtain ⟨i, hi, hz0, hz1, hz2⟩ := info_parts hinfo
  obtain ⟨v', w', hr, hown, hgr, _, _⟩ := run_append_own_at (P := P) w B t o.type e i z s bytes ht hi hz0 hz1 hz2 hzs s0 (.slice A n c) n L.flatten h.1 ⟨g, 0, none⟩ 1 1 cs (by rw [hk, Nat.one_mul]) (fun j u hu => by
    have hadd : (⟨g, 0, none⟩ : Addr).add j = ⟨g, j, none⟩ := by unfold Addr.add; split <;> simp_all
    rw [hadd, cell_of_row w g j _ _ _ hg]
    simpa using hu) h1 (by unfold maxLen; omega) (by
      have : (n + 1) * bytes ≤ 1001 * 1000000 := Nat.mul_le_mul (by omega) hbytes
      omega) hB
  have ee : L.flatten ++ cs = (L ++ [cs]).flatten := by simp
  rw [ee] at hown
  have hl1 : ∀ x ∈ L ++ [cs], x.length = s := fun x hx => by
    rcases List.mem_append.1 hx with q | q
    · exact h.2.1 x q
    · simp at q; subst q; exact hk
  have hl2 : (L ++ [cs]).length = n + 1 := by rw [List.length_append, h.2.2]; rfl
  have hform : ∃ A'' c'', v' = .slice A'' (n + 1) c'' := by
    rcases hown.2 with ⟨hv, hn⟩ | ⟨g', cap, cur, hv, _⟩
    · omega
    · exact ⟨_, _, hv⟩
  obtain ⟨A'', c'', rfl⟩ := hform
  unfold Oper.wp execOp
  simp only [ho, resolve, invoke, builtin, Sem.run_bind, Sem.run_pure, Result.andThen_ok, List.map_toArray, List.map_cons, List.map_nil, hx, hy, hr]
  exact hK' _ _ (hK A'' c'' w' ⟨hown, hl1, hl2⟩ hgr ((Below.refl B w).grown hgr hB h.ge))
/-- A slice of one element. -/
theorem wpList_slice_c {P : Program} {w : World} {ops : Array Oper} {rest : List Oper} {o : Oper} {a : Act} {Q : Exit → Act → World → Prop} (hgd : o.guard = none) {t e : TypeId} {s bytes : Nat} {z : Value} (ht : P.underlying t = some (.slice e)) (hinfo : (P.info? e).map (fun i => (i.zero, i.size, i.bytes)) = some (some z, s, bytes)) (hzs : z.cells.size = s) (s0 : 0 < s) (s1 : s ≤ 1000000)
    {cs : List Value} {x : Operand} {g : Nat} (hk : cs.length = s) (hg : w.heap.size = g)
    (ho : o.op = .buildSlice t 1 #[(0, x)]) (hx : (a.eval x).cells = cs.toArray)
    (h : wpList P ops Q rest (a.put o.dst (.slice (some ⟨g, 0, none⟩) 1 1)) (w.alloc (.cells cs.toArray e))) : wpList P ops Q (o :: rest) a w := by
  subst hg
  obtain ⟨i, hi, hz0, hz1, hz2⟩ := info_parts hinfo
  refine wpList_buildSlice hgd t e 1 _ ho cs.toArray i _ ht hi hz0 (by rw [hz1]; omega) (by rw [hz1]; omega) ?_ h
  rw [hz1]
  simp only [List.map_toArray, List.map_cons, List.map_nil]
  have := Great.fill_whole (s := s) s0 [a.eval x] ((Array.range (1 * s)).map (z.cells[· % z.cells.size]!)) (fun v hv => by
    simp only [List.mem_singleton] at hv
    subst hv
    rw [hx]
    simpa using hk) (by simp)
  simp only [List.zipIdx_cons, List.zipIdx_nil, List.map_cons, List.map_nil, List.flatMap_cons, List.flatMap_nil, List.append_nil, hx] at this
  exact this
end Go.Proofs.Yteaoacinhdjkeaa
end
