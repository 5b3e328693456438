/-
  A source of keys in memory: a block of 37 cells.
-/
import Derived.Test.YtadnmiedmcckkaaDoorSetC
import Derived.Test.YtadnmiedmcckkaaDoorKeyEq
import Derived.Test.YtadnmiedmcckkaaDoorFillTwo
namespace Go.Proofs.YtadnmiedmcckkaaDoor
open Go.ChangeShapes Go.WideShapes Go.ChangeAt Go.RowKit Go.Deep
set_option maxRecDepth 100000

theorem grown_of_ext {w w' : World} {r : Option Nat} (h : Ext w w') : w.grownBy w' r := ⟨h.os, h.tape, h.output, h.size, fun i hi _ => h.block i hi⟩
theorem grown_drew {a w : World} {r : Option Nat} (h : a.grownBy w r) : a.grownBy w.drew r := ⟨h.os, h.tape, h.output, h.size, h.block⟩
theorem grown_setCell {w : World} {g o : Nat} {v : Value} : w.grownBy (w.setCell ⟨g, o, none⟩ v) (some g) := grown_setCells (w := w) (g := g) (o := o) (vs := [v])
theorem grown_keep {w w' : World} {g i : Nat} {o : Obj} (h : w.grownBy w' (some g)) (hi : i ≠ g) (k : w.heap[i]? = some o) : w'.heap[i]? = some o := (h.block i (heap_lt k) (fun e => hi (Option.some.inj e))).trans k
theorem ext_grown {w0 a b : World} {g : Nat} (h : Ext w0 a) (k : a.grownBy b (some g)) (hg : w0.heap.size ≤ g) : Ext w0 b :=
  Below.trans h ⟨k.os, k.tape, k.output, k.size, fun i hi => k.block i (Nat.lt_of_lt_of_le hi h.size) (fun e => by have := Option.some.inj e; omega)⟩

/-- The cells of a source: the seed, the Once (done, the lock's state, its sema), the root, how many were told. -/
def srcC (A : Option Addr) (n c : Nat) (d s : Int) (rt : List UInt8) (m : Nat) : List Value := [.slice A n c, .int .u32 d, .int .i32 s, .int .u32 0] ++ (cellsOf rt ++ [.int .i64 (m : Int)])
theorem srcC_len {A : Option Addr} {n c m : Nat} {d s : Int} {rt : List UInt8} (h : rt.length = 32) : (srcC A n c d s rt m).length = 37 := by simp [srcC, cellsOf_len, h]
def Sb (w : World) (g : Nat) (A : Option Addr) (n c : Nat) (d s : Int) (rt : List UInt8) (m : Nat) : Prop :=
  w.heap[g]? = some (.cells (srcC A n c d s rt m).toArray 84 (0, 0)) ∧ rt.length = 32
section
variable {w w' : World} {g n c m : Nat} {A : Option Addr} {d s : Int} {rt : List UInt8}
theorem Sb.lt (h : Sb w g A n c d s rt m) : g < w.heap.size := heap_lt h.1
theorem Sb.ext (h : Sb w g A n c d s rt m) (e : Ext w w') : Sb w' g A n c d s rt m := ⟨(e.block g h.lt).trans h.1, h.2⟩
theorem Sb.kept {B : Nat} (h : Sb w g A n c d s rt m) (e : Below B w w') (hB : g < B) : Sb w' g A n c d s rt m := ⟨(e.block g hB).trans h.1, h.2⟩
theorem Sb.frozen (h : Sb w g A n c d s rt m) (j : Nat) : w.frozen? ⟨g, j, none⟩ = false := frozen_of_row w g j _ _ h.1
theorem Sb.cell0 (h : Sb w g A n c d s rt m) : w.cell? ⟨g, 0, none⟩ = some (.slice A n c) := by rw [cell_of_row w g _ _ _ _ h.1]; rfl
theorem Sb.cell1 (h : Sb w g A n c d s rt m) : w.cell? ⟨g, 1, none⟩ = some (.int .u32 d) := by rw [cell_of_row w g _ _ _ _ h.1]; rfl
theorem Sb.cell2 (h : Sb w g A n c d s rt m) : w.cell? ⟨g, 2, none⟩ = some (.int .i32 s) := by rw [cell_of_row w g _ _ _ _ h.1]; rfl
theorem Sb.cell36 (h : Sb w g A n c d s rt m) : w.cell? ⟨g, 36, none⟩ = some (.int .i64 (m : Int)) := by
  rw [cell_of_row w g _ _ _ _ h.1, List.getElem?_toArray, srcC, List.getElem?_append_right (by simp), List.getElem?_append_right (by simp [cellsOf_len, h.2])]
  simp [cellsOf_len, h.2]
theorem Sb.at4 (h : Sb w g A n c d s rt m) : ∀ j v, (cellsOf rt)[j]? = some v → w.cell? ⟨g, 4 + j, none⟩ = some v := fun j v hv => by
  rw [cell_of_row w g _ _ _ _ h.1, List.getElem?_toArray, srcC, List.getElem?_append_right (by simp), show 4 + j - [Value.slice A n c, .int .u32 d, .int .i32 s, .int .u32 0].length = j by simp, List.getElem?_append_left (List.getElem?_eq_some_iff.1 hv).1, hv]
theorem heap_setCell1 {w : World} {g o : Nat} {v : Value} {t : TypeId} {fr : Nat × Nat} {L : List Value} (h : w.heap[g]? = some (.cells L.toArray t fr)) : (w.setCell ⟨g, o, none⟩ v).heap[g]? = some (.cells (L.set o v).toArray t fr) := by
  simp [World.setCell, Array.getElem?_modify, h]
theorem Sb.set0 (h : Sb w g A n c d s rt m) (A' : Option Addr) (n' c' : Nat) : Sb (w.setCell ⟨g, 0, none⟩ (.slice A' n' c')) g A' n' c' d s rt m := ⟨heap_setCell1 h.1, h.2⟩
theorem Sb.set1 (h : Sb w g A n c d s rt m) (d' : Int) : Sb (w.setCell ⟨g, 1, none⟩ (.int .u32 d')) g A n c d' s rt m := ⟨heap_setCell1 h.1, h.2⟩
theorem Sb.set2 (h : Sb w g A n c d s rt m) (s' : Int) : Sb (w.setCell ⟨g, 2, none⟩ (.int .i32 s')) g A n c d s' rt m := ⟨heap_setCell1 h.1, h.2⟩
theorem Sb.set36 (h : Sb w g A n c d s rt m) (m' : Nat) : Sb (w.setCell ⟨g, 36, none⟩ (.int .i64 (m' : Int))) g A n c d s rt m' := ⟨by
  have := heap_setCell1 (o := 36) (v := .int .i64 (m' : Int)) h.1
  rw [this, srcC, srcC, List.set_append, if_neg (by simp), List.set_append, if_neg (by simp [cellsOf_len, h.2])]
  simp [cellsOf_len, h.2], h.2⟩
theorem Sb.setRoot (h : Sb w g A n c d s rt m) {rt' : List UInt8} (hr : rt'.length = 32) : Sb (w.setCells g 4 (cellsOf rt')) g A n c d s rt' m := ⟨by
  have := heap_setCells_row (cellsOf rt') 4 w _ h.1 (by rw [srcC_len h.2, cellsOf_len, hr]; omega)
  rw [this]
  have dd : List.drop (4 + 32) (srcC A n c d s rt m) = [.int .i64 (m : Int)] := by
    rw [srcC, ← List.append_assoc, List.drop_left' (by simp [cellsOf_len, h.2])]
  have tt : List.take 4 (srcC A n c d s rt m) = [.slice A n c, .int .u32 d, .int .i32 s, .int .u32 0] := by
    rw [srcC, List.take_left' (by simp)]
  unfold splice
  rw [cellsOf_len, hr, dd, tt]
  rfl, hr⟩
theorem Sb.there (h : Sb w g A n c d s rt m) : w.there g 4 32 := there_of_row h.1 (by rw [srcC_len h.2]; omega)
end
theorem srcInfo : (Tryd.prog.info? 84).map (·.size) = some 37 := by kernel_rfl
end Go.Proofs.YtadnmiedmcckkaaDoor
