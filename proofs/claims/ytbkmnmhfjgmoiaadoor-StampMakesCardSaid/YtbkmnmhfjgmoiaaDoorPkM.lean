import Derived.Test.YtbkmnmhfjgmoiaaDoorWo
section
/-
  blake.permutations.
-/
namespace Go.Proofs.YtbkmnmhfjgmoiaaDoor
open Go.ChangeShapes Go.WideShapes Go.ChangeAt Go.RowKit Go.Deep

def permL : List (List Nat) := [
  [0, 1, 2, 3, 4, 5, 6, 7, 8, 9, 10, 11, 12, 13, 14, 15],
  [14, 10, 4, 8, 9, 15, 13, 6, 1, 12, 0, 2, 11, 7, 5, 3],
  [11, 8, 12, 0, 5, 2, 15, 13, 10, 14, 3, 6, 7, 1, 9, 4],
  [7, 9, 3, 1, 13, 12, 11, 14, 2, 6, 5, 10, 4, 0, 15, 8],
  [9, 0, 5, 7, 2, 4, 10, 15, 14, 1, 11, 12, 6, 8, 3, 13],
  [2, 12, 6, 10, 0, 11, 8, 3, 4, 13, 7, 5, 15, 14, 1, 9],
  [12, 5, 1, 15, 14, 13, 4, 10, 0, 7, 6, 3, 9, 2, 8, 11],
  [13, 11, 7, 14, 12, 1, 3, 9, 5, 0, 15, 4, 8, 6, 2, 10],
  [6, 15, 14, 9, 11, 3, 0, 8, 12, 2, 13, 7, 1, 4, 10, 5],
  [10, 2, 8, 4, 7, 6, 1, 5, 15, 11, 9, 14, 3, 12, 13, 0]]
def permC : Array Value := ((permL.flatten).map fun x : Nat => Value.int .u8 (x : Int)).toArray

set_option maxRecDepth 100000 in
set_option maxHeartbeats 1000000 in
theorem perm_calls {w : World} :
    Calls Tryd.prog 46 #[] w fun e w' => e = .returned (.agg permC) ∧ Ext w w' := by
  have hz : ∀ w, (zeroValue 83).run Tryd.prog w = .ok (.agg (Array.replicate 160 (.int .u8 0))) w := fun _ => by kernel_rfl
  have hg := Lib.hid (heap_alloc_new w (Obj.cells (Array.replicate 160 (.int .u8 0)) 83))
  have he : Hid (Ext w (w.alloc (Obj.cells (Array.replicate 160 (.int .u8 0)) 83))) := (Ext.refl _).alloc _
  have hZ : (Array.replicate 160 (Value.int .u8 0)).size = 160 := by simp
  have hp : permC.size = 160 := by kernel_rfl
  have hone : permC.all (·.oneCell') = true := by kernel_rfl
  generalize Array.replicate 160 (Value.int .u8 0) = Z at hz hg he hZ
  go_enter Tryd.func46, Tryd.ntmps46
  go_wp2_with (refine wpList_build rfl _ _ rfl (by kernel_rfl) ?_)
  rename_i hyp
  clear hyp
  generalize hB : Option.getD (Program.built Tryd.prog 83 _) #[] = B
  have hBp : B = permC := hB.symm.trans (by kernel_rfl)
  clear hB
  subst hBp
  have hst := run_storeCells_from (P := Tryd.prog) w.heap.size 83 permC.toList 0 Z _ hg.out (by rw [Array.length_toList, hp, hZ]) (fun v hv => (Array.all_eq_true_iff_forall_mem.1 hone) v (by simpa using hv))
  rw [hst]
  simp only [List.take_zero, List.nil_append, Array.toArray_toList]
  iterate 10 (generalize Option.getD (Program.built Tryd.prog 82 _) #[] = B)
  go_wp2_with fail
  (try simp only [Exit.inBlock, Exit.then])
  refine bodyPost_ret (results_cell_row rfl _ _ w.heap.size 83 permC (0, 0) _ rfl (setRow_heap _ _ _ _ _ _ hg.out) rfl rfl (by rw [hp]; rfl)) rfl ?_
  exact ⟨rfl, below_setRow he.out (Nat.le_refl _) _⟩
end Go.Proofs.YtbkmnmhfjgmoiaaDoor
end

section
/-
  blake's first words, and the variable that holds them.
-/
namespace Go.Proofs.YtbkmnmhfjgmoiaaDoor
open Go.ChangeShapes Go.WideShapes Go.ChangeAt Go.RowKit Go.Deep

def initL : List Nat := [0x6a09e667, 0xbb67ae85, 0x3c6ef372, 0xa54ff53a, 0x510e527f, 0x9b05688c, 0x1f83d9ab, 0x5be0cd19]
/-- The variable blake.initial holds the first words. -/
def Gl (w : World) (tg : TypeId × Nat × Nat) : Prop := w.heap[0]? = some (.cells (wcells initL).toArray tg.1 tg.2)
section
variable {w w' : World} {tg : TypeId × Nat × Nat}
theorem Gl.lt (h : Gl w tg) : 0 < w.heap.size := by
  rcases Nat.lt_or_ge 0 w.heap.size with h1 | h1
  · exact h1
  · unfold Gl at h; rw [Array.getElem?_eq_none h1] at h; cases h
theorem Gl.cell (h : Gl w tg) {i : Nat} (hi : i < initL.length) : w.cell? ⟨0, i, none⟩ = some (.int .u32 (wd initL i : Int)) := by
  rw [cell_of_row w 0 i _ tg.1 tg.2 h]
  simp [wcells, wd, List.getD, hi]
theorem Gl.kept {B : Nat} (h : Gl w tg) (he : Below B w w') (hB : 0 < B) : Gl w' tg := (he.block 0 hB).trans h
theorem Gl.ext (h : Gl w tg) (he : Ext w w') : Gl w' tg := h.kept he h.lt
end
end Go.Proofs.YtbkmnmhfjgmoiaaDoor
end
