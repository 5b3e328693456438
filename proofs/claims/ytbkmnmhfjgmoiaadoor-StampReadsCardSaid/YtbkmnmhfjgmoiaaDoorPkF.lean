import Derived.Test.YtbkmnmhfjgmoiaaDoorComp
import Derived.Test.YtbkmnmhfjgmoiaaDoorMx
section
/-
  The document's rows of the order (layer 2).
-/
namespace Go.Proofs.YtbkmnmhfjgmoiaaDoor
open Go.ChangeShapes Go.WideShapes Go.ChangeAt Go.RowKit Go.Deep

def allocs (w : World) (l : List Obj) : World := l.foldl World.alloc w
theorem allocs_ext : ∀ (l : List Obj) (w : World), Ext w (allocs w l)
  | [], w => Ext.refl w
  | o :: l, w => ((Ext.refl w).alloc o).trans (allocs_ext l (w.alloc o))
theorem allocs_at : ∀ (l : List Obj) (w : World) (j : Nat) (o : Obj), l[j]? = some o → (allocs w l).heap[w.heap.size + j]? = some o
  | [], w, j, o, h => by simp at h
  | p :: l, w, 0, o, h => by
    simp at h
    subst h
    exact ((allocs_ext l (w.alloc p)).block w.heap.size (by rw [size_alloc]; omega)).trans (heap_alloc_new w p)
  | p :: l, w, j + 1, o, h => by
    have := allocs_at l (w.alloc p) j o (by simpa using h)
    rw [size_alloc] at this
    rw [show w.heap.size + (j + 1) = w.heap.size + 1 + j by omega]
    exact this
def rowI (k : Nat) : Array Value := ((List.range 16).map fun j => Value.int .i64 (pm k j : Int)).toArray
def rowsI (s : Nat) : Array Value := ((List.range 10).map fun k => Value.slice (some ⟨s + k, 0, none⟩) 16 16).toArray
/-- The order's rows, in blocks from s on, and the block that lists them. -/
def Rws (w : World) (s : Nat) : Prop := s + 10 < w.heap.size ∧ ∀ k, k < 10 → w.cell? ⟨s + 10, k, none⟩ = some (.slice (some ⟨s + k, 0, none⟩) 16 16) ∧ ∀ j, j < 16 → w.cell? ⟨s + k, j, none⟩ = some (.int .i64 (pm k j : Int))
def rowsO (s : Nat) : List Obj := ((List.range 10).map fun k => Obj.cells (rowI k) 3) ++ [Obj.cells (rowsI s) 41]
theorem rows_of (w : World) : Rws (allocs w (rowsO w.heap.size)) w.heap.size := by
  have hl : ∀ k, k < 10 → (rowsO w.heap.size)[k]? = some (Obj.cells (rowI k) 3) := fun k hk => by
    unfold rowsO
    rw [List.getElem?_append_left (by simp; omega)]
    simp [hk]
  have h10 : (rowsO w.heap.size)[10]? = some (Obj.cells (rowsI w.heap.size) 41) := by
    unfold rowsO
    rw [List.getElem?_append_right (by simp)]
    simp
  have hb := allocs_at _ w 10 _ h10
  refine ⟨heap_lt hb, fun k hk => ⟨?_, fun j hj => ?_⟩⟩
  · rw [cell_of_row _ _ _ _ _ (0, 0) hb]
    simp [rowsI, hk]
  · rw [cell_of_row _ _ _ _ _ (0, 0) (allocs_at _ w k _ (hl k hk))]
    simp [rowI, hj]
theorem Rws.ext {w w' : World} {s : Nat} (h : Rws w s) (e : Ext w w') : Rws w' s :=
  ⟨Nat.lt_of_lt_of_le h.1 e.size, fun k hk => ⟨(e.cell (p := ⟨s + 10, k, none⟩) h.1).trans (h.2 k hk).1, fun j hj => (e.cell (p := ⟨s + k, j, none⟩) (show s + k < _ by have := h.1; omega)).trans ((h.2 k hk).2 j hj)⟩⟩

set_option maxRecDepth 100000 in
set_option maxHeartbeats 1000000 in
theorem refRows_calls {w : World} :
    Calls Tryd.prog 55 #[] w fun e w' => ∃ s, e = .returned (.slice (some ⟨s + 10, 0, none⟩) 10 10) ∧ w.heap.size ≤ s ∧ Rws w' s ∧ Ext w w' := by
  go_enter Tryd.func55, Tryd.ntmps55
  go_wp2_with fail
  go_ret
  exact ⟨w.heap.size, rfl, Nat.le_refl _, rows_of w, allocs_ext (rowsO w.heap.size) w⟩
end Go.Proofs.YtbkmnmhfjgmoiaaDoor
end

section
/-
  The document's TURN.
-/
namespace Go.Proofs.YtbkmnmhfjgmoiaaDoor
open Go.ChangeShapes Go.WideShapes Go.ChangeAt Go.RowKit Go.Deep

set_option maxHeartbeats 1000000 in
theorem refTurn_calls {n x : Nat} {w : World} (hx : x < 4294967296) (h1 : 1 ≤ n) (h2 : n ≤ 31) :
    Calls Tryd.prog 57 #[.int .u32 (x : Int), .int .i64 (n : Int)] w fun e w' => e = .returned (.int .u32 (rotr n x : Int)) ∧ ∃ k, w' = w.drewN k := by
  have hs : ∃ s : Nat, 32 - n = s ∧ s ≤ 31 ∧ n = 32 - s ∧ 1 ≤ s := ⟨32 - n, rfl, by omega, by omega, by omega⟩
  obtain ⟨s, e1, e2, e3, e4⟩ := hs
  have hf := Lib.hid (rotr_int (n := n) (by omega) hx)
  rw [e1] at hf
  have hd : IntKind.i64.wrap (32 - (n : Int)) = (s : Int) := by rw [IntWalk.i64_in _ (by omega)]; omega
  have hor : ∀ a b, a < 4294967296 → b < 4294967296 → bits .or .u32 ((b : Nat) : Int) ((a : Nat) : Int) = bits .or .u32 ((a : Nat) : Int) ((b : Nat) : Int) := fun a b ha hb => by
    rw [u32_or_nat _ _ hb ha, u32_or_nat _ _ ha hb, Nat.or_comm]
  have HO := Lib.hid hor
  clear hor
  have q1 : Op.shift .shr .u32 (x : Int) .i64 (n : Int) = pure (.int .u32 ((x : Int) / 2 ^ n)) := by
    have := shift_shr .u32 .i64 (x : Int) (n : Int) (by omega) (by show (n : Int) ≤ 32; omega)
    rw [this]
    simp
  have q2 : Op.shift .shl .u32 (x : Int) .i64 (s : Int) = pure (.int .u32 ((x : Int) * 2 ^ s % 4294967296)) := by
    have := shift_shl .u32 .i64 (x : Int) (s : Int) (by omega) (by show (s : Int) ≤ 32; omega)
    rw [this, IntKind.wrap_u32]
    simp
  clear e1 e3
  go_enter Tryd.func57, Tryd.ntmps57
  go_wp2_with fail
  refine wp_region_seq (R := Ext) Ext.refl (fun _ _ _ => Ext.trans) [0, 1, 2, 3, 4, 5, 6, 7, 8] [] [(0, 6, 2), (0, 7, 4), (3, 8, 192), (0, 9, 2), (0, 10, 4), (16, 11, 1024), (40, 12, 2560), (68, 13, 4352), (255, 5, 8192)] (by kernel_rfl) (by kernel_rfl) (by kernel_rfl) rfl (by kernel_rfl) (by kernel_rfl) (fun _ _ d _ _ h => by cases d <;> exact h) ?_
  repeat (first | (refine seq_read (fun _ => True) (fun _ _ => trivial) _ (v := ?_) rfl rfl (by rfl) ?_ ?_; rotate_left; (· intro w' hF; go_simp; (try with_reducible rfl)); simp only [Act.put, List.setIfInBounds_toArray, List.set_cons_zero, List.set_cons_succ]) | (refine seq_skip _ rfl rfl (by rfl) ?_; simp only [Act.put, List.setIfInBounds_toArray, List.set_cons_zero, List.set_cons_succ]))
  refine seq_done ?_
  go_wp2_with fail
  go_ret
  refine ⟨congrArg (fun v => Ending.returned (Value.int .u32 v)) (Eq.trans ?_ hf.out), 1, rfl⟩
  have p1 : (x : Int) / 2 ^ n = ((x / 2 ^ n : Nat) : Int) := by simp
  have p2 : (x : Int) * 2 ^ s % 4294967296 = ((x * 2 ^ s % 4294967296 : Nat) : Int) := by simp
  rw [p1, p2]
  exact HO.out (x * 2 ^ s % 4294967296) (x / 2 ^ n) (Nat.mod_lt _ (by decide)) (Nat.lt_of_le_of_lt (Nat.div_le_self _ _) hx)
end Go.Proofs.YtbkmnmhfjgmoiaaDoor
end
