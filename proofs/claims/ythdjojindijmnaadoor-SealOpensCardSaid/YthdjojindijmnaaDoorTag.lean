import Derived.Test.YthdjojindijmnaaDoorPkH
import Derived.Test.YthdjojindijmnaaDoorUnpack
/-
  seal.Tag.
-/
namespace Go.Proofs.YthdjojindijmnaaDoor
open Go.ChangeShapes Go.WideShapes Go.ChangeAt Go.RowKit Go.Deep
set_option maxRecDepth 100000

def RetTag (xs : List UInt8) (er : Int) (w : World) (e : Ending) (w' : World) : Prop := e = .returned (.tuple #[.agg (cellsOf xs).toArray, .int .i64 er]) ∧ Ext w w'

set_option maxHeartbeats 1000000 in
theorem tag_err {A : Option Addr} {n c : Nat} {bs : List UInt8} {w : World} (h : Bs w A n c bs) (hn : n < 32) :
    Calls Tryd.prog 24 #[.slice A n c] w (RetTag (List.replicate 32 0) 3 w) := by
  have c1 := h.le
  have c2 := h.cap
  have hal := key_alloc
  have hb := zeros32_built
  have hs := zeros32_size
  have ho := zeros32_one
  have hc := Lib.hid zeros32_cells
  have hz : Hid ((w.alloc (Obj.cells zeros32 23)).heap[w.heap.size]? = some (Obj.cells zeros32 23)) := heap_alloc_new _ _
  have he : Hid (∀ C, Ext w ((w.alloc (Obj.cells zeros32 23)).setRow w.heap.size C)) := fun C => below_setRow ((Ext.refl w).alloc _) (Nat.le_refl _) _
  unfold RetTag
  rw [hc.out]
  clear hc
  generalize zeros32 = Z at *
  have q1' : decide ((n : Int) < 32) = true := decide_eq_true (by omega)
  clear h
  go_enter Tryd.func24, Tryd.ntmps24
  go_wp2_with (first
    | refine wpList_build_as rfl _ _ rfl Z hb ?_
    | refine wpList_store_row rfl 23 _ _ rfl w.heap.size Z rfl rfl 23 _ (by with_reducible exact hz.out) (by rw [hs]; rfl) rfl ho ?_)
  (try simp only [Exit.inBlock, Exit.then])
  refine bodyPost_ret (v := .tuple #[.agg Z, .int .i64 3]) ?_ rfl ?_
  · exact results_row_tmp rfl _ _ w.heap.size 23 Z (0, 0) _ _ rfl rfl (setRow_heap _ _ _ _ _ _ hz.out) rfl rfl (by rw [hs]; rfl)
  · exact ⟨rfl, he.out _⟩

set_option maxHeartbeats 1000000 in
theorem tag_calls {A : Option Addr} {n c m : Nat} {bs : List UInt8} {w : World} (h : Bs w A n c bs) (hn : n = m + 32) (hm : n ≤ 100000000) :
    Calls Tryd.prog 24 #[.slice A n c] w (RetTag (bs.drop m) 0 w) := by
  have q1' : decide ((n : Int) < 32) = false := decide_eq_false (by omega)
  have hd : (n : Int) - 32 = (m : Int) := by omega
  have c1 := h.le
  have c2 := h.cap
  have hl := h.len
  have mn : m ≤ n := by omega
  have CUT := Lib.hid (h.cut (k := m) mn)
  have XL : (bs.drop m).length = 32 := by rw [List.length_drop]; omega
  have nm : n - m = 32 := by omega
  rw [nm] at CUT
  have m1 : m ≤ 100000000 := by omega
  have hw : IntKind.i64.wrap (m : Int) = (m : Int) := IntWalk.i64_in _ (by omega)
  replace hn := Lib.hid hn
  clear h hl
  replace nm := Lib.hid nm
  generalize bs.drop m = xs at *
  have XS : (cellsOf xs).toArray.size = 32 := by simp [cellsOf_len, XL]
  have X1 := cellsOf_one xs
  have hal := key_alloc
  have hz0 := zeros32_size
  generalize zeros32 = Z at *
  have B0 : Hid (((w.alloc (Obj.cells Z 23)).alloc (Obj.cells Z 23)).heap[w.heap.size]? = some (.cells Z 23 (0, 0)) ∧ ((w.alloc (Obj.cells Z 23)).alloc (Obj.cells Z 23)).heap[w.heap.size + 1]? = some (.cells Z 23 (0, 0)) ∧ Ext w ((w.alloc (Obj.cells Z 23)).alloc (Obj.cells Z 23))) := ⟨heap_alloc1 _ _ _, heap_alloc2 _ _ _, ((Ext.refl w).alloc _).alloc _⟩
  go_enter Tryd.func24, Tryd.ntmps24
  go_upto_region 4 with fail
  refine wp_gen (fun W => W.heap[w.heap.size]? = some (.cells Z 23 (0, 0)) ∧ W.heap[w.heap.size + 1]? = some (.cells Z 23 (0, 0)) ∧ Ext w W) B0.out ?_
  clear B0
  rintro w0 ⟨b0, b1, e0⟩
  have h0 := Lib.hid (CUT.out.ext (e0.trans (Ext.refl w0).drew))
  have b0' : Hid (w0.drew.heap[w.heap.size]? = some (.cells Z 23 (0, 0))) := b0
  have b1' : Hid (w0.drew.heap[w.heap.size + 1]? = some (.cells Z 23 (0, 0))) := b1
  have e0' : Hid (Ext w w0.drew) := e0.drew
  clear b0 b1 e0 CUT
  go_wp2_with fail
  refine wp_region_seq (R := Below w.heap.size) (Below.refl _) (fun _ _ _ => Below.trans) [0, 1, 2, 3, 4, 5, 6] [6] [(0, 10, 32), (0, 11, 2), (0, 12, 2), (4, 13, 4096), (8, 14, 8192), (18, 15, 18432), (33, 16, 33792)] (by kernel_rfl) (by kernel_rfl) (by kernel_rfl) rfl (by kernel_rfl) (by kernel_rfl) (fun _ _ d _ _ h => by cases d <;> exact h) ?_
  iterate 5 (first | (refine seq_read (fun _ => True) (fun _ _ => trivial) _ (v := ?_) rfl rfl (by rfl) ?_ ?_; rotate_left; (· intro w' hF; go_simp; (try with_reducible rfl)); simp only [Act.put, List.setIfInBounds_toArray, List.set_cons_zero, List.set_cons_succ]) | (refine seq_skip _ rfl rfl (by rfl) ?_; simp only [Act.put, List.setIfInBounds_toArray, List.set_cons_zero, List.set_cons_succ]))
  refine seq_read (fun _ => True) (fun _ _ => trivial) _ (v := .slice (if c = m then A else A.map (·.add m)) (n - m) (c - m)) rfl rfl (by rfl) (fun w' _ => exec_from rfl rfl rfl mn c1) ?_
  simp only [Act.put, List.setIfInBounds_toArray, List.set_cons_zero, List.set_cons_succ]
  generalize w0.drew = W at *
  rw [nm.out]
  generalize (if c = m then A else A.map (·.add m)) = A' at *
  generalize c - m = c' at *
  refine seq_do _ rfl rfl (by rfl) (fun K hK => ?_)
  go_simp
  refine upon_copy_key (xs := xs) rfl b1'.out h0.out (Nat.le_refl _) hz0 ?_
  rw [List.take_of_length_le (by omega)]
  have R1 : Hid ((W.setRow (w.heap.size + 1) (cellsOf xs).toArray).heap[w.heap.size + 1]? = some (.cells (cellsOf xs).toArray 23 (0, 0))) := setRow_heap _ _ _ _ _ _ b1'.out
  have R0 : Hid ((W.setRow (w.heap.size + 1) (cellsOf xs).toArray).heap[w.heap.size]? = some (.cells Z 23 (0, 0))) := (setRow_other _ _ _ _ (by omega)).trans b0'.out
  have E1 : Hid (Ext w (W.setRow (w.heap.size + 1) (cellsOf xs).toArray)) := below_setRow e0'.out (Nat.le_succ _) _
  go_simp
  refine hK.out _ _ (below_setRow (Below.refl _ _) (Nat.le_succ _) _) ?_
  clear hK K
  refine seq_done ?_
  go_wp2_with (first
    | (refine wpList_exec rfl (exec_load_row rfl rfl R1.out rfl rfl (by rw [XS]; rfl)) ?_; simp only [Act.put, List.setIfInBounds_toArray, List.set_cons_zero, List.set_cons_succ])
    | (refine wpList_store_row rfl 23 _ _ rfl w.heap.size (cellsOf xs).toArray rfl rfl 23 Z R0.out (by rw [XS]; rfl) (by rw [XS]; exact hz0) X1 ?_; simp only [Act.put, List.setIfInBounds_toArray, List.set_cons_zero, List.set_cons_succ]))
  (try simp only [Exit.inBlock, Exit.then])
  refine bodyPost_ret (v := .tuple #[.agg (cellsOf xs).toArray, .int .i64 0]) ?_ rfl ?_
  · exact results_row_tmp rfl _ _ w.heap.size 23 (cellsOf xs).toArray (0, 0) _ _ rfl rfl (setRow_heap _ _ _ _ _ _ R0.out) rfl rfl (by rw [XS]; rfl)
  · exact ⟨rfl, below_setRow E1.out (Nat.le_refl _) _⟩
end Go.Proofs.YthdjojindijmnaaDoor
