/-
  The document's Step (layer 10).
-/
import Derived.Test.YtdiigbknfjceoaaDoorRefRoot
namespace Go.Proofs.YtdiigbknfjceoaaDoor
open Go.ChangeShapes Go.WideShapes Go.ChangeAt Go.RowKit Go.Deep

theorem lit_msgS : (⟨#[109, 101, 115, 115, 97, 103, 101]⟩ : ByteArray) = strL msgS := rfl

set_option maxRecDepth 100000 in
set_option maxHeartbeats 2000000 in
theorem refStep_calls {ks : List UInt8} {w : World} (hk : ks.length = 32) :
    Calls Tryd.prog 29 #[.agg (cellsOf ks).toArray] w (RetTwo (keyL ks msgS) (keyL ks chnS) w) := by
  have KEYR : Hid (∀ (W : World), Calls Tryd.prog 26 #[.agg (cellsOf ks).toArray, .string ⟨#[109, 101, 115, 115, 97, 103, 101]⟩] W fun e w' => e = .returned (.agg (cellsOf (keyL ks msgS)).toArray) ∧ Ext W w') := fun W => by
    rw [lit_msgS]
    exact refKey_calls hk (by decide)
  have KEYC : Hid (∀ (W : World), Calls Tryd.prog 26 #[.agg (cellsOf ks).toArray, .string ⟨#[99, 104, 97, 105, 110]⟩] W fun e w' => e = .returned (.agg (cellsOf (keyL ks chnS)).toArray) ∧ Ext W w') := fun W => by
    rw [lit_chnS]
    exact refKey_calls hk (by decide)
  have K0 := keyL_len ks msgS
  have K1 := keyL_len ks chnS
  generalize keyL ks msgS = k0 at *
  generalize keyL ks chnS = k1 at *
  have KS : (cellsOf ks).toArray.size = 32 := by simp [cellsOf_len, hk]
  have C0 : (cellsOf k0).length = 32 := by rw [cellsOf_len, K0]
  have C1 : (cellsOf k1).length = 32 := by rw [cellsOf_len, K1]
  have S0 : (cellsOf k0).toArray.size = 32 := C0
  have S1 : (cellsOf k1).toArray.size = 32 := C1
  have O0 := cellsOf_one k0
  have O1 := cellsOf_one k1
  have hal := key_alloc
  have hz0 := zeros32_size
  generalize zeros32 = Z at *
  have B0 : Hid ((Ky (((w.alloc (Obj.cells (cellsOf ks).toArray 25)).alloc (Obj.cells Z 25)).alloc (Obj.cells Z 25)) w.heap.size ks) ∧ (((w.alloc (Obj.cells (cellsOf ks).toArray 25)).alloc (Obj.cells Z 25)).alloc (Obj.cells Z 25)).heap[w.heap.size + 1]? = some (.cells Z 25 (0, 0)) ∧ (((w.alloc (Obj.cells (cellsOf ks).toArray 25)).alloc (Obj.cells Z 25)).alloc (Obj.cells Z 25)).heap[w.heap.size + 1 + 1]? = some (.cells Z 25 (0, 0)) ∧ Ext w (((w.alloc (Obj.cells (cellsOf ks).toArray 25)).alloc (Obj.cells Z 25)).alloc (Obj.cells Z 25))) :=
    ⟨⟨heap_alloc30 _ _ _ _, hk⟩, heap_alloc31 _ _ _ _, heap_alloc32 _ _ _ _, (((Ext.refl w).alloc _).alloc _).alloc _⟩
  go_enter Tryd.func29, Tryd.ntmps29
  go_upto_region 1 with fail
  refine wp_gen (fun W => Ky W w.heap.size ks ∧ W.heap[w.heap.size + 1]? = some (.cells Z 25 (0, 0)) ∧ W.heap[w.heap.size + 1 + 1]? = some (.cells Z 25 (0, 0)) ∧ Ext w W) B0.out ?_
  clear B0
  rintro w0 b0
  have b1 : Hid (w0.heap[w.heap.size + 1]? = some (.cells Z 25 (0, 0)) ∧ w0.heap[w.heap.size + 1 + 1]? = some (.cells Z 25 (0, 0)) ∧ Ext w w0) := b0.2
  have R0 : Hid (∀ w', Two (w.heap.size + 1) (w.heap.size + 1 + 1) w0 w' → w'.heap[w.heap.size]? = some (.cells (cellsOf ks).toArray 25 (0, 0))) := fun w' e => (e.block b0.1.1 (by omega) (by omega))
  clear b0
  go_wp2_with fail
  refine wp_region_seq (R := Two (w.heap.size + 1) (w.heap.size + 1 + 1)) (Two.refl _ _) (fun _ _ _ => Two.trans) [0, 2, 1, 3, 4, 5] [1, 3, 4, 5] [(0, 5, 4), (1, 6, 32), (0, 7, 4), (6, 8, 128), (11, 0, 72), (31, 0, 272)] (by kernel_rfl) (by kernel_rfl) (by kernel_rfl) rfl (by kernel_rfl) (by kernel_rfl) (fun _ _ d _ _ h => by cases d <;> exact h) ?_
  refine seq_read (fun w' => w'.heap[w.heap.size]? = some (.cells (cellsOf ks).toArray 25 (0, 0))) (fun w' e => R0.out w' ((Two.of_ext (Ext.refl _).drew).trans e)) _ (v := .agg (cellsOf ks).toArray) rfl rfl (by rfl) (fun w' hF => exec_load_row rfl rfl hF rfl rfl (by rw [KS]; rfl)) ?_
  simp only [Act.put, List.setIfInBounds_toArray, List.set_cons_zero, List.set_cons_succ]
  refine seq_read (fun w' => w'.heap[w.heap.size]? = some (.cells (cellsOf ks).toArray 25 (0, 0))) (fun w' e => R0.out w' ((Two.of_ext (Ext.refl _).drew).trans e)) _ (v := .agg (cellsOf ks).toArray) rfl rfl (by rfl) (fun w' hF => exec_load_row rfl rfl hF rfl rfl (by rw [KS]; rfl)) ?_
  simp only [Act.put, List.setIfInBounds_toArray, List.set_cons_zero, List.set_cons_succ]
  have b2 : Hid (w0.drew.heap[w.heap.size + 1]? = some (.cells Z 25 (0, 0)) ∧ w0.drew.heap[w.heap.size + 1 + 1]? = some (.cells Z 25 (0, 0)) ∧ Ext w w0.drew) := ⟨b1.out.1, b1.out.2.1, b1.out.2.2.drew⟩
  generalize w0.drew = W at *
  refine seq_do _ rfl rfl (by rfl) (fun K hK => ?_)
  go_simp
  refine (KEYR.out _).mono ?_
  rintro e w4 ⟨rfl, e4⟩
  refine hK.out _ _ (Two.of_ext e4) ?_
  clear hK K
  try simp only [Act.put, List.setIfInBounds_toArray, List.set_cons_zero, List.set_cons_succ]
  refine seq_do _ rfl rfl (by rfl) (fun K hK => ?_)
  go_simp
  refine (KEYC.out _).mono ?_
  rintro e w5 ⟨rfl, e5⟩
  refine hK.out _ _ (Two.of_ext e5) ?_
  clear hK K
  try simp only [Act.put, List.setIfInBounds_toArray, List.set_cons_zero, List.set_cons_succ]
  have b3 : Hid (w5.heap[w.heap.size + 1]? = some (.cells Z 25 (0, 0)) ∧ w5.heap[w.heap.size + 1 + 1]? = some (.cells Z 25 (0, 0)) ∧ Ext w w5) := ⟨((e4.trans e5).block _ (heap_lt b2.out.1)).trans b2.out.1, ((e4.trans e5).block _ (heap_lt b2.out.2.1)).trans b2.out.2.1, b2.out.2.2.trans (e4.trans e5)⟩
  clear e4 e5 b2
  have b2 := b3
  clear b3
  refine seq_do _ rfl rfl (by rfl) (fun K hK => ?_)
  refine wp_store_row _ _ _ rfl (w.heap.size + 1) (cellsOf k0).toArray rfl rfl 25 Z b2.out.1 (by rw [S0]; rfl) (by rw [S0]; exact hz0) O0 ?_
  refine hK.out _ _ (Two.row _ _) ?_
  clear hK K
  try simp only [Act.put, List.setIfInBounds_toArray, List.set_cons_zero, List.set_cons_succ]
  refine seq_do _ rfl rfl (by rfl) (fun K hK => ?_)
  refine wp_store_row _ _ _ rfl (w.heap.size + 1 + 1) (cellsOf k1).toArray rfl rfl 25 Z ((setRow_other _ _ _ _ (by omega)).trans b2.out.2.1) (by rw [S1]; rfl) (by rw [S1]; exact hz0) O1 ?_
  refine hK.out _ _ (Two.row' _ _) ?_
  clear hK K
  try simp only [Act.put, List.setIfInBounds_toArray, List.set_cons_zero, List.set_cons_succ]
  refine seq_done ?_
  have f0 : Hid (((w5.setRow (w.heap.size + 1) (cellsOf k0).toArray).setRow (w.heap.size + 1 + 1) (cellsOf k1).toArray).heap[w.heap.size + 1]? = some (.cells (cellsOf k0).toArray 25 (0, 0))) := (setRow_other _ _ _ _ (by omega)).trans (setRow_heap _ _ _ _ _ _ b2.out.1)
  have f1 : Hid (((w5.setRow (w.heap.size + 1) (cellsOf k0).toArray).setRow (w.heap.size + 1 + 1) (cellsOf k1).toArray).heap[w.heap.size + 1 + 1]? = some (.cells (cellsOf k1).toArray 25 (0, 0))) := setRow_heap _ _ _ _ _ _ ((setRow_other _ _ _ _ (by omega)).trans b2.out.2.1)
  have f2 : Hid (Ext w ((w5.setRow (w.heap.size + 1) (cellsOf k0).toArray).setRow (w.heap.size + 1 + 1) (cellsOf k1).toArray)) := below_setRow (below_setRow b2.out.2.2 (by omega) _) (by omega) _
  go_wp2_with fail
  (try simp only [Exit.inBlock, Exit.then])
  refine bodyPost_ret (v := .tuple #[.agg (cellsOf k0).toArray, .agg (cellsOf k1).toArray]) ?_ rfl ?_
  · exact results_rr rfl _ _ (w.heap.size + 1) (w.heap.size + 1 + 1) 25 25 (cellsOf k0).toArray (cellsOf k1).toArray (0, 0) (0, 0) _ rfl rfl f0.out f1.out rfl rfl (by rw [S0]; rfl) (by rw [S1]; rfl)
  · exact ⟨rfl, f2.out⟩
end Go.Proofs.YtdiigbknfjceoaaDoor
