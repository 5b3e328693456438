/-
  chain.Step.
-/
import Derived.Test.YthdjojindijmnaaDoorKeysK
import Derived.Test.YthdjojindijmnaaDoorTwo
import Derived.Test.YthdjojindijmnaaDoorStrLit
import Derived.Test.YthdjojindijmnaaDoorSeqT
import Derived.Test.YthdjojindijmnaaDoorMid
namespace Go.Proofs.YthdjojindijmnaaDoor
open Go.ChangeShapes Go.WideShapes Go.ChangeAt Go.RowKit Go.Deep

def msgS : List UInt8 := [109, 101, 115, 115, 97, 103, 101]
def chnS : List UInt8 := [99, 104, 97, 105, 110]
def RetTwo (k0 k1 : List UInt8) (w : World) (e : Ending) (w' : World) : Prop := e = .returned (.tuple #[.agg (cellsOf k0).toArray, .agg (cellsOf k1).toArray]) ∧ Ext w w'

set_option maxRecDepth 100000 in
set_option maxHeartbeats 2000000 in
theorem step_calls {ks : List UInt8} {w : World} (hk : ks.length = 32) {tg : TypeId × Nat × Nat} (hG : Gl w tg) :
    Calls Tryd.prog 38 #[.agg (cellsOf ks).toArray] w (RetTwo (keyL ks msgS) (keyL ks chnS) w) := by
  have KEYS : Hid (∀ (W : World) t, Ext w W → Calls Tryd.prog 43 #[.agg (cellsOf ks).toArray, .slice (some ⟨W.heap.size, 0, none⟩) 2 2] (W.alloc (.cells #[.string (strL msgS), .string (strL chnS)] t)) (RetKs [keyL ks msgS, keyL ks chnS] (W.alloc (.cells #[.string (strL msgS), .string (strL chnS)] t)))) := fun W t e =>
    keys_calls (ks := ks) (l := [msgS, chnS]) hk (str_lit rfl) (by omega) (fun j => by
      match j with
      | 0 => show msgS.length ≤ _; decide
      | 1 => show chnS.length ≤ _; decide
      | j + 2 => simp [List.getD]) (hG.kept (e.alloc _) hG.lt)
  have hA : Hid ((⟨#[109, 101, 115, 115, 97, 103, 101]⟩ : ByteArray) = strL msgS) := rfl
  have hB : Hid ((⟨#[99, 104, 97, 105, 110]⟩ : ByteArray) = strL chnS) := rfl
  generalize strL msgS = sA at *
  generalize strL chnS = sB at *
  clear hG
  have K0 := keyL_len ks msgS
  have K1 := keyL_len ks chnS
  generalize keyL ks msgS = k0 at *
  generalize keyL ks chnS = k1 at *
  have KS : (cellsOf ks).toArray.size = 32 := by simp [cellsOf_len, hk]
  have C0 : (cellsOf k0).length = 32 := by rw [cellsOf_len, K0]
  have C1 : (cellsOf k1).length = 32 := by rw [cellsOf_len, K1]
  have S0 : (cellsOf k0).toArray.size = 32 := C0
  have S1 : (cellsOf k1).toArray.size = 32 := C1
  have O0 := cellsOf_one k0
  have O1 := cellsOf_one k1
  have hal := key_alloc
  have hz0 := zeros32_size
  generalize zeros32 = Z at *
  have B0 : Hid ((Ky (((w.alloc (Obj.cells (cellsOf ks).toArray 23)).alloc (Obj.cells Z 23)).alloc (Obj.cells Z 23)) w.heap.size ks) ∧ (((w.alloc (Obj.cells (cellsOf ks).toArray 23)).alloc (Obj.cells Z 23)).alloc (Obj.cells Z 23)).heap[w.heap.size + 1]? = some (.cells Z 23 (0, 0)) ∧ (((w.alloc (Obj.cells (cellsOf ks).toArray 23)).alloc (Obj.cells Z 23)).alloc (Obj.cells Z 23)).heap[w.heap.size + 1 + 1]? = some (.cells Z 23 (0, 0)) ∧ Ext w (((w.alloc (Obj.cells (cellsOf ks).toArray 23)).alloc (Obj.cells Z 23)).alloc (Obj.cells Z 23))) :=
    ⟨⟨heap_alloc30 _ _ _ _, hk⟩, heap_alloc31 _ _ _ _, heap_alloc32 _ _ _ _, (((Ext.refl w).alloc _).alloc _).alloc _⟩
  go_enter Tryd.func38, Tryd.ntmps38
  go_upto_region 1 with fail
  refine wp_gen (fun W => Ky W w.heap.size ks ∧ W.heap[w.heap.size + 1]? = some (.cells Z 23 (0, 0)) ∧ W.heap[w.heap.size + 1 + 1]? = some (.cells Z 23 (0, 0)) ∧ Ext w W) B0.out ?_
  clear B0
  rintro w0 b0
  replace b0 := Lib.hid b0
  go_wp2_with (refine wpList_load_row rfl 23 _ rfl w.heap.size rfl 23 (cellsOf ks).toArray (0, 0) _ b0.out.1.1 rfl rfl (by rw [KS]; rfl) ?_; simp only [Act.put, List.setIfInBounds_toArray, List.set_cons_zero, List.set_cons_succ])
  rw [hA.out, hB.out]
  refine (KEYS.out _ _ b0.out.2.2.2).mono ?_
  rintro e w1 ⟨g, rfl, hg, kr, e1⟩
  have zg : w.heap.size + 1 + 1 < g := by
    have := heap_lt b0.out.2.2.1
    rw [size_alloc] at hg
    omega
  have e2 : Ext w0 w1 := ((Ext.refl _).alloc _).trans e1
  have b1 : Hid (Ky w1 w.heap.size ks ∧ w1.heap[w.heap.size + 1]? = some (.cells Z 23 (0, 0)) ∧ w1.heap[w.heap.size + 1 + 1]? = some (.cells Z 23 (0, 0)) ∧ Ext w w1) := ⟨b0.out.1.ext e2, (e2.block _ (heap_lt b0.out.2.1)).trans b0.out.2.1, (e2.block _ (heap_lt b0.out.2.2.1)).trans b0.out.2.2.1, b0.out.2.2.2.trans e2⟩
  clear b0 KEYS e1 e2 hg
  have R0 : Hid (∀ w', Two (w.heap.size + 1) (w.heap.size + 1 + 1) w1 w' → ∀ i v, (cellsOf k0)[i]? = some v → w'.cell? ⟨g, 0 + i, none⟩ = some v) := fun w' e => Kr.row (l := [k0, k1]) (j := 0) ⟨e.block kr.1 (by omega) (by omega), kr.2⟩ (by simp)
  have R1 : Hid (∀ w', Two (w.heap.size + 1) (w.heap.size + 1 + 1) w1 w' → ∀ i v, (cellsOf k1)[i]? = some v → w'.cell? ⟨g, 32 + i, none⟩ = some v) := fun w' e => Kr.row (l := [k0, k1]) (j := 1) ⟨e.block kr.1 (by omega) (by omega), kr.2⟩ (by simp)
  clear kr
  go_wp2_with fail
  refine wp_region_seq (R := Two (w.heap.size + 1) (w.heap.size + 1 + 1)) (Two.refl _ _) (fun _ _ _ => Two.trans) [0, 1, 2, 3, 4, 5, 6, 7] [6, 7] [(0, 9, 32), (1, 10, 512), (2, 11, 1024), (0, 12, 32), (8, 13, 4096), (16, 14, 8192), (7, 0, 2056), (127, 0, 16400)] (by kernel_rfl) (by kernel_rfl) (by kernel_rfl) rfl (by kernel_rfl) (by kernel_rfl) (fun _ _ d _ _ h => by cases d <;> exact h) ?_
  repeat (first | (refine seq_read (fun _ => True) (fun _ _ => trivial) _ (v := ?_) rfl rfl (by rfl) ?_ ?_; rotate_left; (· intro w' hF; go_simp; (try with_reducible rfl)); simp only [Act.put, List.setIfInBounds_toArray, List.set_cons_zero, List.set_cons_succ]) | (refine seq_skip _ rfl rfl (by rfl) ?_; simp only [Act.put, List.setIfInBounds_toArray, List.set_cons_zero, List.set_cons_succ]))
  refine seq_read (fun w' => ∀ j v, (cellsOf k0)[j]? = some v → w'.cell? ⟨g, 0 + j, none⟩ = some v) (fun w' e => R0.out w' ((Two.of_ext (Ext.refl _).drew).trans e)) _ (v := .agg (cellsOf k0).toArray) rfl rfl (by rfl) (fun w' hF => exec_load_mid rfl rfl hF rfl rfl (by rw [C0]; rfl)) ?_
  simp only [Act.put, List.setIfInBounds_toArray, List.set_cons_zero, List.set_cons_succ]
  repeat (first | (refine seq_read (fun _ => True) (fun _ _ => trivial) _ (v := ?_) rfl rfl (by rfl) ?_ ?_; rotate_left; (· intro w' hF; go_simp; (try with_reducible rfl)); simp only [Act.put, List.setIfInBounds_toArray, List.set_cons_zero, List.set_cons_succ]) | (refine seq_skip _ rfl rfl (by rfl) ?_; simp only [Act.put, List.setIfInBounds_toArray, List.set_cons_zero, List.set_cons_succ]))
  refine seq_read (fun w' => ∀ j v, (cellsOf k1)[j]? = some v → w'.cell? ⟨g, 32 + j, none⟩ = some v) (fun w' e => R1.out w' ((Two.of_ext (Ext.refl _).drew).trans e)) _ (v := .agg (cellsOf k1).toArray) rfl rfl (by rfl) (fun w' hF => exec_load_mid rfl rfl hF rfl rfl (by rw [C1]; rfl)) ?_
  simp only [Act.put, List.setIfInBounds_toArray, List.set_cons_zero, List.set_cons_succ]
  have b2 : Hid (w1.drew.heap[w.heap.size + 1]? = some (.cells Z 23 (0, 0)) ∧ w1.drew.heap[w.heap.size + 1 + 1]? = some (.cells Z 23 (0, 0)) ∧ Ext w w1.drew) := ⟨b1.out.2.1, b1.out.2.2.1, b1.out.2.2.2.drew⟩
  generalize w1.drew = W at *
  refine seq_do _ rfl rfl (by rfl) (fun K hK => ?_)
  refine wp_store_row _ _ _ rfl (w.heap.size + 1) (cellsOf k0).toArray rfl rfl 23 Z b2.out.1 (by rw [S0]; rfl) (by rw [S0]; exact hz0) O0 ?_
  refine hK.out _ _ (Two.row _ _) ?_
  clear hK K
  try simp only [Act.put, List.setIfInBounds_toArray, List.set_cons_zero, List.set_cons_succ]
  refine seq_do _ rfl rfl (by rfl) (fun K hK => ?_)
  refine wp_store_row _ _ _ rfl (w.heap.size + 1 + 1) (cellsOf k1).toArray rfl rfl 23 Z ((setRow_other _ _ _ _ (by omega)).trans b2.out.2.1) (by rw [S1]; rfl) (by rw [S1]; exact hz0) O1 ?_
  refine hK.out _ _ (Two.row' _ _) ?_
  clear hK K
  try simp only [Act.put, List.setIfInBounds_toArray, List.set_cons_zero, List.set_cons_succ]
  refine seq_done ?_
  have f0 : Hid (((W.setRow (w.heap.size + 1) (cellsOf k0).toArray).setRow (w.heap.size + 1 + 1) (cellsOf k1).toArray).heap[w.heap.size + 1]? = some (.cells (cellsOf k0).toArray 23 (0, 0))) := (setRow_other _ _ _ _ (by omega)).trans (setRow_heap _ _ _ _ _ _ b2.out.1)
  have f1 : Hid (((W.setRow (w.heap.size + 1) (cellsOf k0).toArray).setRow (w.heap.size + 1 + 1) (cellsOf k1).toArray).heap[w.heap.size + 1 + 1]? = some (.cells (cellsOf k1).toArray 23 (0, 0))) := setRow_heap _ _ _ _ _ _ ((setRow_other _ _ _ _ (by omega)).trans b2.out.2.1)
  have f2 : Hid (Ext w ((W.setRow (w.heap.size + 1) (cellsOf k0).toArray).setRow (w.heap.size + 1 + 1) (cellsOf k1).toArray)) := below_setRow (below_setRow b2.out.2.2 (by omega) _) (by omega) _
  go_wp2_with fail
  (try simp only [Exit.inBlock, Exit.then])
  refine bodyPost_ret (v := .tuple #[.agg (cellsOf k0).toArray, .agg (cellsOf k1).toArray]) ?_ rfl ?_
  · exact results_rr rfl _ _ (w.heap.size + 1) (w.heap.size + 1 + 1) 23 23 (cellsOf k0).toArray (cellsOf k1).toArray (0, 0) (0, 0) _ rfl rfl f0.out f1.out rfl rfl (by rw [S0]; rfl) (by rw [S1]; rfl)
  · exact ⟨rfl, f2.out⟩
end Go.Proofs.YthdjojindijmnaaDoor
