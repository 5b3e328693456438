/-
  The law's awake (layer 10): a step, and a walk of one step.
-/
import Derived.Test.YthdjojindijmnaaDoorWalk
import Derived.Test.YthdjojindijmnaaDoorKey1
namespace Go.Proofs.YthdjojindijmnaaDoor
open Go.ChangeShapes Go.WideShapes Go.ChangeAt Go.RowKit Go.Deep

theorem two_keys10 : decide (keyL key1 msgS = keyL key1 chnS) = false := by decide +kernel

set_option maxRecDepth 100000 in
set_option maxHeartbeats 1000000 in
theorem awake10_calls {w : World} {tg : TypeId × Nat × Nat} (hG : Gl w tg) : Calls Tryd.prog 27 #[] w fun e w' => e = .returned (.bool true) ∧ Ext w w' := by
  have hb1 := key1_built
  have hne := Lib.hid two_keys10
  have HG := Lib.hid (fun W e => Gl.kept hG (w' := W) e hG.lt)
  clear hG
  have KL : key1.length = 32 := by decide
  generalize key1 = K at *
  have STEP : Hid (∀ (W : World), Ext w W → Calls Tryd.prog 38 #[.agg (cellsOf K).toArray] W (RetTwo (keyL K msgS) (keyL K chnS) W)) := fun W e => step_calls KL (HG.out _ e)
  have WALK : Hid (∀ (W : World), Ext w W → Calls Tryd.prog 28 #[.agg (cellsOf K).toArray, .int .i64 1] W (RetWalk [keyL K msgS] (keyL K chnS) 0 W)) := fun W e => walk_calls (m := 1) KL (by omega) (HG.out _ e)
  have K0 := keyL_len K msgS
  have K1 := keyL_len K chnS
  generalize keyL K msgS = k0 at *
  generalize keyL K chnS = k1 at *
  clear HG
  have S0 : (cellsOf k0).toArray.size = 32 := by simp [cellsOf_len, K0]
  have S1 : (cellsOf k1).toArray.size = 32 := by simp [cellsOf_len, K1]
  have O0 := cellsOf_one k0
  have O1 := cellsOf_one k1
  have C0 : (cellsOf k0).length = 32 := by rw [cellsOf_len, K0]
  have hal := key_alloc
  have hz0 := zeros32_size
  generalize zeros32 = Z at *
  have hnb : Hid ((!decide (k0 = k1)) = true) := by
    unfold Hid
    rw [hne.out]; rfl
  clear hne
  go_enter Tryd.func27, Tryd.ntmps27
  go_wp2_with (refine wpList_build_as rfl _ _ rfl (cellsOf K).toArray (by simp only [List.map_toArray, List.map_cons, List.map_nil]; exact hb1) ?_)
  refine (STEP.out _ (Ext.refl w)).mono ?_
  rintro e w1 ⟨rfl, e1⟩
  have a1 : Hid (((w1.alloc (Obj.cells Z 23)).alloc (Obj.cells Z 23)).heap[w1.heap.size]? = some (.cells Z 23 (0, 0))) := heap_alloc1 _ _ _
  have a2 : Hid ((((w1.alloc (Obj.cells Z 23)).alloc (Obj.cells Z 23)).setRow w1.heap.size (cellsOf k0).toArray).heap[w1.heap.size + 1]? = some (.cells Z 23 (0, 0))) := (setRow_other _ _ _ _ (by omega)).trans (heap_alloc2 _ _ _)
  go_upto_region 2 with (first
    | (refine wpList_store_row rfl 23 _ _ rfl w1.heap.size (cellsOf k0).toArray rfl rfl 23 Z a1.out (by rw [S0]; rfl) (by rw [S0]; exact hz0) O0 ?_; simp only [Act.put, List.setIfInBounds_toArray, List.set_cons_zero, List.set_cons_succ])
    | (refine wpList_store_row rfl 23 _ _ rfl (w1.heap.size + 1) (cellsOf k1).toArray rfl rfl 23 Z a2.out (by rw [S1]; rfl) (by rw [S1]; exact hz0) O1 ?_; simp only [Act.put, List.setIfInBounds_toArray, List.set_cons_zero, List.set_cons_succ]))
  obtain ⟨g, hg⟩ : ∃ g, g = w1.heap.size := ⟨_, rfl⟩
  refine wp_gen (fun W => Ext w W ∧ Ky W g k0 ∧ Ky W (g + 1) k1) ⟨e1.trans (below_setRow (below_setRow (((Ext.refl w1).alloc _).alloc _) (Nat.le_refl _) _) (Nat.le_succ _) _), ⟨by rw [hg]; exact (setRow_other _ _ _ _ (by omega)).trans (setRow_heap _ _ _ _ _ _ a1.out), K0⟩, ⟨by rw [hg]; exact setRow_heap _ _ _ _ _ _ a2.out, K1⟩⟩ ?_
  rw [← hg]
  clear hg a1 a2 e1 STEP
  rintro w2 ⟨x2, y0, y1⟩
  replace x2 := Lib.hid x2
  replace y0 := Lib.hid y0
  replace y1 := Lib.hid y1
  go_wp2_with (refine wpList_build_as rfl _ _ rfl (cellsOf K).toArray (by simp only [List.map_toArray, List.map_cons, List.map_nil]; exact hb1) ?_)
  refine (WALK.out _ x2.out).mono ?_
  rintro e w3 ⟨A, c, rfl, kl, hc1, hc2, e3, -⟩
  obtain ⟨b, rfl, hb, hrow⟩ := kl.2.2 (by simp)
  replace hrow := Lib.hid (hrow 0 (by simp))
  clear kl
  replace y0 := Lib.hid (y0.out.ext e3)
  replace y1 := Lib.hid (y1.out.ext e3)
  have x3 : Hid (Ext w w3) := x2.out.trans e3
  clear x2 e3 WALK
  simp only [List.length_cons, List.length_nil, Nat.zero_add] at hc1
  have a3 : Hid ((w3.alloc (Obj.cells Z 23)).heap[w3.heap.size]? = some (.cells Z 23 (0, 0))) := heap_alloc_new _ _
  go_upto_region 3 with (first
    | (refine wpList_store_row rfl 23 _ _ rfl w3.heap.size (cellsOf k1).toArray rfl rfl 23 Z a3.out (by rw [S1]; rfl) (by rw [S1]; exact hz0) O1 ?_; simp only [Act.put, List.setIfInBounds_toArray, List.set_cons_zero, List.set_cons_succ]))
  obtain ⟨h, hh⟩ : ∃ h, h = w3.heap.size := ⟨_, rfl⟩
  have e4 : Ext w3 ((w3.alloc (Obj.cells Z 23)).setRow w3.heap.size (cellsOf k1).toArray) := below_setRow ((Ext.refl w3).alloc _) (Nat.le_refl _) _
  refine wp_gen (fun W => Ext w W ∧ Ky W g k0 ∧ Ky W (g + 1) k1 ∧ Ky W h k1 ∧ b < W.heap.size ∧ ∀ i v, (cellsOf k0)[i]? = some v → W.cell? ⟨b, 0 + i, none⟩ = some v) ⟨x3.out.trans e4, y0.out.ext e4, y1.out.ext e4, ⟨by rw [hh]; exact setRow_heap _ _ _ _ _ _ a3.out, K1⟩, Nat.lt_of_lt_of_le hb e4.size, fun i v hv => (e4.cell hb).trans (hrow.out i v hv)⟩ ?_
  rw [← hh]
  clear hh a3 e4 y0 y1 x3 hrow hb
  rintro w4 ⟨x4, y0, y1, y2, hb, hrow⟩
  have E4 : Hid (Ext w w4) := x4
  have P0 : Hid (∀ w', Ext w4 w' → Ky w' g k0 ∧ Ky w' (g + 1) k1 ∧ Ky w' h k1 ∧ ∀ i v, (cellsOf k0)[i]? = some v → w'.cell? ⟨b, 0 + i, none⟩ = some v) := fun w' e => ⟨y0.ext e, y1.ext e, y2.ext e, fun i v hv => (e.cell hb).trans (hrow i v hv)⟩
  clear x4 y0 y1 y2 hrow hb
  go_wp2_with fail
  refine wp_region_seq (R := Ext) Ext.refl (fun _ _ _ => Ext.trans) [0, 1, 2, 3, 4, 5, 6, 7, 8, 9, 10, 11, 12, 13, 14, 15, 16, 17, 18, 19, 20, 21, 22, 23, 24] [] [(0, 18, 4), (0, 19, 8), (3, 20, 786432), (4, 21, 1048576), (8, 22, 2097216), (24, 23, 6291456), (40, 24, 10485760), (72, 25, 16777216), (128, 26, 33554448), (384, 27, 100663296), (640, 28, 167772160), (1152, 29, 301989888), (2176, 30, 536870912), (4096, 31, 1073741840), (12288, 32, 3221225472), (20480, 33, 5368709120), (4096, 34, 1073741828), (102400, 35, 26843545600), (135168, 36, 35433480192), (266240, 37, 68719476736), (524288, 38, 137438953504), (524288, 39, 137438953480), (3670016, 40, 962072674304), (4718592, 41, 1236950581248), (16777215, 1, 2199023255552)] (by kernel_rfl) (by kernel_rfl) (by kernel_rfl) rfl (by kernel_rfl) (by kernel_rfl) (fun _ _ d _ _ h => by cases d <;> exact h) ?_
  refine seq_read (fun w' => w'.heap[g]? = some (.cells (cellsOf k0).toArray 23 (0, 0))) (fun w' e => (P0.out w' ((Ext.refl _).drew.trans e)).1.1) _ (v := .agg (cellsOf k0).toArray) rfl rfl (by rfl) (fun w' hF => exec_load_row rfl rfl hF rfl rfl (by rw [S0]; rfl)) ?_
  simp only [Act.put, List.setIfInBounds_toArray, List.set_cons_zero, List.set_cons_succ]
  refine seq_read (fun w' => w'.heap[(g + 1)]? = some (.cells (cellsOf k1).toArray 23 (0, 0))) (fun w' e => (P0.out w' ((Ext.refl _).drew.trans e)).2.1.1) _ (v := .agg (cellsOf k1).toArray) rfl rfl (by rfl) (fun w' hF => exec_load_row rfl rfl hF rfl rfl (by rw [S1]; rfl)) ?_
  simp only [Act.put, List.setIfInBounds_toArray, List.set_cons_zero, List.set_cons_succ]
  refine seq_read (fun _ => True) (fun _ _ => trivial) _ (v := .bool true) rfl rfl (by rfl) (fun w' _ => exec_neq_keyB hnb.out K0 K1 rfl rfl rfl) ?_
  simp only [Act.put, List.setIfInBounds_toArray, List.set_cons_zero, List.set_cons_succ]
  repeat (first | (refine seq_read (fun _ => True) (fun _ _ => trivial) _ (v := ?_) rfl rfl (by rfl) ?_ ?_; rotate_left; (· intro w' hF; go_simp; (try with_reducible rfl)); simp only [Act.put, List.setIfInBounds_toArray, List.set_cons_zero, List.set_cons_succ]) | (refine seq_skip _ rfl rfl (by rfl) ?_; simp only [Act.put, List.setIfInBounds_toArray, List.set_cons_zero, List.set_cons_succ]))
  refine seq_read (fun w' => ∀ j v, (cellsOf k0)[j]? = some v → w'.cell? ⟨b, 0 + j, none⟩ = some v) (fun w' e => (P0.out w' ((Ext.refl _).drew.trans e)).2.2.2) _ (v := .agg (cellsOf k0).toArray) rfl rfl (by rfl) (fun w' hF => exec_load_mid rfl rfl hF rfl rfl (by rw [C0]; rfl)) ?_
  simp only [Act.put, List.setIfInBounds_toArray, List.set_cons_zero, List.set_cons_succ]
  refine seq_read (fun w' => w'.heap[g]? = some (.cells (cellsOf k0).toArray 23 (0, 0))) (fun w' e => (P0.out w' ((Ext.refl _).drew.trans e)).1.1) _ (v := .agg (cellsOf k0).toArray) rfl rfl (by rfl) (fun w' hF => exec_load_row rfl rfl hF rfl rfl (by rw [S0]; rfl)) ?_
  simp only [Act.put, List.setIfInBounds_toArray, List.set_cons_zero, List.set_cons_succ]
  refine seq_read (fun _ => True) (fun _ _ => trivial) _ (v := .bool true) rfl rfl (by rfl) (fun w' _ => exec_eql_keyB (xs := k0) (ys := k0) (decide_eq_true rfl) K0 K0 rfl rfl rfl) ?_
  simp only [Act.put, List.setIfInBounds_toArray, List.set_cons_zero, List.set_cons_succ]
  repeat (first | (refine seq_read (fun _ => True) (fun _ _ => trivial) _ (v := ?_) rfl rfl (by rfl) ?_ ?_; rotate_left; (· intro w' hF; go_simp; (try with_reducible rfl)); simp only [Act.put, List.setIfInBounds_toArray, List.set_cons_zero, List.set_cons_succ]) | (refine seq_skip _ rfl rfl (by rfl) ?_; simp only [Act.put, List.setIfInBounds_toArray, List.set_cons_zero, List.set_cons_succ]))
  refine seq_read (fun w' => w'.heap[h]? = some (.cells (cellsOf k1).toArray 23 (0, 0))) (fun w' e => (P0.out w' ((Ext.refl _).drew.trans e)).2.2.1.1) _ (v := .agg (cellsOf k1).toArray) rfl rfl (by rfl) (fun w' hF => exec_load_row rfl rfl hF rfl rfl (by rw [S1]; rfl)) ?_
  simp only [Act.put, List.setIfInBounds_toArray, List.set_cons_zero, List.set_cons_succ]
  refine seq_read (fun w' => w'.heap[(g + 1)]? = some (.cells (cellsOf k1).toArray 23 (0, 0))) (fun w' e => (P0.out w' ((Ext.refl _).drew.trans e)).2.1.1) _ (v := .agg (cellsOf k1).toArray) rfl rfl (by rfl) (fun w' hF => exec_load_row rfl rfl hF rfl rfl (by rw [S1]; rfl)) ?_
  simp only [Act.put, List.setIfInBounds_toArray, List.set_cons_zero, List.set_cons_succ]
  refine seq_read (fun _ => True) (fun _ _ => trivial) _ (v := .bool true) rfl rfl (by rfl) (fun w' _ => exec_eql_keyB (xs := k1) (ys := k1) (decide_eq_true rfl) K1 K1 rfl rfl rfl) ?_
  simp only [Act.put, List.setIfInBounds_toArray, List.set_cons_zero, List.set_cons_succ]
  repeat (first | (refine seq_read (fun _ => True) (fun _ _ => trivial) _ (v := ?_) rfl rfl (by rfl) ?_ ?_; rotate_left; (· intro w' hF; go_simp; (try with_reducible rfl)); simp only [Act.put, List.setIfInBounds_toArray, List.set_cons_zero, List.set_cons_succ]) | (refine seq_skip _ rfl rfl (by rfl) ?_; simp only [Act.put, List.setIfInBounds_toArray, List.set_cons_zero, List.set_cons_succ]))
  refine seq_done ?_
  go_wp2_with fail
  go_ret
  exact ⟨rfl, E4.out.drew⟩
end Go.Proofs.YthdjojindijmnaaDoor
