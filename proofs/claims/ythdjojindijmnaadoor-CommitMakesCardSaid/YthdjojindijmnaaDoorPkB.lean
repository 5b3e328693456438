import Derived.Test.YthdjojindijmnaaDoorRefMac
import Derived.Test.YthdjojindijmnaaDoorKeyEq
import Derived.Test.YthdjojindijmnaaDoorRefJoin
import Derived.Test.YthdjojindijmnaaDoorSeqZ
section
/-
  The document's Tag.
-/
namespace Go.Proofs.YthdjojindijmnaaDoor
open Go.ChangeShapes Go.WideShapes Go.ChangeAt Go.RowKit Go.Deep

set_option maxRecDepth 100000 in
set_option maxHeartbeats 1000000 in
theorem refTag_calls {A : Option Addr} {m d : Nat} {ks bs : List UInt8} {w : World} (hk : ks.length = 32) (h : Bs w A m d bs) (hm : m ≤ 1000000) :
    Calls Tryd.prog 31 #[.agg (cellsOf ks).toArray, .slice A m d] w fun e w' => e = .returned (.agg (cellsOf (macL ks bs)).toArray) ∧ Ext w w' := by
  have hal : ∀ w, (zeroValue 23).run Tryd.prog w = .ok (.agg zeros32) w := fun _ => by kernel_rfl
  have HL : (cellsOf (macL ks bs)).toArray.size = 32 := by simp [cellsOf_len, macL_len]
  have H1 := cellsOf_one (macL ks bs)
  have KB : Hid (∀ o, Bs ((w.alloc (Obj.cells (cellsOf ks).toArray 23)).alloc o) (some ⟨w.heap.size, 0, none⟩) 32 32 ks) := fun o => (Ky.bs (Ky.boxed w hk)).ext ((Ext.refl _).alloc _)
  have CALL : Hid (∀ W, Ext w W → Bs W (some ⟨w.heap.size, 0, none⟩) 32 32 ks → Calls Tryd.prog 41 #[.slice (some ⟨w.heap.size, 0, none⟩) 32 32, .slice A m d] W fun e w' => e = .returned (.tuple #[.agg (cellsOf (macL ks bs)).toArray, .int .i64 0]) ∧ Ext W w') :=
    fun W e b => refMac_calls b (h.ext e) (by omega) hm
  have hz0 := zeros32_size
  generalize zeros32 = Z at *
  generalize (cellsOf (macL ks bs)).toArray = D at *
  generalize (cellsOf ks).toArray = KS at *
  go_enter Tryd.func31, Tryd.ntmps31
  go_wp2_with fail
  refine (CALL.out _ (((Ext.refl w).alloc _).alloc _) (KB.out _)).mono ?_
  rintro e w1 ⟨rfl, e1⟩
  have r0 := Lib.hid ((e1.block (w.heap.size + 1) (by rw [size_alloc, size_alloc]; omega)).trans (heap_alloc2 w (Obj.cells KS 23) (Obj.cells Z 23)))
  have r1 : Hid (((w1.alloc (Obj.cells Z 23)).setRow w1.heap.size D).heap[w.heap.size + 1]? = some (Obj.cells Z 23)) := (setRow_other _ _ _ _ (Nat.ne_of_lt (heap_lt r0.out))).trans (((Ext.refl w1).alloc _ |>.block _ (heap_lt r0.out)).trans r0.out)
  clear CALL KB
  go_wp2_with (first
    | refine wpList_store_row rfl 23 _ _ rfl w1.heap.size D rfl rfl 23 _ (by with_reducible exact heap_alloc_new _ _) (by rw [HL]; rfl) (by rw [HL]; exact hz0) H1 ?_
    | refine wpList_load_row rfl 23 _ rfl w1.heap.size rfl 23 D (0, 0) _ (by with_reducible exact setRow_heap _ _ _ _ _ _ (heap_alloc_new _ _)) rfl rfl (by rw [HL]; rfl) ?_
    | refine wpList_store_row rfl 23 _ _ rfl (w.heap.size + 1) D rfl rfl 23 Z (by with_reducible exact r1.out) (by rw [HL]; rfl) (by rw [HL]; exact hz0) H1 ?_)
  (try simp only [Exit.inBlock, Exit.then])
  refine bodyPost_ret (results_cell_row rfl _ _ (w.heap.size + 1) 23 D (0, 0) _ rfl (setRow_heap _ _ _ _ _ _ r1.out) rfl rfl (by rw [HL]; rfl)) rfl ?_
  exact ⟨rfl, below_setRow (below_setRow (((((Ext.refl w).alloc _).alloc _).trans e1).alloc _) (Nat.le_trans (Nat.le_succ _) (Nat.le_of_lt (heap_lt r0.out))) _) (Nat.le_succ _) _⟩
end Go.Proofs.YthdjojindijmnaaDoor
end

section
/-
  The document's Make (layer 14).
-/
namespace Go.Proofs.YthdjojindijmnaaDoor
open Go.ChangeShapes Go.WideShapes Go.ChangeAt Go.RowKit Go.Deep

set_option maxRecDepth 100000 in
set_option maxHeartbeats 1000000 in
theorem make14_calls {A : Option Addr} {n c : Nat} {l : List (List UInt8)} {ks : List UInt8} {w : World} (hk : ks.length = 32) (h : Rw w A n c l) (hm : (joinL l).length ≤ 1000000) :
    Calls Tryd.prog 17 #[.agg (cellsOf ks).toArray, .slice A n c] w fun e w' => e = .returned (.agg (cellsOf (macL ks (joinL l))).toArray) ∧ Ext w w' := by
  have JOIN : Hid (∀ (W : World), Ext w W → Calls Tryd.prog 32 #[.slice A n c] W (RetBs (joinL l) W)) := fun W e => refJoin_calls (h.ext e) (by omega)
  have TAG : Hid (∀ (W : World) (A' : Option Addr) (m d : Nat), Bs W A' m d (joinL l) → Calls Tryd.prog 31 #[.agg (cellsOf ks).toArray, .slice A' m d] W fun e w' => e = .returned (.agg (cellsOf (macL ks (joinL l))).toArray) ∧ Ext W w') := fun W A' m d b => refTag_calls hk b (by rw [← b.len]; exact hm)
  clear h hm
  have ML := macL_len ks (joinL l)
  generalize macL ks (joinL l) = D at *
  have DS : (cellsOf D).toArray.size = 32 := by simp [cellsOf_len, ML]
  have KS : (cellsOf ks).toArray.size = 32 := by simp [cellsOf_len, hk]
  have D1 := cellsOf_one D
  have hal := key_alloc
  have hz0 := zeros32_size
  generalize zeros32 = Z at *
  have B0 : Hid (∀ w', Ext ((w.alloc (Obj.cells (cellsOf ks).toArray 23)).alloc (Obj.cells Z 23)) w' → Ky w' w.heap.size ks ∧ w'.heap[w.heap.size + 1]? = some (.cells Z 23 (0, 0)) ∧ Ext w w') := fun w' e => ⟨⟨(e.block _ (by rw [size_alloc, size_alloc]; omega)).trans (heap_alloc1 _ _ _), hk⟩, (e.block _ (by rw [size_alloc, size_alloc]; omega)).trans (heap_alloc2 _ _ _), (((Ext.refl w).alloc _).alloc _).trans e⟩
  go_enter Tryd.func17, Tryd.ntmps17
  go_upto_region 1 with fail
  refine wp_gen (fun W => ∀ w', Ext W w' → Ky w' w.heap.size ks ∧ w'.heap[w.heap.size + 1]? = some (.cells Z 23 (0, 0)) ∧ Ext w w') B0.out ?_
  clear B0
  rintro w0 b0
  have B0 := Lib.hid b0
  clear b0
  refine wp_region_seqZ (R := Ext) Ext.refl (fun _ _ _ => Ext.trans) 4 [0, 1, 2, 3, 4] [2, 3, 4] [(0, 6, 8), (0, 7, 4), (2, 8, 128), (5, 9, 320), (15, 0, 544)] (by kernel_rfl) (by kernel_rfl) (by kernel_rfl) rfl (by kernel_rfl) (by kernel_rfl) (by kernel_rfl) (fun _ _ d _ _ h => by cases d <;> exact h) ?_
  refine seqZ_read (fun w' => w'.heap[w.heap.size]? = some (.cells (cellsOf ks).toArray 23 (0, 0))) (fun w' e => (B0.out w' ((Ext.refl _).drew.trans e)).1.1) _ (v := .agg (cellsOf ks).toArray) rfl rfl (by rfl) (fun w' hF => exec_load_row rfl rfl hF rfl rfl (by rw [KS]; rfl)) ?_
  simp only [Act.put, List.setIfInBounds_toArray, List.set_cons_zero, List.set_cons_succ]
  repeat (refine seqZ_read (fun _ => True) (fun _ _ => trivial) _ (v := ?_) rfl rfl (by rfl) ?_ ?_; rotate_left; (· intro w' hF; go_simp; (try with_reducible rfl)); simp only [Act.put, List.setIfInBounds_toArray, List.set_cons_zero, List.set_cons_succ])
  refine seqZ_do _ rfl rfl (by rfl) (fun K hK => ?_)
  go_simp
  refine (JOIN.out _ (B0.out _ (Ext.refl _).drew).2.2).mono ?_
  rintro e w1 ⟨A1, n1, c1, rfl, b1, e1⟩
  refine hK.out _ _ (.inr e1) ?_
  clear hK K
  (try simp only [Act.put, List.setIfInBounds_toArray, List.set_cons_zero, List.set_cons_succ])
  refine seqZ_do _ rfl rfl (by rfl) (fun K hK => ?_)
  go_simp
  refine (TAG.out _ _ _ _ b1).mono ?_
  rintro e w2 ⟨rfl, e2⟩
  refine hK.out _ _ (.inr e2) ?_
  clear hK K
  (try simp only [Act.put, List.setIfInBounds_toArray, List.set_cons_zero, List.set_cons_succ])
  have x2 : Ext w0 w2 := (Ext.refl w0).drew.trans (e1.trans e2)
  have r2 := Lib.hid (B0.out _ x2).2.1
  have E2 := Lib.hid (B0.out _ x2).2.2
  clear B0 JOIN TAG e1 e2 x2 b1
  refine seqZ_do _ rfl rfl (by rfl) (fun K hK => ?_)
  refine wp_store_row _ _ _ rfl (w.heap.size + 1) (cellsOf D).toArray rfl rfl 23 Z r2.out (by rw [DS]; rfl) (by rw [DS]; exact hz0) D1 ?_
  refine hK.out _ _ (.inl rfl) ?_
  clear hK K
  (try simp only [Act.put, List.setIfInBounds_toArray, List.set_cons_zero, List.set_cons_succ])
  refine seqZ_done ?_
  go_wp2_with fail
  (try simp only [Exit.inBlock, Exit.then])
  refine bodyPost_ret (results_cell_row rfl _ _ (w.heap.size + 1) 23 (cellsOf D).toArray (0, 0) _ rfl (setRow_heap _ _ _ _ _ _ r2.out) rfl rfl (by rw [DS]; rfl)) rfl ?_
  exact ⟨rfl, below_setRow E2.out (Nat.le_succ _) _⟩
end Go.Proofs.YthdjojindijmnaaDoor
end
