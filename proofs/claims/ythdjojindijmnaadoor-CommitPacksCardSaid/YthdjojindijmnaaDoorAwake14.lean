/-
  The law's awake (layer 14)..
-/
import Derived.Test.YthdjojindijmnaaDoorCheckC
import Derived.Test.YthdjojindijmnaaDoorUnpack
import Derived.Test.YthdjojindijmnaaDoorKey1
namespace Go.Proofs.YthdjojindijmnaaDoor
open Go.ChangeShapes Go.WideShapes Go.ChangeAt Go.RowKit Go.Deep

def key7 : List UInt8 := 7 :: List.replicate 31 0
theorem key7_built : Tryd.prog.built 23 [(0, .int .u8 7)] = some (cellsOf key7).toArray := by kernel_rfl
theorem made_not_zero : decide (macL key1 (joinL [[97], [98]]) = List.replicate 32 0) = false := by decide +kernel
theorem rw_lit2 {W : World} {t : TypeId} {A B : Option Addr} {n m c d : Nat} {xs ys : List UInt8} (h1 : Bs W A n c xs) (h2 : Bs W B m d ys) : Rw (W.alloc (.cells #[.slice A n c, .slice B m d] t)) (some ⟨W.heap.size, 0, none⟩) 2 2 [xs, ys] := by
  have e : Ext W (W.alloc (.cells #[.slice A n c, .slice B m d] t)) := (Ext.refl W).alloc _
  refine ⟨rfl, Nat.le_refl _, by unfold maxLen; omega, fun _ => ⟨_, 0, rfl, by rw [size_alloc]; omega, fun j hj => ?_⟩⟩
  rw [cell_of_row _ _ _ _ _ (0, 0) (heap_alloc_new _ _)]
  match j with
  | 0 => exact ⟨A, n, c, rfl, h1.ext e⟩
  | 1 => exact ⟨B, m, d, rfl, h2.ext e⟩
  | j + 2 => omega

theorem conv_const1 (w : World) (o : Obj) (C : Array Value) (n c : Nat) : (convert 34 34 (.slice (some ⟨w.heap.size + 1, 0, none⟩) n c)).run Tryd.prog ((w.alloc o).alloc (.cells C 5)) = .ok (.slice (some ⟨w.heap.size + 1, 0, none⟩) n c) ((w.alloc o).alloc (.cells C 5 (C.size, C.size + 1))) := by
  have := conv_const (w.alloc o) C n c
  rwa [size_alloc] at this

theorem lit_rows (W : World) : Rw (((W.alloc (Obj.cells #[.int .u8 97] 5 (1, 2))).alloc (Obj.cells #[.int .u8 98] 5 (1, 2))).alloc (Obj.cells #[.slice (some ⟨W.heap.size, 0, none⟩) 1 1, .slice (some ⟨W.heap.size + 1, 0, none⟩) 1 1] 34)) (some ⟨W.heap.size + 1 + 1, 0, none⟩) 2 2 [[97], [98]] ∧ Ext W (((W.alloc (Obj.cells #[.int .u8 97] 5 (1, 2))).alloc (Obj.cells #[.int .u8 98] 5 (1, 2))).alloc (Obj.cells #[.slice (some ⟨W.heap.size, 0, none⟩) 1 1, .slice (some ⟨W.heap.size + 1, 0, none⟩) 1 1] 34)) := by
  have h1 : Bs (W.alloc (Obj.cells #[.int .u8 97] 5 (1, 2))) (some ⟨W.heap.size, 0, none⟩) 1 1 [97] := Bs.of_list rfl (heap_alloc_new _ _) ⟨rfl, by omega⟩
  have h2 : Bs ((W.alloc (Obj.cells #[.int .u8 97] 5 (1, 2))).alloc (Obj.cells #[.int .u8 98] 5 (1, 2))) (some ⟨W.heap.size + 1, 0, none⟩) 1 1 [98] := Bs.of_list rfl (heap_alloc2 _ _ _) ⟨rfl, by omega⟩
  have h := rw_lit2 (t := 34) (h1.ext ((Ext.refl _).alloc (Obj.cells #[.int .u8 98] 5 (1, 2)))) h2
  rw [size_alloc, size_alloc] at h
  exact ⟨h, (((Ext.refl W).alloc _).alloc _).alloc _⟩

set_option maxRecDepth 100000 in
set_option maxHeartbeats 1000000 in
theorem awake14_calls {w : World} {tg : TypeId × Nat × Nat} (hG : Gl w tg) : Calls Tryd.prog 13 #[] w fun e w' => e = .returned (.bool true) ∧ Ext w w' := by
  have hcv := conv_const
  have hcv1 := conv_const1
  have hb1 := key1_built
  have hb7 := key7_built
  have hb0 := zeros32_built
  have hne := Lib.hid made_not_zero
  have KL : key1.length = 32 := by decide
  have KL7 : key7.length = 32 := by decide
  have MAKE : Hid (∀ (W : World), Ext w W → Calls Tryd.prog 15 #[.agg (cellsOf key1).toArray, .slice (some ⟨W.heap.size + 1 + 1, 0, none⟩) 2 2] (((W.alloc (Obj.cells #[.int .u8 97] 5 (1, 2))).alloc (Obj.cells #[.int .u8 98] 5 (1, 2))).alloc (Obj.cells #[.slice (some ⟨W.heap.size, 0, none⟩) 1 1, .slice (some ⟨W.heap.size + 1, 0, none⟩) 1 1] 34)) fun e w' => e = .returned (.agg (cellsOf (macL key1 (joinL [[97], [98]]))).toArray) ∧ Ext (((W.alloc (Obj.cells #[.int .u8 97] 5 (1, 2))).alloc (Obj.cells #[.int .u8 98] 5 (1, 2))).alloc (Obj.cells #[.slice (some ⟨W.heap.size, 0, none⟩) 1 1, .slice (some ⟨W.heap.size + 1, 0, none⟩) 1 1] 34)) w') := fun W e => make_calls KL (lit_rows W).1 (by decide) (hG.kept (e.trans (lit_rows W).2) hG.lt)
  have CHK : Hid (∀ (W : World), Ext w W → Calls Tryd.prog 16 #[.agg (cellsOf (macL key1 (joinL [[97], [98]]))).toArray, .agg (cellsOf key1).toArray, .slice (some ⟨W.heap.size + 1 + 1, 0, none⟩) 2 2] (((W.alloc (Obj.cells #[.int .u8 97] 5 (1, 2))).alloc (Obj.cells #[.int .u8 98] 5 (1, 2))).alloc (Obj.cells #[.slice (some ⟨W.heap.size, 0, none⟩) 1 1, .slice (some ⟨W.heap.size + 1, 0, none⟩) 1 1] 34)) fun e w' => e = .returned (.int .i64 0) ∧ Ext (((W.alloc (Obj.cells #[.int .u8 97] 5 (1, 2))).alloc (Obj.cells #[.int .u8 98] 5 (1, 2))).alloc (Obj.cells #[.slice (some ⟨W.heap.size, 0, none⟩) 1 1, .slice (some ⟨W.heap.size + 1, 0, none⟩) 1 1] 34)) w') := fun W e => check14_calls (b := false) KL (macL_len _ _) (by simp) (lit_rows W).1 (by decide) (hG.kept (e.trans (lit_rows W).2) hG.lt)
  have PACK : Hid (∀ (W : World), Calls Tryd.prog 18 #[.agg (cellsOf key7).toArray, .slice (some ⟨W.heap.size, 0, none⟩) 1 1] (W.alloc (Obj.cells #[.int .u8 120] 5 (1, 2))) (RetBs (key7 ++ [120]) (W.alloc (Obj.cells #[.int .u8 120] 5 (1, 2))))) := fun W => pack_calls KL7 (Bs.of_list rfl (heap_alloc_new _ _) ⟨rfl, by omega⟩) (by omega)
  have UNP : Hid (∀ (W : World) (A : Option Addr) (n c : Nat), Bs W A n c (key7 ++ [120]) → Calls Tryd.prog 19 #[.slice A n c] W (RetUn key7 [120] 0 W)) := fun W A n c b => by
    have hl := b.len
    have : n = 33 := by rw [← hl]; rfl
    have h := unpack_calls b (by omega) (by omega)
    exact h
  clear hG
  have ML := macL_len key1 (joinL [[97], [98]])
  generalize macL key1 (joinL [[97], [98]]) = M at *
  generalize key1 = K1 at *
  generalize key7 = K7 at *
  have S1 : (cellsOf M).toArray.size = 32 := by simp [cellsOf_len, ML]
  have S7 : (cellsOf K7).toArray.size = 32 := by simp [cellsOf_len, KL7]
  have O1 := cellsOf_one M
  have O7 := cellsOf_one K7
  have hal := key_alloc
  have hz0 := zeros32_size
  rw [← zeros32_cells] at hb0
  have Lz : (List.replicate 32 (0 : UInt8)).length = 32 := rfl
  generalize List.replicate 32 (0 : UInt8) = z0 at *
  generalize zeros32 = Z at *
  have hnb : Hid ((!decide (M = z0)) = true) := by
    unfold Hid
    rw [hne.out]; rfl
  clear hne
  replace hb0 := Lib.hid hb0
  go_enter Tryd.func13, Tryd.ntmps13
  go_wp2_with (refine wpList_build_as rfl _ _ rfl (cellsOf K1).toArray (by simp only [List.map_toArray, List.map_cons, List.map_nil]; exact hb1) ?_; simp only [Act.put, List.setIfInBounds_toArray, List.set_cons_zero, List.set_cons_succ])
  refine (MAKE.out w (Ext.refl w)).mono ?_
  rintro e w1 ⟨rfl, e1⟩
  have x1 : Hid (Ext w w1) := (lit_rows w).2.trans e1
  have a1 : Hid ((w1.alloc (Obj.cells Z 23)).heap[w1.heap.size]? = some (.cells Z 23 (0, 0))) := heap_alloc_new _ _
  clear e1 MAKE
  go_upto_region 2 with (refine wpList_store_row rfl 23 _ _ rfl w1.heap.size (cellsOf M).toArray rfl rfl 23 Z a1.out (by rw [S1]; rfl) (by rw [S1]; exact hz0) O1 ?_; simp only [Act.put, List.setIfInBounds_toArray, List.set_cons_zero, List.set_cons_succ])
  obtain ⟨g, hg⟩ : ∃ g, g = w1.heap.size := ⟨_, rfl⟩
  refine wp_gen (fun W => Ext w W ∧ Ky W g M) ⟨below_setRow (x1.out.alloc _) x1.out.size _, ⟨by rw [hg]; exact setRow_heap _ _ _ _ _ _ a1.out, ML⟩⟩ ?_
  rw [← hg]
  clear hg a1 x1
  rintro w2 ⟨x2, ky⟩
  replace x2 := Lib.hid x2
  replace ky := Lib.hid ky
  go_wp2_with (refine wpList_build_as rfl _ _ rfl (cellsOf K7).toArray (by simp only [List.map_toArray, List.map_cons, List.map_nil]; exact hb7) ?_; simp only [Act.put, List.setIfInBounds_toArray, List.set_cons_zero, List.set_cons_succ])
  refine (PACK.out w2).mono ?_
  rintro e w3 ⟨A3, n3, c3, rfl, b3, e3⟩
  have x3 : Hid (Ext w w3) := (x2.out.alloc _).trans e3
  replace ky := Lib.hid ((ky.out.ext ((Ext.refl w2).alloc _)).ext e3)
  clear PACK e3 x2
  go_wp2_with fail
  refine (UNP.out _ _ _ _ b3).mono ?_
  rintro e w4 ⟨A4, n4, c4, rfl, b4, e4⟩
  have n1 : n4 = 1 := by rw [← b4.len]; rfl
  subst n1
  have x4 : Hid (Ext w w4) := x3.out.trans e4
  replace ky := Lib.hid (ky.out.ext e4)
  have a4 : Hid ((w4.alloc (Obj.cells Z 23)).heap[w4.heap.size]? = some (.cells Z 23 (0, 0))) := heap_alloc_new _ _
  replace b4 := Lib.hid b4
  clear UNP e4 x3 b3
  go_upto_region 3 with (refine wpList_store_row rfl 23 _ _ rfl w4.heap.size (cellsOf K7).toArray rfl rfl 23 Z a4.out (by rw [S7]; rfl) (by rw [S7]; exact hz0) O7 ?_; simp only [Act.put, List.setIfInBounds_toArray, List.set_cons_zero, List.set_cons_succ])
  obtain ⟨g7, hg⟩ : ∃ g, g = w4.heap.size := ⟨_, rfl⟩
  have e5 : Ext w4 ((w4.alloc (Obj.cells Z 23)).setRow w4.heap.size (cellsOf K7).toArray) := below_setRow ((Ext.refl w4).alloc _) (Nat.le_refl _) _
  refine wp_gen (fun W => Ext w W ∧ Ky W g M ∧ Ky W g7 K7 ∧ Bs W A4 1 c4 [120]) ⟨x4.out.trans e5, ky.out.ext e5, ⟨by rw [hg]; exact setRow_heap _ _ _ _ _ _ a4.out, KL7⟩, b4.out.ext e5⟩ ?_
  rw [← hg]
  clear hg a4 x4 e5 ky b4
  rintro w5 ⟨x5, k1, k7, b5⟩
  replace x5 := Lib.hid x5
  replace k1 := Lib.hid k1
  replace k7 := Lib.hid k7
  replace b5 := Lib.hid b5
  go_wp2_with (first
    | (refine wpList_exec rfl (exec_load_row rfl rfl k1.out.1 rfl rfl (by rw [S1]; rfl)) ?_; simp only [Act.put, List.setIfInBounds_toArray, List.set_cons_zero, List.set_cons_succ])
    | (refine wpList_build_as rfl _ _ rfl (cellsOf K1).toArray (by simp only [List.map_toArray, List.map_cons, List.map_nil]; exact hb1) ?_; simp only [Act.put, List.setIfInBounds_toArray, List.set_cons_zero, List.set_cons_succ]))
  refine (CHK.out w5 x5.out).mono ?_
  rintro e w6 ⟨rfl, e6⟩
  have e6' : Ext w5 w6 := (lit_rows w5).2.trans e6
  have x6 : Hid (Ext w w6) := x5.out.trans e6'
  replace k1 := Lib.hid (k1.out.ext e6')
  replace k7 := Lib.hid (k7.out.ext e6')
  replace b5 := Lib.hid (b5.out.ext e6')
  clear CHK e6 e6' x5
  have hcb : (convert 34 9 (.slice A4 1 c4)).run Tryd.prog w6 = .ok (.string ⟨#[120]⟩) w6 := conv_bs b5.out
  clear b5
  go_wp2_with (first
    | (refine wpList_exec rfl (exec_load_row rfl rfl k1.out.1 rfl rfl (by rw [S1]; rfl)) ?_; simp only [Act.put, List.setIfInBounds_toArray, List.set_cons_zero, List.set_cons_succ])
    | (refine wpList_exec rfl (exec_load_row rfl rfl k7.out.1 rfl rfl (by rw [S7]; rfl)) ?_; simp only [Act.put, List.setIfInBounds_toArray, List.set_cons_zero, List.set_cons_succ])
    | (refine wpList_exec rfl (exec_build_as (cells := (cellsOf K7).toArray) rfl (by simp only [List.map_toArray, List.map_cons, List.map_nil]; exact hb7)) ?_; simp only [Act.put, List.setIfInBounds_toArray, List.set_cons_zero, List.set_cons_succ])
    | (refine wpList_exec rfl (exec_build_as (cells := (cellsOf z0).toArray) rfl (by simp only [List.map_toArray, List.map_nil]; exact hb0.out)) ?_; simp only [Act.put, List.setIfInBounds_toArray, List.set_cons_zero, List.set_cons_succ])
    | (refine wpList_exec rfl (exec_neq_keyB (xs := M) (ys := z0) hnb.out ML Lz rfl rfl rfl) ?_; simp only [Act.put, List.setIfInBounds_toArray, List.set_cons_zero, List.set_cons_succ])
    | (refine wpList_exec rfl (exec_eql_keyB (xs := K7) (ys := K7) (decide_eq_true rfl) KL7 KL7 rfl rfl rfl) ?_; simp only [Act.put, List.setIfInBounds_toArray, List.set_cons_zero, List.set_cons_succ]))
  go_ret
  exact ⟨rfl, x6.out⟩
end Go.Proofs.YthdjojindijmnaaDoor
