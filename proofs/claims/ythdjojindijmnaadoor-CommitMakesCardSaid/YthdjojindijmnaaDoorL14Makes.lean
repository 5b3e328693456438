import Derived.Test.YthdjojindijmnaaDoorAwake14
import Derived.Test.YthdjojindijmnaaDoorJoinLt
import Derived.Test.YthdjojindijmnaaDoorPkB
/-
  CommitMakes: what commits to texts is the document's, and whether a thing does.
-/
namespace Go.Proofs.YthdjojindijmnaaDoor
open Go.ChangeShapes Go.WideShapes Go.ChangeAt Go.RowKit Go.Deep

set_option maxHeartbeats 1000000 in
theorem commitMakes_out {A : Option Addr} {n c : Nat} {l : List (List UInt8)} {ks cs : List UInt8} {w : World} (h : Rw w A n c l) (hq : lightB l = false) {tg : TypeId × Nat × Nat} (hG : Gl w tg) :
    Calls Tryd.prog 4 #[.agg (cellsOf ks).toArray, .agg (cellsOf cs).toArray, .slice A n c] w fun e w' => e = .returned (.bool true) ∧ Ext w w' := by
  have AW := Lib.hid (fun (W : World) (e : Ext w W) => awake14_calls (hG.kept e hG.lt))
  have LI : Hid (∀ W, Ext w W → Calls Tryd.prog 14 #[.slice A n c] W fun e w' => e = .returned (.bool false) ∧ w' = W) := fun W e => by
    rw [← hq]; exact light_calls (h.ext e)
  clear hG hq
  generalize (cellsOf ks).toArray = KS at *
  generalize (cellsOf cs).toArray = CS at *
  have E0 : Hid (Ext w ((w.alloc (Obj.cells KS 23)).alloc (Obj.cells CS 23))) := ((Ext.refl w).alloc _).alloc _
  go_enter Tryd.func4, Tryd.ntmps4
  go_wp2_with fail
  refine (AW.out _ E0.out).mono ?_
  rintro e w1 ⟨rfl, e1⟩
  go_wp2_with fail
  refine (LI.out _ (E0.out.trans e1)).mono ?_
  rintro e w2 ⟨rfl, rfl⟩
  go_wp2_with fail
  go_ret
  exact ⟨rfl, E0.out.trans e1⟩

set_option maxRecDepth 100000 in
set_option maxHeartbeats 4000000 in
theorem commitMakes_main {A : Option Addr} {n c : Nat} {l : List (List UInt8)} {ks cs : List UInt8} {w : World} (hk : ks.length = 32) (hc : cs.length = 32) (h : Rw w A n c l) (hq : lightB l = true) {tg : TypeId × Nat × Nat} (hG : Gl w tg) :
    Calls Tryd.prog 4 #[.agg (cellsOf ks).toArray, .agg (cellsOf cs).toArray, .slice A n c] w fun e w' => e = .returned (.bool true) ∧ Ext w w' := by
  have AW := Lib.hid (fun (W : World) (e : Ext w W) => awake14_calls (hG.kept e hG.lt))
  have JS := join_light hq
  have JL : (joinL l).length ≤ 100000000 := Nat.le_trans JS (by omega)
  have LI : Hid (∀ W, Ext w W → Calls Tryd.prog 14 #[.slice A n c] W fun e w' => e = .returned (.bool true) ∧ w' = W) := fun W e => by
    rw [← hq]; exact light_calls (h.ext e)
  have MAKE : Hid (∀ W, Ext w W → Calls Tryd.prog 15 #[.agg (cellsOf ks).toArray, .slice A n c] W fun e w' => e = .returned (.agg (cellsOf (macL ks (joinL l))).toArray) ∧ Ext W w') := fun W e => make_calls hk (h.ext e) JL (hG.kept e hG.lt)
  have REF : Hid (∀ W, Ext w W → Calls Tryd.prog 17 #[.agg (cellsOf ks).toArray, .slice A n c] W fun e w' => e = .returned (.agg (cellsOf (macL ks (joinL l))).toArray) ∧ Ext W w') := fun W e => make14_calls hk (h.ext e) (by omega)
  have CHK : Hid (∀ W, Ext w W → Calls Tryd.prog 16 #[.agg (cellsOf (macL ks (joinL l))).toArray, .agg (cellsOf ks).toArray, .slice A n c] W fun e w' => e = .returned (.int .i64 0) ∧ Ext W w') := fun W e => check14_calls (b := false) hk (macL_len _ _) (by simp) (h.ext e) JL (hG.kept e hG.lt)
  have CHC : Hid (∀ b, (!decide (macL ks (joinL l) = cs)) = b → ∀ W, Ext w W → Calls Tryd.prog 16 #[.agg (cellsOf cs).toArray, .agg (cellsOf ks).toArray, .slice A n c] W fun e w' => e = .returned (.int .i64 (if b then 4 else 0)) ∧ Ext W w') := fun b hb W e => check14_calls (b := b) hk hc hb (h.ext e) JL (hG.kept e hG.lt)
  have ML := macL_len ks (joinL l)
  clear hG h JL hq JS
  generalize macL ks (joinL l) = ms at *
  have hal := key_alloc
  have hz0 := zeros32_size
  generalize zeros32 = Z at *
  have KS : (cellsOf ks).toArray.size = 32 := by simp [cellsOf_len, hk]
  have CS : (cellsOf cs).toArray.size = 32 := by simp [cellsOf_len, hc]
  have MS : (cellsOf ms).toArray.size = 32 := by simp [cellsOf_len, ML]
  have M1 := cellsOf_one ms
  have P0 : Hid (∀ w', Ext ((w.alloc (Obj.cells (cellsOf ks).toArray 23)).alloc (Obj.cells (cellsOf cs).toArray 23)) w' → Ky w' w.heap.size ks ∧ Ky w' (w.heap.size + 1) cs ∧ Ext w w') := fun w' e => ⟨⟨(e.block _ (by rw [size_alloc, size_alloc]; omega)).trans (heap_alloc1 _ _ _), hk⟩, ⟨(e.block _ (by rw [size_alloc, size_alloc]; omega)).trans (heap_alloc2 _ _ _), hc⟩, (((Ext.refl w).alloc _).alloc _).trans e⟩
  go_enter Tryd.func4, Tryd.ntmps4
  go_wp2_with fail
  refine (AW.out _ (((Ext.refl w).alloc _).alloc _)).mono ?_
  rintro e w1 ⟨rfl, e1⟩
  have P1 : Hid (∀ s, Ext w1 s → Ky s w.heap.size ks ∧ Ky s (w.heap.size + 1) cs ∧ Ext w s) := fun s e => P0.out s (e1.trans e)
  clear AW P0 e1
  go_wp2_with fail
  refine (LI.out _ (P1.out _ (Ext.refl _)).2.2).mono ?_
  rintro e w2 ⟨rfl, rfl⟩
  clear LI
  have K1 := Lib.hid (P1.out _ (Ext.refl _)).1
  go_wp2_with (refine wpList_exec rfl (exec_load_row rfl rfl K1.out.1 rfl rfl (by rw [KS]; rfl)) ?_; simp only [Act.put, List.setIfInBounds_toArray, List.set_cons_zero, List.set_cons_succ])
  refine (MAKE.out _ (P1.out _ (Ext.refl _)).2.2).mono ?_
  rintro e w3 ⟨rfl, e3⟩
  have a3 : Hid ((w3.alloc (Obj.cells Z 23)).heap[w3.heap.size]? = some (.cells Z 23 (0, 0))) := heap_alloc_new _ _
  go_upto_region 6 with (refine wpList_store_row rfl 23 _ _ rfl w3.heap.size (cellsOf ms).toArray rfl rfl 23 Z a3.out (by rw [MS]; rfl) (by rw [MS]; exact hz0) M1 ?_; simp only [Act.put, List.setIfInBounds_toArray, List.set_cons_zero, List.set_cons_succ])
  obtain ⟨g, hg⟩ : ∃ g, g = w3.heap.size := ⟨_, rfl⟩
  have e4 : Ext w3 ((w3.alloc (Obj.cells Z 23)).setRow w3.heap.size (cellsOf ms).toArray) := below_setRow ((Ext.refl w3).alloc _) (Nat.le_refl _) _
  refine wp_gen (fun W => ∀ s, Ext W s → Ky s w.heap.size ks ∧ Ky s (w.heap.size + 1) cs ∧ Ky s g ms ∧ Ext w s) (fun s e => by
    have p := P1.out s (e3.trans (e4.trans e))
    exact ⟨p.1, p.2.1, (show Ky _ g ms from ⟨by rw [hg]; exact setRow_heap _ _ _ _ _ _ a3.out, ML⟩).ext e, p.2.2⟩) ?_
  rw [← hg]
  clear hg a3 e4 e3 P1 K1
  rintro w4 P4
  replace P4 := Lib.hid P4
  go_wp2_with fail
  refine wp_region_seq (R := Ext) Ext.refl (fun _ _ _ => Ext.trans) [0, 1, 2, 3, 4] [3] [(0, 21, 32), (0, 22, 16), (0, 23, 8), (6, 24, 12582912), (9, 25, 18874368)] (by kernel_rfl) (by kernel_rfl) (by kernel_rfl) rfl (by kernel_rfl) (by kernel_rfl) (fun _ _ d _ _ h => by cases d <;> exact h) ?_
  refine seq_read (fun w' => w'.heap[(w.heap.size + 1)]? = some (.cells (cellsOf cs).toArray 23 (0, 0))) (fun w' e => (P4.out w' ((Ext.refl _).drew.trans e)).2.1.1) _ (v := .agg (cellsOf cs).toArray) rfl rfl (by rfl) (fun w' hF => exec_load_row rfl rfl hF rfl rfl (by rw [CS]; rfl)) ?_
  simp only [Act.put, List.setIfInBounds_toArray, List.set_cons_zero, List.set_cons_succ]
  refine seq_read (fun w' => w'.heap[w.heap.size]? = some (.cells (cellsOf ks).toArray 23 (0, 0))) (fun w' e => (P4.out w' ((Ext.refl _).drew.trans e)).1.1) _ (v := .agg (cellsOf ks).toArray) rfl rfl (by rfl) (fun w' hF => exec_load_row rfl rfl hF rfl rfl (by rw [KS]; rfl)) ?_
  simp only [Act.put, List.setIfInBounds_toArray, List.set_cons_zero, List.set_cons_succ]
  repeat (first | (refine seq_read (fun _ => True) (fun _ _ => trivial) _ (v := ?_) rfl rfl (by rfl) ?_ ?_; rotate_left; (· intro w' hF; go_simp; (try with_reducible rfl)); simp only [Act.put, List.setIfInBounds_toArray, List.set_cons_zero, List.set_cons_succ]) | (refine seq_skip _ rfl rfl (by rfl) ?_; simp only [Act.put, List.setIfInBounds_toArray, List.set_cons_zero, List.set_cons_succ]))
  refine seq_do _ rfl rfl (by rfl) (fun K1 hK1 => ?_)
  go_simp
  refine (REF.out _ (P4.out _ (Ext.refl _).drew).2.2.2).mono ?_
  rintro e w5 ⟨rfl, e5⟩
  refine hK1.out _ _ e5 ?_
  clear hK1 K1
  try simp only [Act.put, List.setIfInBounds_toArray, List.set_cons_zero, List.set_cons_succ]
  have P5 : Hid (∀ s, Ext w5 s → Ky s w.heap.size ks ∧ Ky s (w.heap.size + 1) cs ∧ Ky s g ms ∧ Ext w s) := fun s e => P4.out s ((Ext.refl _).drew.trans (e5.trans e))
  clear P4 e5
  by_cases hq : cs = ms
  · have hd : Hid (decide (cs = ms) = true) := by unfold Hid; simpa using hq
    have C1 := Lib.hid (CHC.out false (by cases hx : decide (ms = cs) <;> simp_all))
    clear CHC hq
    refine seq_read (fun _ => True) (fun _ _ => trivial) _ (v := .bool true) rfl rfl (by rfl) (fun w' _ => exec_eql_keyB (xs := cs) (ys := ms) hd.out hc ML rfl rfl rfl) ?_
    simp only [Act.put, List.setIfInBounds_toArray, List.set_cons_zero, List.set_cons_succ]
    refine seq_done ?_
    go_wp2_with fail
    refine wp_region_seq (R := Ext) Ext.refl (fun _ _ _ => Ext.trans) [0, 1, 2, 3, 4, 5, 6, 7, 8, 9, 10, 11, 13, 12, 14, 15, 16, 17, 18, 19, 20, 21, 22, 23] [5, 12, 20] [(0, 26, 256), (1, 27, 67108864), (2, 28, 134218752), (2, 29, 134217744), (2, 30, 134217736), (26, 31, 1744830464), (38, 32, 2550136832), (66, 33, 4429185024), (160, 34, 8589934592), (256, 35, 17179869216), (256, 36, 17179869200), (256, 37, 17179869192), (3840, 38, 257698037760), (256, 39, 17179871232), (12544, 40, 841813590016), (16640, 41, 1116691496960), (36864, 42, 2199023255552), (65536, 43, 4398046512128), (65536, 44, 4398046511120), (65536, 45, 4398046511112), (983040, 46, 65970697666560), (1114112, 47, 74766790688768), (2162688, 48, 145135534866432), (8388607, 7, 281474976710656)] (by kernel_rfl) (by kernel_rfl) (by kernel_rfl) rfl (by kernel_rfl) (by kernel_rfl) (fun _ _ d _ _ h => by cases d <;> exact h) ?_
    iterate 2 (first | (refine seq_read (fun _ => True) (fun _ _ => trivial) _ (v := ?_) rfl rfl (by rfl) ?_ ?_; rotate_left; (· intro w' hF; go_simp; (try with_reducible rfl)); simp only [Act.put, List.setIfInBounds_toArray, List.set_cons_zero, List.set_cons_succ]) | (refine seq_skip _ rfl rfl (by rfl) ?_; simp only [Act.put, List.setIfInBounds_toArray, List.set_cons_zero, List.set_cons_succ]))
    refine seq_read (fun w' => w'.heap[g]? = some (.cells (cellsOf ms).toArray 23 (0, 0))) (fun w' e => (P5.out w' ((Ext.refl _).drew.trans e)).2.2.1.1) _ (v := .agg (cellsOf ms).toArray) rfl rfl (by rfl) (fun w' hF => exec_load_row rfl rfl hF rfl rfl (by rw [MS]; rfl)) ?_
    simp only [Act.put, List.setIfInBounds_toArray, List.set_cons_zero, List.set_cons_succ]
    refine seq_read (fun w' => w'.heap[w.heap.size]? = some (.cells (cellsOf ks).toArray 23 (0, 0))) (fun w' e => (P5.out w' ((Ext.refl _).drew.trans e)).1.1) _ (v := .agg (cellsOf ks).toArray) rfl rfl (by rfl) (fun w' hF => exec_load_row rfl rfl hF rfl rfl (by rw [KS]; rfl)) ?_
    simp only [Act.put, List.setIfInBounds_toArray, List.set_cons_zero, List.set_cons_succ]
    iterate 1 (first | (refine seq_read (fun _ => True) (fun _ _ => trivial) _ (v := ?_) rfl rfl (by rfl) ?_ ?_; rotate_left; (· intro w' hF; go_simp; (try with_reducible rfl)); simp only [Act.put, List.setIfInBounds_toArray, List.set_cons_zero, List.set_cons_succ]) | (refine seq_skip _ rfl rfl (by rfl) ?_; simp only [Act.put, List.setIfInBounds_toArray, List.set_cons_zero, List.set_cons_succ]))
    refine seq_do _ rfl rfl (by rfl) (fun K1 hK1 => ?_)
    go_simp
    refine (REF.out _ (P5.out _ (Ext.refl _).drew).2.2.2).mono ?_
    rintro e w6 ⟨rfl, e6⟩
    refine hK1.out _ _ e6 ?_
    clear hK1 K1
    try simp only [Act.put, List.setIfInBounds_toArray, List.set_cons_zero, List.set_cons_succ]
    have P6 : Hid (∀ s, Ext w6 s → Ky s w.heap.size ks ∧ Ky s (w.heap.size + 1) cs ∧ Ky s g ms ∧ Ext w s) := fun s e => P5.out s ((Ext.refl _).drew.trans (e6.trans e))
    clear P5 e6
    refine seq_read (fun _ => True) (fun _ _ => trivial) _ (v := .bool true) rfl rfl (by rfl) (fun w' _ => exec_eql_keyB (xs := ms) (ys := ms) (decide_eq_true rfl) ML ML rfl rfl rfl) ?_
    simp only [Act.put, List.setIfInBounds_toArray, List.set_cons_zero, List.set_cons_succ]
    iterate 2 (first | (refine seq_read (fun _ => True) (fun _ _ => trivial) _ (v := ?_) rfl rfl (by rfl) ?_ ?_; rotate_left; (· intro w' hF; go_simp; (try with_reducible rfl)); simp only [Act.put, List.setIfInBounds_toArray, List.set_cons_zero, List.set_cons_succ]) | (refine seq_skip _ rfl rfl (by rfl) ?_; simp only [Act.put, List.setIfInBounds_toArray, List.set_cons_zero, List.set_cons_succ]))
    refine seq_read (fun w' => w'.heap[(w.heap.size + 1)]? = some (.cells (cellsOf cs).toArray 23 (0, 0))) (fun w' e => (P6.out w' e).2.1.1) _ (v := .agg (cellsOf cs).toArray) rfl rfl (by rfl) (fun w' hF => exec_load_row rfl rfl hF rfl rfl (by rw [CS]; rfl)) ?_
    simp only [Act.put, List.setIfInBounds_toArray, List.set_cons_zero, List.set_cons_succ]
    refine seq_read (fun w' => w'.heap[w.heap.size]? = some (.cells (cellsOf ks).toArray 23 (0, 0))) (fun w' e => (P6.out w' e).1.1) _ (v := .agg (cellsOf ks).toArray) rfl rfl (by rfl) (fun w' hF => exec_load_row rfl rfl hF rfl rfl (by rw [KS]; rfl)) ?_
    simp only [Act.put, List.setIfInBounds_toArray, List.set_cons_zero, List.set_cons_succ]
    iterate 2 (first | (refine seq_read (fun _ => True) (fun _ _ => trivial) _ (v := ?_) rfl rfl (by rfl) ?_ ?_; rotate_left; (· intro w' hF; go_simp; (try with_reducible rfl)); simp only [Act.put, List.setIfInBounds_toArray, List.set_cons_zero, List.set_cons_succ]) | (refine seq_skip _ rfl rfl (by rfl) ?_; simp only [Act.put, List.setIfInBounds_toArray, List.set_cons_zero, List.set_cons_succ]))
    refine seq_do _ rfl rfl (by rfl) (fun K1 hK1 => ?_)
    go_simp
    refine (C1.out _ (P6.out _ (Ext.refl _)).2.2.2).mono ?_
    rintro e w7 ⟨rfl, e7⟩
    refine hK1.out _ _ e7 ?_
    clear hK1 K1
    try simp only [Act.put, List.setIfInBounds_toArray, List.set_cons_zero, List.set_cons_succ]
    have P7 : Hid (∀ s, Ext w7 s → Ky s w.heap.size ks ∧ Ky s (w.heap.size + 1) cs ∧ Ky s g ms ∧ Ext w s) := fun s e => P6.out s (e7.trans e)
    clear P6 e7 C1
    iterate 3 (first | (refine seq_read (fun _ => True) (fun _ _ => trivial) _ (v := ?_) rfl rfl (by rfl) ?_ ?_; rotate_left; (· intro w' hF; go_simp; (try with_reducible rfl)); simp only [Act.put, List.setIfInBounds_toArray, List.set_cons_zero, List.set_cons_succ]) | (refine seq_skip _ rfl rfl (by rfl) ?_; simp only [Act.put, List.setIfInBounds_toArray, List.set_cons_zero, List.set_cons_succ]))
    refine seq_read (fun w' => w'.heap[g]? = some (.cells (cellsOf ms).toArray 23 (0, 0))) (fun w' e => (P7.out w' e).2.2.1.1) _ (v := .agg (cellsOf ms).toArray) rfl rfl (by rfl) (fun w' hF => exec_load_row rfl rfl hF rfl rfl (by rw [MS]; rfl)) ?_
    simp only [Act.put, List.setIfInBounds_toArray, List.set_cons_zero, List.set_cons_succ]
    refine seq_read (fun w' => w'.heap[w.heap.size]? = some (.cells (cellsOf ks).toArray 23 (0, 0))) (fun w' e => (P7.out w' e).1.1) _ (v := .agg (cellsOf ks).toArray) rfl rfl (by rfl) (fun w' hF => exec_load_row rfl rfl hF rfl rfl (by rw [KS]; rfl)) ?_
    simp only [Act.put, List.setIfInBounds_toArray, List.set_cons_zero, List.set_cons_succ]
    iterate 1 (first | (refine seq_read (fun _ => True) (fun _ _ => trivial) _ (v := ?_) rfl rfl (by rfl) ?_ ?_; rotate_left; (· intro w' hF; go_simp; (try with_reducible rfl)); simp only [Act.put, List.setIfInBounds_toArray, List.set_cons_zero, List.set_cons_succ]) | (refine seq_skip _ rfl rfl (by rfl) ?_; simp only [Act.put, List.setIfInBounds_toArray, List.set_cons_zero, List.set_cons_succ]))
    refine seq_do _ rfl rfl (by rfl) (fun K1 hK1 => ?_)
    go_simp
    refine (CHK.out _ (P7.out _ (Ext.refl _)).2.2.2).mono ?_
    rintro e w8 ⟨rfl, e8⟩
    refine hK1.out _ _ e8 ?_
    clear hK1 K1
    try simp only [Act.put, List.setIfInBounds_toArray, List.set_cons_zero, List.set_cons_succ]
    have E8 : Hid (Ext w w8) := (P7.out _ e8).2.2.2
    clear P7 e8
    repeat (first | (refine seq_read (fun _ => True) (fun _ _ => trivial) _ (v := ?_) rfl rfl (by rfl) ?_ ?_; rotate_left; (· intro w' hF; go_simp; (try with_reducible rfl)); simp only [Act.put, List.setIfInBounds_toArray, List.set_cons_zero, List.set_cons_succ]) | (refine seq_skip _ rfl rfl (by rfl) ?_; simp only [Act.put, List.setIfInBounds_toArray, List.set_cons_zero, List.set_cons_succ]))
    refine seq_done ?_
    go_wp2_with fail
    go_ret
    exact ⟨rfl, E8.out⟩
  · have hd : Hid (decide (cs = ms) = false) := by unfold Hid; simpa using hq
    have C1 := Lib.hid (CHC.out true (by cases hx : decide (ms = cs) <;> simp_all))
    clear CHC hq
    refine seq_read (fun _ => True) (fun _ _ => trivial) _ (v := .bool false) rfl rfl (by rfl) (fun w' _ => exec_eql_keyB (xs := cs) (ys := ms) hd.out hc ML rfl rfl rfl) ?_
    simp only [Act.put, List.setIfInBounds_toArray, List.set_cons_zero, List.set_cons_succ]
    refine seq_done ?_
    go_wp2_with fail
    refine wp_region_seq (R := Ext) Ext.refl (fun _ _ _ => Ext.trans) [0, 1, 2, 3, 4, 5, 6, 7, 8, 9, 10, 11, 13, 12, 14, 15, 16, 17, 18, 19, 20, 21, 22, 23] [5, 12, 20] [(0, 26, 256), (1, 27, 67108864), (2, 28, 134218752), (2, 29, 134217744), (2, 30, 134217736), (26, 31, 1744830464), (38, 32, 2550136832), (66, 33, 4429185024), (160, 34, 8589934592), (256, 35, 17179869216), (256, 36, 17179869200), (256, 37, 17179869192), (3840, 38, 257698037760), (256, 39, 17179871232), (12544, 40, 841813590016), (16640, 41, 1116691496960), (36864, 42, 2199023255552), (65536, 43, 4398046512128), (65536, 44, 4398046511120), (65536, 45, 4398046511112), (983040, 46, 65970697666560), (1114112, 47, 74766790688768), (2162688, 48, 145135534866432), (8388607, 7, 281474976710656)] (by kernel_rfl) (by kernel_rfl) (by kernel_rfl) rfl (by kernel_rfl) (by kernel_rfl) (fun _ _ d _ _ h => by cases d <;> exact h) ?_
    iterate 2 (first | (refine seq_read (fun _ => True) (fun _ _ => trivial) _ (v := ?_) rfl rfl (by rfl) ?_ ?_; rotate_left; (· intro w' hF; go_simp; (try with_reducible rfl)); simp only [Act.put, List.setIfInBounds_toArray, List.set_cons_zero, List.set_cons_succ]) | (refine seq_skip _ rfl rfl (by rfl) ?_; simp only [Act.put, List.setIfInBounds_toArray, List.set_cons_zero, List.set_cons_succ]))
    refine seq_read (fun w' => w'.heap[g]? = some (.cells (cellsOf ms).toArray 23 (0, 0))) (fun w' e => (P5.out w' ((Ext.refl _).drew.trans e)).2.2.1.1) _ (v := .agg (cellsOf ms).toArray) rfl rfl (by rfl) (fun w' hF => exec_load_row rfl rfl hF rfl rfl (by rw [MS]; rfl)) ?_
    simp only [Act.put, List.setIfInBounds_toArray, List.set_cons_zero, List.set_cons_succ]
    refine seq_read (fun w' => w'.heap[w.heap.size]? = some (.cells (cellsOf ks).toArray 23 (0, 0))) (fun w' e => (P5.out w' ((Ext.refl _).drew.trans e)).1.1) _ (v := .agg (cellsOf ks).toArray) rfl rfl (by rfl) (fun w' hF => exec_load_row rfl rfl hF rfl rfl (by rw [KS]; rfl)) ?_
    simp only [Act.put, List.setIfInBounds_toArray, List.set_cons_zero, List.set_cons_succ]
    iterate 1 (first | (refine seq_read (fun _ => True) (fun _ _ => trivial) _ (v := ?_) rfl rfl (by rfl) ?_ ?_; rotate_left; (· intro w' hF; go_simp; (try with_reducible rfl)); simp only [Act.put, List.setIfInBounds_toArray, List.set_cons_zero, List.set_cons_succ]) | (refine seq_skip _ rfl rfl (by rfl) ?_; simp only [Act.put, List.setIfInBounds_toArray, List.set_cons_zero, List.set_cons_succ]))
    refine seq_do _ rfl rfl (by rfl) (fun K1 hK1 => ?_)
    go_simp
    refine (REF.out _ (P5.out _ (Ext.refl _).drew).2.2.2).mono ?_
    rintro e w6 ⟨rfl, e6⟩
    refine hK1.out _ _ e6 ?_
    clear hK1 K1
    try simp only [Act.put, List.setIfInBounds_toArray, List.set_cons_zero, List.set_cons_succ]
    have P6 : Hid (∀ s, Ext w6 s → Ky s w.heap.size ks ∧ Ky s (w.heap.size + 1) cs ∧ Ky s g ms ∧ Ext w s) := fun s e => P5.out s ((Ext.refl _).drew.trans (e6.trans e))
    clear P5 e6
    refine seq_read (fun _ => True) (fun _ _ => trivial) _ (v := .bool true) rfl rfl (by rfl) (fun w' _ => exec_eql_keyB (xs := ms) (ys := ms) (decide_eq_true rfl) ML ML rfl rfl rfl) ?_
    simp only [Act.put, List.setIfInBounds_toArray, List.set_cons_zero, List.set_cons_succ]
    iterate 2 (first | (refine seq_read (fun _ => True) (fun _ _ => trivial) _ (v := ?_) rfl rfl (by rfl) ?_ ?_; rotate_left; (· intro w' hF; go_simp; (try with_reducible rfl)); simp only [Act.put, List.setIfInBounds_toArray, List.set_cons_zero, List.set_cons_succ]) | (refine seq_skip _ rfl rfl (by rfl) ?_; simp only [Act.put, List.setIfInBounds_toArray, List.set_cons_zero, List.set_cons_succ]))
    refine seq_read (fun w' => w'.heap[(w.heap.size + 1)]? = some (.cells (cellsOf cs).toArray 23 (0, 0))) (fun w' e => (P6.out w' e).2.1.1) _ (v := .agg (cellsOf cs).toArray) rfl rfl (by rfl) (fun w' hF => exec_load_row rfl rfl hF rfl rfl (by rw [CS]; rfl)) ?_
    simp only [Act.put, List.setIfInBounds_toArray, List.set_cons_zero, List.set_cons_succ]
    refine seq_read (fun w' => w'.heap[w.heap.size]? = some (.cells (cellsOf ks).toArray 23 (0, 0))) (fun w' e => (P6.out w' e).1.1) _ (v := .agg (cellsOf ks).toArray) rfl rfl (by rfl) (fun w' hF => exec_load_row rfl rfl hF rfl rfl (by rw [KS]; rfl)) ?_
    simp only [Act.put, List.setIfInBounds_toArray, List.set_cons_zero, List.set_cons_succ]
    iterate 2 (first | (refine seq_read (fun _ => True) (fun _ _ => trivial) _ (v := ?_) rfl rfl (by rfl) ?_ ?_; rotate_left; (· intro w' hF; go_simp; (try with_reducible rfl)); simp only [Act.put, List.setIfInBounds_toArray, List.set_cons_zero, List.set_cons_succ]) | (refine seq_skip _ rfl rfl (by rfl) ?_; simp only [Act.put, List.setIfInBounds_toArray, List.set_cons_zero, List.set_cons_succ]))
    refine seq_do _ rfl rfl (by rfl) (fun K1 hK1 => ?_)
    go_simp
    refine (C1.out _ (P6.out _ (Ext.refl _)).2.2.2).mono ?_
    rintro e w7 ⟨rfl, e7⟩
    refine hK1.out _ _ e7 ?_
    clear hK1 K1
    try simp only [Act.put, List.setIfInBounds_toArray, List.set_cons_zero, List.set_cons_succ]
    have P7 : Hid (∀ s, Ext w7 s → Ky s w.heap.size ks ∧ Ky s (w.heap.size + 1) cs ∧ Ky s g ms ∧ Ext w s) := fun s e => P6.out s (e7.trans e)
    clear P6 e7 C1
    iterate 3 (first | (refine seq_read (fun _ => True) (fun _ _ => trivial) _ (v := ?_) rfl rfl (by rfl) ?_ ?_; rotate_left; (· intro w' hF; go_simp; (try with_reducible rfl)); simp only [Act.put, List.setIfInBounds_toArray, List.set_cons_zero, List.set_cons_succ]) | (refine seq_skip _ rfl rfl (by rfl) ?_; simp only [Act.put, List.setIfInBounds_toArray, List.set_cons_zero, List.set_cons_succ]))
    refine seq_read (fun w' => w'.heap[g]? = some (.cells (cellsOf ms).toArray 23 (0, 0))) (fun w' e => (P7.out w' e).2.2.1.1) _ (v := .agg (cellsOf ms).toArray) rfl rfl (by rfl) (fun w' hF => exec_load_row rfl rfl hF rfl rfl (by rw [MS]; rfl)) ?_
    simp only [Act.put, List.setIfInBounds_toArray, List.set_cons_zero, List.set_cons_succ]
    refine seq_read (fun w' => w'.heap[w.heap.size]? = some (.cells (cellsOf ks).toArray 23 (0, 0))) (fun w' e => (P7.out w' e).1.1) _ (v := .agg (cellsOf ks).toArray) rfl rfl (by rfl) (fun w' hF => exec_load_row rfl rfl hF rfl rfl (by rw [KS]; rfl)) ?_
    simp only [Act.put, List.setIfInBounds_toArray, List.set_cons_zero, List.set_cons_succ]
    iterate 1 (first | (refine seq_read (fun _ => True) (fun _ _ => trivial) _ (v := ?_) rfl rfl (by rfl) ?_ ?_; rotate_left; (· intro w' hF; go_simp; (try with_reducible rfl)); simp only [Act.put, List.setIfInBounds_toArray, List.set_cons_zero, List.set_cons_succ]) | (refine seq_skip _ rfl rfl (by rfl) ?_; simp only [Act.put, List.setIfInBounds_toArray, List.set_cons_zero, List.set_cons_succ]))
    refine seq_do _ rfl rfl (by rfl) (fun K1 hK1 => ?_)
    go_simp
    refine (CHK.out _ (P7.out _ (Ext.refl _)).2.2.2).mono ?_
    rintro e w8 ⟨rfl, e8⟩
    refine hK1.out _ _ e8 ?_
    clear hK1 K1
    try simp only [Act.put, List.setIfInBounds_toArray, List.set_cons_zero, List.set_cons_succ]
    have E8 : Hid (Ext w w8) := (P7.out _ e8).2.2.2
    clear P7 e8
    repeat (first | (refine seq_read (fun _ => True) (fun _ _ => trivial) _ (v := ?_) rfl rfl (by rfl) ?_ ?_; rotate_left; (· intro w' hF; go_simp; (try with_reducible rfl)); simp only [Act.put, List.setIfInBounds_toArray, List.set_cons_zero, List.set_cons_succ]) | (refine seq_skip _ rfl rfl (by rfl) ?_; simp only [Act.put, List.setIfInBounds_toArray, List.set_cons_zero, List.set_cons_succ]))
    refine seq_done ?_
    go_wp2_with fail
    go_ret
    exact ⟨rfl, E8.out⟩

theorem commitMakes_calls {A : Option Addr} {n c : Nat} {l : List (List UInt8)} {ks cs : List UInt8} {w : World} (hk : ks.length = 32) (hc : cs.length = 32) (h : Rw w A n c l) {tg : TypeId × Nat × Nat} (hG : Gl w tg) :
    Calls Tryd.prog 4 #[.agg (cellsOf ks).toArray, .agg (cellsOf cs).toArray, .slice A n c] w fun e w' => e = .returned (.bool true) ∧ Ext w w' := by
  cases hq : lightB l
  · exact commitMakes_out h hq hG
  · exact commitMakes_main hk hc h hq hG
end Go.Proofs.YthdjojindijmnaaDoor
