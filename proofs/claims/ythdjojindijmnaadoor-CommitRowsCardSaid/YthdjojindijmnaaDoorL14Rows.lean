import Derived.Test.YthdjojindijmnaaDoorAwake14
import Derived.Test.YthdjojindijmnaaDoorJoinLt
import Derived.Test.YthdjojindijmnaaDoorPkB
/-
  CommitRows: what commits hangs on how texts are parted.
-/
namespace Go.Proofs.YthdjojindijmnaaDoor
open Go.ChangeShapes Go.WideShapes Go.ChangeAt Go.RowKit Go.Deep

set_option maxHeartbeats 1000000 in
theorem commitRows_out {A A' : Option Addr} {n c n' c' : Nat} {l l' : List (List UInt8)} {ks : List UInt8} {w : World} (h : Rw w A n c l) (h' : Rw w A' n' c' l') (hq : ¬ (lightB l = true ∧ lightB l' = true)) {tg : TypeId × Nat × Nat} (hG : Gl w tg) :
    Calls Tryd.prog 5 #[.agg (cellsOf ks).toArray, .slice A n c, .slice A' n' c'] w fun e w' => e = .returned (.bool true) ∧ Ext w w' := by
  have AW := Lib.hid (fun (W : World) (e : Ext w W) => awake14_calls (hG.kept e hG.lt))
  obtain ⟨b, hb⟩ : ∃ b, lightB l = b := ⟨_, rfl⟩
  obtain ⟨b', hb'⟩ : ∃ b', lightB l' = b' := ⟨_, rfl⟩
  have LI : Hid (∀ W, Ext w W → Calls Tryd.prog 14 #[.slice A n c] W fun e w' => e = .returned (.bool b) ∧ w' = W) := fun W e => by
    rw [← hb]; exact light_calls (h.ext e)
  have LJ : Hid (∀ W, Ext w W → Calls Tryd.prog 14 #[.slice A' n' c'] W fun e w' => e = .returned (.bool b') ∧ w' = W) := fun W e => by
    rw [← hb']; exact light_calls (h'.ext e)
  clear hG
  have T : Hid (b = false ∨ b' = false) := by
    rw [hb, hb'] at hq
    unfold Hid
    cases b <;> cases b' <;> simp_all
  clear hq hb hb'
  generalize (cellsOf ks).toArray = KS at *
  cases b
  · clear T
    go_enter Tryd.func5, Tryd.ntmps5
    go_wp2_with fail
    refine (AW.out _ ((Ext.refl w).alloc _)).mono ?_
    rintro e w1 ⟨rfl, e1⟩
    go_wp2_with fail
    refine (LI.out _ (((Ext.refl w).alloc _).trans e1)).mono ?_
    rintro e w2 ⟨rfl, rfl⟩
    go_wp2_with fail
    refine (LJ.out _ (((Ext.refl w).alloc _).trans e1)).mono ?_
    rintro e w2 ⟨rfl, rfl⟩
    go_wp2_with fail
    go_ret
    exact ⟨rfl, ((Ext.refl w).alloc _).trans e1⟩
  · obtain rfl : b' = false := by
      have := T.out
      simpa using this
    clear T
    go_enter Tryd.func5, Tryd.ntmps5
    go_wp2_with fail
    refine (AW.out _ ((Ext.refl w).alloc _)).mono ?_
    rintro e w1 ⟨rfl, e1⟩
    go_wp2_with fail
    refine (LI.out _ (((Ext.refl w).alloc _).trans e1)).mono ?_
    rintro e w2 ⟨rfl, rfl⟩
    go_wp2_with fail
    refine (LJ.out _ (((Ext.refl w).alloc _).trans e1)).mono ?_
    rintro e w2 ⟨rfl, rfl⟩
    go_wp2_with fail
    go_ret
    exact ⟨rfl, ((Ext.refl w).alloc _).trans e1⟩

set_option maxRecDepth 100000 in
set_option maxHeartbeats 4000000 in
theorem commitRows_main {A A' : Option Addr} {n c n' c' : Nat} {l l' : List (List UInt8)} {ks : List UInt8} {w : World} (hk : ks.length = 32) (h : Rw w A n c l) (h' : Rw w A' n' c' l') (hq : lightB l = true) (hq' : lightB l' = true) {tg : TypeId × Nat × Nat} (hG : Gl w tg) :
    Calls Tryd.prog 5 #[.agg (cellsOf ks).toArray, .slice A n c, .slice A' n' c'] w fun e w' => e = .returned (.bool true) ∧ Ext w w' := by
  have AW := Lib.hid (fun (W : World) (e : Ext w W) => awake14_calls (hG.kept e hG.lt))
  have LI : Hid (∀ W, Ext w W → Calls Tryd.prog 14 #[.slice A n c] W fun e w' => e = .returned (.bool true) ∧ w' = W) := fun W e => by
    rw [← hq]; exact light_calls (h.ext e)
  have LJ : Hid (∀ W, Ext w W → Calls Tryd.prog 14 #[.slice A' n' c'] W fun e w' => e = .returned (.bool true) ∧ w' = W) := fun W e => by
    rw [← hq']; exact light_calls (h'.ext e)
  have JS := join_light hq
  have JL : (joinL l).length ≤ 100000000 := Nat.le_trans JS (by omega)
  have JS' := join_light hq'
  have JL' : (joinL l').length ≤ 100000000 := Nat.le_trans JS' (by omega)
  have MX : Hid (∀ W, Ext w W → Calls Tryd.prog 15 #[.agg (cellsOf ks).toArray, .slice A n c] W fun e w' => e = .returned (.agg (cellsOf (macL ks (joinL l))).toArray) ∧ Ext W w') := fun W e => make_calls hk (h.ext e) JL (hG.kept e hG.lt)
  have MY : Hid (∀ W, Ext w W → Calls Tryd.prog 15 #[.agg (cellsOf ks).toArray, .slice A' n' c'] W fun e w' => e = .returned (.agg (cellsOf (macL ks (joinL l'))).toArray) ∧ Ext W w') := fun W e => make_calls hk (h'.ext e) JL' (hG.kept e hG.lt)
  have RX : Hid (∀ W, Ext w W → Calls Tryd.prog 17 #[.agg (cellsOf ks).toArray, .slice A n c] W fun e w' => e = .returned (.agg (cellsOf (macL ks (joinL l))).toArray) ∧ Ext W w') := fun W e => make14_calls hk (h.ext e) (by omega)
  have RY : Hid (∀ W, Ext w W → Calls Tryd.prog 17 #[.agg (cellsOf ks).toArray, .slice A' n' c'] W fun e w' => e = .returned (.agg (cellsOf (macL ks (joinL l'))).toArray) ∧ Ext W w') := fun W e => make14_calls hk (h'.ext e) (by omega)
  have CHC : Hid (∀ b, (!decide (macL ks (joinL l') = macL ks (joinL l))) = b → ∀ W, Ext w W → Calls Tryd.prog 16 #[.agg (cellsOf (macL ks (joinL l))).toArray, .agg (cellsOf ks).toArray, .slice A' n' c'] W fun e w' => e = .returned (.int .i64 (if b then 4 else 0)) ∧ Ext W w') := fun b hb W e => check14_calls (b := b) hk (macL_len _ _) hb (h'.ext e) JL' (hG.kept e hG.lt)
  have LX := macL_len ks (joinL l)
  have LY := macL_len ks (joinL l')
  clear hG h h' JL JL' hq hq' JS JS'
  generalize macL ks (joinL l) = xs at *
  generalize macL ks (joinL l') = ys at *
  have hal := key_alloc
  have hz0 := zeros32_size
  generalize zeros32 = Z at *
  have KS : (cellsOf ks).toArray.size = 32 := by simp [cellsOf_len, hk]
  have XS : (cellsOf xs).toArray.size = 32 := by simp [cellsOf_len, LX]
  have X1 := cellsOf_one xs
  have YS : (cellsOf ys).toArray.size = 32 := by simp [cellsOf_len, LY]
  have Y1 := cellsOf_one ys
  have P0 : Hid (∀ w', Ext (w.alloc (Obj.cells (cellsOf ks).toArray 23)) w' → Ky w' w.heap.size ks ∧ Ext w w') := fun w' e => ⟨(Ky.boxed w hk).ext e, ((Ext.refl w).alloc _).trans e⟩
  go_enter Tryd.func5, Tryd.ntmps5
  go_wp2_with fail
  refine (AW.out _ ((Ext.refl w).alloc _)).mono ?_
  rintro e w1 ⟨rfl, e1⟩
  have P1 : Hid (∀ s, Ext w1 s → Ky s w.heap.size ks ∧ Ext w s) := fun s e => P0.out s (e1.trans e)
  clear AW P0 e1
  go_wp2_with fail
  refine (LI.out _ (P1.out _ (Ext.refl _)).2).mono ?_
  rintro e w2 ⟨rfl, rfl⟩
  clear LI
  go_wp2_with fail
  refine (LJ.out _ (P1.out _ (Ext.refl _)).2).mono ?_
  rintro e w2 ⟨rfl, rfl⟩
  clear LJ
  have K1 := Lib.hid (P1.out _ (Ext.refl _)).1
  go_wp2_with (refine wpList_exec rfl (exec_load_row rfl rfl K1.out.1 rfl rfl (by rw [KS]; rfl)) ?_; simp only [Act.put, List.setIfInBounds_toArray, List.set_cons_zero, List.set_cons_succ])
  refine (MX.out _ (P1.out _ (Ext.refl _)).2).mono ?_
  rintro e w3 ⟨rfl, e3⟩
  have a3 : Hid ((w3.alloc (Obj.cells Z 23)).heap[w3.heap.size]? = some (.cells Z 23 (0, 0))) := heap_alloc_new _ _
  go_upto_region 7 with (refine wpList_store_row rfl 23 _ _ rfl w3.heap.size (cellsOf xs).toArray rfl rfl 23 Z a3.out (by rw [XS]; rfl) (by rw [XS]; exact hz0) X1 ?_; simp only [Act.put, List.setIfInBounds_toArray, List.set_cons_zero, List.set_cons_succ])
  obtain ⟨g, hg⟩ : ∃ g, g = w3.heap.size := ⟨_, rfl⟩
  have e4 : Ext w3 ((w3.alloc (Obj.cells Z 23)).setRow w3.heap.size (cellsOf xs).toArray) := below_setRow ((Ext.refl w3).alloc _) (Nat.le_refl _) _
  refine wp_gen (fun W => ∀ s, Ext W s → Ky s w.heap.size ks ∧ Ky s g xs ∧ Ext w s) (fun s e => by
    have p := P1.out s (e3.trans (e4.trans e))
    exact ⟨p.1, (show Ky _ g xs from ⟨by rw [hg]; exact setRow_heap _ _ _ _ _ _ a3.out, LX⟩).ext e, p.2⟩) ?_
  rw [← hg]
  clear hg a3 e4 e3 P1 K1 MX
  rintro w4 P4
  replace P4 := Lib.hid P4
  have K1 := Lib.hid (P4.out _ (Ext.refl _)).1
  go_wp2_with (refine wpList_exec rfl (exec_load_row rfl rfl K1.out.1 rfl rfl (by rw [KS]; rfl)) ?_; simp only [Act.put, List.setIfInBounds_toArray, List.set_cons_zero, List.set_cons_succ])
  refine (MY.out _ (P4.out _ (Ext.refl _)).2.2).mono ?_
  rintro e w3 ⟨rfl, e3⟩
  have a3 : Hid ((w3.alloc (Obj.cells Z 23)).heap[w3.heap.size]? = some (.cells Z 23 (0, 0))) := heap_alloc_new _ _
  go_upto_region 8 with (refine wpList_store_row rfl 23 _ _ rfl w3.heap.size (cellsOf ys).toArray rfl rfl 23 Z a3.out (by rw [YS]; rfl) (by rw [YS]; exact hz0) Y1 ?_; simp only [Act.put, List.setIfInBounds_toArray, List.set_cons_zero, List.set_cons_succ])
  obtain ⟨f, hf⟩ : ∃ f, f = w3.heap.size := ⟨_, rfl⟩
  have e4 : Ext w3 ((w3.alloc (Obj.cells Z 23)).setRow w3.heap.size (cellsOf ys).toArray) := below_setRow ((Ext.refl w3).alloc _) (Nat.le_refl _) _
  refine wp_gen (fun W => ∀ s, Ext W s → Ky s w.heap.size ks ∧ Ky s g xs ∧ Ky s f ys ∧ Ext w s) (fun s e => by
    have p := P4.out s (e3.trans (e4.trans e))
    exact ⟨p.1, p.2.1, (show Ky _ f ys from ⟨by rw [hf]; exact setRow_heap _ _ _ _ _ _ a3.out, LY⟩).ext e, p.2.2⟩) ?_
  rw [← hf]
  clear hf a3 e4 e3 P4 K1 MY
  rintro w5 P5
  replace P5 := Lib.hid P5
  go_wp2_with fail
  refine wp_region_seq (R := Ext) Ext.refl (fun _ _ _ => Ext.trans) [0, 1, 2, 3, 4, 5, 6, 7, 8, 9, 10, 11, 12, 13, 14, 15, 16, 17, 18, 21, 22, 23, 19, 20, 24, 25, 26] [5, 12, 19] [(0, 31, 256), (1, 32, 2147483648), (2, 33, 4294969344), (2, 34, 4294967312), (2, 35, 4294967300), (26, 36, 55834574848), (38, 37, 81604378624), (66, 38, 141733920768), (160, 39, 274877906944), (256, 40, 549755817984), (256, 41, 549755813904), (256, 42, 549755813896), (3328, 43, 7146825580544), (4864, 44, 10445360463872), (8448, 45, 18141941858304), (20480, 46, 35184372088832), (32768, 47, 70368744179712), (32768, 48, 70368744177680), (32768, 49, 70368744177672), (491520, 50, 1055531162664960), (557056, 51, 1196268651020288), (32768, 52, 70368744179712), (32768, 53, 70368744181760), (6324224, 54, 13581167626289152), (9469952, 55, 20336567067344896), (16809984, 56, 36099165763141632), (67108863, 7, 72057594037927936)] (by kernel_rfl) (by kernel_rfl) (by kernel_rfl) rfl (by kernel_rfl) (by kernel_rfl) (fun _ _ d _ _ h => by cases d <;> exact h) ?_
  iterate 2 (first | (refine seq_read (fun _ => True) (fun _ _ => trivial) _ (v := ?_) rfl rfl (by rfl) ?_ ?_; rotate_left; (· intro w' hF; go_simp; (try with_reducible rfl)); simp only [Act.put, List.setIfInBounds_toArray, List.set_cons_zero, List.set_cons_succ]) | (refine seq_skip _ rfl rfl (by rfl) ?_; simp only [Act.put, List.setIfInBounds_toArray, List.set_cons_zero, List.set_cons_succ]))
  refine seq_read (fun w' => w'.heap[g]? = some (.cells (cellsOf xs).toArray 23 (0, 0))) (fun w' e => (P5.out w' ((Ext.refl _).drew.trans e)).2.1.1) _ (v := .agg (cellsOf xs).toArray) rfl rfl (by rfl) (fun w' hF => exec_load_row rfl rfl hF rfl rfl (by rw [XS]; rfl)) ?_
  simp only [Act.put, List.setIfInBounds_toArray, List.set_cons_zero, List.set_cons_succ]
  refine seq_read (fun w' => w'.heap[w.heap.size]? = some (.cells (cellsOf ks).toArray 23 (0, 0))) (fun w' e => (P5.out w' ((Ext.refl _).drew.trans e)).1.1) _ (v := .agg (cellsOf ks).toArray) rfl rfl (by rfl) (fun w' hF => exec_load_row rfl rfl hF rfl rfl (by rw [KS]; rfl)) ?_
  simp only [Act.put, List.setIfInBounds_toArray, List.set_cons_zero, List.set_cons_succ]
  iterate 1 (first | (refine seq_read (fun _ => True) (fun _ _ => trivial) _ (v := ?_) rfl rfl (by rfl) ?_ ?_; rotate_left; (· intro w' hF; go_simp; (try with_reducible rfl)); simp only [Act.put, List.setIfInBounds_toArray, List.set_cons_zero, List.set_cons_succ]) | (refine seq_skip _ rfl rfl (by rfl) ?_; simp only [Act.put, List.setIfInBounds_toArray, List.set_cons_zero, List.set_cons_succ]))
  refine seq_do _ rfl rfl (by rfl) (fun K1 hK1 => ?_)
  go_simp
  refine (RX.out _ (P5.out _ (Ext.refl _).drew).2.2.2).mono ?_
  rintro e w6 ⟨rfl, e6⟩
  refine hK1.out _ _ e6 ?_
  clear hK1 K1
  try simp only [Act.put, List.setIfInBounds_toArray, List.set_cons_zero, List.set_cons_succ]
  have P6 : Hid (∀ s, Ext w6 s → Ky s w.heap.size ks ∧ Ky s g xs ∧ Ky s f ys ∧ Ext w s) := fun s e => P5.out s ((Ext.refl _).drew.trans (e6.trans e))
  clear P5 e6 RX
  refine seq_read (fun _ => True) (fun _ _ => trivial) _ (v := .bool true) rfl rfl (by rfl) (fun w' _ => exec_eql_keyB (xs := xs) (ys := xs) (decide_eq_true rfl) LX LX rfl rfl rfl) ?_
  simp only [Act.put, List.setIfInBounds_toArray, List.set_cons_zero, List.set_cons_succ]
  iterate 2 (first | (refine seq_read (fun _ => True) (fun _ _ => trivial) _ (v := ?_) rfl rfl (by rfl) ?_ ?_; rotate_left; (· intro w' hF; go_simp; (try with_reducible rfl)); simp only [Act.put, List.setIfInBounds_toArray, List.set_cons_zero, List.set_cons_succ]) | (refine seq_skip _ rfl rfl (by rfl) ?_; simp only [Act.put, List.setIfInBounds_toArray, List.set_cons_zero, List.set_cons_succ]))
  refine seq_read (fun w' => w'.heap[f]? = some (.cells (cellsOf ys).toArray 23 (0, 0))) (fun w' e => (P6.out w' e).2.2.1.1) _ (v := .agg (cellsOf ys).toArray) rfl rfl (by rfl) (fun w' hF => exec_load_row rfl rfl hF rfl rfl (by rw [YS]; rfl)) ?_
  simp only [Act.put, List.setIfInBounds_toArray, List.set_cons_zero, List.set_cons_succ]
  refine seq_read (fun w' => w'.heap[w.heap.size]? = some (.cells (cellsOf ks).toArray 23 (0, 0))) (fun w' e => (P6.out w' e).1.1) _ (v := .agg (cellsOf ks).toArray) rfl rfl (by rfl) (fun w' hF => exec_load_row rfl rfl hF rfl rfl (by rw [KS]; rfl)) ?_
  simp only [Act.put, List.setIfInBounds_toArray, List.set_cons_zero, List.set_cons_succ]
  iterate 1 (first | (refine seq_read (fun _ => True) (fun _ _ => trivial) _ (v := ?_) rfl rfl (by rfl) ?_ ?_; rotate_left; (· intro w' hF; go_simp; (try with_reducible rfl)); simp only [Act.put, List.setIfInBounds_toArray, List.set_cons_zero, List.set_cons_succ]) | (refine seq_skip _ rfl rfl (by rfl) ?_; simp only [Act.put, List.setIfInBounds_toArray, List.set_cons_zero, List.set_cons_succ]))
  refine seq_do _ rfl rfl (by rfl) (fun K1 hK1 => ?_)
  go_simp
  refine (RY.out _ (P6.out _ (Ext.refl _)).2.2.2).mono ?_
  rintro e w7 ⟨rfl, e7⟩
  refine hK1.out _ _ e7 ?_
  clear hK1 K1
  try simp only [Act.put, List.setIfInBounds_toArray, List.set_cons_zero, List.set_cons_succ]
  have P7 : Hid (∀ s, Ext w7 s → Ky s w.heap.size ks ∧ Ky s g xs ∧ Ky s f ys ∧ Ext w s) := fun s e => P6.out s (e7.trans e)
  clear P6 e7 RY
  refine seq_read (fun _ => True) (fun _ _ => trivial) _ (v := .bool true) rfl rfl (by rfl) (fun w' _ => exec_eql_keyB (xs := ys) (ys := ys) (decide_eq_true rfl) LY LY rfl rfl rfl) ?_
  simp only [Act.put, List.setIfInBounds_toArray, List.set_cons_zero, List.set_cons_succ]
  iterate 2 (first | (refine seq_read (fun _ => True) (fun _ _ => trivial) _ (v := ?_) rfl rfl (by rfl) ?_ ?_; rotate_left; (· intro w' hF; go_simp; (try with_reducible rfl)); simp only [Act.put, List.setIfInBounds_toArray, List.set_cons_zero, List.set_cons_succ]) | (refine seq_skip _ rfl rfl (by rfl) ?_; simp only [Act.put, List.setIfInBounds_toArray, List.set_cons_zero, List.set_cons_succ]))
  refine seq_read (fun w' => w'.heap[g]? = some (.cells (cellsOf xs).toArray 23 (0, 0))) (fun w' e => (P7.out w' e).2.1.1) _ (v := .agg (cellsOf xs).toArray) rfl rfl (by rfl) (fun w' hF => exec_load_row rfl rfl hF rfl rfl (by rw [XS]; rfl)) ?_
  simp only [Act.put, List.setIfInBounds_toArray, List.set_cons_zero, List.set_cons_succ]
  refine seq_read (fun w' => w'.heap[w.heap.size]? = some (.cells (cellsOf ks).toArray 23 (0, 0))) (fun w' e => (P7.out w' e).1.1) _ (v := .agg (cellsOf ks).toArray) rfl rfl (by rfl) (fun w' hF => exec_load_row rfl rfl hF rfl rfl (by rw [KS]; rfl)) ?_
  simp only [Act.put, List.setIfInBounds_toArray, List.set_cons_zero, List.set_cons_succ]
  iterate 1 (first | (refine seq_read (fun _ => True) (fun _ _ => trivial) _ (v := ?_) rfl rfl (by rfl) ?_ ?_; rotate_left; (· intro w' hF; go_simp; (try with_reducible rfl)); simp only [Act.put, List.setIfInBounds_toArray, List.set_cons_zero, List.set_cons_succ]) | (refine seq_skip _ rfl rfl (by rfl) ?_; simp only [Act.put, List.setIfInBounds_toArray, List.set_cons_zero, List.set_cons_succ]))
  refine seq_read (fun w' => w'.heap[g]? = some (.cells (cellsOf xs).toArray 23 (0, 0))) (fun w' e => (P7.out w' e).2.1.1) _ (v := .agg (cellsOf xs).toArray) rfl rfl (by rfl) (fun w' hF => exec_load_row rfl rfl hF rfl rfl (by rw [XS]; rfl)) ?_
  simp only [Act.put, List.setIfInBounds_toArray, List.set_cons_zero, List.set_cons_succ]
  refine seq_read (fun w' => w'.heap[f]? = some (.cells (cellsOf ys).toArray 23 (0, 0))) (fun w' e => (P7.out w' e).2.2.1.1) _ (v := .agg (cellsOf ys).toArray) rfl rfl (by rfl) (fun w' hF => exec_load_row rfl rfl hF rfl rfl (by rw [YS]; rfl)) ?_
  simp only [Act.put, List.setIfInBounds_toArray, List.set_cons_zero, List.set_cons_succ]
  by_cases hq : xs = ys
  · have hd : Hid (decide (xs = ys) = true) := by unfold Hid; simpa using hq
    have C1 := Lib.hid (CHC.out false (by cases hx : decide (ys = xs) <;> simp_all))
    clear CHC hq
    refine seq_read (fun _ => True) (fun _ _ => trivial) _ (v := .bool true) rfl rfl (by rfl) (fun w' _ => exec_eql_keyB (xs := xs) (ys := ys) hd.out LX LY rfl rfl rfl) ?_
    simp only [Act.put, List.setIfInBounds_toArray, List.set_cons_zero, List.set_cons_succ]
    refine seq_do _ rfl rfl (by rfl) (fun K1 hK1 => ?_)
    go_simp
    refine (C1.out _ (P7.out _ (Ext.refl _)).2.2.2).mono ?_
    rintro e w8 ⟨rfl, e8⟩
    refine hK1.out _ _ e8 ?_
    clear hK1 K1
    try simp only [Act.put, List.setIfInBounds_toArray, List.set_cons_zero, List.set_cons_succ]
    have E8 : Hid (Ext w w8) := (P7.out _ e8).2.2.2
    clear P7 e8
    repeat (first | (refine seq_read (fun _ => True) (fun _ _ => trivial) _ (v := ?_) rfl rfl (by rfl) ?_ ?_; rotate_left; (· intro w' hF; go_simp; (try with_reducible rfl)); simp only [Act.put, List.setIfInBounds_toArray, List.set_cons_zero, List.set_cons_succ]) | (refine seq_skip _ rfl rfl (by rfl) ?_; simp only [Act.put, List.setIfInBounds_toArray, List.set_cons_zero, List.set_cons_succ]))
    refine seq_done ?_
    go_wp2_with fail
    go_ret
    exact ⟨rfl, E8.out⟩
  · have hd : Hid (decide (xs = ys) = false) := by unfold Hid; simpa using hq
    have C1 := Lib.hid (CHC.out true (by cases hx : decide (ys = xs) <;> simp_all))
    clear CHC hq
    refine seq_read (fun _ => True) (fun _ _ => trivial) _ (v := .bool false) rfl rfl (by rfl) (fun w' _ => exec_eql_keyB (xs := xs) (ys := ys) hd.out LX LY rfl rfl rfl) ?_
    simp only [Act.put, List.setIfInBounds_toArray, List.set_cons_zero, List.set_cons_succ]
    refine seq_do _ rfl rfl (by rfl) (fun K1 hK1 => ?_)
    go_simp
    refine (C1.out _ (P7.out _ (Ext.refl _)).2.2.2).mono ?_
    rintro e w8 ⟨rfl, e8⟩
    refine hK1.out _ _ e8 ?_
    clear hK1 K1
    try simp only [Act.put, List.setIfInBounds_toArray, List.set_cons_zero, List.set_cons_succ]
    have E8 : Hid (Ext w w8) := (P7.out _ e8).2.2.2
    clear P7 e8
    repeat (first | (refine seq_read (fun _ => True) (fun _ _ => trivial) _ (v := ?_) rfl rfl (by rfl) ?_ ?_; rotate_left; (· intro w' hF; go_simp; (try with_reducible rfl)); simp only [Act.put, List.setIfInBounds_toArray, List.set_cons_zero, List.set_cons_succ]) | (refine seq_skip _ rfl rfl (by rfl) ?_; simp only [Act.put, List.setIfInBounds_toArray, List.set_cons_zero, List.set_cons_succ]))
    refine seq_done ?_
    go_wp2_with fail
    go_ret
    exact ⟨rfl, E8.out⟩

theorem commitRows_calls {A A' : Option Addr} {n c n' c' : Nat} {l l' : List (List UInt8)} {ks : List UInt8} {w : World} (hk : ks.length = 32) (h : Rw w A n c l) (h' : Rw w A' n' c' l') {tg : TypeId × Nat × Nat} (hG : Gl w tg) :
    Calls Tryd.prog 5 #[.agg (cellsOf ks).toArray, .slice A n c, .slice A' n' c'] w fun e w' => e = .returned (.bool true) ∧ Ext w w' := by
  by_cases hq : lightB l = true ∧ lightB l' = true
  · exact commitRows_main hk h h' hq.1 hq.2 hG
  · exact commitRows_out h h' hq hG
end Go.Proofs.YthdjojindijmnaaDoor
