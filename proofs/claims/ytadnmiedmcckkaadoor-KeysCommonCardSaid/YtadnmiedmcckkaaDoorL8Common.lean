import Derived.Test.YtadnmiedmcckkaaDoorPkB
/-
  KeysCommon: two have the same in common, either way.
-/
namespace Go.Proofs.YtadnmiedmcckkaaDoor
open Go.ChangeShapes Go.WideShapes Go.ChangeAt Go.RowKit Go.Deep
set_option maxRecDepth 100000

set_option maxHeartbeats 1000000 in
theorem keysCommon_out1 {w : World} {A B : Option Addr} {n c m d : Nat} {xs ys : List UInt8} (h : Bs w A n c xs) (h' : Bs w B m d ys) {tg tp : TypeId × Nat × Nat} (hG : Gl w tg) (hP : Gp w tp) (hn : 300 < n) :
    Calls Tryd.prog 10 #[.slice A n c, .slice B m d] w fun e w' => e = .returned (.bool true) ∧ Ext w w' := by
  have AW := Lib.hid (fun (W : World) (e : Ext w W) => awake8_calls (hG.ext e) (hP.ext e))
  have t1 : decide ((300 : Int) < (n : Int)) = true := decide_eq_true (by omega)
  clear h h' hG hP
  go_enter Tryd.func10, Tryd.ntmps10
  go_wp2_with fail
  refine (AW.out _ (Ext.refl _)).mono ?_
  rintro e w1 ⟨rfl, e1⟩
  go_wp2_with fail
  go_ret
  exact ⟨rfl, e1⟩
set_option maxHeartbeats 1000000 in
theorem keysCommon_out2 {w : World} {A B : Option Addr} {n c m d : Nat} {xs ys : List UInt8} (h : Bs w A n c xs) (h' : Bs w B m d ys) {tg tp : TypeId × Nat × Nat} (hG : Gl w tg) (hP : Gp w tp) (hn : n ≤ 300) (hm : 300 < m) :
    Calls Tryd.prog 10 #[.slice A n c, .slice B m d] w fun e w' => e = .returned (.bool true) ∧ Ext w w' := by
  have AW := Lib.hid (fun (W : World) (e : Ext w W) => awake8_calls (hG.ext e) (hP.ext e))
  have t1 : decide ((300 : Int) < (n : Int)) = false := decide_eq_false (by omega)
  have t2 : decide ((300 : Int) < (m : Int)) = true := decide_eq_true (by omega)
  clear h h' hG hP
  go_enter Tryd.func10, Tryd.ntmps10
  go_wp2_with fail
  refine (AW.out _ (Ext.refl _)).mono ?_
  rintro e w1 ⟨rfl, e1⟩
  go_wp2_with fail
  go_ret
  exact ⟨rfl, e1⟩
theorem com_both {a b : List UInt8} : comL a (kL (multN b 9)) = comL b (kL (multN a 9)) := by
  unfold comL
  rw [ofV_kL (multN_lt _ _), ofV_kL (multN_lt _ _), mult_comm b a (show 9 < P25 by decide +kernel)]
set_option maxHeartbeats 8000000 in
theorem keysCommon_main {w : World} {A B : Option Addr} {n c m d : Nat} {xs ys : List UInt8} (h : Bs w A n c xs) (h' : Bs w B m d ys) {tg tp : TypeId × Nat × Nat} (hG : Gl w tg) (hP : Gp w tp) (hn : n ≤ 300) (hm : m ≤ 300) :
    Calls Tryd.prog 10 #[.slice A n c, .slice B m d] w fun e w' => e = .returned (.bool true) ∧ Ext w w' := by
  have AW := Lib.hid (fun (W : World) (e : Ext w W) => awake8_calls (hG.ext e) (hP.ext e))
  have t1 : decide ((300 : Int) < (n : Int)) = false := decide_eq_false (by omega)
  have t2 : decide ((300 : Int) < (m : Int)) = false := decide_eq_false (by omega)
  have PX : Hid (∀ W, Ext w W → Calls Tryd.prog 23 #[.slice A n c] W fun e w' => e = .returned (.agg (cellsOf (macL [] xs ++ kL (multN (macL [] xs) 9))).toArray) ∧ Ext W w') := fun W e => kpair_calls (h.ext e) (hG.ext e) (hP.ext e)
  have PY : Hid (∀ W, Ext w W → Calls Tryd.prog 23 #[.slice B m d] W fun e w' => e = .returned (.agg (cellsOf (macL [] ys ++ kL (multN (macL [] ys) 9))).toArray) ∧ Ext W w') := fun W e => kpair_calls (h'.ext e) (hG.ext e) (hP.ext e)
  have CX : Hid (∀ W, Ext w W → Calls Tryd.prog 21 #[.agg (cellsOf (macL [] xs ++ kL (multN (macL [] xs) 9))).toArray, .agg (cellsOf (kL (multN (macL [] ys) 9))).toArray] W fun e w' => e = .returned (.tuple #[.agg (cellsOf (comL (macL [] xs) (kL (multN (macL [] ys) 9)))).toArray, .int .i64 (comE (comL (macL [] xs) (kL (multN (macL [] ys) 9))))]) ∧ Ext W w') := fun W e => common_calls (macL_len _ _) (kL_len _) (kL_len _) (hP.ext e)
  have CY : Hid (∀ W, Ext w W → Calls Tryd.prog 21 #[.agg (cellsOf (macL [] ys ++ kL (multN (macL [] ys) 9))).toArray, .agg (cellsOf (kL (multN (macL [] xs) 9))).toArray] W fun e w' => e = .returned (.tuple #[.agg (cellsOf (comL (macL [] xs) (kL (multN (macL [] ys) 9)))).toArray, .int .i64 (comE (comL (macL [] xs) (kL (multN (macL [] ys) 9))))]) ∧ Ext W w') := fun W e => by
    rw [com_both (a := macL [] xs)]
    exact common_calls (macL_len _ _) (kL_len _) (kL_len _) (hP.ext e)
  clear hG hP
  have L_kk := comL_len (macL [] xs) (kL (multN (macL [] ys) 9))
  have L_px := kL_len (multN (macL [] xs) 9)
  have L_py := kL_len (multN (macL [] ys) 9)
  have L_sx := macL_len [] xs
  have L_sy := macL_len [] ys
  generalize comL (macL [] xs) (kL (multN (macL [] ys) 9)) = kk at *
  generalize kL (multN (macL [] xs) 9) = px at *
  generalize kL (multN (macL [] ys) 9) = py at *
  generalize macL [] xs = sx at *
  generalize macL [] ys = sy at *
  generalize comE kk = ce at *
  have L_xx : (sx ++ px).length = 64 := by rw [List.length_append, L_sx, L_px]
  have L_yy : (sy ++ py).length = 64 := by rw [List.length_append, L_sy, L_py]
  have C_px : (cellsOf px).length = 32 := by rw [cellsOf_len, L_px]
  have C_py : (cellsOf py).length = 32 := by rw [cellsOf_len, L_py]
  have hXX : Hid (∀ (W : World) g, Kp W g (sx ++ px) → ∀ j v, (cellsOf px)[j]? = some v → W.cell? ⟨g, 32 + j, none⟩ = some v) := fun W g h => h.at32 L_sx
  have hYY : Hid (∀ (W : World) g, Kp W g (sy ++ py) → ∀ j v, (cellsOf py)[j]? = some v → W.cell? ⟨g, 32 + j, none⟩ = some v) := fun W g h => h.at32 L_sy
  generalize sx ++ px = xx at *
  generalize sy ++ py = yy at *
  have hal : ∀ w, (zeroValue 23).run Tryd.prog w = .ok (.agg (cellsOf (List.replicate 32 0)).toArray) w := fun w => by rw [zeros32_cells]; exact key_alloc w
  have hal2 := apair_alloc
  have L_zk : (List.replicate 32 (0 : UInt8)).length = 32 := rfl
  have L_zp : (List.replicate 64 (0 : UInt8)).length = 64 := by simp
  generalize List.replicate 32 (0 : UInt8) = zk at *
  generalize List.replicate 64 (0 : UInt8) = zp at *
  have S_zk : (cellsOf zk).toArray.size = 32 := by simp [cellsOf_len, L_zk]
  have S_zp : (cellsOf zp).toArray.size = 64 := by simp [cellsOf_len, L_zp]
  have S_kk : (cellsOf kk).toArray.size = 32 := by simp [cellsOf_len, L_kk]
  have O_kk := cellsOf_one kk
  have S_xx : (cellsOf xx).toArray.size = 64 := by simp [cellsOf_len, L_xx]
  have O_xx := cellsOf_one xx
  have S_yy : (cellsOf yy).toArray.size = 64 := by simp [cellsOf_len, L_yy]
  have O_yy := cellsOf_one yy
  go_enter Tryd.func10, Tryd.ntmps10
  go_wp2_with fail
  refine (AW.out _ (Ext.refl _)).mono ?_
  rintro e w1 ⟨rfl, x1⟩
  clear AW h h'
  replace x1 := Lib.hid x1
  go_wp2_with fail
  refine (PX.out _ x1.out).mono ?_
  rintro e u_ ⟨rfl, e1⟩
  have a1 : Hid ((u_.alloc (Obj.cells (cellsOf zp).toArray 37)).heap[u_.heap.size]? = some (.cells (cellsOf zp).toArray 37 (0, 0))) := heap_alloc_new _ _
  have E_ : Ext w1 ((u_.alloc (Obj.cells (cellsOf zp).toArray 37)).setRow u_.heap.size (cellsOf xx).toArray) := e1.trans (below_setRow ((Ext.refl u_).alloc _) (Nat.le_refl _) _)
  go_upto_region 5 with (refine wpList_store_row rfl 37 _ _ rfl u_.heap.size (cellsOf xx).toArray rfl rfl 37 _ a1.out (by rw [S_xx]; rfl) (by rw [S_xx, S_zp]) O_xx ?_; simp only [Act.put])
  obtain ⟨gx, hg_⟩ : ∃ g, g = u_.heap.size := ⟨_, rfl⟩
  refine wp_gen (fun W => Kp W gx xx ∧ Ext w W) ⟨⟨by rw [hg_]; exact setRow_heap _ _ _ _ _ _ a1.out, L_xx⟩, x1.out.trans E_⟩ ?_
  rw [← hg_]
  clear hg_ a1 E_ e1 x1 PX 
  rintro w2 ⟨k_gx, x2⟩
  replace x2 := Lib.hid x2
  replace k_gx := Lib.hid k_gx
  go_wp2_with fail
  refine (PY.out _ x2.out).mono ?_
  rintro e u_ ⟨rfl, e1⟩
  have a1 : Hid ((u_.alloc (Obj.cells (cellsOf zp).toArray 37)).heap[u_.heap.size]? = some (.cells (cellsOf zp).toArray 37 (0, 0))) := heap_alloc_new _ _
  have E_ : Ext w2 ((u_.alloc (Obj.cells (cellsOf zp).toArray 37)).setRow u_.heap.size (cellsOf yy).toArray) := e1.trans (below_setRow ((Ext.refl u_).alloc _) (Nat.le_refl _) _)
  go_upto_region 6 with (refine wpList_store_row rfl 37 _ _ rfl u_.heap.size (cellsOf yy).toArray rfl rfl 37 _ a1.out (by rw [S_yy]; rfl) (by rw [S_yy, S_zp]) O_yy ?_; simp only [Act.put])
  obtain ⟨gy, hg_⟩ : ∃ g, g = u_.heap.size := ⟨_, rfl⟩
  refine wp_gen (fun W => Kp W gy yy ∧ Kp W gx xx ∧ Ext w W) ⟨⟨by rw [hg_]; exact setRow_heap _ _ _ _ _ _ a1.out, L_yy⟩, k_gx.out.ext E_, x2.out.trans E_⟩ ?_
  rw [← hg_]
  clear hg_ a1 E_ e1 x2 PY k_gx
  rintro w3 ⟨k_gy, k_gx, x3⟩
  replace x3 := Lib.hid x3
  replace k_gy := Lib.hid k_gy
  replace k_gx := Lib.hid k_gx
  have q_ := Lib.hid (hYY.out _ _ k_gy.out)
  go_wp2_with (first
    | (refine wpList_load_row rfl 37 _ rfl gx rfl 37 (cellsOf xx).toArray (0, 0) _ k_gx.out.1 rfl rfl (by rw [S_xx]; rfl) ?_; simp only [Act.put, List.setIfInBounds_toArray, List.set_cons_zero, List.set_cons_succ])
    | (refine wpList_load_mid rfl (g := gy) (off := 32) (ys := cellsOf py) rfl rfl q_.out rfl rfl (by rw [C_py]; rfl) ?_; simp only [Act.put, List.setIfInBounds_toArray, List.set_cons_zero, List.set_cons_succ]))
  refine (CX.out _ x3.out).mono ?_
  rintro e u_ ⟨rfl, e1⟩
  have a1 : Hid ((u_.alloc (Obj.cells (cellsOf zk).toArray 23)).heap[u_.heap.size]? = some (.cells (cellsOf zk).toArray 23 (0, 0))) := heap_alloc_new _ _
  have E_ : Ext w3 ((u_.alloc (Obj.cells (cellsOf zk).toArray 23)).setRow u_.heap.size (cellsOf kk).toArray) := e1.trans (below_setRow ((Ext.refl u_).alloc _) (Nat.le_refl _) _)
  go_upto_region 7 with (refine wpList_store_row rfl 23 _ _ rfl u_.heap.size (cellsOf kk).toArray rfl rfl 23 _ a1.out (by rw [S_kk]; rfl) (by rw [S_kk, S_zk]) O_kk ?_; simp only [Act.put])
  obtain ⟨ga, hg_⟩ : ∃ g, g = u_.heap.size := ⟨_, rfl⟩
  refine wp_gen (fun W => Ky W ga kk ∧ Kp W gx xx ∧ Kp W gy yy ∧ Ext w W) ⟨⟨by rw [hg_]; exact setRow_heap _ _ _ _ _ _ a1.out, L_kk⟩, k_gx.out.ext E_, k_gy.out.ext E_, x3.out.trans E_⟩ ?_
  rw [← hg_]
  clear hg_ a1 E_ e1 x3 CX q_ k_gx k_gy
  rintro w4 ⟨k_ga, k_gx, k_gy, x4⟩
  replace x4 := Lib.hid x4
  replace k_ga := Lib.hid k_ga
  replace k_gx := Lib.hid k_gx
  replace k_gy := Lib.hid k_gy
  have q_ := Lib.hid (hXX.out _ _ k_gx.out)
  go_wp2_with (first
    | (refine wpList_load_row rfl 37 _ rfl gy rfl 37 (cellsOf yy).toArray (0, 0) _ k_gy.out.1 rfl rfl (by rw [S_yy]; rfl) ?_; simp only [Act.put, List.setIfInBounds_toArray, List.set_cons_zero, List.set_cons_succ])
    | (refine wpList_load_mid rfl (g := gx) (off := 32) (ys := cellsOf px) rfl rfl q_.out rfl rfl (by rw [C_px]; rfl) ?_; simp only [Act.put, List.setIfInBounds_toArray, List.set_cons_zero, List.set_cons_succ]))
  refine (CY.out _ x4.out).mono ?_
  rintro e u_ ⟨rfl, e1⟩
  have a1 : Hid ((u_.alloc (Obj.cells (cellsOf zk).toArray 23)).heap[u_.heap.size]? = some (.cells (cellsOf zk).toArray 23 (0, 0))) := heap_alloc_new _ _
  have E_ : Ext w4 ((u_.alloc (Obj.cells (cellsOf zk).toArray 23)).setRow u_.heap.size (cellsOf kk).toArray) := e1.trans (below_setRow ((Ext.refl u_).alloc _) (Nat.le_refl _) _)
  go_upto_region 8 with (refine wpList_store_row rfl 23 _ _ rfl u_.heap.size (cellsOf kk).toArray rfl rfl 23 _ a1.out (by rw [S_kk]; rfl) (by rw [S_kk, S_zk]) O_kk ?_; simp only [Act.put])
  obtain ⟨gb, hg_⟩ : ∃ g, g = u_.heap.size := ⟨_, rfl⟩
  refine wp_gen (fun W => Ky W gb kk ∧ Kp W gx xx ∧ Kp W gy yy ∧ Ky W ga kk ∧ Ext w W) ⟨⟨by rw [hg_]; exact setRow_heap _ _ _ _ _ _ a1.out, L_kk⟩, k_gx.out.ext E_, k_gy.out.ext E_, k_ga.out.ext E_, x4.out.trans E_⟩ ?_
  rw [← hg_]
  clear hg_ a1 E_ e1 x4 CY q_ k_gx k_gy k_ga
  rintro w5 ⟨k_gb, k_gx, k_gy, k_ga, x5⟩
  replace x5 := Lib.hid x5
  replace k_gb := Lib.hid k_gb
  replace k_gx := Lib.hid k_gx
  replace k_gy := Lib.hid k_gy
  replace k_ga := Lib.hid k_ga
  have heq : Hid (decide (kk = kk) = true) := decide_eq_true rfl
  go_wp2_with (first
    | (refine wpList_load_rowW rfl 23 _ rfl ga rfl 23 (cellsOf kk).toArray (0, 0) _ k_ga.out.1 rfl rfl (by rw [S_kk]; rfl) ?_; simp only [Act.put, List.setIfInBounds_toArray, List.set_cons_zero, List.set_cons_succ])
    | (refine wpList_load_rowW rfl 23 _ rfl gb rfl 23 (cellsOf kk).toArray (0, 0) _ k_gb.out.1 rfl rfl (by rw [S_kk]; rfl) ?_; simp only [Act.put, List.setIfInBounds_toArray, List.set_cons_zero, List.set_cons_succ])
    | (refine wpList_eql_keyB rfl _ _ _ rfl kk kk true heq.out rfl rfl L_kk L_kk ?_; simp only [Act.put, List.setIfInBounds_toArray, List.set_cons_zero, List.set_cons_succ]))
  go_ret
  exact ⟨rfl, x5.out⟩
theorem keysCommon_calls {w : World} {A B : Option Addr} {n c m d : Nat} {xs ys : List UInt8} (h : Bs w A n c xs) (h' : Bs w B m d ys) {tg tp : TypeId × Nat × Nat} (hG : Gl w tg) (hP : Gp w tp) :
    Calls Tryd.prog 10 #[.slice A n c, .slice B m d] w fun e w' => e = .returned (.bool true) ∧ Ext w w' := by
  by_cases hn : 300 < n
  · exact keysCommon_out1 h h' hG hP hn
  · by_cases hm : 300 < m
    · exact keysCommon_out2 h h' hG hP (by omega) hm
    · exact keysCommon_main h h' hG hP (by omega) (by omega)
end Go.Proofs.YtadnmiedmcckkaaDoor
