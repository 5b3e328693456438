/-
  BlakeKeys: tags by keys of any length, and with a nought more, are the document's.
-/
import Derived.Test.YtdiigbknfjceoaaDoorAwake2
import Derived.Test.YtdiigbknfjceoaaDoorRefMac
import Derived.Test.YtdiigbknfjceoaaDoorAppStr
namespace Go.Proofs.YtdiigbknfjceoaaDoor
open Go.ChangeShapes Go.WideShapes Go.ChangeAt Go.RowKit Go.Deep

set_option maxRecDepth 100000 in
set_option maxHeartbeats 1000000 in
theorem blakeKeys_out {A : Option Addr} {m d : Nat} {n : Int} {ks bs : List UInt8} {w : World} (h : Bs w A m d bs) (hq : 500 < m ∨ n < 0 ∨ 31 < n) {tg : TypeId × Nat × Nat} (hG : Gl w tg) :
    Calls Tryd.prog 4 #[.agg (cellsOf ks).toArray, .int .i64 n, .slice A m d] w fun e w' => e = .returned (.bool true) ∧ Ext w w' := by
  have h3 := h.le
  have h4 := h.cap
  have AW := Lib.hid (fun (W : World) (e : Ext w W) => awake_calls (hG.kept e hG.lt))
  clear hG h
  by_cases q1 : 500 < m
  · have q1' : decide ((500 : Int) < (m : Int)) = true := decide_eq_true (by omega)
    clear hq
    go_enter Tryd.func4, Tryd.ntmps4
    go_wp2_with fail
    refine (AW.out _ ((Ext.refl w).alloc _)).mono ?_
    rintro e w1 ⟨rfl, e1⟩
    go_wp2_with fail
    go_ret
    exact ⟨rfl, ((Ext.refl w).alloc _).trans e1⟩
  · have q1' : decide ((500 : Int) < (m : Int)) = false := decide_eq_false (by omega)
    by_cases q2 : n < 0
    · have q2' : decide (n < 0) = true := decide_eq_true q2
      clear hq
      go_enter Tryd.func4, Tryd.ntmps4
      go_wp2_with fail
      refine (AW.out _ ((Ext.refl w).alloc _)).mono ?_
      rintro e w1 ⟨rfl, e1⟩
      go_wp2_with fail
      go_ret
      exact ⟨rfl, ((Ext.refl w).alloc _).trans e1⟩
    · have q2' : decide (n < 0) = false := decide_eq_false q2
      have q3' : decide (31 < n) = true := decide_eq_true (by omega)
      clear hq
      go_enter Tryd.func4, Tryd.ntmps4
      go_wp2_with fail
      refine (AW.out _ ((Ext.refl w).alloc _)).mono ?_
      rintro e w1 ⟨rfl, e1⟩
      go_wp2_with fail
      go_ret
      exact ⟨rfl, ((Ext.refl w).alloc _).trans e1⟩

/-- k[:n] of a key. -/
theorem key_to {n g : Nat} (hn : n ≤ 32) (w : World) : (Instr.sliceAt 25 (.pointer (some ⟨g, 0, none⟩)) none (some (.int .i64 (n : Int))) none).run Tryd.prog w = .ok (.slice (some ⟨g, 0, none⟩) n 32) w := by
  have ha : Tryd.prog.arrayLen 25 = 32 := rfl
  rw [run_sliceAt_array_h w 25 _ rfl .i64 _ (by omega) (by rw [ha]; omega)]
  have hs : (sizeOf (Tryd.prog.elem 25)).run Tryd.prog w = .ok 1 w := rfl
  rw [hs]
  show Result.ok (slicedAt _ _ _ _ _) w = _
  rw [ha]
  unfold slicedAt
  simp
  unfold Addr.add
  split <;> simp_all

set_option maxRecDepth 100000 in
set_option maxHeartbeats 3000000 in
theorem blakeKeys_main {A : Option Addr} {m d n : Nat} {ks bs : List UInt8} {w : World} (hk : ks.length = 32) (h : Bs w A m d bs) (hm : m ≤ 500) (hn : n ≤ 31) {tg : TypeId × Nat × Nat} (hG : Gl w tg) :
    Calls Tryd.prog 4 #[.agg (cellsOf ks).toArray, .int .i64 (n : Int), .slice A m d] w fun e w' => e = .returned (.bool true) ∧ Ext w w' := by
  have h3 := h.le
  have h4 := h.cap
  have AW := Lib.hid (fun (W : World) (e : Ext w W) => awake_calls (hG.kept e hG.lt))
  have q1' : decide ((500 : Int) < (m : Int)) = false := decide_eq_false (by omega)
  have q2' : decide ((n : Int) < 0) = false := decide_eq_false (by omega)
  have q3' : decide ((31 : Int) < (n : Int)) = false := decide_eq_false (by omega)
  have hsl := key_to (n := n) (g := w.heap.size) (by omega)
  have ky0 : Hid (Ky (w.alloc (Obj.cells (cellsOf ks).toArray 25)) w.heap.size ks) := Ky.boxed w hk
  have MAC : Hid (∀ W, Ext w W → Ky W w.heap.size ks → Calls Tryd.prog 16 #[.slice (some ⟨w.heap.size, 0, none⟩) n 32, .slice A m d] W fun e w' => e = .returned (.tuple #[.agg (cellsOf (macL (ks.take n) bs)).toArray, .int .i64 0]) ∧ Ext W w') := fun W e k => mac_calls (k.bs.take (by omega)) (h.ext e) (by omega) (hG.kept e hG.lt)
  have RMAC : Hid (∀ W, Ext w W → Ky W w.heap.size ks → Calls Tryd.prog 17 #[.slice (some ⟨w.heap.size, 0, none⟩) n 32, .slice A m d] W fun e w' => e = .returned (.tuple #[.agg (cellsOf (macL (ks.take n) bs)).toArray, .int .i64 0]) ∧ Ext W w') := fun W e k => refMac_calls (k.bs.take (by omega)) (h.ext e) (by omega) (by omega)
  have MAC2 : Hid (∀ W A2 c2, Ext w W → Bs W A2 (n + 1) c2 (ks.take n ++ [0]) → Calls Tryd.prog 16 #[.slice A2 (n + 1) c2, .slice A m d] W fun e w' => e = .returned (.tuple #[.agg (cellsOf (macL (ks.take n ++ [0]) bs)).toArray, .int .i64 0]) ∧ Ext W w') := fun W A2 c2 e k => mac_calls k (h.ext e) (by omega) (hG.kept e hG.lt)
  have RMAC2 : Hid (∀ W A2 c2, Ext w W → Bs W A2 (n + 1) c2 (ks.take n ++ [0]) → Calls Tryd.prog 17 #[.slice A2 (n + 1) c2, .slice A m d] W fun e w' => e = .returned (.tuple #[.agg (cellsOf (macL (ks.take n ++ [0]) bs)).toArray, .int .i64 0]) ∧ Ext W w') := fun W A2 c2 e k => refMac_calls k (h.ext e) (by omega) (by omega)
  have TK := Lib.hid (fun (W : World) (k : Ky W w.heap.size ks) => k.bs.take (k := n) (by omega))
  have M1 := macL_len (ks.take n) bs
  have M2 := macL_len (ks.take n ++ [0]) bs
  generalize macL (ks.take n) bs = ms at *
  generalize macL (ks.take n ++ [0]) bs = ns at *
  generalize ks.take n = ts at *
  clear hG h
  have hal := key_alloc
  have hz0 := zeros32_size
  generalize zeros32 = Z at *
  have HM : (cellsOf ms).toArray.size = 32 := by simp [cellsOf_len, M1]
  have HM1 := cellsOf_one ms
  have HN : (cellsOf ns).toArray.size = 32 := by simp [cellsOf_len, M2]
  have HN1 := cellsOf_one ns
  go_enter Tryd.func4, Tryd.ntmps4
  go_wp2_with fail
  refine (AW.out _ ((Ext.refl w).alloc _)).mono ?_
  rintro e w1 ⟨rfl, e1⟩
  have E1 : Hid (Ext w w1) := ((Ext.refl w).alloc _).trans e1
  have y1 := Lib.hid (ky0.out.ext e1)
  clear AW ky0 e1
  go_wp2_with fail
  refine (MAC.out _ E1.out y1.out).mono ?_
  rintro e w2 ⟨rfl, e2⟩
  clear MAC
  go_upto_region 5 with (refine wpList_store_row rfl 25 _ _ rfl w2.heap.size (cellsOf ms).toArray rfl rfl 25 _ (by with_reducible exact heap_alloc_new _ _) (by rw [HM]; rfl) (by rw [HM]; exact hz0) HM1 ?_; simp only [Act.put, List.setIfInBounds_toArray, List.set_cons_zero, List.set_cons_succ])
  obtain ⟨g3, hg3⟩ : ∃ g, g = w2.heap.size := ⟨_, rfl⟩
  refine wp_gen (fun W => Ext w W ∧ Ky W w.heap.size ks ∧ Ky W g3 ms) ⟨(E1.out.trans e2).trans (Ext.newRow _ _ _), y1.out.ext (e2.trans (Ext.newRow _ _ _)), by rw [hg3]; exact Ky.new _ M1⟩ ?_
  rw [← hg3]
  clear hg3 E1 e2 y1
  rintro w3 ⟨e3, y3, k3⟩
  replace e3 := Lib.hid e3
  replace y3 := Lib.hid y3
  replace k3 := Lib.hid k3
  go_wp2_with fail
  refine (RMAC.out _ e3.out y3.out).mono ?_
  rintro e w4 ⟨rfl, e4⟩
  clear RMAC
  go_upto_region 6 with (refine wpList_store_row rfl 25 _ _ rfl w4.heap.size (cellsOf ms).toArray rfl rfl 25 _ (by with_reducible exact heap_alloc_new _ _) (by rw [HM]; rfl) (by rw [HM]; exact hz0) HM1 ?_; simp only [Act.put, List.setIfInBounds_toArray, List.set_cons_zero, List.set_cons_succ])
  obtain ⟨g5, hg5⟩ : ∃ g, g = w4.heap.size := ⟨_, rfl⟩
  have e4' := e4.trans (Ext.newRow w4 (Obj.cells Z 25) (cellsOf ms).toArray)
  refine wp_gen (fun W => Ext w W ∧ Ky W w.heap.size ks ∧ Ky W g3 ms ∧ Ky W g5 ms) ⟨e3.out.trans e4', y3.out.ext e4', k3.out.ext e4', by rw [hg5]; exact Ky.new _ M1⟩ ?_
  rw [← hg5]
  clear hg5 e3 e4 k3 y3 e4'
  rintro w5 ⟨e5, y5, k3, k5⟩
  replace e5 := Lib.hid e5
  have t5 := Lib.hid (TK.out _ y5)
  replace y5 := Lib.hid y5
  replace k3 := Lib.hid k3
  replace k5 := Lib.hid k5
  go_wp2_with (first
    | (at_builtin; (with_reducible refine wpList_append_bs rfl (B := w5.heap.size) (s := .tmp 44) (x := .tmp 46) rfl rfl rfl (Own.empty w5 _ (Nat.le_refl _)) (t5.out.ext ((Ext.refl _).alloc _)) (by omega) (by simp) ?_); intro A6 c6 w6 o6 g6 b6; simp only [Nat.zero_add, List.nil_append] at o6 ⊢; replace o6 := Lib.hid o6; have e6 : Hid (Ext w5 w6) := Below.trans ((Ext.refl w5).alloc _) b6; clear g6 b6; simp only [Act.put, List.setIfInBounds_toArray, List.set_cons_zero, List.set_cons_succ])
    | (at_builtin; (with_reducible refine wpList_append_bs rfl (B := w5.heap.size) (s := .tmp 47) (x := .tmp 48) rfl rfl rfl (o6.out.ext ((Ext.refl _).alloc _)) (Bs.one _ _ _ 0) (by omega) (Nat.le_trans e6.out.size (by simp)) ?_); intro A7 c7 w7 o7 g7 b7; replace o7 := Lib.hid o7.bs; have e7 : Hid (Ext w5 w7) := Below.trans (e6.out.alloc _) b7; clear g7 b7; simp only [Act.put, List.setIfInBounds_toArray, List.set_cons_zero, List.set_cons_succ]))
  refine (MAC2.out _ _ _ (e5.out.trans e7.out) o7.out).mono ?_
  rintro e w8 ⟨rfl, e8⟩
  clear MAC2
  go_upto_region 7 with (refine wpList_store_row rfl 25 _ _ rfl w8.heap.size (cellsOf ns).toArray rfl rfl 25 _ (by with_reducible exact heap_alloc_new _ _) (by rw [HN]; rfl) (by rw [HN]; exact hz0) HN1 ?_; simp only [Act.put, List.setIfInBounds_toArray, List.set_cons_zero, List.set_cons_succ])
  obtain ⟨g9, hg9⟩ : ∃ g, g = w8.heap.size := ⟨_, rfl⟩
  have e9 := e7.out.trans (e8.trans (Ext.newRow w8 (Obj.cells Z 25) (cellsOf ns).toArray))
  refine wp_gen (fun W => Ext w W ∧ Ky W w.heap.size ks ∧ Ky W g3 ms ∧ Ky W g5 ms ∧ Ky W g9 ns) ⟨e5.out.trans e9, y5.out.ext e9, k3.out.ext e9, k5.out.ext e9, by rw [hg9]; exact Ky.new _ M2⟩ ?_
  rw [← hg9]
  clear hg9 e5 e7 e8 e9 e6 k3 k5 y5 t5 o6 o7
  rintro v5 ⟨e5, y5, k3, k5, k9⟩
  replace e5 := Lib.hid e5
  have t5 := Lib.hid (TK.out _ y5)
  replace k3 := Lib.hid k3
  replace k5 := Lib.hid k5
  replace k9 := Lib.hid k9
  clear y5
  go_wp2_with (first
    | (at_builtin; (with_reducible refine wpList_append_bs rfl (B := v5.heap.size) (s := .tmp 55) (x := .tmp 57) rfl rfl rfl (Own.empty v5 _ (Nat.le_refl _)) (t5.out.ext ((Ext.refl _).alloc _)) (by omega) (by simp) ?_); intro A6 c6 w6 o6 g6 b6; simp only [Nat.zero_add, List.nil_append] at o6 ⊢; replace o6 := Lib.hid o6; have e6 : Hid (Ext v5 w6) := Below.trans ((Ext.refl v5).alloc _) b6; clear g6 b6; simp only [Act.put, List.setIfInBounds_toArray, List.set_cons_zero, List.set_cons_succ])
    | (at_builtin; (with_reducible refine wpList_append_bs rfl (B := v5.heap.size) (s := .tmp 58) (x := .tmp 59) rfl rfl rfl (o6.out.ext ((Ext.refl _).alloc _)) (Bs.one _ _ _ 0) (by omega) (Nat.le_trans e6.out.size (by simp)) ?_); intro A7 c7 w7 o7 g7 b7; replace o7 := Lib.hid o7.bs; have e7 : Hid (Ext v5 w7) := Below.trans (e6.out.alloc _) b7; clear g7 b7; simp only [Act.put, List.setIfInBounds_toArray, List.set_cons_zero, List.set_cons_succ]))
  refine (RMAC2.out _ _ _ (e5.out.trans e7.out) o7.out).mono ?_
  rintro e v8 ⟨rfl, e8⟩
  clear RMAC2
  go_upto_region 8 with (refine wpList_store_row rfl 25 _ _ rfl v8.heap.size (cellsOf ns).toArray rfl rfl 25 _ (by with_reducible exact heap_alloc_new _ _) (by rw [HN]; rfl) (by rw [HN]; exact hz0) HN1 ?_; simp only [Act.put, List.setIfInBounds_toArray, List.set_cons_zero, List.set_cons_succ])
  obtain ⟨g10, hg10⟩ : ∃ g, g = v8.heap.size := ⟨_, rfl⟩
  have e9 := e7.out.trans (e8.trans (Ext.newRow v8 (Obj.cells Z 25) (cellsOf ns).toArray))
  refine wp_gen (fun W => Ext w W ∧ Ky W g3 ms ∧ Ky W g5 ms ∧ Ky W g9 ns ∧ Ky W g10 ns) ⟨e5.out.trans e9, k3.out.ext e9, k5.out.ext e9, k9.out.ext e9, by rw [hg10]; exact Ky.new _ M2⟩ ?_
  rw [← hg10]
  clear hg10 e5 e7 e8 e9 e6 k3 k5 k9 t5 o6 o7
  rintro W ⟨e5, k3, k5, k9, k10⟩
  replace e5 := Lib.hid e5
  replace k3 := Lib.hid k3
  replace k5 := Lib.hid k5
  replace k9 := Lib.hid k9
  replace k10 := Lib.hid k10
  go_wp2_with (first
    | (refine wpList_load_rowW rfl 25 _ rfl g3 rfl 25 (cellsOf ms).toArray (0, 0) _ k3.out.1 rfl rfl (by rw [HM]; rfl) ?_; simp only [Act.put, List.setIfInBounds_toArray, List.set_cons_zero, List.set_cons_succ])
    | (refine wpList_load_rowW rfl 25 _ rfl g5 rfl 25 (cellsOf ms).toArray (0, 0) _ k5.out.1 rfl rfl (by rw [HM]; rfl) ?_; simp only [Act.put, List.setIfInBounds_toArray, List.set_cons_zero, List.set_cons_succ])
    | (refine wpList_load_rowW rfl 25 _ rfl g9 rfl 25 (cellsOf ns).toArray (0, 0) _ k9.out.1 rfl rfl (by rw [HN]; rfl) ?_; simp only [Act.put, List.setIfInBounds_toArray, List.set_cons_zero, List.set_cons_succ])
    | (refine wpList_load_rowW rfl 25 _ rfl g10 rfl 25 (cellsOf ns).toArray (0, 0) _ k10.out.1 rfl rfl (by rw [HN]; rfl) ?_; simp only [Act.put, List.setIfInBounds_toArray, List.set_cons_zero, List.set_cons_succ])
    | (refine wpList_eql_keyB rfl _ _ _ rfl ms ms true (decide_eq_true rfl) rfl rfl M1 M1 ?_; simp only [Act.put, List.setIfInBounds_toArray, List.set_cons_zero, List.set_cons_succ])
    | (refine wpList_eql_keyB rfl _ _ _ rfl ns ns true (decide_eq_true rfl) rfl rfl M2 M2 ?_; simp only [Act.put, List.setIfInBounds_toArray, List.set_cons_zero, List.set_cons_succ]))
  go_ret
  exact ⟨rfl, e5.out⟩

theorem blakeKeys_calls {A : Option Addr} {m d : Nat} {n : Int} {ks bs : List UInt8} {w : World} (hk : ks.length = 32) (h : Bs w A m d bs) {tg : TypeId × Nat × Nat} (hG : Gl w tg) :
    Calls Tryd.prog 4 #[.agg (cellsOf ks).toArray, .int .i64 n, .slice A m d] w fun e w' => e = .returned (.bool true) ∧ Ext w w' := by
  by_cases hq : 500 < m ∨ n < 0 ∨ 31 < n
  · exact blakeKeys_out h hq hG
  · obtain ⟨k, rfl⟩ := Int.eq_ofNat_of_zero_le (show 0 ≤ n by omega)
    exact blakeKeys_main hk h (by omega) (by omega) hG
end Go.Proofs.YtdiigbknfjceoaaDoor
