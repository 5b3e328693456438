/-
  BlakeSums: any bytes' hash, and their tag by any key, are the document's.
-/
import Derived.Test.YtdiigbknfjceoaaDoorAwake2
import Derived.Test.YtdiigbknfjceoaaDoorRefSum
namespace Go.Proofs.YtdiigbknfjceoaaDoor
open Go.ChangeShapes Go.WideShapes Go.ChangeAt Go.RowKit Go.Deep

set_option maxRecDepth 100000 in
set_option maxHeartbeats 1000000 in
theorem blakeSums_out {A A' : Option Addr} {n c m d : Nat} {ks bs : List UInt8} {w : World} (h : Bs w A n c ks) (h' : Bs w A' m d bs) (hq : 100 < n ∨ 2000 < m) {tg : TypeId × Nat × Nat} (hG : Gl w tg) :
    Calls Tryd.prog 3 #[.slice A n c, .slice A' m d] w fun e w' => e = .returned (.bool true) ∧ Ext w w' := by
  have h1 := h.le
  have h2 := h.cap
  have h3 := h'.le
  have h4 := h'.cap
  have AW := Lib.hid (awake_calls hG)
  clear hG h h'
  by_cases q1 : 100 < n
  · have q1' : decide ((100 : Int) < (n : Int)) = true := decide_eq_true (by omega)
    clear hq
    go_enter Tryd.func3, Tryd.ntmps3
    go_wp2_with fail
    refine AW.out.mono ?_
    rintro e w1 ⟨rfl, e1⟩
    go_wp2_with fail
    go_ret
    exact ⟨rfl, e1⟩
  · have q1' : decide ((100 : Int) < (n : Int)) = false := decide_eq_false (by omega)
    have q2' : decide ((2000 : Int) < (m : Int)) = true := decide_eq_true (by omega)
    clear hq
    go_enter Tryd.func3, Tryd.ntmps3
    go_wp2_with fail
    refine AW.out.mono ?_
    rintro e w1 ⟨rfl, e1⟩
    go_wp2_with fail
    go_ret
    exact ⟨rfl, e1⟩

set_option maxRecDepth 100000 in
set_option maxHeartbeats 2000000 in
theorem blakeSums_main {A A' : Option Addr} {n c m d : Nat} {ms ss : List UInt8} {er : Int} {w : World} (h1 : n ≤ c) (h2 : c ≤ 9223372036854775807) (h3 : m ≤ d) (h4 : d ≤ 9223372036854775807) (hn : n ≤ 100) (hm : m ≤ 2000) (ML : ms.length = 32) (SL : ss.length = 32)
    (AW : Hid (Calls Tryd.prog 15 #[] w fun e w' => e = .returned (.bool true) ∧ Ext w w'))
    (MAC : Hid (∀ W, Ext w W → Calls Tryd.prog 16 #[.slice A n c, .slice A' m d] W fun e w' => e = .returned (.tuple #[.agg (cellsOf ms).toArray, .int .i64 er]) ∧ Ext W w'))
    (RMAC : Hid (∀ W, Ext w W → Calls Tryd.prog 17 #[.slice A n c, .slice A' m d] W fun e w' => e = .returned (.tuple #[.agg (cellsOf ms).toArray, .int .i64 er]) ∧ Ext W w'))
    (SUM : Hid (∀ W, Ext w W → Calls Tryd.prog 18 #[.slice A' m d] W fun e w' => e = .returned (.agg (cellsOf ss).toArray) ∧ Ext W w'))
    (RSUM : Hid (∀ W, Ext w W → Calls Tryd.prog 19 #[.slice A' m d] W fun e w' => e = .returned (.agg (cellsOf ss).toArray) ∧ Ext W w')) :
    Calls Tryd.prog 3 #[.slice A n c, .slice A' m d] w fun e w' => e = .returned (.bool true) ∧ Ext w w' := by
  have q1' : decide ((100 : Int) < (n : Int)) = false := decide_eq_false (by omega)
  have q2' : decide ((2000 : Int) < (m : Int)) = false := decide_eq_false (by omega)
  have hal := key_alloc
  have hz0 := zeros32_size
  generalize zeros32 = Z at *
  have HM : (cellsOf ms).toArray.size = 32 := by simp [cellsOf_len, ML]
  have HM1 := cellsOf_one ms
  have d0 : Hid (decide (ms = ms) = true) := decide_eq_true rfl
  have d1 : Hid (decide (ss = ss) = true) := decide_eq_true rfl
  go_enter Tryd.func3, Tryd.ntmps3
  go_wp2_with fail
  refine AW.out.mono ?_
  rintro e w1 ⟨rfl, e1⟩
  replace e1 := Lib.hid e1
  clear AW
  go_wp2_with fail
  refine (MAC.out _ e1.out).mono ?_
  rintro e w2 ⟨rfl, e2⟩
  clear MAC
  go_upto_region 5 with (refine wpList_store_row rfl 25 _ _ rfl w2.heap.size (cellsOf ms).toArray rfl rfl 25 _ (by with_reducible exact heap_alloc_new _ _) (by rw [HM]; rfl) (by rw [HM]; exact hz0) HM1 ?_; simp only [Act.put, List.setIfInBounds_toArray, List.set_cons_zero, List.set_cons_succ])
  obtain ⟨g3, hg3⟩ : ∃ g, g = w2.heap.size := ⟨_, rfl⟩
  refine wp_gen (fun W => Ext w W ∧ Ky W g3 ms) ⟨(e1.out.trans e2).trans (Ext.newRow _ _ _), by rw [hg3]; exact Ky.new _ ML⟩ ?_
  rw [← hg3]
  clear hg3 e1 e2
  rintro w3 ⟨e3, k3⟩
  replace e3 := Lib.hid e3
  replace k3 := Lib.hid k3
  go_wp2_with fail
  refine (RMAC.out _ e3.out).mono ?_
  rintro e w4 ⟨rfl, e4⟩
  clear RMAC
  go_upto_region 6 with (refine wpList_store_row rfl 25 _ _ rfl w4.heap.size (cellsOf ms).toArray rfl rfl 25 _ (by with_reducible exact heap_alloc_new _ _) (by rw [HM]; rfl) (by rw [HM]; exact hz0) HM1 ?_; simp only [Act.put, List.setIfInBounds_toArray, List.set_cons_zero, List.set_cons_succ])
  obtain ⟨g5, hg5⟩ : ∃ g, g = w4.heap.size := ⟨_, rfl⟩
  refine wp_gen (fun W => Ext w W ∧ Ky W g3 ms ∧ Ky W g5 ms) ⟨(e3.out.trans e4).trans (Ext.newRow _ _ _), k3.out.ext (e4.trans (Ext.newRow _ _ _)), by rw [hg5]; exact Ky.new _ ML⟩ ?_
  rw [← hg5]
  clear hg5 e3 e4 k3
  rintro w5 ⟨e5, k3, k5⟩
  replace e5 := Lib.hid e5
  replace k3 := Lib.hid k3
  replace k5 := Lib.hid k5
  go_wp2_with (first
    | (refine wpList_load_rowW rfl 25 _ rfl g3 rfl 25 (cellsOf ms).toArray (0, 0) _ k3.out.1 rfl rfl (by rw [HM]; rfl) ?_; simp only [Act.put, List.setIfInBounds_toArray, List.set_cons_zero, List.set_cons_succ])
    | (refine wpList_load_rowW rfl 25 _ rfl g5 rfl 25 (cellsOf ms).toArray (0, 0) _ k5.out.1 rfl rfl (by rw [HM]; rfl) ?_; simp only [Act.put, List.setIfInBounds_toArray, List.set_cons_zero, List.set_cons_succ])
    | (refine wpList_eql_keyB rfl _ _ _ rfl ms ms true (decide_eq_true rfl) rfl rfl ML ML ?_; simp only [Act.put, List.setIfInBounds_toArray, List.set_cons_zero, List.set_cons_succ]))
  refine (SUM.out _ e5.out).mono ?_
  rintro e w6 ⟨rfl, e6⟩
  have e7 := Lib.hid (e5.out.trans e6)
  clear SUM e5 e6 k3 k5
  go_wp2_with fail
  refine (RSUM.out _ e7.out).mono ?_
  rintro e w8 ⟨rfl, e8⟩
  have e9 := Lib.hid (e7.out.trans e8)
  clear RSUM e7 e8
  go_wp2_with (refine wpList_eql_keyB rfl _ _ _ rfl ss ss true (decide_eq_true rfl) rfl rfl SL SL ?_; simp only [Act.put, List.setIfInBounds_toArray, List.set_cons_zero, List.set_cons_succ])
  go_ret
  exact ⟨rfl, e9.out⟩

theorem blakeSums_calls {A A' : Option Addr} {n c m d : Nat} {ks bs : List UInt8} {w : World} (h : Bs w A n c ks) (h' : Bs w A' m d bs) {tg : TypeId × Nat × Nat} (hG : Gl w tg) :
    Calls Tryd.prog 3 #[.slice A n c, .slice A' m d] w fun e w' => e = .returned (.bool true) ∧ Ext w w' := by
  by_cases hq : 100 < n ∨ 2000 < m
  · exact blakeSums_out h h' hq hG
  · have SUM : Hid (∀ W, Ext w W → Calls Tryd.prog 18 #[.slice A' m d] W fun e w' => e = .returned (.agg (cellsOf (macL [] bs)).toArray) ∧ Ext W w') := fun W e => sum_calls (h'.ext e) (hG.kept e hG.lt)
    have RSUM : Hid (∀ W, Ext w W → Calls Tryd.prog 19 #[.slice A' m d] W fun e w' => e = .returned (.agg (cellsOf (macL [] bs)).toArray) ∧ Ext W w') := fun W e => refSum_calls (h'.ext e) (by omega)
    by_cases hk : n ≤ 32
    · exact blakeSums_main h.le h.cap h'.le h'.cap (by omega) (by omega) (macL_len ks bs) (macL_len [] bs) (Lib.hid (awake_calls hG)) (fun W e => mac_calls (h.ext e) (h'.ext e) hk (hG.kept e hG.lt)) (fun W e => refMac_calls (h.ext e) (h'.ext e) hk (by omega)) SUM RSUM
    · exact blakeSums_main h.le h.cap h'.le h'.cap (by omega) (by omega) (show (List.replicate 32 (0 : UInt8)).length = 32 from rfl) (macL_len [] bs) (Lib.hid (awake_calls hG)) (fun W e => mac_long (h.ext e) (h'.ext e) (by omega)) (fun W e => refMac_long (h.ext e) (h'.ext e) (by omega)) SUM RSUM
end Go.Proofs.YtdiigbknfjceoaaDoor
