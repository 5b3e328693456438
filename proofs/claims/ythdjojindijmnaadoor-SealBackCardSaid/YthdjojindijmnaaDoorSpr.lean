/-
  kdf.Spread.
-/
import Derived.Test.YthdjojindijmnaaDoorSpr1
import Derived.Test.YthdjojindijmnaaDoorCut
namespace Go.Proofs.YthdjojindijmnaaDoor
open Go.ChangeShapes Go.WideShapes Go.ChangeAt Go.RowKit Go.Deep

set_option maxRecDepth 100000 in
set_option maxHeartbeats 1000000 in
theorem spread_err {ks ps : List UInt8} {m : Int} {w : World} (h : m < 0 ∨ 2000 < m) :
    Calls Tryd.prog 54 #[.agg (cellsOf ks).toArray, .string (strL ps), .int .i64 m] w (RetBsE [] 1 w) := by
  generalize (cellsOf ks).toArray = K at *
  by_cases q1 : m < 0
  · have q1' : decide (m < 0) = true := by simpa using q1
    clear h
    go_enter Tryd.func54, Tryd.ntmps54
    go_wp2_with fail
    go_ret2
    exact ⟨_, _, _, rfl, Bs.nil _, ((Ext.refl w).alloc _).alloc _⟩
  · have q1' : decide (m < 0) = false := by simpa using q1
    have q2' : decide (2000 < m) = true := decide_eq_true (by omega)
    clear h
    go_enter Tryd.func54, Tryd.ntmps54
    go_wp2_with fail
    go_ret2
    exact ⟨_, _, _, rfl, Bs.nil _, ((Ext.refl w).alloc _).alloc _⟩

theorem alloc4_0 (w : World) (o1 o2 o3 o4 : Obj) : ((((w.alloc o1).alloc o2).alloc o3).alloc o4).heap[w.heap.size]? = some o1 := by
  rw [Below.heap_alloc _ _ _ (by rw [size_alloc, size_alloc, size_alloc]; omega)]
  exact heap_alloc30 w o1 o2 o3
theorem alloc4_1 (w : World) (o1 o2 o3 o4 : Obj) : ((((w.alloc o1).alloc o2).alloc o3).alloc o4).heap[w.heap.size + 1]? = some o2 := by
  rw [Below.heap_alloc _ _ _ (by rw [size_alloc, size_alloc, size_alloc]; omega)]
  exact heap_alloc31 w o1 o2 o3
theorem alloc4_2 (w : World) (o1 o2 o3 o4 : Obj) : ((((w.alloc o1).alloc o2).alloc o3).alloc o4).heap[w.heap.size + 1 + 1]? = some o3 := by
  rw [Below.heap_alloc _ _ _ (by rw [size_alloc, size_alloc, size_alloc]; omega)]
  exact heap_alloc32 w o1 o2 o3
theorem alloc4_3 (w : World) (o1 o2 o3 o4 : Obj) : ((((w.alloc o1).alloc o2).alloc o3).alloc o4).heap[w.heap.size + 1 + 1 + 1]? = some o4 := by
  have := heap_alloc32 (w.alloc o1) o2 o3 o4
  rwa [size_alloc] at this

set_option maxRecDepth 100000 in
set_option maxHeartbeats 2000000 in
theorem spread_calls {ks ps : List UInt8} {m : Nat} {w : World} (hk : ks.length = 32) (h1 : ps.length ≤ 1000000) (hm : m ≤ 2000) {tg : TypeId × Nat × Nat} (hG : Gl w tg) :
    Calls Tryd.prog 54 #[.agg (cellsOf ks).toArray, .string (strL ps), .int .i64 (m : Int)] w (RetBsE (spreadL ks ps m) 0 w) := by
  have q1' : decide ((m : Int) < 0) = false := decide_eq_false (by omega)
  have q2' : decide ((2000 : Int) < (m : Int)) = false := decide_eq_false (by omega)
  have HG := Lib.hid hG
  clear hG
  have SP0 : Hid (Sp w ((((w.alloc (Obj.cells (cellsOf ks).toArray 23)).alloc (Obj.cells #[.string (strL ps)] 9)).alloc (Obj.cells #[.slice none 0 0] 34)).alloc (Obj.cells #[.slice none 0 0] 34)) ks ps none 0 0 [] none 0 0 []) :=
    ⟨((((Ext.refl w).alloc _).alloc _).alloc _).alloc _, alloc4_0 _ _ _ _ _, alloc4_1 _ _ _ _ _, alloc4_2 _ _ _ _ _, alloc4_3 _ _ _ _ _, Own.nil _ _, Bs.nil _⟩
  go_enter Tryd.func54, Tryd.ntmps54
  go_wp2_with fail
  go_loopw [11] (fun v wr => ∃ (i j n : Nat) (O : Option Addr) (oc : Nat) (L : Option Addr) (ln lc : Nat), v = .int .u8 (j : Int) ∧ j = i + 1 ∧ n = 32 * i ∧ n < m + 32 ∧ ln ≤ 32 ∧ Sp w wr ks ps O n oc (outL ks ps i) L ln lc (blkL ks ps i)) (fun v _ => 64 - (intOf v).toNat)
  case atStart => exact ⟨0, 1, 0, none, 0, none, 0, 0, rfl, rfl, rfl, by omega, by omega, SP0.out⟩
  case round =>
    obtain ⟨i, j, n, O, oc, L, ln, lc, rfl, hj, hn, hi, hln, sp⟩ := hrel
    clear SP0
    have cO := cell_of_one sp.2.2.2.1
    have zz := sp.size
    have hE := sp.1
    by_cases hlt : n < m
    · have CALL : Calls Tryd.prog 67 #[.int .u8 (j : Int), .pointer (some ⟨w.heap.size + 1 + 1 + 1, 0, none⟩), .pointer (some ⟨w.heap.size + 1, 0, none⟩), .pointer (some ⟨w.heap.size, 0, none⟩), .pointer (some ⟨w.heap.size + 1 + 1, 0, none⟩)] wr (SpTo w ks ps (outL ks ps (i + 1)) (blkL ks ps (i + 1))) := by
        have h9 := spr1_calls (x := UInt8.ofNat j) hk sp h1 hln (by omega) HG.out
        have hx : (UInt8.ofNat j).toNat = j := by simp; omega
        rw [hx] at h9
        rw [outL, blkL, ← hj]
        exact h9
      replace CALL := Lib.hid CALL
      clear sp
      replace hj := Lib.hid hj
      replace hn := Lib.hid hn
      have j64 : (j : Int) ≤ 64 := by have := hj.out; have := hn.out; omega
      go_wp2_with (go_at_call 67; refine CALL.out.mono ?_; rintro e w1 ⟨rfl, O1, n1, c1, L1, lc1, sp1⟩; replace sp1 := Lib.hid sp1; simp only [Act.put, List.setIfInBounds_toArray, List.set_cons_zero, List.set_cons_succ])
      refine ⟨⟨i + 1, j + 1, n1, O1, c1, L1, 32, lc1, by go_num, by have := hj.out; omega, ?_, ?_, by omega, sp1.out⟩, by have := hj.out; have := hn.out; simp [intOf]; omega⟩
      · have := sp1.out.2.2.2.2.2.1.len
        rw [outL_len] at this
        omega
      · have := sp1.out.2.2.2.2.2.1.len
        rw [outL_len] at this
        have := hn.out
        omega
    · have hS : spreadL ks ps m = (outL ks ps i).take m := by
        unfold spreadL
        rw [show (m + 31) / 32 = i by omega]
      replace hS := Lib.hid hS
      have own := sp.2.2.2.2.2.1
      have B := own.bs
      have BT := Lib.hid (B.take (k := m) (by omega))
      have n1 := B.le
      have n2 := B.cap
      rcases own.2 with ⟨hv, hn0⟩ | ⟨g, cap, cur, hv, _⟩
      · injection hv with p1 p2 p3
        subst p1 p3
        obtain rfl : n = 0 := hn0
        obtain rfl : m = 0 := by omega
        clear own sp B
        replace hn := Lib.hid hn
        replace hj := Lib.hid hj
        go_wp2_with fail
        go_ret2
        exact ⟨_, _, _, rfl, by rw [hS.out]; exact BT.out, hE⟩
      · injection hv with p1 p2 p3
        subst p1 p3
        clear own sp B
        replace hn := Lib.hid hn
        replace hj := Lib.hid hj
        go_wp2_with fail
        go_ret2
        exact ⟨_, _, _, rfl, by rw [hS.out]; exact BT.out.recap (Nat.le_refl _), hE⟩
end Go.Proofs.YthdjojindijmnaaDoor
