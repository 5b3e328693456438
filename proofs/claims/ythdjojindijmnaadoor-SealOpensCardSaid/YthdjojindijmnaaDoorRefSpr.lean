import Derived.Test.YthdjojindijmnaaDoorPkC
import Derived.Test.YthdjojindijmnaaDoorSeqT
import Derived.Test.YthdjojindijmnaaDoorPkK
import Derived.Test.YthdjojindijmnaaDoorPkH
import Derived.Deep.CutRange
/-
  The document's Spread (layer 3).
-/
namespace Go.Proofs.YthdjojindijmnaaDoor
open Go.ChangeShapes Go.WideShapes Go.ChangeAt Go.RowKit Go.Deep

set_option maxRecDepth 100000 in
set_option maxHeartbeats 1000000 in
theorem refSpread_err {ks ps : List UInt8} {m : Int} {w : World} (h : m < 0 ∨ 2000 < m) :
    Calls Tryd.prog 58 #[.agg (cellsOf ks).toArray, .string (strL ps), .int .i64 m] w (RetBsE [] 1 w) := by
  generalize (cellsOf ks).toArray = K at *
  by_cases q1 : m < 0
  · have q1' : decide (m < 0) = true := by simpa using q1
    clear h
    go_enter Tryd.func58, Tryd.ntmps58
    go_wp2_with fail
    go_ret2
    exact ⟨_, _, _, rfl, Bs.nil _, (Ext.refl w).alloc _⟩
  · have q1' : decide (m < 0) = false := by simpa using q1
    have q2' : decide (2000 < m) = true := decide_eq_true (by omega)
    clear h
    go_enter Tryd.func58, Tryd.ntmps58
    go_wp2_with fail
    go_ret2
    exact ⟨_, _, _, rfl, Bs.nil _, (Ext.refl w).alloc _⟩

set_option maxRecDepth 100000 in
set_option maxHeartbeats 8000000 in
theorem refSpread_calls {ks ps : List UInt8} {m : Nat} {w : World} (hk : ks.length = 32) (h1 : ps.length ≤ 900000) (hm : m ≤ 2000) :
    Calls Tryd.prog 58 #[.agg (cellsOf ks).toArray, .string (strL ps), .int .i64 (m : Int)] w (RetBsE (spreadL ks ps m) 0 w) := by
  have q1' : decide ((m : Int) < 0) = false := decide_eq_false (by omega)
  have q2' : decide ((2000 : Int) < (m : Int)) = false := decide_eq_false (by omega)
  have ky0 : Hid (Ky (w.alloc (Obj.cells (cellsOf ks).toArray 23)) w.heap.size ks) := Ky.boxed w hk
  have KS : (cellsOf ks).toArray.size = 32 := by simp [cellsOf_len, hk]
  have hal := key_alloc
  have hz0 := zeros32_size
  generalize zeros32 = Z at *
  go_enter Tryd.func58, Tryd.ntmps58
  go_wp2_with fail
  go_loopw [8, 9, 10] (fun ov lv nv wr => ∃ (i j n : Nat) (O : Option Addr) (oc : Nat) (L : Option Addr) (ln lc : Nat), ov = .slice O n oc ∧ lv = .slice L ln lc ∧ nv = .int .i64 (j : Int) ∧ j = i + 1 ∧ n = 32 * i ∧ n < m + 32 ∧ ln ≤ 32 ∧ Ext w wr ∧ Ky wr w.heap.size ks ∧ Own (w.heap.size + 1) wr O n oc (outL ks ps i) ∧ Bs wr L ln lc (blkL ks ps i)) (fun _ _ nv _ => 64 - (intOf nv).toNat)
  case atStart => exact ⟨0, 1, 0, none, 0, none, 0, 0, rfl, rfl, rfl, rfl, rfl, by omega, by omega, (Ext.refl w).alloc _, ky0.out, Own.nil _ _, Bs.nil _⟩
  case round =>
    obtain ⟨i, j, n, O, oc, L, ln, lc, rfl, rfl, rfl, hj, hn, hi, hln, he, ky, own, lb⟩ := hrel
    clear ky0
    have kw := heap_lt ky.1
    by_cases hlt : n < m
    · have j64 : j ≤ 64 := by omega
      have jw : (j : Int) < 256 := by omega
      have ju : IntKind.u8.wrap (j : Int) = (j : Int) := by rw [IntKind.wrap_u8]; omega
      have hx : Hid (((UInt8.ofNat j).toNat : Int) = (j : Int)) := by
        unfold Hid
        simp
        omega
      have BL : Hid (blkL ks ps (i + 1) = macL ks (blkL ks ps i ++ ps ++ [UInt8.ofNat j])) := by rw [hj]; rfl
      have TAG : Hid (∀ W A c, Ext wr W → Bs W A (ln + ps.length + 1) c (blkL ks ps i ++ ps ++ [UInt8.ofNat j]) → Calls Tryd.prog 31 #[.agg (cellsOf ks).toArray, .slice A (ln + ps.length + 1) c] W fun e w' => e = .returned (.agg (cellsOf (blkL ks ps (i + 1))).toArray) ∧ Ext W w') := fun W A c e b => by
        rw [BL.out]
        exact refTag_calls hk b (by omega)
      have ML := blkL_len ks ps i
      have OS : Hid (outL ks ps (i + 1) = outL ks ps i ++ blkL ks ps (i + 1)) := rfl
      clear BL
      generalize hM : blkL ks ps (i + 1) = M at *
      replace hM := Lib.hid hM
      have HM : (cellsOf M).toArray.size = 32 := by simp [cellsOf_len, ML]
      have HM1 := cellsOf_one M
      generalize blkL ks ps i = ls at *
      have LB := Lib.hid lb
      have KY := Lib.hid ky
      replace own := Lib.hid own
      replace he := Lib.hid he
      clear lb ky
      replace hj := Lib.hid hj
      replace hn := Lib.hid hn
      go_upto_region 8 with fail
      go_cut [11] from 18 to 40 (fun s11 wx => ∃ g : Nat, s11 = .pointer (some ⟨g, 0, none⟩) ∧ Ext wr wx ∧ Ky wx g M)
      case first =>
        refine wp_region_tree (R := Below wr.heap.size) (Below.refl _) (fun _ _ _ => Below.trans) (.rd 0 (.rd 2 (.rd 4 (.rd 6 (.rd 7 (.alt 1 (.alt 3 (.alt 5 (.alt 8 (.alt 9 (.alt 10 (.alt 11 (.alt 12 .nil .stop) .stop) (.alt 11 (.alt 10 (.alt 12 .nil .stop) .stop) .stop)) (.alt 11 (.alt 9 (.alt 10 (.alt 12 .nil .stop) .stop) .stop) .stop)) (.alt 11 (.alt 8 (.alt 9 (.alt 10 (.alt 12 .nil .stop) .stop) .stop) .stop) .stop)) (.alt 8 (.alt 5 (.alt 9 (.alt 10 (.alt 11 (.alt 12 .nil .stop) .stop) (.alt 11 (.alt 10 (.alt 12 .nil .stop) .stop) .stop)) (.alt 11 (.alt 9 (.alt 10 (.alt 12 .nil .stop) .stop) .stop) .stop)) (.alt 11 (.alt 5 (.alt 9 (.alt 10 (.alt 12 .nil .stop) .stop) .stop) .stop) .stop)) (.alt 11 (.alt 5 (.alt 8 (.alt 9 (.alt 10 (.alt 12 .nil .stop) .stop) .stop) .stop) (.alt 8 (.alt 5 (.alt 9 (.alt 10 (.alt 12 .nil .stop) .stop) .stop) .stop) .stop)) .stop))) (.alt 8 (.alt 3 (.alt 5 (.alt 9 (.alt 10 (.alt 11 (.alt 12 .nil .stop) .stop) (.alt 11 (.alt 10 (.alt 12 .nil .stop) .stop) .stop)) (.alt 11 (.alt 9 (.alt 10 (.alt 12 .nil .stop) .stop) .stop) .stop)) (.alt 11 (.alt 5 (.alt 9 (.alt 10 (.alt 12 .nil .stop) .stop) .stop) .stop) .stop)) (.alt 11 (.alt 3 (.alt 5 (.alt 9 (.alt 10 (.alt 12 .nil .stop) .stop) .stop) .stop) .stop) .stop)) (.alt 11 (.alt 3 (.alt 5 (.alt 8 (.alt 9 (.alt 10 (.alt 12 .nil .stop) .stop) .stop) .stop) (.alt 8 (.alt 5 (.alt 9 (.alt 10 (.alt 12 .nil .stop) .stop) .stop) .stop) .stop)) (.alt 8 (.alt 3 (.alt 5 (.alt 9 (.alt 10 (.alt 12 .nil .stop) .stop) .stop) .stop) .stop) .stop)) .stop))) (.alt 8 (.alt 1 (.alt 3 (.alt 5 (.alt 9 (.alt 10 (.alt 11 (.alt 12 .nil .stop) .stop) (.alt 11 (.alt 10 (.alt 12 .nil .stop) .stop) .stop)) (.alt 11 (.alt 9 (.alt 10 (.alt 12 .nil .stop) .stop) .stop) .stop)) (.alt 11 (.alt 5 (.alt 9 (.alt 10 (.alt 12 .nil .stop) .stop) .stop) .stop) .stop)) (.alt 11 (.alt 3 (.alt 5 (.alt 9 (.alt 10 (.alt 12 .nil .stop) .stop) .stop) .stop) .stop) .stop)) (.alt 11 (.alt 1 (.alt 3 (.alt 5 (.alt 9 (.alt 10 (.alt 12 .nil .stop) .stop) .stop) .stop) .stop) .stop) .stop)) (.alt 11 (.alt 1 (.alt 3 (.alt 5 (.alt 8 (.alt 9 (.alt 10 (.alt 12 .nil .stop) .stop) .stop) .stop) (.alt 8 (.alt 5 (.alt 9 (.alt 10 (.alt 12 .nil .stop) .stop) .stop) .stop) .stop)) (.alt 8 (.alt 3 (.alt 5 (.alt 9 (.alt 10 (.alt 12 .nil .stop) .stop) .stop) .stop) .stop) .stop)) (.alt 8 (.alt 1 (.alt 3 (.alt 5 (.alt 9 (.alt 10 (.alt 12 .nil .stop) .stop) .stop) .stop) .stop) .stop) .stop)) .stop)))))))) [(0, 25, 16), (0, 26, 0), (0, 27, 1024), (6, 28, 201326592), (0, 29, 4), (24, 30, 805306368), (0, 31, 2048), (64, 32, 2147483648), (128, 33, 4294967296), (288, 34, 9663676416), (513, 35, 17213423616), (0, 12, 0), (4095, 0, 34359742464)] 13 (by kernel_rfl) (by kernel_rfl) (by kernel_rfl) rfl (by kernel_rfl) (by kernel_rfl) (fun _ _ d _ _ h => by cases d <;> exact h) ?_
        refine seqT_read (fun w' => w'.heap[w.heap.size]? = some (.cells (cellsOf ks).toArray 23 (0, 0))) (fun w' e => (e.block _ kw).trans KY.out.1) _ (v := .agg (cellsOf ks).toArray) rfl (by rfl) (fun w' hF => exec_load_row rfl rfl hF rfl rfl (by rw [KS]; rfl)) ?_
        simp only [Act.put, List.setIfInBounds_toArray, List.set_cons_zero, List.set_cons_succ]
        repeat (first | (refine seqT_read (fun _ => True) (fun _ _ => trivial) _ (v := ?_) rfl ?_ ?_ ?_; rotate_left; (· rfl); (· intro w' hF; go_simp; (try with_reducible rfl)); simp only [Act.put, List.setIfInBounds_toArray, List.set_cons_zero, List.set_cons_succ]) | (refine seqT_skip _ rfl ?_ ?_; (· rfl); simp only [Act.put, List.setIfInBounds_toArray, List.set_cons_zero, List.set_cons_succ]))
        have S0 : Hid (Ext wr wr.drew) := (Ext.refl wr).drew
        have z0 : wr.heap.size ≤ wr.drew.heap.size := Nat.le_refl _
        clear own
        generalize wr.drew = WC at *
        repeat' (first
      | exact seqT_stop
      | (refine seqT_do (i := 1) _ rfl ?_ ?_ (fun K1 hK1 => ?_)
         (· rfl)
         rotate_left
         go_simp
         have e : Ext WC (WC.alloc (Obj.cells #[] 5)) := (Ext.refl WC).alloc _
         have hO' := Lib.hid (Own.empty WC wr.heap.size z0)
         (try have hN := Lib.hid (own_lit (g := gB) (s := WC.heap.size) (n := 0) (c := 0) (by omega)))
         refine hK1.out _ (WC.alloc (Obj.cells #[] 5)) (e.mono z0) ?_
         clear hK1 K1
         (try replace hO := Lib.hid (hO.out.ext e))
         (try replace hB := Lib.hid (hB.out.ext e))
         (try replace hA := Lib.hid (hA.out.ext e))
         (try replace hL := Lib.hid ((e.block _ (heap_lt hL.out)).trans hL.out))
         replace S0 := Lib.hid (S0.out.trans e)
         have ze := e.size
         have z1 := Nat.le_trans z0 ze
         clear z0
         have z0 := z1
         clear z1 e
         have hO := hO'
         clear hO'
         generalize WC.alloc (Obj.cells #[] 5) = WC at *
         (try simp only [Act.put, List.setIfInBounds_toArray, List.set_cons_zero, List.set_cons_succ])
         repeat (first | (refine seqT_read (fun _ => True) (fun _ _ => trivial) _ (v := ?_) rfl ?_ ?_ ?_; rotate_left; (· rfl); (· intro w' hF; go_simp; (try with_reducible rfl)); simp only [Act.put, List.setIfInBounds_toArray, List.set_cons_zero, List.set_cons_succ]) | (refine seqT_skip _ rfl ?_ ?_; (· rfl); simp only [Act.put, List.setIfInBounds_toArray, List.set_cons_zero, List.set_cons_succ]))
         skip)
      | (refine seqT_do (i := 3) _ rfl ?_ ?_ (fun K1 hK1 => ?_)
         (· rfl)
         rotate_left
         refine wp_append_bs2 rfl rfl rfl hO.out (LB.out.ext S0.out) (by omega) z0 ?_
         intro A3 c3 WC o3 g3 b3 at3
         simp only [Nat.zero_add, List.nil_append] at o3 at3 ⊢
         refine hK1.out _ _ b3 ?_
         clear hK1 K1
         (try replace hL := Lib.hid ((g3.block _ (heap_lt hL.out) (hO.out.ne_of hL.out (by decide)).symm).trans hL.out))
         (try replace hB := Lib.hid (hB.out.grown g3 hN.out))
         replace S0 : Hid (Ext wr WC) := Below.trans S0.out b3
         (try replace hN := Lib.hid (own_at hN.out (by omega) at3))
         clear at3
         replace hO := Lib.hid o3
         clear o3
         have ze := b3.size
         have z1 := Nat.le_trans z0 ze
         clear z0
         have z0 := z1
         clear z1 g3 b3
         (try simp only [Act.put, List.setIfInBounds_toArray, List.set_cons_zero, List.set_cons_succ])
         repeat (first | (refine seqT_read (fun _ => True) (fun _ _ => trivial) _ (v := ?_) rfl ?_ ?_ ?_; rotate_left; (· rfl); (· intro w' hF; go_simp; (try with_reducible rfl)); simp only [Act.put, List.setIfInBounds_toArray, List.set_cons_zero, List.set_cons_succ]) | (refine seqT_skip _ rfl ?_ ?_; (· rfl); simp only [Act.put, List.setIfInBounds_toArray, List.set_cons_zero, List.set_cons_succ]))
         skip)
      | (refine seqT_do (i := 5) _ rfl ?_ ?_ (fun K1 hK1 => ?_)
         (· rfl)
         rotate_left
         refine wp_append_str (ys := ps) rfl rfl rfl hO.out (by omega) z0 ?_
         intro A3 c3 WC o3 g3 b3
         skip
         refine hK1.out _ _ b3 ?_
         clear hK1 K1
         (try replace hL := Lib.hid ((g3.block _ (heap_lt hL.out) (hO.out.ne_of hL.out (by decide)).symm).trans hL.out))
         (try replace hB := Lib.hid (hB.out.grown g3 hN.out))
         replace S0 : Hid (Ext wr WC) := Below.trans S0.out b3
         (try clear hN)
         replace hO := Lib.hid o3
         clear o3
         have ze := b3.size
         have z1 := Nat.le_trans z0 ze
         clear z0
         have z0 := z1
         clear z1 g3 b3
         (try simp only [Act.put, List.setIfInBounds_toArray, List.set_cons_zero, List.set_cons_succ])
         repeat (first | (refine seqT_read (fun _ => True) (fun _ _ => trivial) _ (v := ?_) rfl ?_ ?_ ?_; rotate_left; (· rfl); (· intro w' hF; go_simp; (try with_reducible rfl)); simp only [Act.put, List.setIfInBounds_toArray, List.set_cons_zero, List.set_cons_succ]) | (refine seqT_skip _ rfl ?_ ?_; (· rfl); simp only [Act.put, List.setIfInBounds_toArray, List.set_cons_zero, List.set_cons_succ]))
         skip)
      | (refine seqT_do (i := 8) _ rfl ?_ ?_ (fun K1 hK1 => ?_)
         (· rfl)
         rotate_left
         go_simp
         have e : Ext WC (WC.alloc (Obj.cells #[.int .u8 (j : Int)] 5)) := (Ext.refl WC).alloc _
         have hB' : Hid (Bs (WC.alloc (Obj.cells #[.int .u8 (j : Int)] 5)) (some ⟨WC.heap.size, 0, none⟩) 1 1 [UInt8.ofNat j]) := by
           have h9 := Bs.one WC 5 (0, 0) (UInt8.ofNat j)
           rw [hx.out] at h9
           exact h9
         obtain ⟨gB, hgB⟩ : ∃ g, g = WC.heap.size := ⟨_, rfl⟩
         (try have hN := Lib.hid hO.out.ne_size)
         (try rw [← hgB] at hN)
         rw [← hgB] at hB' ⊢
         have zb1 : gB < (WC.alloc (Obj.cells #[.int .u8 (j : Int)] 5)).heap.size := by rw [size_alloc]; omega
         have zb3 : WC.heap.size ≤ gB := by omega
         replace hgB := Lib.hid hgB
         refine hK1.out _ (WC.alloc (Obj.cells #[.int .u8 (j : Int)] 5)) (e.mono z0) ?_
         clear hK1 K1
         (try replace hO := Lib.hid (hO.out.ext e))
         (try replace hB := Lib.hid (hB.out.ext e))
         (try replace hA := Lib.hid (hA.out.ext e))
         (try replace hL := Lib.hid ((e.block _ (heap_lt hL.out)).trans hL.out))
         replace S0 := Lib.hid (S0.out.trans e)
         have ze := e.size
         have z1 := Nat.le_trans z0 ze
         clear z0
         have z0 := z1
         clear z1 e
         have hB := hB'
         clear hB'
         generalize WC.alloc (Obj.cells #[.int .u8 (j : Int)] 5) = WC at *
         (try simp only [Act.put, List.setIfInBounds_toArray, List.set_cons_zero, List.set_cons_succ])
         repeat (first | (refine seqT_read (fun _ => True) (fun _ _ => trivial) _ (v := ?_) rfl ?_ ?_ ?_; rotate_left; (· rfl); (· intro w' hF; go_simp; (try with_reducible rfl)); simp only [Act.put, List.setIfInBounds_toArray, List.set_cons_zero, List.set_cons_succ]) | (refine seqT_skip _ rfl ?_ ?_; (· rfl); simp only [Act.put, List.setIfInBounds_toArray, List.set_cons_zero, List.set_cons_succ]))
         skip)
      | (refine seqT_do (i := 9) _ rfl ?_ ?_ (fun K1 hK1 => ?_)
         (· rfl)
         rotate_left
         refine wp_append_bs2 rfl rfl rfl hO.out hB.out (by omega) z0 ?_
         intro A3 c3 WC o3 g3 b3 at3
         refine hK1.out _ _ b3 ?_
         clear hK1 K1 at3
         (try replace hL := Lib.hid ((g3.block _ (heap_lt hL.out) (hO.out.ne_of hL.out (by decide)).symm).trans hL.out))
         replace S0 : Hid (Ext wr WC) := Below.trans S0.out b3
         clear hB hO
         (try clear hN)
         have hA := Lib.hid o3.bs
         clear o3
         have ze := b3.size
         have z1 := Nat.le_trans z0 ze
         clear z0
         have z0 := z1
         clear z1 g3 b3
         (try simp only [Act.put, List.setIfInBounds_toArray, List.set_cons_zero, List.set_cons_succ])
         repeat (first | (refine seqT_read (fun _ => True) (fun _ _ => trivial) _ (v := ?_) rfl ?_ ?_ ?_; rotate_left; (· rfl); (· intro w' hF; go_simp; (try with_reducible rfl)); simp only [Act.put, List.setIfInBounds_toArray, List.set_cons_zero, List.set_cons_succ]) | (refine seqT_skip _ rfl ?_ ?_; (· rfl); simp only [Act.put, List.setIfInBounds_toArray, List.set_cons_zero, List.set_cons_succ]))
         skip)
      | (refine seqT_do (i := 10) _ rfl ?_ ?_ (fun K1 hK1 => ?_)
         (· rfl)
         rotate_left
         go_simp
         refine (TAG.out _ _ _ S0.out hA.out).mono ?_
         rintro e0 WC ⟨rfl, e⟩
         refine hK1.out _ _ (e.mono z0) ?_
         clear hK1 K1 hA
         (try replace hO := Lib.hid (hO.out.ext e))
         (try replace hB := Lib.hid (hB.out.ext e))
         (try replace hA := Lib.hid (hA.out.ext e))
         (try replace hL := Lib.hid ((e.block _ (heap_lt hL.out)).trans hL.out))
         replace S0 := Lib.hid (S0.out.trans e)
         have ze := e.size
         have z1 := Nat.le_trans z0 ze
         clear z0
         have z0 := z1
         clear z1 e
         (try simp only [Act.put, List.setIfInBounds_toArray, List.set_cons_zero, List.set_cons_succ])
         repeat (first | (refine seqT_read (fun _ => True) (fun _ _ => trivial) _ (v := ?_) rfl ?_ ?_ ?_; rotate_left; (· rfl); (· intro w' hF; go_simp; (try with_reducible rfl)); simp only [Act.put, List.setIfInBounds_toArray, List.set_cons_zero, List.set_cons_succ]) | (refine seqT_skip _ rfl ?_ ?_; (· rfl); simp only [Act.put, List.setIfInBounds_toArray, List.set_cons_zero, List.set_cons_succ]))
         skip)
      | (refine seqT_do (i := 11) _ rfl ?_ ?_ (fun K1 hK1 => ?_)
         (· rfl)
         rotate_left
         go_simp
         have e : Ext WC (WC.alloc (Obj.cells Z 23)) := (Ext.refl WC).alloc _
         obtain ⟨gL, hgL⟩ : ∃ g, g = WC.heap.size := ⟨_, rfl⟩
         have hL' := Lib.hid (heap_alloc_new WC (Obj.cells Z 23))
         rw [← hgL] at hL' ⊢
         have zl2 : wr.heap.size ≤ gL := by omega
         replace hgL := Lib.hid hgL
         refine hK1.out _ (WC.alloc (Obj.cells Z 23)) (e.mono z0) ?_
         clear hK1 K1
         (try replace hO := Lib.hid (hO.out.ext e))
         (try replace hB := Lib.hid (hB.out.ext e))
         (try replace hA := Lib.hid (hA.out.ext e))
         (try replace hL := Lib.hid ((e.block _ (heap_lt hL.out)).trans hL.out))
         replace S0 := Lib.hid (S0.out.trans e)
         have ze := e.size
         have z1 := Nat.le_trans z0 ze
         clear z0
         have z0 := z1
         clear z1 e
         have hL := hL'
         clear hL'
         generalize WC.alloc (Obj.cells Z 23) = WC at *
         (try simp only [Act.put, List.setIfInBounds_toArray, List.set_cons_zero, List.set_cons_succ])
         repeat (first | (refine seqT_read (fun _ => True) (fun _ _ => trivial) _ (v := ?_) rfl ?_ ?_ ?_; rotate_left; (· rfl); (· intro w' hF; go_simp; (try with_reducible rfl)); simp only [Act.put, List.setIfInBounds_toArray, List.set_cons_zero, List.set_cons_succ]) | (refine seqT_skip _ rfl ?_ ?_; (· rfl); simp only [Act.put, List.setIfInBounds_toArray, List.set_cons_zero, List.set_cons_succ]))
         skip)
      | (refine seqT_do (i := 12) _ rfl ?_ ?_ (fun K1 hK1 => ?_)
         (· rfl)
         rotate_left
         refine wp_store_row _ _ _ rfl gL (cellsOf M).toArray rfl rfl 23 Z hL.out (by rw [HM]; rfl) (by rw [HM]; exact hz0) HM1 ?_
         refine hK1.out _ _ (below_setRow (Below.refl _ _) zl2 _) ?_
         clear hK1 K1
         have S1 : Hid (Ext wr (WC.setRow gL (cellsOf M).toArray)) := below_setRow S0.out zl2 _
         have kx : Hid (Ky (WC.setRow gL (cellsOf M).toArray) gL M) := ⟨setRow_heap _ _ _ _ _ _ hL.out, ML⟩
         (try simp only [Act.put, List.setIfInBounds_toArray, List.set_cons_zero, List.set_cons_succ])
         repeat (first | (refine seqT_read (fun _ => True) (fun _ _ => trivial) _ (v := ?_) rfl ?_ ?_ ?_; rotate_left; (· rfl); (· intro w' hF; go_simp; (try with_reducible rfl)); simp only [Act.put, List.setIfInBounds_toArray, List.set_cons_zero, List.set_cons_succ]) | (refine seqT_skip _ rfl ?_ ?_; (· rfl); simp only [Act.put, List.setIfInBounds_toArray, List.set_cons_zero, List.set_cons_succ]))
         refine seqT_done ?_
         go_wp2_with fail
         go_meet
         exact ⟨gL, rfl, S1.out, kx.out⟩)
      )
      case rest =>
        obtain ⟨g, rfl, ex, kx⟩ := hcut
        have o1 := Lib.hid (own.out.ext ex)
        have K1 := Lib.hid (KY.out.ext ex)
        have E1 := Lib.hid (he.out.trans ex)
        have zc : w.heap.size + 1 ≤ wc.heap.size := Nat.le_trans kw ex.size
        have nO : ∀ g, Value.ownBlock (.slice O n oc) = some g → g < wc.heap.size := fun g hg => (World.ownsRow.lt o1.out g hg).2
        replace nO := Lib.hid nO
        replace kx := Lib.hid kx.bs
        clear own KY he TAG LB ex
        go_wp2_with (first
          | (at_builtin; (with_reducible refine wpList_append_bs rfl (B := wc.heap.size) (s := .tmp 35) (x := .tmp 36) rfl rfl rfl (Own.empty wc _ (Nat.le_refl _)) (kx.out.ext ((Ext.refl _).alloc _)) (by omega) (by simp) ?_); intro A9 c9 w9 o9 g9 b9; simp only [Nat.zero_add, List.nil_append] at o9 ⊢; replace o9 := Lib.hid o9; have e9 : Hid (Ext wc w9) := Below.trans ((Ext.refl wc).alloc _) b9; clear g9 b9; have z9 := Nat.le_trans zc e9.out.size; have l9 := Lib.hid o9.out.bs; simp only [Act.put, List.setIfInBounds_toArray, List.set_cons_zero, List.set_cons_succ])
          | (at_builtin; (with_reducible refine wpList_append_bs rfl (B := w.heap.size + 1) (s := .tmp 38) (x := .tmp 39) rfl rfl rfl (o1.out.ext e9.out) l9.out (by omega) z9 ?_); intro A10 c10 w10 o10 g10 b10; replace o10 := Lib.hid o10; replace g10 := Lib.hid g10; replace b10 := Lib.hid b10; simp only [Act.put, List.setIfInBounds_toArray, List.set_cons_zero, List.set_cons_succ]))
        refine ⟨⟨i + 1, j + 1, n + 32, A10, c10, A9, 32, c9, rfl, rfl, by go_num, by have := hj.out; omega, by have := hn.out; omega, by omega, Nat.le_refl _, ?_, ?_, ?_, ?_⟩, by have := hj.out; have := hn.out; simp [intOf]; omega⟩
        · exact Below.trans (E1.out.trans e9.out) (b10.out.mono (by omega))
        · exact ⟨(b10.out.block _ (by omega)).trans (K1.out.ext e9.out).1, hk⟩
        · rw [OS.out]; exact o10.out
        · have := (o9.out.kept g10.out (by
            cases hq : Value.ownBlock (.slice A9 32 c9) with
            | none => exact .inl rfl
            | some g' =>
              refine .inr fun q => ?_
              have h1 := o9.out.ge _ hq
              have h2 := nO.out g' q.symm
              omega)).bs
          rw [hM.out]
          exact this
    · have hS : spreadL ks ps m = (outL ks ps i).take m := by
        unfold spreadL
        rw [show (m + 31) / 32 = i by omega]
      replace hS := Lib.hid hS
      have B := own.bs
      have BT := Lib.hid (B.take (k := m) (by omega))
      have n1 := B.le
      have n2 := B.cap
      rcases own.2 with ⟨hv, hn0⟩ | ⟨g, cap, cur, hv, _⟩
      · injection hv with p1 p2 p3
        subst p1 p3
        obtain rfl : n = 0 := hn0
        obtain rfl : m = 0 := by omega
        clear own lb B ky
        replace hn := Lib.hid hn
        replace hj := Lib.hid hj
        go_wp2_with fail
        go_ret2
        exact ⟨_, _, _, rfl, by rw [hS.out]; exact BT.out, he⟩
      · injection hv with p1 p2 p3
        subst p1 p3
        clear own lb B ky
        replace hn := Lib.hid hn
        replace hj := Lib.hid hj
        go_wp2_with fail
        go_ret2
        exact ⟨_, _, _, rfl, by rw [hS.out]; exact BT.out, he⟩
end Go.Proofs.YthdjojindijmnaaDoor
