/-
  palfreylaw11.awake.
-/
import Derived.Test.YtonjialkfbbhpaaSkCopy
namespace Go.Proofs.Ytonjialkfbbhpaa
open Go.ChangeShapes Go.WideShapes Go.ChangeAt Go.RowKit Go.Deep Go.Maps
set_option maxRecDepth 100000

/-- The key of one byte. -/
def keyB (x : UInt8) : List UInt8 := x :: List.replicate 31 0
theorem keyB_len (x : UInt8) : (keyB x).length = 32 := rfl
theorem hasK_one (pk : List UInt8) (n : Int) (k : List UInt8) (p : Int) : hasK [⟨pk, n, k, p⟩] pk n = true := by simp [hasK, Kp.at]
theorem theK_one (pk : List UInt8) (n : Int) (k : List UInt8) (p : Int) : theK [⟨pk, n, k, p⟩] pk n = ⟨pk, n, k, p⟩ := by simp [theK, Kp.at]
theorem takeL_one (pk : List UInt8) (n : Int) (k : List UInt8) (p : Int) : takeL [⟨pk, n, k, p⟩] pk n = [] := by simp [takeL, Kp.at]
theorem putE_nil (pk : List UInt8) {n : Int} (h : 0 ≤ n) : putE [] pk n = 0 := by
  unfold putE
  rw [if_neg (by omega)]
  rfl
theorem putR_nil (pk : List UInt8) {n : Int} (h : 0 ≤ n) (k : List UInt8) (p : Int) : putR [] ⟨pk, n, k, p⟩ = [⟨pk, n, k, p⟩] := by
  unfold putR
  rw [if_pos (putE_nil pk h)]
  rfl
set_option maxHeartbeats 4000000 in
theorem awake11_calls {w : World} : Calls Try.prog 12 #[] w fun e w' => e = .returned (.bool true) ∧ Ext w w' := by
  have NW := Lib.hid (fun (W : World) => snew_calls (w := W))
  have hal3 := key_alloc
  have B1 : Try.prog.built 31 [(0, .int .u8 1)] = some (cellsOf (keyB 1)).toArray := by kernel_rfl
  have B3 : Try.prog.built 31 [(0, .int .u8 3)] = some (cellsOf (keyB 3)).toArray := by kernel_rfl
  replace B1 := Lib.hid B1
  replace B3 := Lib.hid B3
  have L_1 := keyB_len 1
  have L_3 := keyB_len 3
  have E0 := putE_nil (keyB 1) (n := 2) (by omega)
  have R0 := fun p => putR_nil (keyB 1) (n := 2) (by omega) (keyB 3) p
  have H1 := fun p => hasK_one (keyB 1) 2 (keyB 3) p
  have T1 : ∀ p, (theK [⟨keyB 1, 2, keyB 3, p⟩] (keyB 1) 2).k = keyB 3 := fun p => by rw [theK_one]
  have D1 := fun p => takeL_one (keyB 1) 2 (keyB 3) p
  have H2 : hasK [] (keyB 1) 2 = false := rfl
  have T2 : (theK [] (keyB 1) 2).k = List.replicate 32 0 := rfl
  have D2 : takeL [] (keyB 1) 2 = [] := rfl
  generalize keyB 1 = k1 at *
  generalize keyB 3 = k3 at *
  have S_3 : (cellsOf k3).toArray.size = 32 := by simp [cellsOf_len, L_3]
  have O_3 := one_cells (one_mem k3)
  have S_Z := zeros32_size
  have O_Z := zeros32_one
  go_enter Try.func12, Try.ntmps12
  go_wp2_with fail
  refine (NW.out _).mono ?_
  rintro e w1 ⟨g, b, rfl, gg, gb, s1, x1⟩
  have PT := sput_calls s1 (pk := k1) (k := k3) (n := 2) L_1 L_3 (by omega) (by simp) (by omega)
  rw [E0, R0] at PT
  replace PT := Lib.hid PT
  replace x1 := Lib.hid x1
  clear NW s1 E0 R0
  go_wp2_with (first
    | ((with_reducible refine wpList_exec (o := ⟨some 11, .build 31 _, _, _, _, _⟩) (v := .agg (cellsOf k1).toArray) ?_ ?_ ?_); (· rfl); (· refine exec_build_as rfl ?_; simp only [List.map_toArray, List.map_cons, List.map_nil]; exact B1.out); simp only [Act.put, List.setIfInBounds_toArray, List.set_cons_zero, List.set_cons_succ])
    | ((with_reducible refine wpList_exec (o := ⟨some 12, .build 31 _, _, _, _, _⟩) (v := .agg (cellsOf k3).toArray) ?_ ?_ ?_); (· rfl); (· refine exec_build_as rfl ?_; simp only [List.map_toArray, List.map_cons, List.map_nil]; exact B3.out); simp only [Act.put, List.setIfInBounds_toArray, List.set_cons_zero, List.set_cons_succ]))
  refine PT.out.mono ?_
  rintro e w2 ⟨rfl, ⟨p, p1, p2, _, _, s2⟩, t2⟩
  have X2 : Hid (Ext w w2) := t2.ext x1.out gg gb
  have TK := stake_calls s2 (pk := k1) (n := 2) L_1 (by omega)
  rw [H1, T1, D1] at TK
  replace TK := Lib.hid TK
  clear PT x1 t2 s2 H1 T1 D1
  go_wp2_with ((with_reducible refine wpList_exec (o := ⟨some 16, .build 31 _, _, _, _, _⟩) (v := .agg (cellsOf k1).toArray) ?_ ?_ ?_); (· rfl); (· refine exec_build_as rfl ?_; simp only [List.map_toArray, List.map_cons, List.map_nil]; exact B1.out); simp only [Act.put, List.setIfInBounds_toArray, List.set_cons_zero, List.set_cons_succ])
  refine TK.out.mono ?_
  rintro e w3 ⟨rfl, s3, t3⟩
  have X3 := t3.ext X2.out gg gb
  have K4 : Hid (Cb ((w3.alloc (.cells zeros32 31)).setRow w3.heap.size (cellsOf k3).toArray) w3.heap.size 31 (cellsOf k3) ∧ SK ((w3.alloc (.cells zeros32 31)).setRow w3.heap.size (cellsOf k3).toArray) g b [] p ∧ Ext w ((w3.alloc (.cells zeros32 31)).setRow w3.heap.size (cellsOf k3).toArray)) :=
    ⟨setRow_heap _ _ _ _ _ _ (heap_alloc_new w3 (.cells zeros32 31)), s3.ext (Ext.newRow _ _ _), X3.trans (Ext.newRow _ _ _)⟩
  have gl3 : g < w3.heap.size := s3.cb.lt
  have bl3 : b < w3.heap.size := s3.mp.lt
  clear TK X2 t3 s3 X3
  go_upto_region 6 with (refine wpList_store_row rfl 31 _ _ rfl w3.heap.size (cellsOf k3).toArray rfl rfl 31 zeros32 (heap_alloc_new _ _) (by rw [S_3]; rfl) (by rw [S_3, S_Z]) O_3 ?_; simp only [Act.put])
  refine wp_gen (fun W => Cb W w3.heap.size 31 (cellsOf k3) ∧ SK W g b [] p ∧ Ext w W) K4.out ?_
  generalize w3.heap.size = r3 at *
  clear K4 w3
  rintro w4 ⟨k4, s4, x4⟩
  have TK := stake_calls s4 (pk := k1) (n := 2) L_1 (by omega)
  rw [H2, T2, D2] at TK
  replace TK := Lib.hid TK
  obtain ⟨z, hz⟩ : ∃ z, z = List.replicate 32 (0 : UInt8) := ⟨_, rfl⟩
  rw [← hz] at TK
  have S_zz : (cellsOf z).toArray.size = 32 := by rw [hz]; rfl
  have O_zz := one_cells (one_mem z)
  replace hz := Lib.hid hz
  replace k4 := Lib.hid k4
  replace x4 := Lib.hid x4
  clear s4 H2 T2 D2
  go_wp2_with ((with_reducible refine wpList_exec (o := ⟨some 22, .build 31 _, _, _, _, _⟩) (v := .agg (cellsOf k1).toArray) ?_ ?_ ?_); (· rfl); (· refine exec_build_as rfl ?_; simp only [List.map_toArray, List.map_cons, List.map_nil]; exact B1.out); simp only [Act.put, List.setIfInBounds_toArray, List.set_cons_zero, List.set_cons_succ])
  refine TK.out.mono ?_
  rintro e w5 ⟨rfl, s5, t5⟩
  have k5 := t5.block k4.out (by omega) (by omega)
  have X5 := t5.ext x4.out gg gb
  have K6 : Hid (Cb ((w5.alloc (.cells zeros32 31)).setRow w5.heap.size (cellsOf z).toArray) r3 31 (cellsOf k3) ∧ SK ((w5.alloc (.cells zeros32 31)).setRow w5.heap.size (cellsOf z).toArray) g b [] p ∧ Ext w ((w5.alloc (.cells zeros32 31)).setRow w5.heap.size (cellsOf z).toArray)) :=
    ⟨Cb.ext k5 (Ext.newRow _ _ _), s5.ext (Ext.newRow _ _ _), X5.trans (Ext.newRow _ _ _)⟩
  clear TK x4 k4 t5 s5 X5 k5
  go_upto_region 7 with (refine wpList_store_row rfl 31 _ _ rfl w5.heap.size (cellsOf z).toArray rfl rfl 31 zeros32 (heap_alloc_new _ _) (by rw [S_zz]; rfl) (by rw [S_zz, S_Z]) O_zz ?_; simp only [Act.put])
  refine wp_gen (fun W => Cb W r3 31 (cellsOf k3) ∧ SK W g b [] p ∧ Ext w W) K6.out ?_
  generalize w5.heap.size = r5 at *
  clear K6 w5
  rintro w6 ⟨k6, s6, x6⟩
  have LE := Lib.hid (slen_calls s6)
  replace k6 := Lib.hid k6
  replace x6 := Lib.hid x6
  clear s6
  go_wp2_with (first
    | ((with_reducible refine wpList_load_rowW (o := ⟨some 32, _, _, _, _, _⟩) ?_ 31 _ rfl r3 ?_ 31 (cellsOf k3).toArray (0, 0) _ ?_ Try.underlying31 ?_ ?_ ?_); (· rfl); (· rfl); (· exact k6.out); (· rfl); (· rw [S_3]; rfl); simp only [Act.put, List.setIfInBounds_toArray, List.set_cons_zero, List.set_cons_succ])
    | ((with_reducible refine wpList_exec (o := ⟨some 33, .build 31 _, _, _, _, _⟩) (v := .agg (cellsOf k3).toArray) ?_ ?_ ?_); (· rfl); (· refine exec_build_as rfl ?_; simp only [List.map_toArray, List.map_cons, List.map_nil]; exact B3.out); simp only [Act.put, List.setIfInBounds_toArray, List.set_cons_zero, List.set_cons_succ])
    | ((with_reducible refine wpList_eql_keyB (o := ⟨some 34, _, _, _, _, _⟩) ?_ _ _ _ rfl k3 k3 true ?_ ?_ ?_ L_3 L_3 ?_); (· rfl); (· exact (decide_eq_true rfl)); (· rfl); (· rfl); simp only [Act.put, List.setIfInBounds_toArray, List.set_cons_zero, List.set_cons_succ]))
  refine LE.out.mono ?_
  rintro e w7 ⟨rfl, x7⟩
  replace x7 := Lib.hid x7
  clear LE
  go_wp2_with fail
  go_ret
  exact ⟨rfl, x6.out.trans x7.out⟩
end Go.Proofs.Ytonjialkfbbhpaa
