/-
  head.Bytes.
-/
import Derived.Test.YtbnjmmefnjoofaaDoorHeadV
import Derived.Test.YtbnjmmefnjoofaaDoorHighB
import Derived.Test.YtbnjmmefnjoofaaDoorOwn
import Derived.Test.YtbnjmmefnjoofaaDoorCbBs
namespace Go.Proofs.YtbnjmmefnjoofaaDoor
open Go.ChangeShapes Go.WideShapes Go.ChangeAt Go.RowKit Go.Deep
set_option maxRecDepth 100000

def high4 (n : Nat) : List UInt8 := (lowL n 4).reverse
theorem high4_len (n : Nat) : (high4 n).length = 4 := by rw [high4, List.length_reverse, lowL_len]
def headL (pk : List UInt8) (p n : Nat) : List UInt8 := (pk ++ high4 p) ++ high4 n
theorem headL_len {pk : List UInt8} (h : pk.length = 32) (p n : Nat) : (headL pk p n).length = 40 := by simp [headL, high4_len, h]
theorem hd_cells {pk : List UInt8} (lp : pk.length = 32) (p n : Int) : hdC pk p n = [] ++ (cellsOf pk ++ [.int .i64 p, .int .i64 n]) ∧ (hdC pk p n)[32]? = some (.int .i64 p) ∧ (hdC pk p n)[33]? = some (.int .i64 n) := by
  refine ⟨by simp [hdC], ?_, ?_⟩
  · unfold hdC; rw [List.getElem?_append_right (by rw [cellsOf_len, lp]; omega)]; simp [cellsOf_len, lp]
  · unfold hdC; rw [List.getElem?_append_right (by rw [cellsOf_len, lp]; omega)]; simp [cellsOf_len, lp]
set_option maxHeartbeats 2000000 in
theorem headBytes_bad {w : World} {pk : List UInt8} {p n : Int} (lp : pk.length = 32) (hb : okH p n = false) : Calls Tryd.prog 68 #[.agg (hdC pk p n).toArray] w fun e w' => e = .returned (.tuple #[.slice none 0 0, .int .i64 1]) ∧ Ext w w' := by
  have VH := Lib.hid (fun (W : World) => validHead_calls (w := W) (p := p) (n := n) lp)
  rw [hb] at VH
  have L_hd := hdC_len lp p n
  generalize hdC pk p n = hd at *
  have S_hd : hd.toArray.size = 34 := by rw [List.size_toArray, L_hd]
  have B0 : Hid (Cb (w.alloc (Obj.cells hd.toArray 34)) w.heap.size 34 hd ∧ Ext w (w.alloc (Obj.cells hd.toArray 34))) := ⟨Cb.new _ _ _, (Ext.refl w).alloc _⟩
  go_enter Tryd.func68, Tryd.ntmps68
  go_upto_region 1 with fail
  refine wp_gen (fun W => Cb W w.heap.size 34 hd ∧ Ext w W) B0.out ?_
  clear B0
  rintro w0 ⟨k0, x0⟩
  replace k0 := Lib.hid k0
  replace x0 := Lib.hid x0
  go_wp2_with (refine wpList_load_row rfl 34 _ rfl w.heap.size rfl 34 hd.toArray (0, 0) _ k0.out rfl rfl (by rw [S_hd]; rfl) ?_; go_frame)
  refine (VH.out _).mono ?_
  rintro e w1 ⟨rfl, e1⟩
  go_wp2_with fail
  go_ret2
  exact ⟨rfl, x0.out.trans e1⟩
set_option maxHeartbeats 4000000 in
theorem headBytes_ok {w : World} {pk : List UInt8} {p n : Nat} (lp : pk.length = 32) (hp : p ≤ 1000000) (hn : n ≤ 1000000) : Calls Tryd.prog 68 #[.agg (hdC pk (p : Int) (n : Int)).toArray] w (RetBsE (headL pk p n) 0 w) := by
  have hb : okH (p : Int) (n : Int) = true := by
    unfold okH upB
    rw [decide_eq_true (show (0 : Int) ≤ (p : Int) by omega), decide_eq_true (show (p : Int) ≤ 1000000 by omega), decide_eq_true (show (0 : Int) ≤ (n : Int) by omega), decide_eq_true (show (n : Int) ≤ 1000000 by omega)]
    rfl
  have VH := Lib.hid (fun (W : World) => validHead_calls (w := W) (p := (p : Int)) (n := (n : Int)) lp)
  rw [hb] at VH
  have HP : Hid (∀ W, Calls Tryd.prog 41 #[.int .u64 (p : Int), .int .i64 4] W (RetBs (high4 p) W)) := fun W => high_calls (by omega) (by omega) (by omega) (by omega) rfl
  have HN : Hid (∀ W, Calls Tryd.prog 41 #[.int .u64 (n : Int), .int .i64 4] W (RetBs (high4 n) W)) := fun W => high_calls (by omega) (by omega) (by omega) (by omega) rfl
  have u1 : IntKind.u64.wrap (p : Int) = (p : Int) := IntWalk.u64_in _ (by omega)
  have u2 : IntKind.u64.wrap (n : Int) = (n : Int) := IntWalk.u64_in _ (by omega)
  obtain ⟨c0, c32, c33⟩ := hd_cells lp (p : Int) (n : Int)
  have L_hd := hdC_len lp (p : Int) (n : Int)
  have hR : Hid ((pk ++ high4 p) ++ high4 n = headL pk p n) := rfl
  replace c0 := Lib.hid (fun _ : Unit => c0)
  replace c32 := Lib.hid c32
  replace c33 := Lib.hid c33
  generalize headL pk p n = hl at *
  generalize hdC pk (p : Int) (n : Int) = hd at *
  have lP := high4_len p
  have lN := high4_len n
  generalize high4 p = hp4 at *
  generalize high4 n = hn4 at *
  clear hb hp hn
  have S_hd : hd.toArray.size = 34 := by rw [List.size_toArray, L_hd]
  obtain ⟨r, hr⟩ : ∃ r, r = w.heap.size := ⟨_, rfl⟩
  have B0 : Hid (Cb (w.alloc (Obj.cells hd.toArray 34)) r 34 hd ∧ Ext w (w.alloc (Obj.cells hd.toArray 34))) := by rw [hr]; exact ⟨Cb.new _ _ _, (Ext.refl w).alloc _⟩
  go_enter Tryd.func68, Tryd.ntmps68
  go_upto_region 1 with fail
  refine wp_gen (fun W => Cb W r 34 hd ∧ Ext w W) B0.out ?_
  rw [← hr]
  have wr : w.heap.size ≤ r := Nat.le_of_eq hr.symm
  clear B0
  replace hr := Lib.hid hr
  rintro w0 ⟨k0, x0⟩
  replace k0 := Lib.hid k0
  replace x0 := Lib.hid x0
  go_wp2_with (refine wpList_load_row rfl 34 _ rfl r rfl 34 hd.toArray (0, 0) _ k0.out rfl rfl (by rw [S_hd]; rfl) ?_; go_frame)
  refine (VH.out _).mono ?_
  rintro e w1 ⟨rfl, e1⟩
  have k1 := Lib.hid (k0.out.ext e1)
  have x1 := Lib.hid (x0.out.trans e1)
  have r1 : r + 1 ≤ w1.heap.size := (k0.out.ext e1).lt
  have b1 := Lib.hid (k1.out.bs (c0.out ()) rfl lp (by omega))
  clear k0 x0 e1 VH
  go_upto_region 4 with (at_builtin; (with_reducible refine wpList_append_bs rfl (B := r + 1) (s := .const (.slice none 0 0)) (x := .tmp 9) rfl rfl rfl (Own.nil _ _) b1.out (by omega) r1 ?_); intro A2 c2 w2 o2 g2 b2; simp only [Nat.zero_add, List.nil_append] at o2 ⊢; replace o2 := Lib.hid o2; clear g2; replace b2 := Lib.hid b2; go_frame)
  refine wp_gen (fun W => Own (r + 1) W A2 32 c2 pk ∧ Cb W r 34 hd ∧ Ext w W) ⟨o2.out, k1.out.kept b2.out (by omega), Below.trans x1.out (b2.out.mono (by omega))⟩ ?_
  clear o2 b2 b1 k1 x1 r1
  rintro w3 ⟨o3, k3, x3⟩
  have b3 := k3.cell c32.out
  replace o3 := Lib.hid o3
  replace k3 := Lib.hid k3
  replace x3 := Lib.hid x3
  go_wp2_with fail
  refine (HP.out _).mono ?_
  rintro e w4 ⟨A4, n4, c4, rfl, b4, e4⟩
  obtain rfl : n4 = 4 := by rw [← b4.len, lP]
  have o4 := Lib.hid (o3.out.ext e4)
  have k4 := Lib.hid (k3.out.ext e4)
  have x4 := Lib.hid (x3.out.trans e4)
  have r4 : r + 1 ≤ w4.heap.size := (k3.out.ext e4).lt
  replace b4 := Lib.hid b4
  clear b3 o3 k3 x3 e4 HP
  go_upto_region 5 with (at_builtin; (with_reducible refine wpList_append_bs rfl (B := r + 1) (s := .tmp 11) (x := .tmp 15) rfl rfl rfl o4.out b4.out (by omega) r4 ?_); intro A5 c5 w5 o5 g5 b5; replace o5 := Lib.hid o5; clear g5; replace b5 := Lib.hid b5; go_frame)
  refine wp_gen (fun W => Own (r + 1) W A5 (32 + 4) c5 (pk ++ hp4) ∧ Cb W r 34 hd ∧ Ext w W) ⟨o5.out, k4.out.kept b5.out (by omega), Below.trans x4.out (b5.out.mono (by omega))⟩ ?_
  clear o5 b5 o4 b4 k4 x4 r4
  rintro w6 ⟨o6, k6, x6⟩
  have b6 := k6.cell c33.out
  replace o6 := Lib.hid o6
  replace k6 := Lib.hid k6
  replace x6 := Lib.hid x6
  go_wp2_with fail
  refine (HN.out _).mono ?_
  rintro e w7 ⟨A7, n7, c7, rfl, b7, e7⟩
  obtain rfl : n7 = 4 := by rw [← b7.len, lN]
  have o7 := Lib.hid (o6.out.ext e7)
  have x7 := Lib.hid (x6.out.trans e7)
  have r7 : r + 1 ≤ w7.heap.size := (k6.out.ext e7).lt
  replace b7 := Lib.hid b7
  clear b6 o6 k6 x6 e7 HN
  go_wp2_with (at_builtin; (with_reducible refine wpList_append_bs rfl (B := r + 1) (s := .tmp 17) (x := .tmp 21) rfl rfl rfl o7.out b7.out (by omega) r7 ?_); intro A8 c8 w8 o8 g8 b8; replace o8 := Lib.hid o8; clear g8; replace b8 := Lib.hid b8; go_frame)
  go_ret2
  exact ⟨A8, _, c8, rfl, by rw [← hR.out]; exact o8.out.bs, Below.trans x7.out (b8.out.mono (by omega))⟩
end Go.Proofs.YtbnjmmefnjoofaaDoor
