import Derived.Test.YtojgmgghlkpfoaaPkJ
import Derived.Test.YtojgmgghlkpfoaaPkG
import Derived.Test.YtojgmgghlkpfoaaPkI
section
/-
  A literal of one byte. No conditions.
-/
namespace Go.Proofs.Ytojgmgghlkpfoaa
open Go.ChangeShapes Go.WideShapes Go.ChangeAt Go.RowKit Go.Deep

theorem Bs.lit8 (w : World) (t : TypeId) (xs : List UInt8) (cs : Array Value) (hcs : cs = (xs.map fun x => Value.int .u8 (x.toNat : Int)).toArray) (n : Nat) (hn : xs.length = n) (hm : n ≤ 1000000) :
    Bs (w.alloc (.cells cs t)) (some ⟨w.heap.size, 0, none⟩) n n xs := by
  subst hcs
  have hr := World.rowIs_alloc w (xs.map fun x => Value.int .u8 (x.toNat : Int)).toArray t (fun i => .int .u8 (bt xs i : Int)) (fun i hi => by
    have hi' : i < xs.length := by simpa using hi
    simp [bt, List.getD, hi'])
  refine ⟨hn, Nat.le_refl _, by unfold maxLen; omega, fun _ => ⟨w.heap.size, 0, rfl, by simp, fun j hj => ?_⟩⟩
  rw [Nat.zero_add]
  exact hr.cell (by simp; omega)
theorem Bs.one8 (w : World) (t : TypeId) (x : UInt8) (v : Int) (hv : v = (x.toNat : Int)) : Bs (w.alloc (.cells #[.int .u8 v] t)) (some ⟨w.heap.size, 0, none⟩) 1 1 [x] :=
  Bs.lit8 w t [x] _ (by rw [hv]; rfl) 1 rfl (by omega)
end Go.Proofs.Ytojgmgghlkpfoaa
end

section
/-
  The document's High.
-/
namespace Go.Proofs.Ytojgmgghlkpfoaa
open Go.ChangeShapes Go.WideShapes Go.ChangeAt Go.RowKit Go.Deep

theorem lowL_snoc (n k : Nat) : lowL n (k + 1) = lowL n k ++ [UInt8.ofNat (n / 256 ^ k)] := by
  unfold lowL
  rw [List.range_succ, List.map_append]
  rfl
theorem lowAt_u8 (n k : Nat) : (lowAt n k : Int) % 256 = ((UInt8.ofNat (n / 256 ^ k)).toNat : Int) := by
  rw [lowAt_byte, UInt8.toNat_ofNat']

theorem Own.one8 (w : World) (B : Nat) (hB : B ≤ w.heap.size) (x : UInt8) (v : Int) (hv : v = (x.toNat : Int)) : Own B (w.alloc (.cells #[.int .u8 v] 5)) (some ⟨w.heap.size, 0, none⟩) 1 1 [x] := by
  subst hv
  exact World.ownsRow_lit (e := 5) (size := 1) w #[.int .u8 (x.toNat : Int)] 1 hB (by unfold maxLen; omega) rfl

set_option maxHeartbeats 1000000 in
theorem refHigh_calls {n m : Nat} {many : Int} {w : World} (hn : n < 18446744073709551616) (h1 : 0 ≤ many) (h2 : many ≤ 9223372036854775807) (hm8 : m ≤ 8) (hM : (if (8 : Int) < many then 8 else many) = (m : Int)) :
    Calls Try.prog 33 #[.int .u64 (n : Int), .int .i64 many] w (RetBs (lowL n m).reverse w) := by
  have hz : lowAt n 0 = n := by simp [lowAt]
  have hM' : m = many ∨ (m = 8 ∧ 8 < many) := by
    by_cases q : (8 : Int) < many
    · rw [if_pos q] at hM; right; omega
    · rw [if_neg q] at hM; left; omega
  clear hM
  go_enter Try.func33, Try.ntmps33
  go_wp2
  go_loopw [0, 5, 6] (fun x v i wr => ∃ (k cc : Nat) (D : Option Addr), k ≤ m ∧ i = .int .i64 k ∧ x = .int .u64 (lowAt n k : Int) ∧ v = .slice D k cc ∧ Bs wr D k cc (lowL n k).reverse ∧ Ext w wr) (fun _ _ i _ => m - (intOf i).toNat)
  case atStart => exact ⟨0, 0, none, Nat.zero_le _, rfl, by rw [hz], rfl, Bs.nil _, Ext.refl _⟩
  case round =>
    obtain ⟨k, cc, D, hk, rfl, rfl, rfl, ho, hE⟩ := hrel
    clear hz
    by_cases hlt : k < m
    · have t1 : (k : Int) < 8 := by omega
      have t2 : (k : Int) < many := by omega
      have hle := Nat.lt_of_le_of_lt (lowAt_le n k) hn
      have hsz := hE.size
      have hv := Lib.hid (lowAt_u8 n k)
      clear hM'
      go_wp2_with (at_builtin; refine wpList_append_bs rfl (B := w.heap.size) rfl rfl rfl (Own.one8 wr w.heap.size hsz (UInt8.ofNat (n / 256 ^ k)) _ hv.out) (ho.ext ((Ext.refl _).alloc _)) (by omega) (by simp; omega) ?_; intro D' cc' w2 ho2 hg2 hbl)
      go_roundw
      case rel => exact ⟨k + 1, cc', D', by omega, by go_num, congrArg (Value.int .u64) (lowAt_int n k), by rw [Nat.add_comm], by rw [lowL_snoc, List.reverse_append, Nat.add_comm k 1]; exact ho2.bs, (hE.alloc _).trans' hbl⟩
      case measure => simp [intOf]; omega
    · obtain rfl : k = m := by omega
      rcases hM' with hM' | ⟨rfl, hM'⟩
      · subst hM'
        go_wp2
        go_ret
        exact ⟨_, _, _, rfl, ho, hE⟩
      · go_wp2
        go_ret
        exact ⟨_, _, _, rfl, ho, hE⟩
end Go.Proofs.Ytojgmgghlkpfoaa
end

section
/-
  palfreyref12.Bytes.
-/
namespace Go.Proofs.Ytojgmgghlkpfoaa
open Go.ChangeShapes Go.WideShapes Go.ChangeAt Go.RowKit Go.Deep
set_option maxRecDepth 100000

set_option maxHeartbeats 2000000 in
theorem refBytes_bad {w : World} {pk : List UInt8} {p n : Int} (lp : pk.length = 32) (hb : okH p n = false) : Calls Try.prog 14 #[.agg (hdC pk p n).toArray] w fun e w' => e = .returned (.tuple #[.slice none 0 0, .int .i64 1]) ∧ Ext w w' := by
  have VH := Lib.hid (fun (W : World) => right_calls (w := W) (p := p) (n := n) lp)
  rw [hb] at VH
  have L_hd := hdC_len lp p n
  generalize hdC pk p n = hd at *
  have S_hd : hd.toArray.size = 34 := by rw [List.size_toArray, L_hd]
  have B0 : Hid (Cb (w.alloc (Obj.cells hd.toArray 25)) w.heap.size 25 hd ∧ Ext w (w.alloc (Obj.cells hd.toArray 25))) := ⟨Cb.new _ _ _, (Ext.refl w).alloc _⟩
  go_enter Try.func14, Try.ntmps14
  go_upto_region 1 with fail
  refine wp_gen (fun W => Cb W w.heap.size 25 hd ∧ Ext w W) B0.out ?_
  clear B0
  rintro w0 ⟨k0, x0⟩
  replace k0 := Lib.hid k0
  replace x0 := Lib.hid x0
  go_wp2_with (refine wpList_load_row rfl 25 _ rfl w.heap.size rfl 25 hd.toArray (0, 0) _ k0.out rfl rfl (by rw [S_hd]; rfl) ?_; simp only [Act.put, List.setIfInBounds_toArray, List.set_cons_zero, List.set_cons_succ])
  refine (VH.out _).mono ?_
  rintro e w1 ⟨rfl, e1⟩
  go_wp2_with fail
  go_ret2
  exact ⟨rfl, x0.out.trans e1⟩
set_option maxHeartbeats 4000000 in
theorem refBytes_ok {w : World} {pk : List UInt8} {p n : Nat} (lp : pk.length = 32) (hp : p ≤ 1000000) (hn : n ≤ 1000000) : Calls Try.prog 14 #[.agg (hdC pk (p : Int) (n : Int)).toArray] w (RetBsE (headL pk p n) 0 w) := by
  have hb : okH (p : Int) (n : Int) = true := by
    unfold okH upB
    rw [decide_eq_true (show (0 : Int) ≤ (p : Int) by omega), decide_eq_true (show (p : Int) ≤ 1000000 by omega), decide_eq_true (show (0 : Int) ≤ (n : Int) by omega), decide_eq_true (show (n : Int) ≤ 1000000 by omega)]
    rfl
  have VH := Lib.hid (fun (W : World) => right_calls (w := W) (p := (p : Int)) (n := (n : Int)) lp)
  rw [hb] at VH
  have HP : Hid (∀ W, Calls Try.prog 33 #[.int .u64 (p : Int), .int .i64 4] W (RetBs (high4 p) W)) := fun W => refHigh_calls (by omega) (by omega) (by omega) (by omega) rfl
  have HN : Hid (∀ W, Calls Try.prog 33 #[.int .u64 (n : Int), .int .i64 4] W (RetBs (high4 n) W)) := fun W => refHigh_calls (by omega) (by omega) (by omega) (by omega) rfl
  have u1 : IntKind.u64.wrap (p : Int) = (p : Int) := IntWalk.u64_in _ (by omega)
  have u2 : IntKind.u64.wrap (n : Int) = (n : Int) := IntWalk.u64_in _ (by omega)
  obtain ⟨c0, c32, c33⟩ := hd_cells lp (p : Int) (n : Int)
  have L_hd := hdC_len lp (p : Int) (n : Int)
  have hR : Hid ((pk ++ high4 p) ++ high4 n = headL pk p n) := rfl
  replace c0 := Lib.hid (fun _ : Unit => c0)
  replace c32 := Lib.hid c32
  replace c33 := Lib.hid c33
  generalize headL pk p n = hl at *
  generalize hdC pk (p : Int) (n : Int) = hd at *
  have lP := high4_len p
  have lN := high4_len n
  generalize high4 p = hp4 at *
  generalize high4 n = hn4 at *
  clear hb hp hn
  have S_hd : hd.toArray.size = 34 := by rw [List.size_toArray, L_hd]
  obtain ⟨r, hr⟩ : ∃ r, r = w.heap.size := ⟨_, rfl⟩
  have B0 : Hid (Cb (w.alloc (Obj.cells hd.toArray 25)) r 25 hd ∧ Ext w (w.alloc (Obj.cells hd.toArray 25))) := by rw [hr]; exact ⟨Cb.new _ _ _, (Ext.refl w).alloc _⟩
  go_enter Try.func14, Try.ntmps14
  go_upto_region 1 with fail
  refine wp_gen (fun W => Cb W r 25 hd ∧ Ext w W) B0.out ?_
  rw [← hr]
  have wr : w.heap.size ≤ r := Nat.le_of_eq hr.symm
  clear B0
  replace hr := Lib.hid hr
  rintro w0 ⟨k0, x0⟩
  replace k0 := Lib.hid k0
  replace x0 := Lib.hid x0
  go_wp2_with (refine wpList_load_row rfl 25 _ rfl r rfl 25 hd.toArray (0, 0) _ k0.out rfl rfl (by rw [S_hd]; rfl) ?_; simp only [Act.put, List.setIfInBounds_toArray, List.set_cons_zero, List.set_cons_succ])
  refine (VH.out _).mono ?_
  rintro e w1 ⟨rfl, e1⟩
  have k1 := Lib.hid (k0.out.ext e1)
  have x1 := Lib.hid (x0.out.trans e1)
  have r1 : r + 1 ≤ w1.heap.size := (k0.out.ext e1).lt
  have b1 := Lib.hid (k1.out.bs (c0.out ()) rfl lp (by omega))
  clear k0 x0 e1 VH
  go_upto_region 4 with (at_builtin; (with_reducible refine wpList_append_bs rfl (B := r + 1) (s := .tmp 8) (x := .tmp 10) rfl rfl rfl (Own.empty w1 _ r1) (b1.out.ext ((Ext.refl _).alloc _)) (by omega) (by simp; omega) ?_); intro A2 c2 w2 o2 g2 b2; simp only [Nat.zero_add, List.nil_append] at o2 ⊢; replace o2 := Lib.hid o2; clear g2; replace b2 : Hid (Below (r + 1) w1 w2) := Below.trans (((Ext.refl w1).alloc _).mono r1) b2; simp only [Act.put, List.setIfInBounds_toArray, List.set_cons_zero, List.set_cons_succ])
  refine wp_gen (fun W => Own (r + 1) W A2 32 c2 pk ∧ Cb W r 25 hd ∧ Ext w W) ⟨o2.out, k1.out.kept b2.out (by omega), Below.trans x1.out (b2.out.mono (by omega))⟩ ?_
  clear o2 b2 b1 k1 x1 r1
  rintro w3 ⟨o3, k3, x3⟩
  have b3 := k3.cell c32.out
  replace o3 := Lib.hid o3
  replace k3 := Lib.hid k3
  replace x3 := Lib.hid x3
  go_wp2_with fail
  refine (HP.out _).mono ?_
  rintro e w4 ⟨A4, n4, c4, rfl, b4, e4⟩
  obtain rfl : n4 = 4 := by rw [← b4.len, lP]
  have o4 := Lib.hid (o3.out.ext e4)
  have k4 := Lib.hid (k3.out.ext e4)
  have x4 := Lib.hid (x3.out.trans e4)
  have r4 : r + 1 ≤ w4.heap.size := (k3.out.ext e4).lt
  replace b4 := Lib.hid b4
  clear b3 o3 k3 x3 e4 HP
  go_upto_region 5 with (at_builtin; (with_reducible refine wpList_append_bs rfl (B := r + 1) (s := .tmp 12) (x := .tmp 16) rfl rfl rfl o4.out b4.out (by omega) r4 ?_); intro A5 c5 w5 o5 g5 b5; replace o5 := Lib.hid o5; clear g5; replace b5 := Lib.hid b5; simp only [Act.put, List.setIfInBounds_toArray, List.set_cons_zero, List.set_cons_succ])
  refine wp_gen (fun W => Own (r + 1) W A5 (32 + 4) c5 (pk ++ hp4) ∧ Cb W r 25 hd ∧ Ext w W) ⟨o5.out, k4.out.kept b5.out (by omega), Below.trans x4.out (b5.out.mono (by omega))⟩ ?_
  clear o5 b5 o4 b4 k4 x4 r4
  rintro w6 ⟨o6, k6, x6⟩
  have b6 := k6.cell c33.out
  replace o6 := Lib.hid o6
  replace k6 := Lib.hid k6
  replace x6 := Lib.hid x6
  go_wp2_with fail
  refine (HN.out _).mono ?_
  rintro e w7 ⟨A7, n7, c7, rfl, b7, e7⟩
  obtain rfl : n7 = 4 := by rw [← b7.len, lN]
  have o7 := Lib.hid (o6.out.ext e7)
  have x7 := Lib.hid (x6.out.trans e7)
  have r7 : r + 1 ≤ w7.heap.size := (k6.out.ext e7).lt
  replace b7 := Lib.hid b7
  clear b6 o6 k6 x6 e7 HN
  go_wp2_with (at_builtin; (with_reducible refine wpList_append_bs rfl (B := r + 1) (s := .tmp 18) (x := .tmp 22) rfl rfl rfl o7.out b7.out (by omega) r7 ?_); intro A8 c8 w8 o8 g8 b8; replace o8 := Lib.hid o8; clear g8; replace b8 := Lib.hid b8; simp only [Act.put, List.setIfInBounds_toArray, List.set_cons_zero, List.set_cons_succ])
  go_ret2
  exact ⟨A8, _, c8, rfl, by rw [← hR.out]; exact o8.out.bs, Below.trans x7.out (b8.out.mono (by omega))⟩
end Go.Proofs.Ytojgmgghlkpfoaa
end
