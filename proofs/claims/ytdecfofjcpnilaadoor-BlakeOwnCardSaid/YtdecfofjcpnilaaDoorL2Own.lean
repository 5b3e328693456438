/-
  BlakeOwn: the hash of bytes in the midst of others is that of these alone.
-/
import Derived.Test.YtdecfofjcpnilaaDoorAwake2
import Derived.Test.YtdecfofjcpnilaaDoorOwn
namespace Go.Proofs.YtdecfofjcpnilaaDoor
open Go.ChangeShapes Go.WideShapes Go.ChangeAt Go.RowKit Go.Deep

theorem own_out {A : Option Addr} {n c : Nat} {xs : List UInt8} {f t : Int} {w : World} (h : Bs w A n c xs) (hf : -9223372036854775808 ≤ f ∧ f ≤ 9223372036854775807) (ht : -9223372036854775808 ≤ t ∧ t ≤ 9223372036854775807) (hq : 1500 < n ∨ f < 0 ∨ t < 0) {tg : TypeId × Nat × Nat} (hG : Gl w tg) :
    Calls Tryd.prog 5 #[.slice A n c, .int .i64 f, .int .i64 t] w fun e w' => e = .returned (.bool true) ∧ Ext w w' := by
  have h1 := h.le
  have h2 := h.cap
  have AW := Lib.hid (awake_calls hG)
  clear hG
  by_cases q1 : 1500 < n
  · have q1' : decide ((1500 : Int) < (n : Int)) = true := by simp; omega
    clear hq
    go_enter Tryd.func5, Tryd.ntmps5
    go_wp2_with fail
    refine AW.out.mono ?_
    rintro e w1 ⟨rfl, e1⟩
    go_wp2_with fail
    go_ret
    exact ⟨rfl, e1⟩
  · have q1' : decide ((1500 : Int) < (n : Int)) = false := by simp; omega
    by_cases q2 : f < 0
    · have q2' : decide (f < 0) = true := by simpa using q2
      clear hq
      go_enter Tryd.func5, Tryd.ntmps5
      go_wp2_with fail
      refine AW.out.mono ?_
      rintro e w1 ⟨rfl, e1⟩
      go_wp2_with fail
      go_ret
      exact ⟨rfl, e1⟩
    · have q2' : decide (f < 0) = false := by simpa using q2
      have q3' : decide (t < 0) = true := by simp; omega
      clear hq
      go_enter Tryd.func5, Tryd.ntmps5
      go_wp2_with fail
      refine AW.out.mono ?_
      rintro e w1 ⟨rfl, e1⟩
      go_wp2_with fail
      go_ret
      exact ⟨rfl, e1⟩

set_option maxRecDepth 100000 in
set_option maxHeartbeats 2000000 in
theorem own_main {A : Option Addr} {n c f t i r k : Nat} {xs : List UInt8} {w : World} (h : Bs w A n c xs) (hn : n ≤ 1500) (hf : f ≤ 9223372036854775807) (ht : t ≤ 9223372036854775807) (hi : i = f % (n + 1)) (hr : r = t % (n + 1 - i)) (hk : k = i + r) {tg : TypeId × Nat × Nat} (hG : Gl w tg) :
    Calls Tryd.prog 5 #[.slice A n c, .int .i64 (f : Int), .int .i64 (t : Int)] w fun e w' => e = .returned (.bool true) ∧ Ext w w' := by
  have h1 := h.le
  have h2 := h.cap
  have AW := Lib.hid (awake_calls hG)
  have HG : Hid (∀ wr : World, Ext w wr → Gl wr tg) := fun wr e => hG.kept e hG.lt
  clear hG
  have q1' : decide ((1500 : Int) < (n : Int)) = false := by simp; omega
  have i1 : i ≤ n := by have := Nat.mod_lt f (show 0 < n + 1 by omega); omega
  have r1 : r ≤ n - i := by have := Nat.mod_lt t (show 0 < n + 1 - i by omega); omega
  have k1 : k ≤ n := by omega
  have k2 : i ≤ k := by omega
  have ei : (f : Int) % ((n : Int) + 1) = (i : Int) := by rw [hi, show ((n : Int) + 1) = ((n + 1 : Nat) : Int) by omega]; exact (Int.natCast_emod f (n + 1)).symm
  have er : (t : Int) % ((n : Int) + 1 - (i : Int)) = (r : Int) := by
    rw [hr, show ((n : Int) + 1 - (i : Int)) = ((n + 1 - i : Nat) : Int) by omega]
    exact (Int.natCast_emod t (n + 1 - i)).symm
  have ek : (i : Int) + (r : Int) = (k : Int) := by omega
  have hnz : ¬ ((n : Int) + 1 - (i : Int)) = 0 := by omega
  clear hi hr hk
  have h' := Lib.hid h
  clear h
  have hal := key_alloc
  have hz0 := zeros32_size
  generalize zeros32 = Z at *
  have ML := macL_len [] ((xs.take k).drop i)
  generalize hms : macL [] ((xs.take k).drop i) = ms at *
  replace hms := Lib.hid hms
  have HM : (cellsOf ms).toArray.size = 32 := by simp [cellsOf_len, ML]
  have HM1 := cellsOf_one ms
  go_enter Tryd.func5, Tryd.ntmps5
  go_wp2_with fail
  refine AW.out.mono ?_
  rintro e w1 ⟨rfl, e1⟩
  go_upto_region 7 with (at_builtin; (with_reducible refine wpList_append_bs rfl (B := w1.heap.size) (s := .tmp 42) (x := .tmp 43) rfl rfl rfl (Own.empty w1 _ (Nat.le_refl _)) (h'.out.ext (e1.alloc _)) (by omega) (by simp) ?_); intro A2 c2 w2 o2 g2 b2; simp only [Nat.zero_add, List.nil_append] at o2)
  have E2 : Ext w w2 := Below.trans (e1.alloc _) (b2.mono e1.size)
  have B2 := o2.bs
  have n2 := B2.le
  replace B2 := Lib.hid B2
  replace E2 := Lib.hid E2
  clear g2 b2 o2 e1 AW
  go_wp2_with ((with_reducible refine wpList_cut2 rfl (x := .tmp 45) (lo := .tmp 46) (hi := .tmp 47) (k := i) (h := k) rfl rfl rfl rfl rfl k2 k1 n2 ?_); intro A3 hc3)
  have b3 := hc3 _ _ B2.out
  have s3 := sum_calls b3 (HG.out _ E2.out)
  rw [hms.out] at s3
  refine s3.mono ?_
  clear s3 hc3 b3
  rintro e w3 ⟨rfl, e3⟩
  go_upto_region 8 with (refine wpList_store_row rfl 25 _ _ rfl w3.heap.size (cellsOf ms).toArray rfl rfl 25 _ (by with_reducible exact heap_alloc_new _ _) (by rw [HM]; rfl) (by rw [HM]; exact hz0) HM1 ?_)
  refine wp_gen (fun W => Ext w2 W ∧ Ky W w3.heap.size ms) ⟨e3.trans (Ext.newRow _ _ _), Ky.new _ ML⟩ ?_
  rintro w4 ⟨e4, ky4⟩
  replace e4 := Lib.hid e4
  replace ky4 := Lib.hid ky4
  clear e3
  have E4 : Hid (Ext w w4) := E2.out.trans e4.out
  go_wp2_with (first
    | ((with_reducible refine wpList_cut2 rfl (x := .tmp 51) (lo := .tmp 52) (hi := .tmp 53) (k := i) (h := k) rfl rfl rfl rfl rfl k2 k1 h1 ?_); intro A5 hc5; have b5 := Lib.hid (hc5 _ _ (h'.out.ext (E4.out.alloc (Obj.cells #[] 5)))); clear hc5)
    | (at_builtin; (with_reducible refine wpList_append_bs rfl (B := w4.heap.size) (s := .tmp 50) (x := .tmp 54) rfl rfl rfl (Own.empty w4 _ (Nat.le_refl _)) b5.out (by omega) (by simp) ?_); intro A6 c6 w6 o6 g6 b6; simp only [Nat.zero_add, List.nil_append] at o6))
  have E6 : Ext w4 w6 := Below.trans ((Ext.refl w4).alloc _) b6
  have s7 := sum_calls o6.bs (HG.out _ (E4.out.trans E6))
  rw [hms.out] at s7
  refine s7.mono ?_
  clear s7 o6 g6 b6 b5
  rintro e w7 ⟨rfl, e7⟩
  go_upto_region 9 with (refine wpList_store_row rfl 25 _ _ rfl w7.heap.size (cellsOf ms).toArray rfl rfl 25 _ (by with_reducible exact heap_alloc_new _ _) (by rw [HM]; rfl) (by rw [HM]; exact hz0) HM1 ?_)
  refine wp_gen (fun W => Ext w4 W ∧ Ky W w7.heap.size ms) ⟨(E6.trans e7).trans (Ext.newRow _ _ _), Ky.new _ ML⟩ ?_
  rintro w8 ⟨e8, ky8⟩
  replace e8 := Lib.hid e8
  replace ky8 := Lib.hid ky8
  clear E6 e7
  have E8 : Hid (Ext w w8) := E4.out.trans e8.out
  go_wp2_with ((with_reducible refine wpList_cut2 rfl (x := .tmp 58) (lo := .tmp 59) (hi := .tmp 60) (k := i) (h := k) rfl rfl rfl rfl rfl k2 k1 h1 ?_); intro A9 hc9)
  have s9 := mac_calls (Bs.nil _) (hc9 _ _ (h'.out.ext E8.out)) (by omega) (HG.out _ E8.out)
  rw [hms.out] at s9
  refine s9.mono ?_
  clear s9 hc9
  rintro e w9 ⟨rfl, e9⟩
  go_upto_region 10 with (refine wpList_store_row rfl 25 _ _ rfl w9.heap.size (cellsOf ms).toArray rfl rfl 25 _ (by with_reducible exact heap_alloc_new _ _) (by rw [HM]; rfl) (by rw [HM]; exact hz0) HM1 ?_)
  refine wp_gen (fun W => Ext w W ∧ Ky W w3.heap.size ms ∧ Ky W w7.heap.size ms ∧ Ky W w9.heap.size ms ∧ Bs W A2 n c2 xs ∧ Bs W A n c xs) ?_ ?_
  · have e10 := e9.trans (Ext.newRow w9 (Obj.cells Z 25) (cellsOf ms).toArray)
    exact ⟨E8.out.trans e10, ky4.out.ext (e8.out.trans e10), ky8.out.ext e10, Ky.new _ ML, B2.out.ext (e4.out.trans (e8.out.trans e10)), h'.out.ext (E8.out.trans e10)⟩
  rintro W ⟨eW, kx, ky, kz, bc, bb⟩
  have cv1 := conv_bs bc
  have cv2 := conv_bs bb
  replace kx := Lib.hid kx
  replace ky := Lib.hid ky
  replace kz := Lib.hid kz
  clear e9 ky4 ky8 bc bb
  go_wp2_with (first
    | refine wpList_load_rowW rfl 25 _ rfl w3.heap.size rfl 25 (cellsOf ms).toArray (0, 0) _ kx.out.1 rfl rfl (by rw [HM]; rfl) ?_
    | refine wpList_load_rowW rfl 25 _ rfl w7.heap.size rfl 25 (cellsOf ms).toArray (0, 0) _ ky.out.1 rfl rfl (by rw [HM]; rfl) ?_
    | refine wpList_load_rowW rfl 25 _ rfl w9.heap.size rfl 25 (cellsOf ms).toArray (0, 0) _ kz.out.1 rfl rfl (by rw [HM]; rfl) ?_
    | refine wpList_eql_key rfl _ _ _ rfl ms ms rfl rfl ML ML ?_)
  go_ret
  exact ⟨rfl, eW⟩

theorem blakeOwn_calls {A : Option Addr} {n c : Nat} {xs : List UInt8} {f t : Int} {w : World} (h : Bs w A n c xs) (hf : -9223372036854775808 ≤ f ∧ f ≤ 9223372036854775807) (ht : -9223372036854775808 ≤ t ∧ t ≤ 9223372036854775807) {tg : TypeId × Nat × Nat} (hG : Gl w tg) :
    Calls Tryd.prog 5 #[.slice A n c, .int .i64 f, .int .i64 t] w fun e w' => e = .returned (.bool true) ∧ Ext w w' := by
  by_cases hq : 1500 < n ∨ f < 0 ∨ t < 0
  · exact own_out h hf ht hq hG
  · obtain ⟨f', rfl⟩ := Int.eq_ofNat_of_zero_le (show 0 ≤ f by omega)
    obtain ⟨t', rfl⟩ := Int.eq_ofNat_of_zero_le (show 0 ≤ t by omega)
    exact own_main h (by omega) (by omega) (by omega) rfl rfl rfl hG
end Go.Proofs.YtdecfofjcpnilaaDoor
