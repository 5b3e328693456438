/-
  The law JournalFull.
-/
import Derived.Test.YteaoacinhdjkeaaAwake22
namespace Go.Proofs.Yteaoacinhdjkeaa
open Go.ChangeShapes Go.WideShapes Go.ChangeAt Go.RowKit Go.Deep Go.Maps
set_option maxRecDepth 100000

def rec22 (k : Nat) : List UInt8 := [UInt8.ofNat k, 7]
def LF (m k : Nat) : List (List UInt8) := (List.range (min k m)).map rec22
theorem LF_len (m k : Nat) : (LF m k).length = min k m := by simp [LF]
theorem LF_step {m k : Nat} : (if m ≤ (LF m k).length then LF m k else LF m k ++ [rec22 k]) = LF m (k + 1) := by
  rw [LF_len]
  by_cases h : k < m
  · rw [if_neg (by omega)]
    unfold LF
    rw [show min k m = k by omega, show min (k + 1) m = k + 1 by omega, List.range_succ, List.map_append]
    rfl
  · rw [if_pos (by omega)]
    unfold LF
    rw [show min (k + 1) m = min k m by omega]
theorem LF_get {m k j : Nat} (h : j < min k m) : (LF m k).getD j [] = rec22 j := by
  unfold LF
  rw [List.getD_eq_getElem?_getD, List.getElem?_map, List.getElem?_range h]
  rfl
theorem rec22_bs {w : World} {k : Nat} (hk : k < 256) (z : Nat × Nat) : Bs (w.alloc (.cells #[.int .u8 (k : Int), .int .u8 7] 5 z)) (some ⟨w.heap.size, 0, none⟩) 2 2 (rec22 k) := by
  refine Bs.of_list ?_ (heap_alloc_new _ _) ⟨rfl, by decide⟩
  have : (UInt8.ofNat k).toNat = k := by simp; omega
  simp [cellsOf, rec22, bt, List.range, List.range.loop, this]
set_option maxHeartbeats 8000000 in
theorem full22_calls {w : World} {z y : Int} (hz : -9223372036854775808 ≤ z ∧ z ≤ 9223372036854775807) (hy : -9223372036854775808 ≤ y ∧ y ≤ 9223372036854775807) :
    Calls Try.prog 5 #[.int .i64 z, .int .i64 y] w fun e w' => e = .returned (.bool true) ∧ Ext w w' := by
  have AW := Lib.hid (awake22_calls (w := w))
  by_cases hm : 1 ≤ z ∧ z ≤ 64
  · obtain ⟨m, rfl⟩ : ∃ m : Nat, z = (m : Int) := ⟨z.toNat, by omega⟩
    have ND := Lib.hid (fun s : World => dnew_ok (w := s) (n := m) (by omega) (by omega))
    by_cases hn : 0 ≤ y ∧ y ≤ 80
    · obtain ⟨n, rfl⟩ : ∃ n : Nat, y = (n : Int) := ⟨y.toNat, by omega⟩
      have l1 : decide ((n : Int) < 0) = false := decide_eq_false (by omega)
      have l2 : decide ((80 : Int) < (n : Int)) = false := decide_eq_false (by omega)
      go_enter Try.func5, Try.ntmps5
      go_wp2_with fail
      refine AW.out.mono ?_
      rintro e w1 ⟨rfl, x1⟩
      have ND1 := Lib.hid (ND.out w1)
      replace x1 := Lib.hid x1
      clear AW ND
      go_wp2_with fail
      refine ND1.out.mono ?_
      rintro e w2 ⟨dg, r, mb, rfl, q1, q2, q3, dk2, x2⟩
      have H0 : Hd22 (newD m) m (LF m 0) := by
        have := Hd22.new (m := m) (by omega)
        rwa [show LF m 0 = [] by simp [LF]]
      have s1 := x1.out.size
      have OP := Lib.hid (JN.opened dk2 (x1.out.trans x2) (by omega) (by omega) (by omega))
      rw [H0.recs (by omega)] at OP
      replace H0 := Lib.hid H0
      clear ND1 dk2 x1 x2 q1 q2 q3 s1
      go_wp2_with fail
      refine OP.out.mono ?_
      rintro e w3 ⟨g, D, c, rfl, j3, _⟩
      replace j3 := Lib.hid j3
      clear OP
      go_wp2_with fail
      generalize w2.heap.size = B at *
      go_loopw [10] (fun i wr => ∃ (k mb : Nat) (d : Ds) (D : Option Addr) (c : Nat), k ≤ n ∧ i = .int .i64 (k : Int) ∧ Hd22 d m (LF m k) ∧ JN w wr g dg r mb d B D c (LF m k)) (fun i _ => n - (intOf i).toNat)
      case atStart => exact ⟨0, mb, newD m, D, c, Nat.zero_le _, rfl, H0.out, j3.out⟩
      case round =>
        clear H0 j3
        obtain ⟨k, mb, d, D, c, hk, rfl, hd, jn⟩ := hrel
        by_cases hkn : k < n
        · have l3 : decide ((k : Int) < (n : Int)) = true := decide_eq_true (by omega)
          have m8 : IntKind.u8.wrap (k : Int) = (k : Int) := IntWalk.u8_in _ (by omega)
          have xa : Ext wr (wr.alloc (.cells #[.int .u8 (k : Int), .int .u8 7] 5)) := (Ext.refl wr).alloc _
          obtain ⟨s1, s2, s3⟩ := hd.step (xs := rec22 k) (show 2 ≤ 59 by decide)
          have lf := LF_len m k
          have AP := JN.append (xs := rec22 k) (A := some ⟨wr.heap.size, 0, none⟩) (n := 2) (c' := 2) (jn.ext xa) (by omega) (fun s q => (rec22_bs (by omega) (0, 0)).ot22 q (fun a ha _ q => by
            injection ha with ha
            subst ha
            have := pd_lt jn.dk _ q
            simp only at this
            omega)) (by omega)
          rw [s1] at AP
          rw [s3, LF_step] at AP s2
          replace AP := Lib.hid AP
          replace s2 := Lib.hid s2
          generalize d.jD (LF m k).length (rec22 k) = d1 at *
          clear s1 s3 xa hd jn
          by_cases hkm : k < m
          · rw [if_neg (by omega)] at AP
            have l4 : decide ((k : Int) < (m : Int)) = true := decide_eq_true (by omega)
            clear lf
            go_wp2_with fail
            refine AP.out.mono ?_
            rintro e w4 ⟨rfl, mb4, D4, c4, j4, _⟩
            replace j4 := Lib.hid j4
            clear AP
            go_wp2_with fail
            go_roundw
            case rel => exact ⟨k + 1, mb4, d1, D4, c4, by omega, by go_num, s2.out, j4.out⟩
            case measure => simp [intOf]; omega
          · rw [if_pos (by omega)] at AP
            have l4 : decide ((k : Int) < (m : Int)) = false := decide_eq_false (by omega)
            clear lf
            go_wp2_with fail
            refine AP.out.mono ?_
            rintro e w4 ⟨rfl, mb4, D4, c4, j4, _⟩
            replace j4 := Lib.hid j4
            clear AP
            go_wp2_with fail
            go_roundw
            case rel => exact ⟨k + 1, mb4, d1, D4, c4, by omega, by go_num, s2.out, j4.out⟩
            case measure => simp [intOf]; omega
        · obtain rfl : k = n := by omega
          have l3 : decide ((k : Int) < (k : Int)) = false := decide_eq_false (by omega)
          have OP := Lib.hid (JN.opened jn.dk jn.ex jn.wd jn.wr jn.wm)
          rw [hd.recs (by omega)] at OP
          clear hd jn
          go_wp2_with fail
          refine OP.out.mono ?_
          rintro e w4 ⟨g4, D4, c4, rfl, j4, _⟩
          replace j4 := Lib.hid j4
          clear OP
          go_wp2_with fail
          have lf := LF_len m k
          have AL := Lib.hid (lall_calls j4.out.jk (by omega) (fun j hj => by rw [LF_get (by omega)]; exact Nat.le_trans (Nat.le_of_eq rfl) (by decide : 2 ≤ 1000000)))
          have GE := Lib.hid (fun j (hj : j < (LF m k).length) => LF_get (m := m) (k := k) (j := j) (by omega))
          have jk4 := Lib.hid j4.out.jk
          have x4 := Lib.hid j4.out.ex
          clear j4
          generalize LF m k = LL at *
          obtain ⟨Q, hQ⟩ : ∃ q, q = LL.length := ⟨_, rfl⟩
          rw [← hQ] at AL GE lf
          have LN : Hid (∀ s, Ext w4 s → Calls Try.prog 26 #[.pointer (some ⟨g4, 0, none⟩)] s fun e w' => e = .returned (.int .i64 (Q : Int)) ∧ w' = s) := fun s x => by rw [hQ]; exact jlen_calls (jk4.out.ext x)
          clear jk4
          replace hQ := Lib.hid hQ
          have lm : Q = k ∧ k ≤ m ∨ Q = m ∧ m < k := by omega
          clear lf
          go_wp2_with fail
          refine AL.out.mono ?_
          rintro e w5 ⟨D7, c7, rfl, o7, x7⟩
          have LN5 := Lib.hid (LN.out _ x7)
          have x5 := Lib.hid (x4.out.trans x7)
          have R7 := Lib.hid o7.rw
          clear AL LN x7 o7 x4
          rcases lm with ⟨rfl, q⟩ | ⟨rfl, q⟩
          · have q4 : (Q : Int) ≤ (m : Int) := by omega
            go_wp2_with fail
            refine LN5.out.mono ?_
            rintro e w6 ⟨rfl, rfl⟩
            clear LN5
            go_wp2_with fail
            go_loopw [15] (fun i wr => ∃ j : Nat, j ≤ Q ∧ i = .int .i64 (j : Int) ∧ Ext w6 wr) (fun i _ => Q - (intOf i).toNat)
            case atStart => exact ⟨0, Nat.zero_le _, rfl, Ext.refl _⟩
            case round =>
              obtain ⟨j, hj, rfl, xr⟩ := hrel
              by_cases hjq : j < Q
              · have l5 : decide ((j : Int) < (Q : Int)) = true := decide_eq_true (by omega)
                obtain ⟨b, off, rfl, hb, hcell⟩ := R7.out.pos (by omega)
                obtain ⟨A1, n1, c1, hc1, hb1⟩ := hcell j hjq
                rw [GE.out j hjq] at hb1
                have m8 : IntKind.u8.wrap (j : Int) = (j : Int) := IntWalk.u8_in _ (by omega)
                have PF : Hid (∀ s, Ext wr.drew s → s.cell? ⟨b, off + j, none⟩ = some (.slice A1 n1 c1) ∧ (convert 37 9 (.slice A1 n1 c1)).run Try.prog s = .ok (.string (strL (rec22 j))) s) := fun s e => ⟨((xr.drew.trans e).cell (p := ⟨b, off + j, none⟩) hb).trans hc1, conv_bs (hb1.ext (xr.drew.trans e))⟩
                have PG : Hid (∀ s, Ext (wr.drew.alloc (.cells #[.int .u8 (j : Int), .int .u8 7] 5)) s → (convert 37 9 (.slice (some ⟨wr.drew.heap.size, 0, none⟩) 2 2)).run Try.prog s = .ok (.string (strL (rec22 j))) s) := fun s e => conv_bs ((rec22_bs (by omega) (0, 0)).ext e)
                replace xr : Hid (Ext w6 wr.drew) := xr.drew
                clear hcell hc1 hb1 R7
                go_upto_region 23 with fail
                refine qgE [0, 1, 2, 3, 4, 5, 6, 7, 8, 9] [7] ?_
                repeat ((first | refine qR _ (fun w' e => PF.out w' e) ?_ | refine qS ?_); go_frame)
                generalize wr.drew = V at *
                refine qD fun K hK => ?_
                go_simp
                have xv : Ext V (V.alloc (.cells #[.int .u8 (j : Int), .int .u8 7] 5)) := (Ext.refl V).alloc _
                refine hK.out _ _ xv ?_
                clear hK K
                try go_frame
                have xr2 := Lib.hid (xr.out.trans xv)
                clear PF xv xr
                repeat ((first | refine qR _ (fun w' e => PG.out w' e) ?_ | refine qS ?_); go_frame)
                refine seq_done ?_
                clear PG
                generalize V.alloc (.cells #[.int .u8 (j : Int), .int .u8 7] 5) = V2 at *
                go_wp2_with fail
                go_roundw
                case rel => exact ⟨j + 1, by omega, by go_num, xr2.out⟩
                case measure => simp [intOf]; omega
              · obtain rfl : j = Q := by omega
                have l5 : decide ((j : Int) < (j : Int)) = false := decide_eq_false (by omega)
                have F := Lib.hid (x5.out.trans xr)
                clear xr
                go_wp2_with fail
                go_ret
                exact ⟨rfl, F.out⟩
          · have q4 : ¬ (k : Int) ≤ (Q : Int) := by omega
            go_wp2_with fail
            refine LN5.out.mono ?_
            rintro e w6 ⟨rfl, rfl⟩
            clear LN5
            go_wp2_with fail
            go_loopw [15] (fun i wr => ∃ j : Nat, j ≤ Q ∧ i = .int .i64 (j : Int) ∧ Ext w6 wr) (fun i _ => Q - (intOf i).toNat)
            case atStart => exact ⟨0, Nat.zero_le _, rfl, Ext.refl _⟩
            case round =>
              obtain ⟨j, hj, rfl, xr⟩ := hrel
              by_cases hjq : j < Q
              · have l5 : decide ((j : Int) < (Q : Int)) = true := decide_eq_true (by omega)
                obtain ⟨b, off, rfl, hb, hcell⟩ := R7.out.pos (by omega)
                obtain ⟨A1, n1, c1, hc1, hb1⟩ := hcell j hjq
                rw [GE.out j hjq] at hb1
                have m8 : IntKind.u8.wrap (j : Int) = (j : Int) := IntWalk.u8_in _ (by omega)
                have PF : Hid (∀ s, Ext wr.drew s → s.cell? ⟨b, off + j, none⟩ = some (.slice A1 n1 c1) ∧ (convert 37 9 (.slice A1 n1 c1)).run Try.prog s = .ok (.string (strL (rec22 j))) s) := fun s e => ⟨((xr.drew.trans e).cell (p := ⟨b, off + j, none⟩) hb).trans hc1, conv_bs (hb1.ext (xr.drew.trans e))⟩
                have PG : Hid (∀ s, Ext (wr.drew.alloc (.cells #[.int .u8 (j : Int), .int .u8 7] 5)) s → (convert 37 9 (.slice (some ⟨wr.drew.heap.size, 0, none⟩) 2 2)).run Try.prog s = .ok (.string (strL (rec22 j))) s) := fun s e => conv_bs ((rec22_bs (by omega) (0, 0)).ext e)
                replace xr : Hid (Ext w6 wr.drew) := xr.drew
                clear hcell hc1 hb1 R7
                go_upto_region 23 with fail
                refine qgE [0, 1, 2, 3, 4, 5, 6, 7, 8, 9] [7] ?_
                repeat ((first | refine qR _ (fun w' e => PF.out w' e) ?_ | refine qS ?_); go_frame)
                generalize wr.drew = V at *
                refine qD fun K hK => ?_
                go_simp
                have xv : Ext V (V.alloc (.cells #[.int .u8 (j : Int), .int .u8 7] 5)) := (Ext.refl V).alloc _
                refine hK.out _ _ xv ?_
                clear hK K
                try go_frame
                have xr2 := Lib.hid (xr.out.trans xv)
                clear PF xv xr
                repeat ((first | refine qR _ (fun w' e => PG.out w' e) ?_ | refine qS ?_); go_frame)
                refine seq_done ?_
                clear PG
                generalize V.alloc (.cells #[.int .u8 (j : Int), .int .u8 7] 5) = V2 at *
                go_wp2_with fail
                go_roundw
                case rel => exact ⟨j + 1, by omega, by go_num, xr2.out⟩
                case measure => simp [intOf]; omega
              · obtain rfl : j = Q := by omega
                have l5 : decide ((j : Int) < (j : Int)) = false := decide_eq_false (by omega)
                have F := Lib.hid (x5.out.trans xr)
                clear xr
                go_wp2_with fail
                go_ret
                exact ⟨rfl, F.out⟩
    · go_enter Try.func5, Try.ntmps5
      go_wp2_with fail
      refine AW.out.mono ?_
      rintro e w1 ⟨rfl, x1⟩
      have ND1 := Lib.hid (ND.out w1)
      replace x1 := Lib.hid x1
      clear AW ND
      go_wp2_with fail
      refine ND1.out.mono ?_
      rintro e w2 ⟨dg, r, mb, rfl, _, _, _, _, x2⟩
      have F := Lib.hid (x1.out.trans x2)
      clear ND1 x1 x2
      by_cases h0 : y < 0
      · have l1 : decide (y < 0) = true := decide_eq_true h0
        go_wp2_with fail
        go_ret
        exact ⟨rfl, F.out⟩
      · have l1 : decide (y < 0) = false := decide_eq_false h0
        have l2 : decide (80 < y) = true := decide_eq_true (by omega)
        go_wp2_with fail
        go_ret
        exact ⟨rfl, F.out⟩
  · have ND := Lib.hid (fun s : World => dnew_bad (w := s) (z := z) (by omega))
    go_enter Try.func5, Try.ntmps5
    go_wp2_with fail
    refine AW.out.mono ?_
    rintro e w1 ⟨rfl, x1⟩
    have ND1 := Lib.hid (ND.out w1)
    replace x1 := Lib.hid x1
    clear AW ND
    go_wp2_with fail
    refine ND1.out.mono ?_
    rintro e w2 ⟨rfl, x2⟩
    have F := Lib.hid (x1.out.trans x2)
    clear ND1 x1 x2
    go_wp2_with fail
    go_ret
    exact ⟨rfl, F.out⟩
end Go.Proofs.Yteaoacinhdjkeaa
