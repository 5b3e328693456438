import Derived.Test.YteaoacinhdjkeaaHs23
import Derived.Test.YteaoacinhdjkeaaPkA
/-
  The law StrikesPast.
-/
namespace Go.Proofs.Yteaoacinhdjkeaa
open Go.ChangeShapes Go.WideShapes Go.ChangeAt Go.RowKit Go.Deep Go.Maps
set_option maxRecDepth 100000

theorem cnt_snoc (K : List Sk) (x : Sk) (a now : Int) : cntS (K ++ [x]) a now = cntS K a now + (if pS a now x then 1 else 0) := by
  unfold cntS
  rw [List.filter_append, List.length_append, List.filter_cons]
  split <;> rfl
theorem revS_none {K : List Sk} {i : Nat} (h : ∀ s ∈ K, s.id ≠ i) : revS K i = K := by
  unfold revS
  conv => rhs; rw [← List.map_id K]
  refine List.map_congr_left fun s hs => ?_
  rw [if_neg (h s hs)]
  rfl
theorem revS_snoc {K : List Sk} {i a t : Nat} {b : Bool} (h : ∀ s ∈ K, s.id ≠ i) : revS (K ++ [⟨i, a, t, b⟩]) i = K ++ [⟨i, a, t, true⟩] := by
  have := revS_none h
  unfold revS at this ⊢
  rw [List.map_append, this]
  simp
theorem find_snoc {K : List Sk} {i a t : Nat} {b : Bool} (h : ∀ s ∈ K, s.id ≠ i) : findS (K ++ [⟨i, a, t, b⟩]) (i : Int) = some ⟨i, a, t, b⟩ := by
  unfold findS
  rw [List.find?_append, List.find?_eq_none.2 fun s hs => by have := h s hs; simp; omega]
  simp
theorem find_no {K : List Sk} {i : Int} (h : ∀ s ∈ K, (s.id : Int) ≠ i) : findS K i = none := by
  unfold findS
  exact List.find?_eq_none.2 fun s hs => by have := h s hs; simpa using this
set_option maxHeartbeats 8000000 in
theorem past23_calls {w : World} {A A2 : Option Addr} {n c n2 c2 : Nat} {zs : List Int} {f : Nat → Bool} {v : Int} (ht : Is w A n c zs) (hc : Bls w A2 n2 c2 f) :
    Calls Try.prog 8 #[.slice A n c, .slice A2 n2 c2, .int .i64 v] w fun e w' => e = .returned (.bool true) ∧ Ext w w' := by
  have AW := Lib.hid (awake23_calls (w := w))
  have hn1 := ht.le
  have hn2 := ht.cap
  have hn3 := hc.1
  have hn4 : c2 ≤ 9223372036854775807 := hc.2.1
  replace ht := Lib.hid ht
  replace hc := Lib.hid hc
  go_enter Try.func8, Try.ntmps8
  go_wp2_with fail
  refine AW.out.mono ?_
  rintro e w1 ⟨rfl, x1⟩
  have ND := Lib.hid (dnew_ok (w := w1) (n := 64) (by omega) (by omega))
  replace x1 := Lib.hid x1
  clear AW
  go_wp2_with fail
  refine ND.out.mono ?_
  rintro e w2 ⟨dg, r, mb, rfl, q1, q2, q3, dk2, x2⟩
  have s1 := x1.out.size
  have BE := Lib.hid (HS.new (w := w) dk2 (x1.out.trans x2) (by omega) (by omega) (by omega) (by omega) (by omega))
  clear ND dk2 x1 x2 q1 q2 q3 s1
  go_wp2_with fail
  refine BE.out.mono ?_
  rintro e w3 ⟨g, lg, rfl, h3⟩
  have F3 := Lib.hid h3.ex
  replace h3 := Lib.hid h3
  clear BE
  by_cases a0 : 25 < n
  · have u1 : decide ((25 : Int) < (n : Int)) = true := decide_eq_true (by omega)
    go_wp2_with fail
    go_ret
    exact ⟨rfl, F3.out⟩
  have u1 : decide ((25 : Int) < (n : Int)) = false := decide_eq_false (by omega)
  by_cases a1 : n2 < n
  · have u2 : decide ((n2 : Int) < (n : Int)) = true := decide_eq_true (by omega)
    go_wp2_with fail
    go_ret
    exact ⟨rfl, F3.out⟩
  have u2 : decide ((n2 : Int) < (n : Int)) = false := decide_eq_false (by omega)
  by_cases c0 : v < 0
  · have u5 : decide (v < 0) = true := decide_eq_true c0
    go_wp2_with fail
    go_ret
    exact ⟨rfl, F3.out⟩
  have u5 : decide (v < 0) = false := decide_eq_false c0
  by_cases c9 : 100000 < v
  · have u6 : decide (100000 < v) = true := decide_eq_true c9
    go_wp2_with fail
    go_ret
    exact ⟨rfl, F3.out⟩
  have u6 : decide (100000 < v) = false := decide_eq_false c9
  obtain ⟨t, rfl⟩ : ∃ a : Nat, v = (a : Int) := ⟨v.toNat, by omega⟩
  have hn5 : n ≤ 25 := by omega
  have hn6 : n ≤ n2 := by omega
  have ht5 : t ≤ 100000 := by omega
  clear F3 a0 a1 c0 c9
  have u1 : decide ((25 : Int) < (n : Int)) = false := decide_eq_false (by omega)
  have u2 : ¬ n2 < n := by omega
  go_wp2_with fail
  go_loopw [12, 13] (fun nv iv wr => ∃ (i k q : Nat) (K : List Sk), i ≤ n ∧ iv = .int .i64 (i : Int) ∧ nv = .int .i64 (k : Int) ∧ q ≤ 2 * i ∧ k ≤ i ∧ HS w wr lg K 64 q ∧ (∀ s ∈ K, s.acc = 3 ∧ s.id < i) ∧ cntS K 3 (t : Int) = k) (fun _ iv _ => n - (intOf iv).toNat)
  case atStart => exact ⟨0, 0, 0, [], Nat.zero_le _, rfl, rfl, Nat.zero_le _, Nat.zero_le _, h3.out, (fun s h => by cases h), rfl⟩
  case round =>
    clear h3
    obtain ⟨i, k, q, K, hi, rfl, rfl, hq, hki, hs, al, cn⟩ := hrel
    by_cases him : i < n
    · have l1 : decide ((i : Int) < (n : Int)) = true := decide_eq_true (by omega)
      obtain ⟨b, off, rfl, hb, hcell⟩ := ht.out.pos (by omega)
      obtain ⟨hci, hz1, hz2⟩ := hcell i him
      have cc := (hs.ex.cell (p := ⟨b, off + i, none⟩) hb).trans hci
      have i2 : (i : Int) < (n : Int) := by omega
      have F := Lib.hid hs.ex
      clear hcell
      generalize nat_at zs i = z at *
      by_cases z0 : z < 0
      · have l2 : decide (z < 0) = true := decide_eq_true z0
        clear hs al cn
        go_wp2_with fail
        go_ret
        exact ⟨rfl, F.out⟩
      have l2 : decide (z < 0) = false := decide_eq_false z0
      by_cases z9 : 100000 < z
      · have l3 : decide (100000 < z) = true := decide_eq_true z9
        clear hs al cn
        go_wp2_with fail
        go_ret
        exact ⟨rfl, F.out⟩
      have l3 : decide (100000 < z) = false := decide_eq_false z9
      obtain ⟨y, rfl⟩ : ∃ y : Nat, z = (y : Int) := ⟨z.toNat, by omega⟩
      have hy : y ≤ 100000 := by omega
      have ali : ∀ s ∈ K, s.id ≠ i := fun s hs => by have := al s hs; omega
      have A1 := Lib.hid (hs.add (by omega) (by omega) (a := 3) (i := i) (t := y) (by omega) (by omega) (by omega) (find_no fun s hs => by have := al s hs; omega))
      have i1 : IntKind.i64.wrap ((i : Int) + 1) = ((i + 1 : Nat) : Int) := (IntWalk.i64_in _ (by omega)).trans (by omega)
      replace hci := Lib.hid hci
      have hexr : Ext w wr := F.out
      clear hs F cc
      have cc := Lib.hid (fun W : World => fun x : Ext w W => (x.cell (p := ⟨b, off + i, none⟩) hb).trans hci.out)
      obtain ⟨b', off', rfl, hb', hcell'⟩ := hc.out.2.2 (by omega)
      have cd := Lib.hid (fun W : World => fun x : Ext w W => (x.cell (p := ⟨b', off' + i, none⟩) hb').trans (hcell' i (by omega)))
      have i3 : (i : Int) < (n2 : Int) := by omega
      clear hcell' z0 z9 hz1 hz2
      replace al := Lib.hid al
      replace ali := Lib.hid ali
      have ex0 := Lib.hid hexr
      have ccr := cc.out wr hexr
      clear hexr
      go_wp2_with fail
      refine A1.out.mono ?_
      rintro e w4 ⟨rfl, h4⟩
      have cd4 := cd.out w4 h4.ex
      have cc4 := cc.out w4 h4.ex
      have PX : Hid (pS 3 (t : Int) ⟨i, 3, y, false⟩ = (decide ((y : Int) ≤ (t : Int)) && decide ((t : Int) - 100 ≤ (y : Int)))) := by
        unfold Hid pS
        have hw : IntKind.i64.wrap ((t : Int) - 100) = (t : Int) - 100 := IntWalk.i64_in _ (by omega)
        rw [hw]
        simp
      have CS := Lib.hid (cnt_snoc K ⟨i, 3, y, false⟩ 3 (t : Int))
      cases hf : f i with
      | true =>
        rw [hf] at cd4
        have CL := Lib.hid (h4.clear (by omega) (by omega) (i := i) (t := t) (by omega) (by omega) (find_snoc ali.out) rfl)
        clear A1 h4 hf ccr
        replace cc4 := Lib.hid cc4
        go_wp2_with fail
        refine CL.out.mono ?_
        rintro e w5 ⟨rfl, h5⟩
        rw [revS_snoc ali.out] at h5
        have CL2 := h5.clearno (i := i) (t := t) (by omega) (by omega) (fun s q => by
          rw [find_snoc ali.out] at q
          rw [← Option.some.inj q])
        rw [find_snoc ali.out] at CL2
        replace CL2 := Lib.hid CL2
        clear CL h5 cd4
        go_wp2_with fail
        refine CL2.out.mono ?_
        rintro e w6 ⟨rfl, h6⟩
        replace h6 := Lib.hid h6
        clear CL2
        have CN : Hid (cntS (K ++ [⟨i, 3, y, true⟩]) 3 (t : Int) = k) := by
          unfold Hid
          rw [cnt_snoc, cn]
          simp [pS]
        go_wp2_with fail
        go_roundw
        case rel => exact ⟨i + 1, k, q + 1 + 1, _, by omega, by go_num, rfl, by omega, by omega, h6.out, fun s hs => by
          rcases List.mem_append.1 hs with hs | hs
          · have := al.out s hs; omega
          · rw [List.mem_singleton.1 hs]; exact ⟨rfl, by dsimp only; omega⟩, CN.out⟩
        case measure => simp [intOf]; omega
      | false =>
        rw [hf] at cd4
        replace h4 := Lib.hid h4
        have AL : Hid (∀ s ∈ K ++ [(⟨i, 3, y, false⟩ : Sk)], s.acc = 3 ∧ s.id < i + 1) := fun s hs => by
          rcases List.mem_append.1 hs with hs | hs
          · have := al.out s hs; omega
          · rw [List.mem_singleton.1 hs]; exact ⟨rfl, by dsimp only; omega⟩
        have y100 : IntKind.i64.wrap ((y : Int) + 100) = (y : Int) + 100 := IntWalk.i64_in _ (by omega)
        clear A1 hf ccr
        by_cases g1 : (y : Int) ≤ (t : Int)
        · have b1 : decide ((y : Int) ≤ (t : Int)) = true := decide_eq_true g1
          by_cases g2 : (t : Int) ≤ (y : Int) + 100
          · have b2 : decide ((t : Int) ≤ (y : Int) + 100) = true := decide_eq_true g2
            have CN : Hid (cntS (K ++ [⟨i, 3, y, false⟩]) 3 (t : Int) = k + 1) := by
              unfold Hid
              rw [CS.out, PX.out, cn, b1, decide_eq_true (show (t : Int) - 100 ≤ (y : Int) by omega)]
              rfl
            have k1 : IntKind.i64.wrap ((k : Int) + 1) = ((k + 1 : Nat) : Int) := (IntWalk.i64_in _ (by omega)).trans (by omega)
            have g1' : y ≤ t := by omega
            go_wp2_with fail
            go_roundw
            case rel => exact ⟨i + 1, k + 1, q + 1, _, by omega, by go_num, by go_num, by omega, by omega, h4.out, AL.out, CN.out⟩
            case measure => simp [intOf]; omega
          · have b2 : decide ((t : Int) ≤ (y : Int) + 100) = false := decide_eq_false g2
            have CN : Hid (cntS (K ++ [⟨i, 3, y, false⟩]) 3 (t : Int) = k) := by
              unfold Hid
              rw [CS.out, PX.out, cn, decide_eq_false (show ¬ (t : Int) - 100 ≤ (y : Int) by omega)]
              simp
            have g1' : y ≤ t := by omega
            go_wp2_with fail
            go_roundw
            case rel => exact ⟨i + 1, k, q + 1, _, by omega, by go_num, rfl, by omega, by omega, h4.out, AL.out, CN.out⟩
            case measure => simp [intOf]; omega
        · have b1 : decide ((y : Int) ≤ (t : Int)) = false := decide_eq_false g1
          have CN : Hid (cntS (K ++ [⟨i, 3, y, false⟩]) 3 (t : Int) = k) := by
            unfold Hid
            rw [CS.out, PX.out, cn, b1]
            simp
          have g1' : ¬ y ≤ t := by omega
          go_wp2_with fail
          go_roundw
          case rel => exact ⟨i + 1, k, q + 1, _, by omega, by go_num, rfl, by omega, by omega, h4.out, AL.out, CN.out⟩
          case measure => simp [intOf]; omega
    · obtain rfl : i = n := by omega
      have l1 : decide ((i : Int) < (i : Int)) = false := decide_eq_false (by omega)
      have b3 : decide ((3 : Int) ≤ (k : Int)) = decide (3 ≤ k) := by rw [Bool.eq_iff_iff, decide_eq_true_iff, decide_eq_true_iff]; omega
      have C1 := hs.count (a := 3) (now := (t : Int))
      rw [cn] at C1
      replace C1 := Lib.hid C1
      have c4 : Hid (cntS K 4 (t : Int) = 0) := by
        unfold Hid cntS
        rw [List.length_eq_zero_iff, List.filter_eq_nil_iff]
        intro s hs
        have := (al s hs).1
        unfold pS
        rw [decide_eq_false (show ¬ (s.acc : Int) = 4 by omega)]
        simp
      have f9 : Hid (findS K (900 : Int) = none) := find_no fun s hs => by have := al s hs; omega
      clear hs al
      go_wp2_with fail
      refine C1.out.mono ?_
      rintro e w4 ⟨rfl, h4⟩
      have S1 := h4.susp (a := 3) (now := (t : Int))
      rw [cn] at S1
      replace S1 := Lib.hid S1
      generalize decide (3 ≤ k) = bk at *
      clear C1 h4 cn
      go_wp2_with fail
      refine S1.out.mono ?_
      rintro e w5 ⟨rfl, h5⟩
      have C2 := h5.count (a := 4) (now := (t : Int))
      rw [c4.out] at C2
      replace C2 := Lib.hid C2
      clear S1 h5 c4
      go_wp2_with fail
      refine C2.out.mono ?_
      rintro e w6 ⟨rfl, h6⟩
      have CL := h6.clearno (i := 900) (t := t) (by omega) (by omega) (fun s q => by rw [show ((900 : Nat) : Int) = 900 from rfl, f9.out] at q; cases q)
      rw [show ((900 : Nat) : Int) = 900 from rfl, f9.out] at CL
      replace CL := Lib.hid CL
      clear C2 h6 f9
      go_wp2_with fail
      refine CL.out.mono ?_
      rintro e w7 ⟨rfl, h7⟩
      have F := Lib.hid h7.ex
      clear CL h7
      go_wp2_with fail
      go_ret
      exact ⟨rfl, F.out⟩
end Go.Proofs.Yteaoacinhdjkeaa
