/-
  The law StrikesThree.
-/
import Derived.Test.YteaoacinhdjkeaaHs23
namespace Go.Proofs.Yteaoacinhdjkeaa
open Go.ChangeShapes Go.WideShapes Go.ChangeAt Go.RowKit Go.Deep Go.Maps
set_option maxRecDepth 100000

/-- i strikes of a, and i of o, of which z were taken back. -/
structure Th (a o t i z : Nat) (K : List Sk) : Prop where
  al : ∀ s ∈ K, s.time = t ∧ ((s.acc = a ∧ s.id < i ∧ s.rev = false) ∨ (s.acc = o ∧ 100 ≤ s.id ∧ s.id < 100 + i ∧ s.rev = decide (s.id < 100 + z)))
  has : ∀ j, j < i → ∃ s ∈ K, s.id = 100 + j
  cn : (K.filter fun s => decide (s.acc = a)).length = i
section
variable {a o t i z : Nat} {K : List Sk}
theorem Th.nil (a o t z : Nat) : Th a o t 0 z [] := ⟨fun s h => (by cases h), fun j h => (by omega), rfl⟩
theorem Th.new1 (h : Th a o t i z K) (hi : i < 100) : findS K (i : Int) = none := by
  cases e : findS K (i : Int) with
  | none => rfl
  | some s =>
    obtain ⟨h1, h2⟩ := findS_some e
    have := h.al s h1
    omega
theorem Th.new2 (h : Th a o t i z K) (hi : i < 100) : findS (K ++ [⟨i, a, t, false⟩]) (100 + (i : Int)) = none := by
  cases e : findS (K ++ [⟨i, a, t, false⟩]) (100 + (i : Int)) with
  | none => rfl
  | some s =>
    obtain ⟨h1, h2⟩ := findS_some e
    rcases List.mem_append.1 h1 with h1 | h1
    · have := h.al s h1
      omega
    · rw [List.mem_singleton.1 h1] at h2
      dsimp only at h2
      omega
theorem Th.add (h : Th a o t i 0 K) (hi : i < 100) (hao : o ≠ a) : Th a o t (i + 1) 0 ((K ++ [⟨i, a, t, false⟩]) ++ [⟨100 + i, o, t, false⟩]) := by
  refine ⟨fun s hs => ?_, fun j hj => ?_, ?_⟩
  · rcases List.mem_append.1 hs with hs | hs
    · rcases List.mem_append.1 hs with hs | hs
      · obtain ⟨h1, h2⟩ := h.al s hs
        refine ⟨h1, ?_⟩
        rcases h2 with ⟨q1, q2, q3⟩ | ⟨q1, q2, q3, q4⟩
        · exact .inl ⟨q1, by omega, q3⟩
        · exact .inr ⟨q1, q2, by omega, q4⟩
      · rw [List.mem_singleton.1 hs]
        exact ⟨rfl, .inl ⟨rfl, by dsimp only; omega, rfl⟩⟩
    · rw [List.mem_singleton.1 hs]
      exact ⟨rfl, .inr ⟨rfl, by dsimp only; omega, by dsimp only; omega, by simp⟩⟩
  · by_cases q : j < i
    · obtain ⟨s, h1, h2⟩ := h.has j q
      exact ⟨s, by simp [h1], h2⟩
    · exact ⟨⟨100 + i, o, t, false⟩, by simp, by dsimp only; omega⟩
  · rw [List.filter_append, List.filter_append, List.length_append, List.length_append, h.cn]
    simp [hao]
theorem Th.find (h : Th a o t i z K) (ok : OkS K) {j : Nat} (hj : j < i) : ∃ s, findS K (100 + (j : Int)) = some s ∧ s.acc = s.acc ∧ (a < 8 → z ≤ j → i ≤ 100 → s.rev = false) := by
  obtain ⟨s, h1, h2⟩ := h.has j hj
  have := findS_mem ok h1
  refine ⟨s, by rw [h2] at this; simpa using this, rfl, fun _ hz hi => ?_⟩
  rcases (h.al s h1).2 with ⟨q1, q2, q3⟩ | ⟨q1, q2, q3, q4⟩
  · exact q3
  · rw [q4]; exact decide_eq_false (by omega)
theorem Th.clear (h : Th a o t i z K) (hi : i ≤ 100) : Th a o t i (z + 1) (revS K (100 + z)) := by
  refine ⟨fun s hs => ?_, fun j hj => ?_, ?_⟩
  · obtain ⟨y, hy, rfl⟩ := List.mem_map.1 hs
    obtain ⟨h1, h2⟩ := h.al y hy
    by_cases q : y.id = 100 + z
    · rw [if_pos q]
      refine ⟨h1, ?_⟩
      rcases h2 with ⟨q1, q2, q3⟩ | ⟨q1, q2, q3, q4⟩
      · omega
      · exact .inr ⟨q1, q2, q3, (decide_eq_true (by dsimp only; omega)).symm⟩
    · rw [if_neg q]
      refine ⟨h1, ?_⟩
      rcases h2 with ⟨q1, q2, q3⟩ | ⟨q1, q2, q3, q4⟩
      · exact .inl ⟨q1, q2, q3⟩
      · refine .inr ⟨q1, q2, q3, ?_⟩
        rw [q4, Bool.eq_iff_iff, decide_eq_true_iff, decide_eq_true_iff]
        omega
  · obtain ⟨s, h1, h2⟩ := h.has j hj
    refine ⟨_, List.mem_map.2 ⟨s, h1, rfl⟩, ?_⟩
    split
    · exact h2
    · exact h2
  · have e : ∀ L : List Sk, ((revS L (100 + z)).filter fun s => decide (s.acc = a)).length = (L.filter fun s => decide (s.acc = a)).length := fun L => by
      induction L with
      | nil => rfl
      | cons x r ih =>
        have ea : (if x.id = 100 + z then { x with rev := true } else x).acc = x.acc := by split <;> rfl
        show ((((if x.id = 100 + z then { x with rev := true } else x) :: revS r (100 + z)).filter fun s => decide (s.acc = a))).length = _
        rw [List.filter_cons, List.filter_cons, ea]
        split
        · rw [List.length_cons, List.length_cons, ih]
        · exact ih
    rw [e]
    exact h.cn
theorem Th.count (h : Th a o t i z K) (hao : o ≠ a) {n : Int} (h1 : (t : Int) ≤ n) (h2 : n ≤ (t : Int) + 100) (h3 : t ≤ 900000) : cntS K (a : Int) n = i := by
  unfold cntS
  rw [← h.cn]
  congr 1
  refine List.filter_congr fun s hs => ?_
  obtain ⟨q, hq⟩ := h.al s hs
  unfold pS
  have hw : IntKind.i64.wrap (n - 100) = n - 100 := IntWalk.i64_in _ (by omega)
  rw [hw]
  by_cases e : s.acc = a
  · have r : s.rev = false := by
      rcases hq with ⟨_, _, q3⟩ | ⟨q1, _⟩
      · exact q3
      · omega
    rw [r, e, decide_eq_true rfl, decide_eq_true (show (s.time : Int) ≤ n by omega), decide_eq_true (show n - 100 ≤ (s.time : Int) by omega), decide_eq_true rfl]
    rfl
  · rw [decide_eq_false e, decide_eq_false (show ¬ (s.acc : Int) = (a : Int) by omega)]
    rfl
theorem Th.past (h : Th a o t i z K) {c : Int} (h3 : t ≤ 900000) : cntS K c ((t : Int) + 101) = 0 := by
  unfold cntS
  rw [List.length_eq_zero_iff, List.filter_eq_nil_iff]
  intro s hs
  obtain ⟨q, hq⟩ := h.al s hs
  unfold pS
  have hw : IntKind.i64.wrap ((t : Int) + 101 - 100) = (t : Int) + 1 := (IntWalk.i64_in _ (by omega)).trans (by omega)
  rw [hw, decide_eq_false (show ¬ (t : Int) + 1 ≤ (s.time : Int) by omega)]
  simp
theorem Th.other (h : Th a o t i i K) (hao : o ≠ a) {n : Int} : cntS K (o : Int) n = 0 := by
  unfold cntS
  rw [List.length_eq_zero_iff, List.filter_eq_nil_iff]
  intro s hs
  unfold pS
  rcases (h.al s hs).2 with ⟨q1, _⟩ | ⟨_, q2, q3, q4⟩
  · rw [decide_eq_false (show ¬ (s.acc : Int) = (o : Int) by omega)]
    simp
  · rw [q4, decide_eq_true q3]
    simp
end
set_option maxHeartbeats 8000000 in
theorem three23_calls {w : World} {x y v : Int} : Calls Try.prog 10 #[.int .i64 x, .int .i64 y, .int .i64 v] w fun e w' => e = .returned (.bool true) ∧ Ext w w' := by
  have AW := Lib.hid (awake23_calls (w := w))
  go_enter Try.func10, Try.ntmps10
  go_wp2_with fail
  refine AW.out.mono ?_
  rintro e w1 ⟨rfl, x1⟩
  have ND := Lib.hid (dnew_ok (w := w1) (n := 32) (by omega) (by omega))
  replace x1 := Lib.hid x1
  clear AW
  go_wp2_with fail
  refine ND.out.mono ?_
  rintro e w2 ⟨dg, r, mb, rfl, q1, q2, q3, dk2, x2⟩
  have s1 := x1.out.size
  have BE := Lib.hid (HS.new (w := w) dk2 (x1.out.trans x2) (by omega) (by omega) (by omega) (by omega) (by omega))
  clear ND dk2 x1 x2 q1 q2 q3 s1
  go_wp2_with fail
  refine BE.out.mono ?_
  rintro e w3 ⟨g, lg, rfl, h3⟩
  have F3 := Lib.hid h3.ex
  replace h3 := Lib.hid h3
  clear BE
  by_cases a0 : x < 0
  · have u1 : decide (x < 0) = true := decide_eq_true a0
    go_wp2_with fail
    go_ret
    exact ⟨rfl, F3.out⟩
  have u1 : decide (x < 0) = false := decide_eq_false a0
  by_cases a7 : 7 < x
  · have u2 : decide (7 < x) = true := decide_eq_true a7
    go_wp2_with fail
    go_ret
    exact ⟨rfl, F3.out⟩
  have u2 : decide (7 < x) = false := decide_eq_false a7
  by_cases b0 : y < 0
  · have u3 : decide (y < 0) = true := decide_eq_true b0
    go_wp2_with fail
    go_ret
    exact ⟨rfl, F3.out⟩
  have u3 : decide (y < 0) = false := decide_eq_false b0
  by_cases b10 : 10 < y
  · have u4 : decide (10 < y) = true := decide_eq_true b10
    go_wp2_with fail
    go_ret
    exact ⟨rfl, F3.out⟩
  have u4 : decide (10 < y) = false := decide_eq_false b10
  by_cases c0 : v < 0
  · have u5 : decide (v < 0) = true := decide_eq_true c0
    go_wp2_with fail
    go_ret
    exact ⟨rfl, F3.out⟩
  have u5 : decide (v < 0) = false := decide_eq_false c0
  by_cases c9 : 900000 < v
  · have u6 : decide (900000 < v) = true := decide_eq_true c9
    go_wp2_with fail
    go_ret
    exact ⟨rfl, F3.out⟩
  have u6 : decide (900000 < v) = false := decide_eq_false c9
  obtain ⟨a, rfl⟩ : ∃ a : Nat, x = (a : Int) := ⟨x.toNat, by omega⟩
  obtain ⟨m, rfl⟩ : ∃ a : Nat, y = (a : Int) := ⟨y.toNat, by omega⟩
  obtain ⟨t, rfl⟩ : ∃ a : Nat, v = (a : Int) := ⟨v.toNat, by omega⟩
  have ha : a < 8 := by omega
  have hm : m ≤ 10 := by omega
  have ht : t ≤ 900000 := by omega
  obtain ⟨o, ho⟩ : ∃ o, o = (a + 1) % 8 := ⟨_, rfl⟩
  have o8 : o < 8 := by omega
  have hao : o ≠ a := by omega
  have w1_ : IntKind.i64.wrap ((a : Int) + 1) = (a : Int) + 1 := IntWalk.i64_in _ (by omega)
  have w2_ : Int.tmod ((a : Int) + 1) 8 = (o : Int) := by rw [ho, Int.tmod_eq_emod_of_nonneg (by omega)]; omega
  have w3_ : IntKind.i64.wrap (o : Int) = (o : Int) := IntWalk.i64_in _ (by omega)
  have t50 : IntKind.i64.wrap ((t : Int) + 50) = (t : Int) + 50 := IntWalk.i64_in _ (by omega)
  have t100 : IntKind.i64.wrap ((t : Int) + 100) = (t : Int) + 100 := IntWalk.i64_in _ (by omega)
  have t101 : IntKind.i64.wrap ((t : Int) + 101) = (t : Int) + 101 := IntWalk.i64_in _ (by omega)
  clear ho a0 a7 b0 b10 c0 c9 F3
  go_wp2_with fail
  go_loopw [13] (fun iv wr => ∃ (i : Nat) (K : List Sk), i ≤ m ∧ iv = .int .i64 (i : Int) ∧ HS w wr lg K 32 (2 * i) ∧ Th a o t i 0 K) (fun iv _ => m - (intOf iv).toNat)
  case atStart => exact ⟨0, [], Nat.zero_le _, rfl, h3.out, Th.nil a o t 0⟩
  case round =>
    clear h3
    obtain ⟨i, K, hi, rfl, hs, th⟩ := hrel
    by_cases him : i < m
    · have l1 : decide ((i : Int) < (m : Int)) = true := decide_eq_true (by omega)
      have i100 : IntKind.i64.wrap (100 + (i : Int)) = ((100 + i : Nat) : Int) := (IntWalk.i64_in _ (by omega)).trans (by omega)
      have i1 : IntKind.i64.wrap ((i : Int) + 1) = ((i + 1 : Nat) : Int) := (IntWalk.i64_in _ (by omega)).trans (by omega)
      have N2 := Lib.hid (th.new2 (by omega))
      have T2 := Lib.hid (th.add (by omega) hao)
      have C2 := Lib.hid (T2.out.count hao (n := (t : Int) + 50) (by omega) (by omega) ht)
      have A1 := Lib.hid (hs.add (by omega) (by omega) ha (i := i) (t := t) (by omega) (by omega) (th.new1 (by omega)))
      clear th hs
      go_wp2_with fail
      refine A1.out.mono ?_
      rintro e w4 ⟨rfl, h4⟩
      have A2 := Lib.hid (h4.add (by omega) (by omega) o8 (i := 100 + i) (t := t) (by omega) (by omega) (by rw [show ((100 + i : Nat) : Int) = 100 + (i : Int) by omega]; exact N2.out))
      generalize (K ++ [(⟨i, a, t, false⟩ : Sk)]) ++ [⟨100 + i, o, t, false⟩] = KK at *
      clear A1 h4 N2
      go_wp2_with fail
      refine A2.out.mono ?_
      rintro e w5 ⟨rfl, h5⟩
      have C3 := h5.count (a := (a : Int)) (now := (t : Int) + 50)
      rw [C2.out] at C3
      replace C3 := Lib.hid C3
      clear A2 h5
      go_wp2_with fail
      refine C3.out.mono ?_
      rintro e w6 ⟨rfl, h6⟩
      have S3 := h6.susp (a := (a : Int)) (now := (t : Int) + 50)
      rw [C2.out] at S3
      replace S3 := Lib.hid S3
      have e3 : decide ((2 : Int) ≤ (i : Int)) = decide (3 ≤ i + 1) := by rw [Bool.eq_iff_iff, decide_eq_true_iff, decide_eq_true_iff]; omega
      generalize decide (3 ≤ i + 1) = b3 at *
      clear C3 h6 C2
      go_wp2_with fail
      refine S3.out.mono ?_
      rintro e w7 ⟨rfl, h7⟩
      replace h7 := Lib.hid h7
      clear S3
      go_wp2_with fail
      go_roundw
      case rel => exact ⟨i + 1, _, by omega, by go_num, by rw [show 2 * (i + 1) = 2 * i + 1 + 1 by omega]; exact h7.out, T2.out⟩
      case measure => simp [intOf]; omega
    · obtain rfl : i = m := by omega
      have l1 : decide ((i : Int) < (i : Int)) = false := decide_eq_false (by omega)
      replace hs := Lib.hid hs
      replace th := Lib.hid th
      go_wp2_with fail
      go_loopw [14] (fun iv wr => ∃ (z : Nat) (K : List Sk), z ≤ i ∧ iv = .int .i64 (z : Int) ∧ HS w wr lg K 32 (2 * i + z) ∧ Th a o t i z K) (fun iv _ => i - (intOf iv).toNat)
      case atStart => exact ⟨0, K, Nat.zero_le _, rfl, hs.out, th.out⟩
      case round =>
        clear hs th
        obtain ⟨z, K, hz, rfl, hs, th⟩ := hrel
        by_cases hzi : z < i
        · have l2 : decide ((z : Int) < (i : Int)) = true := decide_eq_true (by omega)
          have z100 : IntKind.i64.wrap (100 + (z : Int)) = ((100 + z : Nat) : Int) := (IntWalk.i64_in _ (by omega)).trans (by omega)
          have z1 : IntKind.i64.wrap ((z : Int) + 1) = ((z + 1 : Nat) : Int) := (IntWalk.i64_in _ (by omega)).trans (by omega)
          obtain ⟨s, f1, _, f2⟩ := th.find hs.ok hzi
          have CL := Lib.hid (hs.clear (by omega) (by omega) (i := 100 + z) (t := t) (by omega) (by omega) (by rw [show ((100 + z : Nat) : Int) = 100 + (z : Int) by omega]; exact f1) (f2 ha (Nat.le_refl _) (by omega)))
          have T2 := Lib.hid (th.clear (by omega))
          clear hs th f1 f2
          go_wp2_with fail
          refine CL.out.mono ?_
          rintro e w4 ⟨rfl, h4⟩
          replace h4 := Lib.hid h4
          clear CL
          go_wp2_with fail
          go_roundw
          case rel => exact ⟨z + 1, _, by omega, by go_num, h4.out, T2.out⟩
          case measure => simp [intOf]; omega
        · obtain rfl : z = i := by omega
          have l2 : decide ((z : Int) < (z : Int)) = false := decide_eq_false (by omega)
          have e1 := Lib.hid (th.count hao (n := (t : Int) + 100) (by omega) (by omega) ht)
          have e2 := Lib.hid (th.other hao (n := (t : Int)))
          have e3 := Lib.hid (th.past (c := (a : Int)) ht)
          have b3 : decide ((3 : Int) ≤ (z : Int)) = decide (3 ≤ z) := by rw [Bool.eq_iff_iff, decide_eq_true_iff, decide_eq_true_iff]; omega
          have C1 := hs.count (a := (a : Int)) (now := (t : Int) + 100)
          rw [e1.out] at C1
          replace C1 := Lib.hid C1
          clear hs th
          go_wp2_with fail
          refine C1.out.mono ?_
          rintro e w4 ⟨rfl, h4⟩
          have C2 := h4.count (a := (o : Int)) (now := (t : Int))
          rw [e2.out] at C2
          replace C2 := Lib.hid C2
          clear C1 h4 e2
          go_wp2_with fail
          refine C2.out.mono ?_
          rintro e w5 ⟨rfl, h5⟩
          have S1 := h5.susp (a := (a : Int)) (now := (t : Int) + 100)
          rw [e1.out] at S1
          replace S1 := Lib.hid S1
          generalize decide (3 ≤ z) = bz at *
          clear C2 h5 e1
          go_wp2_with fail
          refine S1.out.mono ?_
          rintro e w6 ⟨rfl, h6⟩
          have S2 := h6.susp (a := (a : Int)) (now := (t : Int) + 101)
          rw [e3.out] at S2
          replace S2 := Lib.hid S2
          clear S1 h6 e3
          go_wp2_with fail
          refine S2.out.mono ?_
          rintro e w7 ⟨rfl, h7⟩
          have F := Lib.hid h7.ex
          clear S2 h7
          go_wp2_with fail
          go_ret
          exact ⟨rfl, F.out⟩
end Go.Proofs.Yteaoacinhdjkeaa
