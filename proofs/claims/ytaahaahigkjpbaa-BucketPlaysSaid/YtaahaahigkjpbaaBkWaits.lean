/-
  BucketWaits: who waits long enough gets most, and no more at once.
-/
import Derived.Test.YtaahaahigkjpbaaBk
namespace Go.Proofs.Ytaahaahigkjpbaa
open Go.ChangeShapes Go.WideShapes Go.ChangeAt Go.RowKit Go.Deep

theorem bkAt_same {m v t k : Int} (h : k ≤ m) : bkAt m v t k t = k := by
  unfold bkAt
  rw [Int.sub_self, Int.add_zero]
  split <;> omega
theorem bkAt_full {m v t now : Int} (hv : 1 ≤ v) (h : t ≤ now) : bkAt m v t m now = m := by
  have hd : t / v ≤ now / v := Int.ediv_le_ediv (by omega) h
  unfold bkAt
  split <;> omega
theorem bkAt_wait {m v t k : Int} (hm : 1 ≤ m) (hv : 1 ≤ v) (hk : 0 ≤ k) : bkAt m v t k (t + m * v) = m := by
  have hd : (t + m * v) / v = t / v + m := Int.add_mul_ediv_right _ _ (by omega)
  unfold bkAt
  rw [hd]
  split <;> omega

set_option maxHeartbeats 4000000 in
theorem waits_calls {m v f : Int} {w : World} (hm : -9223372036854775808 ≤ m ∧ m ≤ 9223372036854775807) (hv : -9223372036854775808 ≤ v ∧ v ≤ 9223372036854775807) (hf : -9223372036854775808 ≤ f ∧ f ≤ 9223372036854775807) :
    Calls Try.prog 5 #[.int .i64 m, .int .i64 v, .int .i64 f] w fun e w' => e = .returned (.bool true) ∧ Ext w w' := by
  by_cases hs : bkSet m v
  · have hset := hs
    obtain ⟨a1, a2, a3, a4⟩ := hs
    by_cases hr : m ≤ 100 ∧ 0 ≤ f ∧ f ≤ 10000
    · obtain ⟨r1, r2, r3⟩ := hr
      have pm : 0 ≤ m * v := Int.mul_nonneg (by omega) (by omega)
      have pm1 : 1 ≤ m * v := by
        have := Int.mul_le_mul a1 a3 (by omega) (by omega)
        omega
      have pm2 : m * v ≤ 100000 := by
        have := Int.mul_le_mul r1 a4 (by omega) (by omega)
        omega
      have p1 : decide (100 < m) = false := by simp; omega
      have p2 : decide (f < 0) = false := by simp; omega
      have p3 : decide (10000 < f) = false := by simp; omega
      go_enter Try.func5, Try.ntmps5
      go_wp2_with fail
      refine (awake_calls _).mono ?_
      rintro e w1 ⟨rfl, e1⟩
      go_wp2_with fail
      refine (new_good hset).mono ?_
      rintro e w2 ⟨rfl, b2, e2⟩
      have hge := e1.size
      generalize hg : w1.heap.size = g at *
      clear hg
      go_wp2_with fail
      refine (take_yes b2 ⟨a1, a2, a3, a4, by omega, by omega, by omega, by omega⟩ (by omega) (by omega) (bkAt_full a3 r2) (by omega)).mono ?_
      rintro e w3 ⟨rfl, b3, g3⟩
      have E3 : Ext w w3 := ext_of_grown (e1.trans e2) hge g3
      go_wp2_with fail
      go_loopw [11] (fun i wr => ∃ (j : Nat) (t k : Int), (j : Int) ≤ m ∧ i = .int .i64 j ∧ Bk wr g m v t k ∧ BkOk m v t k ∧ t ≤ f + m * v ∧ bkAt m v t k (f + m * v) = m - j ∧ Ext w wr) (fun i _ => (m - intOf i).toNat)
      case atStart => exact ⟨0, f, m - 1, by omega, rfl, b3, ⟨a1, a2, a3, a4, by omega, by omega, by omega, by omega⟩, by omega, by rw [bkAt_wait a1 a3 (by omega)]; omega, E3⟩
      case round =>
        obtain ⟨j, t, k, hj, rfl, hb, hok, ht, hat, hE⟩ := hrel
        have HAT := Lib.hid hat
        clear hat
        by_cases hlt : (j : Int) < m
        · go_wp2_with fail
          refine (take_yes hb hok ht (by omega) HAT.out (by omega)).mono ?_
          rintro e w4 ⟨rfl, b4, g4⟩
          go_wp2_with fail
          go_roundw
          case rel => exact ⟨j + 1, f + m * v, m - j - 1, by omega, by go_num, b4, ⟨a1, a2, a3, a4, by omega, by omega, by omega, by omega⟩, by omega, by rw [bkAt_same (by omega)]; omega, ext_of_grown hE hge g4⟩
          case measure => simp [intOf]; omega
        · have hjm : (j : Int) = m := by omega
          have HJ := Lib.hid hjm
          clear hjm
          go_wp2_with fail
          refine (take_rate hb hok ht (by omega) (by rw [HAT.out, HJ.out]; omega)).mono ?_
          rintro e w4 ⟨rfl, b4, g4⟩
          have E4 := ext_of_grown hE hge g4
          go_wp2_with fail
          refine (take_old b4 (by omega) (by omega) (by omega)).mono ?_
          rintro e w5 ⟨rfl, rfl⟩
          have ok4 : BkOk m v (f + m * v) 0 := ⟨a1, a2, a3, a4, by omega, by omega, by omega, by omega⟩
          go_wp2_with fail
          refine (has_is b4 ok4 (by omega) (by omega) (x := 0) (by unfold bkHas; rw [if_pos (.inl (by omega))])).mono ?_
          rintro e w6 ⟨rfl, e6⟩
          go_wp2_with fail
          refine (has_is (b4.ext e6) ok4 (by omega) (by omega) (x := 0) (by unfold bkHas; rw [if_neg (by omega), bkAt_same (by omega)])).mono ?_
          rintro e w7 ⟨rfl, e7⟩
          go_wp2_with fail
          go_ret
          exact ⟨rfl, (E4.trans e6).trans e7⟩
    · have hdec : (decide (100 < m) || decide (f < 0) || decide (10000 < f)) = true := by simp; omega
      by_cases s1 : 100 < m
      · have p1 : decide (100 < m) = true := by simp [s1]
        go_enter Try.func5, Try.ntmps5
        go_wp2_with fail
        refine (awake_calls _).mono ?_
        rintro e w1 ⟨rfl, e1⟩
        go_wp2_with fail
        refine (new_good hset).mono ?_
        rintro e w2 ⟨rfl, b2, e2⟩
        go_wp2_with fail
        go_ret
        exact ⟨rfl, e1.trans e2⟩
      · have p1 : decide (100 < m) = false := by simp; omega
        by_cases s2 : f < 0
        · have p2 : decide (f < 0) = true := by simp [s2]
          go_enter Try.func5, Try.ntmps5
          go_wp2_with fail
          refine (awake_calls _).mono ?_
          rintro e w1 ⟨rfl, e1⟩
          go_wp2_with fail
          refine (new_good hset).mono ?_
          rintro e w2 ⟨rfl, b2, e2⟩
          go_wp2_with fail
          go_ret
          exact ⟨rfl, e1.trans e2⟩
        · have p2 : decide (f < 0) = false := by simp; omega
          have p3 : decide (10000 < f) = true := by simp; omega
          go_enter Try.func5, Try.ntmps5
          go_wp2_with fail
          refine (awake_calls _).mono ?_
          rintro e w1 ⟨rfl, e1⟩
          go_wp2_with fail
          refine (new_good hset).mono ?_
          rintro e w2 ⟨rfl, b2, e2⟩
          go_wp2_with fail
          go_ret
          exact ⟨rfl, e1.trans e2⟩
  · go_enter Try.func5, Try.ntmps5
    go_wp2_with fail
    refine (awake_calls _).mono ?_
    rintro e w1 ⟨rfl, e1⟩
    go_wp2_with fail
    refine (new_bad hs).mono ?_
    rintro e w2 ⟨rfl, rfl⟩
    go_wp2_with fail
    go_ret
    exact ⟨rfl, e1⟩
end Go.Proofs.Ytaahaahigkjpbaa
