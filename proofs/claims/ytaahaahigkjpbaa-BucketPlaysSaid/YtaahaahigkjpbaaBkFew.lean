/-
  BucketFew: in a row of times no more are taken than most, and one for each multiple of every up to the last one.
-/
import Derived.Test.YtaahaahigkjpbaaBkWaits
namespace Go.Proofs.Ytaahaahigkjpbaa
open Go.ChangeShapes Go.WideShapes Go.ChangeAt Go.RowKit Go.Deep

theorem bkAt_le {m v t k now : Int} : bkAt m v t k now ≤ k + (now / v - t / v) := by
  unfold bkAt
  split <;> omega

theorem bkHas_in {m v t k now : Int} (h1 : t ≤ now) (h2 : now ≤ 1000000) : bkHas m v t k now = bkAt m v t k now := by
  unfold bkHas
  rw [if_neg (by omega)]

set_option maxHeartbeats 4000000 in
theorem few_calls {m v : Int} {A : Option Addr} {n c : Nat} {xs : List UInt8} {w : World} (hm : -9223372036854775808 ≤ m ∧ m ≤ 9223372036854775807) (hv : -9223372036854775808 ≤ v ∧ v ≤ 9223372036854775807) (h : Bs w A n c xs) :
    Calls Try.prog 4 #[.int .i64 m, .int .i64 v, .slice A n c] w fun e w' => e = .returned (.bool true) ∧ Ext w w' := by
  have h1 := h.le
  have h2 := h.cap
  by_cases hs : bkSet m v
  · have hset := hs
    obtain ⟨a1, a2, a3, a4⟩ := hs
    by_cases hr : n ≤ 300
    · have p1 : decide ((300 : Int) < (n : Int)) = false := by simp; omega
      have v0 : ¬ v = 0 := by omega
      go_enter Try.func4, Try.ntmps4
      go_wp2_with fail
      refine (awake_calls _).mono ?_
      rintro e w1 ⟨rfl, e1⟩
      go_wp2_with fail
      refine (new_good hset).mono ?_
      rintro e w2 ⟨rfl, b2, e2⟩
      have hge := e1.size
      generalize hg : w1.heap.size = g at *
      clear hg
      have E2 := e1.trans e2
      go_wp2_with fail
      go_loopw [10, 11, 12] (fun x y i wr => ∃ (j : Nat) (t k q : Int), j ≤ n ∧ i = .int .i64 j ∧ x = .int .i64 t ∧ y = .int .i64 q ∧ Bk wr g m v t k ∧ BkOk m v t k ∧ t ≤ 19 * j ∧ 0 ≤ q ∧ q + k ≤ m + t / v ∧ q ≤ j ∧ Ext w wr) (fun _ _ i _ => n - (intOf i).toNat)
      case atStart => exact ⟨0, 0, m, 0, by omega, rfl, rfl, rfl, b2, ⟨a1, a2, a3, a4, by omega, by omega, by omega, by omega⟩, by omega, by omega, by simp, by omega, E2⟩
      case round =>
        obtain ⟨j, t, k, q, hj, rfl, rfl, rfl, hb, hok, ht, hq0, hq, hqj, hE⟩ := hrel
        have ht0 := hok.2.2.2.2.1
        have HQ := Lib.hid hq
        clear hq
        by_cases hlt : j < n
        · obtain ⟨b, off, rfl, hbl, hc⟩ := h.pos (by omega)
          have g1 := (hE.cell (p := ⟨b, off + j, none⟩) hbl).trans (hc j hlt)
          have hbt := bt_lt xs j
          clear hc
          obtain ⟨u, hu, hu0, hu1⟩ : ∃ u : Int, Hid ((bt xs j : Int) % 20 = u) ∧ 0 ≤ u ∧ u ≤ 19 := ⟨_, rfl, by omega, by omega⟩
          have hu' := hu.out
          have hdiv : Hid (t / v ≤ (t + u) / v) := Int.ediv_le_ediv (by omega) (by omega)
          have hxl : Hid (bkAt m v t k (t + u) ≤ k + ((t + u) / v - t / v)) := bkAt_le
          have hxo := bkAt_ok hok (show t ≤ t + u by omega)
          have tk := took_ok hok (show t ≤ t + u by omega) (by omega)
          have hhas := has_calls hb hok (now := t + u) (by omega) (by omega)
          rw [bkHas_in (by omega) (by omega)] at hhas
          have htake := fun (W : World) (HB : Bk W g m v t k) => take_calls HB hok (show t ≤ t + u by omega) (by omega)
          have HHAS := Lib.hid hhas
          have HTAKE := Lib.hid htake
          have HTK := Lib.hid tk
          clear hhas htake tk
          generalize hx : bkAt m v t k (t + u) = x at *
          have HX := Lib.hid hx
          clear hx
          obtain ⟨x0, x1⟩ := hxo
          have d3 : decide (m < x) = false := by simp; omega
          have d4 : decide (x < 0) = false := by simp; omega
          go_wp2_with fail
          refine HHAS.out.mono ?_
          rintro e w3 ⟨rfl, e3⟩
          go_wp2_with fail
          refine (HTAKE.out _ (hb.ext e3)).mono ?_
          rintro e w4 ⟨g4, hh⟩
          have E4 := ext_of_grown (hE.trans e3) hge g4
          rw [HX.out] at hh
          rcases hh with ⟨hx0, rfl, b4⟩ | ⟨hxp, rfl, b4⟩
          · have d5 : decide (0 < x) = false := by simp; omega
            have HX0 := Lib.hid hx0
            clear hx0
            go_wp2_with fail
            go_roundw
            case rel => exact ⟨j + 1, t + u, 0, q, by omega, by go_num, rfl, rfl, b4, HTK.out.1, by omega, by omega, by have := HQ.out; have := hdiv.out; have := hok.2.2.2.2.2.2.1; omega, by omega, E4⟩
            case measure => simp [intOf]; omega
          · have d5 : decide (0 < x) = true := by simp; omega
            go_wp2_with fail
            go_roundw
            case rel => exact ⟨j + 1, t + u, x - 1, q + 1, by omega, by go_num, rfl, rfl, b4, HTK.out.2 hxp, by omega, by omega, by have := HQ.out; have := hxl.out; omega, by omega, E4⟩
            case measure => simp [intOf]; omega
        · have hk0 := hok.2.2.2.2.2.2.1
          have dv := IntWalk.tdiv_le t v (by omega) a3
          have hfin : q ≤ m + t / v := by have := HQ.out; omega
          go_wp2_with fail
          go_ret
          exact ⟨ret_bool (by simp), hE⟩
    · have p1 : decide ((300 : Int) < (n : Int)) = true := by simp; omega
      go_enter Try.func4, Try.ntmps4
      go_wp2_with fail
      refine (awake_calls _).mono ?_
      rintro e w1 ⟨rfl, e1⟩
      go_wp2_with fail
      refine (new_good hset).mono ?_
      rintro e w2 ⟨rfl, b2, e2⟩
      go_wp2_with fail
      go_ret
      exact ⟨rfl, e1.trans e2⟩
  · go_enter Try.func4, Try.ntmps4
    go_wp2_with fail
    refine (awake_calls _).mono ?_
    rintro e w1 ⟨rfl, e1⟩
    go_wp2_with fail
    refine (new_bad hs).mono ?_
    rintro e w2 ⟨rfl, rfl⟩
    go_wp2_with fail
    go_ret
    exact ⟨rfl, e1⟩
end Go.Proofs.Ytaahaahigkjpbaa
