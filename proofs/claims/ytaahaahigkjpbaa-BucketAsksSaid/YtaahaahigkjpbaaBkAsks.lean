/-
  BucketAsks: asking changes nothing: Has tells just how many Takes at that time go well.
-/
import Derived.Test.YtaahaahigkjpbaaBkFew
import Derived.Test.YtaahaahigkjpbaaInts
namespace Go.Proofs.Ytaahaahigkjpbaa
open Go.ChangeShapes Go.WideShapes Go.ChangeAt Go.RowKit Go.Deep

set_option maxRecDepth 100000 in
set_option maxHeartbeats 8000000 in
theorem asks_calls {m v : Int} {A : Option Addr} {n c : Nat} {zs : List Int} {w : World} (hm : -9223372036854775808 ≤ m ∧ m ≤ 9223372036854775807) (hv : -9223372036854775808 ≤ v ∧ v ≤ 9223372036854775807) (h : Is w A n c zs) :
    Calls Try.prog 7 #[.int .i64 m, .int .i64 v, .slice A n c] w fun e w' => e = .returned (.bool true) ∧ Ext w w' := by
  have h1 := h.le
  have h2 := h.cap
  by_cases hs : bkSet m v
  · have hset := hs
    obtain ⟨a1, a2, a3, a4⟩ := hs
    by_cases hr : m ≤ 60 ∧ n ≤ 30
    · have p1 : decide (60 < m) = false := by simp; omega
      have p2 : decide ((30 : Int) < (n : Int)) = false := by simp; omega
      go_enter Try.func7, Try.ntmps7
      go_wp2_with fail
      refine (awake_calls _).mono ?_
      rintro e w1 ⟨rfl, e1⟩
      go_wp2_with fail
      refine (new_good hset).mono ?_
      rintro e w2 ⟨rfl, b2, e2⟩
      have hge := e1.size
      have E2 := e1.trans e2
      generalize hg : w1.heap.size = g at *
      clear hg
      go_wp2_with fail
      go_loopw [10, 11] (fun x i wr => ∃ (j : Nat) (T t k : Int), j ≤ n ∧ i = .int .i64 j ∧ x = .int .i64 T ∧ Bk wr g m v t k ∧ BkOk m v t k ∧ t ≤ T ∧ T ≤ 1000 * j ∧ Ext w wr) (fun _ i _ => n - (intOf i).toNat)
      case atStart => exact ⟨0, 0, 0, m, by omega, rfl, rfl, b2, ⟨a1, a2, a3, a4, by omega, by omega, by omega, by omega⟩, by omega, by omega, E2⟩
      case round =>
        obtain ⟨j, T, t, k, hj, rfl, rfl, hb, hok, htT, hT, hE⟩ := hrel
        have ht0 := hok.2.2.2.2.1
        by_cases hlt : j < n
        · obtain ⟨b, off, rfl, hbl, hc⟩ := h.pos (by omega)
          obtain ⟨g0, u0, u1⟩ := hc j hlt
          have g1 := (hE.cell (p := ⟨b, off + j, none⟩) hbl).trans g0
          clear hc g0
          generalize nat_at zs j = u at *
          by_cases hu : 0 ≤ u ∧ u ≤ 1000
          · obtain ⟨u2, u3⟩ := hu
            have d1 : decide (u < 0) = false := by simp; omega
            have d2 : decide (1000 < u) = false := by simp; omega
            have hh := Lib.hid (fun (W : World) (HB : Bk W g m v t k) => has_is HB hok (now := T + u) (by omega) (by omega) (bkHas_in (by omega) (by omega)))
            have hxo := bkAt_ok hok (show t ≤ T + u by omega)
            generalize hx : bkAt m v t k (T + u) = x at *
            have HX := Lib.hid hx
            clear hx
            obtain ⟨x0, x1⟩ := hxo
            have d3 : decide (m < x) = false := by simp; omega
            have d4 : decide (x < 0) = false := by simp; omega
            go_wp2_with fail
            refine (hh.out _ hb).mono ?_
            rintro e w4 ⟨rfl, e4⟩
            go_wp2_with fail
            refine (hh.out _ (hb.ext e4)).mono ?_
            rintro e w5 ⟨rfl, e5⟩
            have e45 := e4.trans e5
            have hb5 := hb.ext e45
            have E5 := hE.trans e45
            by_cases hpar : j % 2 = 0
            · have d5 : ((j : Int) % 2 == 0) = true := by simp; omega
              go_wp2_with fail
              go_roundw
              case rel => exact ⟨j + 1, T + u, t, k, by omega, by go_num, rfl, hb5, hok, by omega, by omega, E5⟩
              case measure => simp [intOf]; omega
            · have d5 : ((j : Int) % 2 == 0) = false := by simp; omega
              go_wp2_with fail
              go_loopw [13] (fun i wr => ∃ (q : Nat) (t' k' : Int), (q : Int) ≤ x ∧ i = .int .i64 q ∧ Bk wr g m v t' k' ∧ BkOk m v t' k' ∧ t' ≤ T + u ∧ bkAt m v t' k' (T + u) = x - q ∧ Ext w wr) (fun i _ => (x - intOf i).toNat)
              case atStart => exact ⟨0, t, k, by omega, rfl, hb5, hok, by omega, by rw [HX.out]; omega, E5⟩
              case round =>
                obtain ⟨q, t', k', hq, rfl, hbq, hokq, htq, hatq, hEq⟩ := hrel
                have HAT := Lib.hid hatq
                clear hatq
                by_cases hql : (q : Int) < x
                · go_wp2_with fail
                  refine (take_yes hbq hokq htq (by omega) HAT.out (by omega)).mono ?_
                  rintro e w6 ⟨rfl, b6, g6⟩
                  go_wp2_with fail
                  go_roundw
                  case rel => exact ⟨q + 1, T + u, x - q - 1, by omega, by go_num, b6, ⟨a1, a2, a3, a4, by omega, by omega, by omega, by omega⟩, by omega, by rw [bkAt_same (by omega)]; omega, ext_of_grown hEq hge g6⟩
                  case measure => simp [intOf]; omega
                · go_wp2_with fail
                  refine (has_is hbq hokq (now := T + u) (by omega) (by omega) (x := 0) (by rw [bkHas_in (by omega) (by omega), HAT.out]; omega)).mono ?_
                  rintro e w7 ⟨rfl, e7⟩
                  go_wp2_with fail
                  refine (take_rate (hbq.ext e7) hokq htq (by omega) (by rw [HAT.out]; omega)).mono ?_
                  rintro e w8 ⟨rfl, b8, g8⟩
                  have E8 := ext_of_grown (hEq.trans e7) hge g8
                  go_wp2_with fail
                  exact ⟨⟨j + 1, T + u, T + u, 0, by omega, by go_num, rfl, b8, ⟨a1, a2, a3, a4, by omega, by omega, by omega, by omega⟩, by omega, by omega, E8⟩, by simp [intOf]; omega⟩
          · have hdd : (decide (u < 0) || decide (1000 < u)) = true := by simp; omega
            by_cases s1 : u < 0
            · have d1 : decide (u < 0) = true := by simp [s1]
              go_wp2_with fail
              go_ret
              exact ⟨rfl, hE⟩
            · have d1 : decide (u < 0) = false := by simp; omega
              have d2 : decide (1000 < u) = true := by simp; omega
              go_wp2_with fail
              go_ret
              exact ⟨rfl, hE⟩
        · go_wp2_with fail
          go_ret
          exact ⟨rfl, hE⟩
    · by_cases s1 : 60 < m
      · have p1 : decide (60 < m) = true := by simp [s1]
        go_enter Try.func7, Try.ntmps7
        go_wp2_with fail
        refine (awake_calls _).mono ?_
        rintro e w1 ⟨rfl, e1⟩
        go_wp2_with fail
        refine (new_good hset).mono ?_
        rintro e w2 ⟨rfl, b2, e2⟩
        go_wp2_with fail
        go_ret
        exact ⟨rfl, e1.trans e2⟩
      · have p1 : decide (60 < m) = false := by simp; omega
        have p2 : decide ((30 : Int) < (n : Int)) = true := by simp; omega
        go_enter Try.func7, Try.ntmps7
        go_wp2_with fail
        refine (awake_calls _).mono ?_
        rintro e w1 ⟨rfl, e1⟩
        go_wp2_with fail
        refine (new_good hset).mono ?_
        rintro e w2 ⟨rfl, b2, e2⟩
        go_wp2_with fail
        go_ret
        exact ⟨rfl, e1.trans e2⟩
  · go_enter Try.func7, Try.ntmps7
    go_wp2_with fail
    refine (awake_calls _).mono ?_
    rintro e w1 ⟨rfl, e1⟩
    go_wp2_with fail
    refine (new_bad hs).mono ?_
    rintro e w2 ⟨rfl, rfl⟩
    go_wp2_with fail
    go_ret
    exact ⟨rfl, e1⟩
end Go.Proofs.Ytaahaahigkjpbaa
