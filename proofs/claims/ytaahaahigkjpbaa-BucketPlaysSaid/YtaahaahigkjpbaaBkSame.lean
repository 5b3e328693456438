/-
  BucketSame: what is asked for changes nothing; times at which nothing was taken do not matter.
-/
import Derived.Test.YtaahaahigkjpbaaBkFew
namespace Go.Proofs.Ytaahaahigkjpbaa
open Go.ChangeShapes Go.WideShapes Go.ChangeAt Go.RowKit Go.Deep

set_option maxHeartbeats 8000000 in
theorem same_calls {m v : Int} {A : Option Addr} {n c : Nat} {xs : List UInt8} {w : World} (hm : -9223372036854775808 ≤ m ∧ m ≤ 9223372036854775807) (hv : -9223372036854775808 ≤ v ∧ v ≤ 9223372036854775807) (h : Bs w A n c xs) :
    Calls Try.prog 6 #[.int .i64 m, .int .i64 v, .slice A n c] w fun e w' => e = .returned (.bool true) ∧ Ext w w' := by
  have h1 := h.le
  have h2 := h.cap
  by_cases hs : bkSet m v
  · have hset := hs
    obtain ⟨a1, a2, a3, a4⟩ := hs
    by_cases hr : n ≤ 100
    · have p1 : decide ((100 : Int) < (n : Int)) = false := by simp; omega
      go_enter Try.func6, Try.ntmps6
      go_wp2_with fail
      refine (awake_calls _).mono ?_
      rintro e w1 ⟨rfl, e1⟩
      go_wp2_with fail
      refine (new_good hset).mono ?_
      rintro e w2 ⟨rfl, b2, e2⟩
      go_wp2_with fail
      refine (new_good hset).mono ?_
      rintro e w3 ⟨rfl, b3, e3⟩
      have hge := e1.size
      have hlt2 := b2.lt
      have b2' := b2.ext e3
      have E3 := (e1.trans e2).trans e3
      clear b2
      generalize hg : w1.heap.size = g at *
      generalize hg' : w2.heap.size = g' at *
      clear hg hg'
      have hge' : w.heap.size ≤ g' := by omega
      go_wp2_with fail
      go_loopw [12, 13] (fun x i wr => ∃ (j : Nat) (T t k : Int), j ≤ n ∧ i = .int .i64 j ∧ x = .int .i64 T ∧ Bk wr g m v t k ∧ Bk wr g' m v t k ∧ BkOk m v t k ∧ t ≤ T ∧ T ≤ 29 * j ∧ Ext w wr) (fun _ i _ => n - (intOf i).toNat)
      case atStart => exact ⟨0, 0, 0, m, by omega, rfl, rfl, b2', b3, ⟨a1, a2, a3, a4, by omega, by omega, by omega, by omega⟩, by omega, by omega, E3⟩
      case round =>
        obtain ⟨j, T, t, k, hj, rfl, rfl, hb, hb', hok, htT, hT, hE⟩ := hrel
        have ht0 := hok.2.2.2.2.1
        by_cases hlt : j < n
        · obtain ⟨b, off, rfl, hbl, hc⟩ := h.pos (by omega)
          have g1 := (hE.cell (p := ⟨b, off + j, none⟩) hbl).trans (hc j hlt)
          have hbt := bt_lt xs j
          have hcj := hc j hlt
          clear hc
          obtain ⟨u, hu, hu0, hu1⟩ : ∃ u : Int, (bt xs j : Int) % 30 = u ∧ 0 ≤ u ∧ u ≤ 29 := ⟨_, rfl, by omega, by omega⟩
          have hh1 := Lib.hid (fun (W : World) (HB : Bk W g m v t k) => has_calls HB hok (now := T + u + 5) (by omega) (by omega))
          have hh2 := Lib.hid (fun (W : World) (HB : Bk W g m v t k) => has_calls HB hok (now := T + u - 5) (by omega) (by omega))
          have ht1 := Lib.hid (fun (W : World) (HB : Bk W g m v t k) => take_calls HB hok (show t ≤ T + u by omega) (by omega))
          have ht2 := Lib.hid (fun (W : World) (HB : Bk W g' m v t k) => take_calls HB hok (show t ≤ T + u by omega) (by omega))
          have tk := Lib.hid (took_ok hok (show t ≤ T + u by omega) (by omega))
          go_wp2_with fail
          refine (hh1.out _ hb).mono ?_
          rintro e w4 ⟨rfl, e4⟩
          go_wp2_with fail
          refine (hh2.out _ (hb.ext e4)).mono ?_
          rintro e w5 ⟨rfl, e5⟩
          have e45 := e4.trans e5
          have g2 := ((hE.trans e45).cell (p := ⟨b, off + j, none⟩) hbl).trans hcj
          cases hq : (bits .and .u8 (bt xs j : Int) 1 == 1) with
          | true =>
            go_wp2_with fail
            go_roundw
            case rel => exact ⟨j + 1, T + u, t, k, by omega, by go_num, rfl, hb.ext e45, hb'.ext e45, hok, by omega, by omega, hE.trans e45⟩
            case measure => simp [intOf]; omega
          | false =>
            go_wp2_with fail
            refine (ht1.out _ (hb.ext e45)).mono ?_
            rintro e w6 ⟨g6, hh⟩
            have E6 := ext_of_grown (hE.trans e45) hge g6
            have hb6 := (hb'.ext e45).grown g6 (by intro q; injection q with q; omega)
            rcases hh with ⟨hx0, rfl, c6⟩ | ⟨hxp, rfl, c6⟩
            · have HX0 := Lib.hid hx0
              clear hx0
              go_wp2_with fail
              refine (ht2.out _ hb6).mono ?_
              rintro e w7 ⟨g7, hh⟩
              rcases hh with ⟨_, rfl, c7⟩ | ⟨hxp, _⟩
              case inr => exact absurd HX0.out (by omega)
              have E7 := ext_of_grown E6 hge' g7
              have c6' := c6.grown g7 (by intro q; injection q with q; omega)
              have ok7 := tk.out.1
              go_wp2_with fail
              refine (has_calls c6' ok7 (by omega) (by omega)).mono ?_
              rintro e w8 ⟨rfl, e8⟩
              go_wp2_with fail
              refine (has_calls (c7.ext e8) ok7 (by omega) (by omega)).mono ?_
              rintro e w9 ⟨rfl, e9⟩
              have e89 := e8.trans e9
              go_wp2_with fail
              go_roundw
              case rel => exact ⟨j + 1, T + u, T + u, 0, by omega, by go_num, rfl, c6'.ext e89, c7.ext e89, ok7, by omega, by omega, E7.trans e89⟩
              case measure => simp [intOf]; omega
            · go_wp2_with fail
              refine (ht2.out _ hb6).mono ?_
              rintro e w7 ⟨g7, hh⟩
              rcases hh with ⟨hx0, _⟩ | ⟨_, rfl, c7⟩
              case inl => exact absurd hx0 (by omega)
              have E7 := ext_of_grown E6 hge' g7
              have c6' := c6.grown g7 (by intro q; injection q with q; omega)
              have ok7 := tk.out.2 hxp
              go_wp2_with fail
              refine (has_calls c6' ok7 (by omega) (by omega)).mono ?_
              rintro e w8 ⟨rfl, e8⟩
              go_wp2_with fail
              refine (has_calls (c7.ext e8) ok7 (by omega) (by omega)).mono ?_
              rintro e w9 ⟨rfl, e9⟩
              have e89 := e8.trans e9
              go_wp2_with fail
              go_roundw
              case rel => exact ⟨j + 1, T + u, T + u, _, by omega, by go_num, rfl, c6'.ext e89, c7.ext e89, ok7, by omega, by omega, E7.trans e89⟩
              case measure => simp [intOf]; omega
        · go_wp2_with fail
          go_ret
          exact ⟨rfl, hE⟩
    · have p1 : decide ((100 : Int) < (n : Int)) = true := by simp; omega
      go_enter Try.func6, Try.ntmps6
      go_wp2_with fail
      refine (awake_calls _).mono ?_
      rintro e w1 ⟨rfl, e1⟩
      go_wp2_with fail
      refine (new_good hset).mono ?_
      rintro e w2 ⟨rfl, b2, e2⟩
      go_wp2_with fail
      refine (new_good hset).mono ?_
      rintro e w3 ⟨rfl, b3, e3⟩
      go_wp2_with fail
      go_ret
      exact ⟨rfl, (e1.trans e2).trans e3⟩
  · go_enter Try.func6, Try.ntmps6
    go_wp2_with fail
    refine (awake_calls _).mono ?_
    rintro e w1 ⟨rfl, e1⟩
    go_wp2_with fail
    refine (new_bad hs).mono ?_
    rintro e w2 ⟨rfl, rfl⟩
    go_wp2_with fail
    refine (new_bad hs).mono ?_
    rintro e w2 ⟨rfl, rfl⟩
    go_wp2_with fail
    go_ret
    exact ⟨rfl, e1⟩
end Go.Proofs.Ytaahaahigkjpbaa
