/-
  The journal: a record is read from a sector.
-/
import Derived.Test.YteaoacinhdjkeaaJr1
import Derived.Test.YteaoacinhdjkeaaCut
namespace Go.Proofs.Yteaoacinhdjkeaa
open Go.ChangeShapes Go.WideShapes Go.ChangeAt Go.RowKit Go.Deep Go.Maps
set_option maxRecDepth 100000

theorem cellsOf_app22 (xs ys : List UInt8) : cellsOf (xs ++ ys) = cellsOf xs ++ cellsOf ys := by rw [cellsOf_map, cellsOf_map, cellsOf_map, List.map_append]
theorem Own.mono22 {B B' : Nat} {w : World} {A : Option Addr} {n c : Nat} {xs : List UInt8} (h : Own B w A n c xs) (hB : B' ≤ B) : Own B' w A n c xs := by
  refine ⟨h.1, ?_⟩
  rcases h.2 with h | ⟨g, cap, cur, hv, hb, r⟩
  · exact .inl h
  · exact .inr ⟨g, cap, cur, hv, Nat.le_trans hB hb, r⟩
/-- A sector's record, at its place. -/
def recL (i : Nat) (s : List UInt8) : Option (List UInt8) :=
  if ofLowL (s.take 4).reverse = i + 1 ∧ bt s 4 ≤ 59 ∧ (∀ j, j < 59 - bt s 4 → bt s (5 + bt s 4 + j) = 0) then some ((s.drop 5).take (bt s 4)) else none

def RetRec (o : Option (List UInt8)) (w : World) (e : Ending) (w' : World) : Prop :=
  Ext w w' ∧ ((o = none ∧ e = .returned (.tuple #[.slice none 0 0, .bool false])) ∨ ∃ x A n c, o = some x ∧ e = .returned (.tuple #[.slice A n c, .bool true]) ∧ Own w.heap.size w' A n c x)

theorem sector_from5 {w : World} {g z : Nat} (hz : z ≤ 59) : ∃ a : Addr, (z < 59 → a = ⟨g, 5 + z, none⟩) ∧ ∀ w : World, (Instr.sliceAt 45 (.pointer (some ⟨g, 0, none⟩)) (some (.int .i64 (5 + (z : Int)))) none none).run Try.prog w = .ok (.slice (some a) (59 - z) (59 - z)) w := by
  refine ⟨if 64 = 5 + z then ⟨g, 0, none⟩ else (⟨g, 0, none⟩ : Addr).add ((5 + z) * 1), fun h => ?_, fun w => ?_⟩
  · rw [if_neg (by omega)]
    unfold Addr.add; split <;> simp_all
  · have hn : Try.prog.arrayLen 45 = 64 := rfl
    rw [run_sliceAt_array_l w 45 _ rfl .i64 _ (by omega) (by rw [hn]; omega)]
    have hs : (sizeOf (Try.prog.elem 45)).run Try.prog w = .ok 1 w := rfl
    rw [hs]
    have h1 : (5 + (z : Int)).toNat = 5 + z := by omega
    show Result.ok (slicedAt _ _ _ _ _) w = _
    rw [hn, h1]
    unfold slicedAt
    rw [show 64 - (5 + z) = 59 - z by omega]
theorem sector_to4 {w : World} {g : Nat} : (Instr.sliceAt 45 (.pointer (some ⟨g, 0, none⟩)) none (some (.int .i64 4)) none).run Try.prog w = .ok (.slice (some ⟨g, 0, none⟩) 4 64) w := by
  have hn : Try.prog.arrayLen 45 = 64 := rfl
  rw [run_sliceAt_array_h w 45 _ rfl .i64 _ (by omega) (by rw [hn]; omega)]
  have hs : (sizeOf (Try.prog.elem 45)).run Try.prog w = .ok 1 w := rfl
  rw [hs]
  show Result.ok (slicedAt _ _ _ _ _) w = _
  rw [hn]
  unfold slicedAt
  simp
  unfold Addr.add
  split <;> simp_all
theorem sector_rec {w : World} {g z : Nat} (hz : z ≤ 59) : (Instr.sliceAt 45 (.pointer (some ⟨g, 0, none⟩)) (some (.int .i64 5)) (some (.int .i64 (5 + (z : Int)))) none).run Try.prog w = .ok (.slice (some ⟨g, 5, none⟩) z 59) w := by
  have hn : Try.prog.arrayLen 45 = 64 := rfl
  rw [run_sliceAt_array_lh w 45 _ rfl .i64 .i64 _ _ (by omega) (by omega) (by rw [hn]; omega)]
  have hs : (sizeOf (Try.prog.elem 45)).run Try.prog w = .ok 1 w := rfl
  rw [hs]
  have h2 : (5 + (z : Int)).toNat = 5 + z := by omega
  have h3 : (⟨g, 0, none⟩ : Addr).add (5 * 1) = ⟨g, 5, none⟩ := by unfold Addr.add; split <;> simp_all
  show Result.ok (slicedAt _ _ _ _ _) w = _
  rw [hn, h2]
  unfold slicedAt
  rw [show (5 : Int).toNat = 5 from rfl, if_neg (by omega), h3, show 5 + z - 5 = z by omega]

set_option maxHeartbeats 4000000 in
theorem jrecord_calls {w : World} {i : Nat} {s : List UInt8} (hi : i < 4294967295) (hl : s.length = 64) :
    Calls Try.prog 64 #[.agg (cellsOf s).toArray, .int .i64 (i : Int)] w (RetRec (recL i s) w) := by
  have m1 : IntKind.u64.wrap (i : Int) = (i : Int) := IntWalk.u64_in _ (by omega)
  have m2 : IntKind.u64.wrap ((i : Int) + 1) = (i : Int) + 1 := IntWalk.u64_in _ (by omega)
  obtain ⟨z, hz⟩ : ∃ q, q = bt s 4 := ⟨_, rfl⟩
  have z256 : z < 256 := by rw [hz]; exact bt_lt s 4
  have m3 : IntKind.i64.wrap (z : Int) = (z : Int) := IntWalk.i64_in _ (by omega)
  have S_s : (cellsOf s).toArray.size = 64 := by simp [cellsOf_len, hl]
  obtain ⟨V, hV⟩ : ∃ q, q = ofLowL (s.take 4).reverse := ⟨_, rfl⟩
  have RL : Hid (recL i s = if V = i + 1 ∧ z ≤ 59 ∧ (∀ j, j < 59 - z → bt s (5 + z + j) = 0) then some ((s.drop 5).take z) else none) := by rw [hz, hV]; rfl
  obtain ⟨r, hr⟩ : ∃ r, r = w.heap.size := ⟨_, rfl⟩
  have B0 : Hid (Cb (w.alloc (.cells (cellsOf s).toArray 45)) r 45 (cellsOf s) ∧ Ext w (w.alloc (.cells (cellsOf s).toArray 45))) := by rw [hr]; exact ⟨Cb.new _ _ _, (Ext.refl w).alloc _⟩
  have hs4 := fun W : World => sector_to4 (w := W) (g := r)
  have CG : Hid (∀ W, Cb W r 45 (cellsOf s) → (∀ j, j < 64 → W.cell? ⟨r, j, none⟩ = some (.int .u8 (bt s j : Int))) ∧ Bs W (some ⟨r, 0, none⟩) 4 64 (s.take 4) ∧ (z ≤ 59 → Bs W (some ⟨r, 5, none⟩) z 59 ((s.drop 5).take z))) := fun W k => by
    refine ⟨fun j hj => k.cell (by rw [cellsOf_get (by omega)]), ?_, fun h => ?_⟩
    · exact (k.bs (p := []) (xs := s.take 4) (q := cellsOf (s.drop 4)) (n := 4) (by rw [List.nil_append, ← cellsOf_app22, List.take_append_drop]) rfl (by rw [List.length_take]; omega) (by omega)).recap (by omega)
    · exact (k.bs (p := cellsOf (s.take 5)) (xs := (s.drop 5).take z) (q := cellsOf ((s.drop 5).drop z)) (n := z) (by rw [← cellsOf_app22, List.take_append_drop, ← cellsOf_app22, List.take_append_drop]) (by rw [cellsOf_len, List.length_take]; omega) (by rw [List.length_take, List.length_drop]; omega) (by omega)).recap (by omega)
  go_enter Try.func64, Try.ntmps64
  go_upto_region 1 with fail
  refine wp_gen (fun W => Cb W r 45 (cellsOf s) ∧ Ext w W) B0.out ?_
  rw [← hr]
  replace hr := Lib.hid hr
  clear B0
  rintro w0 ⟨k0, x0⟩
  obtain ⟨c0, b0, b5⟩ := CG.out _ k0
  have c4 := c0 4 (by omega)
  rw [← hz] at c4
  replace c0 := Lib.hid c0
  replace b5 := Lib.hid b5
  replace x0 := Lib.hid x0
  have OH := Lib.hid (ofHigh_calls (m := 4) b0 (by omega) (by omega) (by omega))
  rw [List.take_of_length_le (show (s.take 4).length ≤ 4 by rw [List.length_take]; omega), ← hV] at OH
  replace hV := Lib.hid hV
  replace hz := Lib.hid hz
  clear b0 CG
  have K5 := fun h : z ≤ 59 => sector_from5 (w := w) (g := r) h
  have K6 := fun (W : World) (h : z ≤ 59) => sector_rec (w := W) (g := r) h
  replace K5 := Lib.hid K5
  replace K6 := Lib.hid K6
  go_upto_region 2 with fail
  by_cases hV1 : V = i + 1
  · subst hV1
    by_cases h59 : z ≤ 59
    · have q59 : decide ((59 : Int) < (z : Int)) = false := decide_eq_false (by omega)
      go_wp2_with fail
      refine OH.out.mono ?_
      rintro e w1 ⟨rfl, x1⟩
      obtain ⟨ad, had, hs5⟩ := K5.out h59
      have hsr := fun W : World => K6.out W h59
      have m5 : IntKind.i64.wrap (5 + (z : Int)) = 5 + (z : Int) := IntWalk.i64_in _ (by omega)
      have C1 : Hid (∀ j, j < 64 → w1.cell? ⟨r, j, none⟩ = some (.int .u8 (bt s j : Int))) := fun j hj => (x1.cell (p := ⟨r, j, none⟩) k0.lt).trans (c0.out j hj)
      have B5 := Lib.hid ((b5.out h59).ext x1)
      have X1 := Lib.hid (x0.out.trans x1)
      have CP : Hid (∀ W, Ext w1 W → Calls Try.prog 46 #[.slice (some ⟨r, 5, none⟩) z 59] W (RetOwn ((s.drop 5).take z) W)) := fun W e => jcopied_calls (B5.out.ext e) (by omega)
      clear K5 K6 OH x0 x1 b5 c0 hs4 m1 m2 m3 k0 c4 B5
      replace had := Lib.hid had
      go_wp2_with fail
      go_loop [26] (fun v => ∃ j : Nat, j ≤ 59 - z ∧ v = .int .i64 j ∧ ∀ t, t < j → bt s (5 + z + t) = 0) (fun v => 59 - z - (intOf v).toNat)
      case atStart => exact ⟨0, Nat.zero_le _, rfl, fun t ht => absurd ht (Nat.not_lt_zero _)⟩
      case round =>
        obtain ⟨j, hj, rfl, hz0⟩ := hrel
        replace hz0 := Lib.hid hz0
        by_cases hjl : j < 59 - z
        · have cj := C1.out (5 + z + j) (by omega)
          obtain rfl := had.out (by omega)
          have l1 : (j : Int) < ((59 - z : Nat) : Int) := by omega
          by_cases hb0 : bt s (5 + z + j) = 0
          · rw [hb0] at cj
            go_wp2_with fail
            go_round
            case rel => exact ⟨j + 1, by omega, by go_num, fun t ht => if e : t = j then (by rw [e]; exact hb0) else hz0.out t (by omega)⟩
            case measure => simp [intOf]; omega
          · have RN : Hid (recL i s = none) := by
              show recL i s = none
              rw [RL.out]
              exact if_neg fun q => hb0 (q.2.2 j hjl)
            generalize bt s (5 + z + j) = bb at *
            have hbb : ¬ (bb : Int) = 0 := by omega
            go_wp2_with fail
            go_ret2
            exact ⟨X1.out, .inl ⟨RN.out, rfl⟩⟩
        · obtain rfl : j = 59 - z := by omega
          have RS : Hid (recL i s = some ((s.drop 5).take z)) := by show recL i s = _; rw [RL.out]; exact if_pos ⟨trivial, h59, hz0.out⟩
          have CP1 := Lib.hid (CP.out w1 (Ext.refl w1))
          clear CP RL hz0 C1
          go_wp2_with fail
          refine CP1.out.mono ?_
          rintro e w2 ⟨D, n, c, rfl, o2, x2⟩
          replace o2 := Lib.hid o2
          replace x2 := Lib.hid x2
          go_wp2_with fail
          go_ret2
          exact ⟨X1.out.trans x2.out, .inr ⟨_, D, n, c, RS.out, rfl, o2.out.mono22 X1.out.size⟩⟩
    · have q59 : decide ((59 : Int) < (z : Int)) = true := decide_eq_true (by omega)
      go_wp2_with fail
      refine OH.out.mono ?_
      rintro e w1 ⟨rfl, x1⟩
      have RN : Hid (recL i s = none) := by
        show recL i s = none
        rw [RL.out]
        exact if_neg fun q => h59 q.2.1
      have X1 := Lib.hid (x0.out.trans x1)
      go_wp2_with fail
      go_ret2
      exact ⟨X1.out, .inl ⟨RN.out, rfl⟩⟩
  · have hne : ¬ (V : Int) = (i : Int) + 1 := by omega
    go_wp2_with fail
    refine OH.out.mono ?_
    rintro e w1 ⟨rfl, x1⟩
    have RN : Hid (recL i s = none) := by
      show recL i s = none
      rw [RL.out]
      exact if_neg fun q => hV1 q.1
    have X1 := Lib.hid (x0.out.trans x1)
    go_wp2_with fail
    go_ret2
    exact ⟨X1.out, .inl ⟨RN.out, rfl⟩⟩
end Go.Proofs.Yteaoacinhdjkeaa
