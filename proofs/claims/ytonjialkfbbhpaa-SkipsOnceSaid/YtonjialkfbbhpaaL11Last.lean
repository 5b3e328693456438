/-
  The law SkipsLast.
-/
import Derived.Test.YtonjialkfbbhpaaSeg11
import Derived.Test.YtonjialkfbbhpaaL11Whose
namespace Go.Proofs.Ytonjialkfbbhpaa
open Go.ChangeShapes Go.WideShapes Go.ChangeAt Go.RowKit Go.Deep Go.Maps
set_option maxRecDepth 100000

/-- The key of a byte and of 1. -/
def keyB2 (x : UInt8) : List UInt8 := x :: 1 :: List.replicate 30 0
theorem keyB2_built (x : UInt8) : Try.prog.built 31 [(0, .int .u8 (x.toNat : Int)), (1, .int .u8 1)] = some (cellsOf (keyB2 x)).toArray := by kernel_rfl
theorem u8_ofNat {i : Nat} (h : i < 256) : IntKind.u8.wrap (i : Int) = ((UInt8.ofNat i).toNat : Int) := by
  rw [IntKind.wrap_u8, UInt8.toNat_ofNat']
  omega
set_option maxHeartbeats 8000000 in
theorem last_calls {w : World} {pk : List UInt8} (lp : pk.length = 32) {n : Int} (hn : -9223372036854775808 ≤ n ∧ n ≤ 9223372036854775807) :
    Calls Try.prog 5 #[.agg (cellsOf pk).toArray, .int .i64 n] w fun e w' => e = .returned (.bool true) ∧ Ext w w' := by
  have AW := Lib.hid (fun (W : World) => awake11_calls (w := W))
  have NW := Lib.hid (fun (W : World) => snew_calls (w := W))
  have hal3 : ∀ w, (zeroValue 31).run Try.prog w = .ok (.agg (cellsOf zk32).toArray) w := fun w => by kernel_rfl
  have ZZ : Hid (zk32 = List.replicate 32 0) := rfl
  have lz : zk32.length = 32 := rfl
  generalize zk32 = z at *
  have S_p : (cellsOf pk).toArray.size = 32 := by simp [cellsOf_len, lp]
  have S_z : (cellsOf z).toArray.size = 32 := by simp [cellsOf_len, lz]
  have B0 : Hid (Cb (w.alloc (.cells (cellsOf pk).toArray 31)) w.heap.size 31 (cellsOf pk) ∧ Ext w (w.alloc (.cells (cellsOf pk).toArray 31))) := ⟨Cb.new _ _ _, (Ext.refl w).alloc _⟩
  obtain ⟨kf, hkf⟩ : ∃ kf : Nat → List UInt8, kf = fun j => keyB2 (UInt8.ofNat j) := ⟨_, rfl⟩
  have lkf : ∀ j, (kf j).length = 32 := fun j => by rw [hkf]; rfl
  have BK : Hid (∀ j y, y = (UInt8.ofNat j).toNat → Try.prog.built 31 [(0, .int .u8 (y : Int)), (1, .int .u8 1)] = some (cellsOf (kf j)).toArray) := fun j y e => by rw [hkf, e]; exact keyB2_built _
  clear hkf
  go_enter Try.func5, Try.ntmps5
  go_upto_region 1 with fail
  refine wp_gen (fun W => Cb W w.heap.size 31 (cellsOf pk) ∧ Ext w W) B0.out ?_
  obtain ⟨r2, hr2⟩ : ∃ r, r = w.heap.size := ⟨_, rfl⟩
  rw [← hr2]
  have wr2 : w.heap.size ≤ r2 := Nat.le_of_eq hr2.symm
  replace hr2 := Lib.hid hr2
  clear B0
  rintro w0 ⟨k2, x0⟩
  replace k2 := Lib.hid k2
  replace x0 := Lib.hid x0
  go_wp2_with fail
  refine (AW.out _).mono ?_
  rintro e w1 ⟨rfl, x1⟩
  replace x1 := Lib.hid x1
  clear AW
  go_wp2_with fail
  refine (NW.out _).mono ?_
  rintro e w5 ⟨g, b, rfl, gg, gb, s5, x5⟩
  have K5 : Hid (Cb w5 r2 31 (cellsOf pk) ∧ Ext w w5) := ⟨k2.out.ext (x1.out.trans x5), x0.out.trans (x1.out.trans x5)⟩
  have wg : w.heap.size ≤ g := Nat.le_trans (x0.out.trans x1.out).size gg
  have wb : w.heap.size ≤ b := Nat.le_trans (x0.out.trans x1.out).size gb
  have rg : r2 < g := Nat.lt_of_lt_of_le (k2.out.ext x1.out).lt gg
  have rb : r2 < b := Nat.lt_of_lt_of_le (k2.out.ext x1.out).lt gb
  replace s5 := Lib.hid s5
  clear NW k2 x0 x1 x5 gg gb
  rcases Decidable.em (n < 0) with hneg | hneg
  · have u1 : decide (n < 0) = true := decide_eq_true hneg
    go_wp2_with fail
    go_ret
    exact ⟨rfl, K5.out.2⟩
  have u1 : decide (n < 0) = false := decide_eq_false hneg
  rcases Decidable.em (40 < n) with hbig | hbig
  · have u2 : decide (40 < n) = true := decide_eq_true hbig
    go_wp2_with fail
    go_ret
    exact ⟨rfl, K5.out.2⟩
  have u2 : decide (40 < n) = false := decide_eq_false hbig
  obtain ⟨N, rfl⟩ : ∃ N : Nat, n = (N : Int) := ⟨n.toNat, by omega⟩
  have N40 : N ≤ 40 := by omega
  clear hneg hbig
  go_wp2_with fail
  go_loopw [7] (fun v wr => ∃ i : Nat, i ≤ N ∧ v = .int .i64 (i : Int) ∧ SK wr g b (seg pk kf 0 (i - 8) i) (i : Int) ∧ Cb wr r2 31 (cellsOf pk) ∧ Ext w wr) (fun v _ => N - (intOf v).toNat)
  case atStart => exact ⟨0, Nat.zero_le _, rfl, s5.out, K5.out⟩
  case round =>
    clear s5 K5
    obtain ⟨i, hiN, rfl, sk, k2, xr⟩ := hrel
    by_cases hlt : i < N
    · have PT := sput_calls sk (pk := pk) (k := kf i) (n := (i : Int)) lp (lkf i) (by omega) (by rw [seg_len]; omega) (by omega)
      have hsp := seg_put (pk := pk) (kf := kf) (off := 0) (lo := i - 8) (hi := i) rfl (by omega)
      rw [show segE pk kf 0 i = ⟨pk, (i : Int), kf i, (i : Int)⟩ by unfold segE; rw [Int.zero_add], Int.zero_add] at hsp
      rw [hsp.1, hsp.2] at PT
      replace PT := Lib.hid PT
      obtain ⟨y, hy⟩ : ∃ y, y = (UInt8.ofNat i).toNat := ⟨_, rfl⟩
      have BKi := Lib.hid (BK.out i y hy)
      have hu : IntKind.u8.wrap (i : Int) = (y : Int) := by rw [hy]; exact u8_ofNat (by omega)
      have lki := lkf i
      obtain ⟨S2, hS2⟩ : ∃ S2, S2 = seg pk kf 0 (i + 1 - 8) (i + 1) := ⟨_, rfl⟩
      obtain ⟨m, hm⟩ : ∃ m, m = i + 1 - (i + 1 - 8) := ⟨_, rfl⟩
      have lS2 : S2.length = m := by rw [hS2, seg_len, hm]
      rw [← hS2] at PT
      replace hS2 := Lib.hid hS2
      generalize kf i = ky at *
      have hw : IntKind.i64.wrap ((i : Int) + 1) = (i : Int) + 1 := IntWalk.i64_in _ (by omega)
      have hmin : (if (8 : Int) < (i : Int) + 1 then (8 : Int) else (i : Int) + 1) = (m : Int) := by split <;> omega
      have hmm : ((m : Int) != (m : Int)) = false := by simp
      replace hy := Lib.hid hy
      replace hm := Lib.hid hm
      replace k2 := Lib.hid k2
      replace xr := Lib.hid xr
      clear hsp sk
      go_wp2_with (first
        | ((with_reducible refine wpList_load_rowW (o := ⟨some 34, _, _, _, _, _⟩) ?_ 31 _ rfl r2 ?_ 31 (cellsOf pk).toArray (0, 0) _ ?_ Try.underlying31 ?_ ?_ ?_); (· rfl); (· rfl); (· exact k2.out); (· rfl); (· rw [S_p]; rfl); simp only [Act.put, List.setIfInBounds_toArray, List.set_cons_zero, List.set_cons_succ])
        | ((with_reducible refine wpList_exec (o := ⟨some 38, .build 31 _, _, _, _, _⟩) (v := .agg (cellsOf ky).toArray) ?_ ?_ ?_); (· rfl); (· refine exec_build_as rfl ?_; simp only [List.map_toArray, List.map_cons, List.map_nil]; exact BKi.out); simp only [Act.put, List.setIfInBounds_toArray, List.set_cons_zero, List.set_cons_succ]))
      refine PT.out.mono ?_
      rintro e w6 ⟨rfl, ⟨p, p1, p2, p3, _, s6⟩, t6⟩
      obtain rfl := p3 trivial
      have LE := slen_calls s6
      rw [lS2] at LE
      replace LE := Lib.hid LE
      have K6 : Hid (∀ s, Ext w6 s → SK s g b S2 ((i : Int) + 1) ∧ Cb s r2 31 (cellsOf pk) ∧ Ext w s) := fun s e => ⟨s6.ext e, (t6.cb k2.out (by omega) (by omega)).ext e, (t6.ext xr.out wg wb).trans e⟩
      clear PT BKi k2 xr s6 t6 p1 p2
      go_wp2_with fail
      refine LE.out.mono ?_
      rintro e w7 ⟨rfl, x7⟩
      have K7 := Lib.hid (K6.out _ x7)
      clear LE K6 x7
      go_wp2_with fail
      go_round
      case rel => exact ⟨i + 1, by omega, by go_num, by rw [← hS2.out]; exact K7.out.1, K7.out.2⟩
      case measure => simp [intOf]; omega
    · obtain rfl : i = N := by omega
      clear hlt
      have hw1 : IntKind.i64.wrap ((i : Int) - 1) = (i : Int) - 1 := IntWalk.i64_in _ (by omega)
      have hw8 : IntKind.i64.wrap ((i : Int) - 8) = (i : Int) - 8 := IntWalk.i64_in _ (by omega)
      replace sk := Lib.hid sk
      replace k2 := Lib.hid k2
      replace xr := Lib.hid xr
      go_wp2_with fail
      go_loopw [8] (fun v wq => ∃ j : Nat, j ≤ i ∧ v = .int .i64 ((j : Int) - 1) ∧ SK wq g b (seg pk kf 0 (i - 8) j) (i : Int) ∧ Cb wq r2 31 (cellsOf pk) ∧ Ext w wq) (fun v _ => (intOf v + 1).toNat)
      case atStart => exact ⟨i, Nat.le_refl _, rfl, sk.out, k2.out, xr.out⟩
      case round =>
        clear sk k2 xr hw1
        obtain ⟨j, hji, rfl, sk, k2, xr⟩ := hrel
        rcases Nat.eq_zero_or_pos j with h0 | h0
        · subst h0
          rw [seg_nil (by omega)] at sk
          have LE := Lib.hid (slen_calls sk)
          replace k2 := Lib.hid k2
          replace xr := Lib.hid xr
          clear sk
          rw [show ((0 : Nat) : Int) - 1 = -1 from rfl]
          go_wp2_with fail
          refine LE.out.mono ?_
          rintro e w7 ⟨rfl, x7⟩
          replace x7 := Lib.hid x7
          clear LE
          go_wp2_with fail
          go_ret
          exact ⟨rfl, xr.out.trans x7.out⟩
        · obtain ⟨q, rfl⟩ : ∃ q, j = q + 1 := ⟨j - 1, by omega⟩
          rw [show ((q + 1 : Nat) : Int) - 1 = (q : Int) by omega]
          have TK := stake_calls sk (pk := pk) (n := (q : Int)) lp (by omega)
          obtain ⟨is, his⟩ : ∃ is, is = hasK (seg pk kf 0 (i - 8) (q + 1)) pk (q : Int) := ⟨_, rfl⟩
          have IS : is = decide (i - 8 ≤ q) := by
            have := seg_has (pk := pk) (kf := kf) (lo := i - 8) (hi := q + 1) (off := 0) (j := q)
            rw [Int.zero_add] at this
            rw [his, this]
            by_cases hq : i - 8 ≤ q
            · rw [decide_eq_true hq, decide_eq_true ⟨hq, by omega⟩]
            · rw [decide_eq_false hq, decide_eq_false (fun z => hq z.1)]
          obtain ⟨kk, hkk⟩ : ∃ kk, kk = (theK (seg pk kf 0 (i - 8) (q + 1)) pk (q : Int)).k := ⟨_, rfl⟩
          have lkk : kk.length = 32 := by rw [hkk]; exact theK_k sk.ok
          have KK : i - 8 ≤ q → kk = kf q := fun hq => by
            have := seg_the (pk := pk) (kf := kf) (off := 0) (lo := i - 8) (hi := q + 1) (j := q) hq (by omega)
            rw [Int.zero_add] at this
            rw [hkk, this]
          have st := seg_step (pk := pk) (kf := kf) (off := 0) (lo := i - 8) q
          rw [Int.zero_add] at st
          rw [← his, ← hkk, st] at TK
          replace TK := Lib.hid TK
          have S_kk : (cellsOf kk).toArray.size = 32 := by simp [cellsOf_len, lkk]
          have O_kk := one_cells (one_mem kk)
          have hw : IntKind.i64.wrap ((q : Int) - 1) = (q : Int) - 1 := IntWalk.i64_in _ (by omega)
          have rsz := k2.lt
          replace k2 := Lib.hid k2
          replace xr := Lib.hid xr
          clear his hkk st sk
          have h0' : ¬ (q : Int) < 0 := by omega
          go_wp2_with ((with_reducible refine wpList_load_rowW (o := ⟨some 57, _, _, _, _, _⟩) ?_ 31 _ rfl r2 ?_ 31 (cellsOf pk).toArray (0, 0) _ ?_ Try.underlying31 ?_ ?_ ?_); (· rfl); (· rfl); (· exact k2.out); (· rfl); (· rw [S_p]; rfl); simp only [Act.put, List.setIfInBounds_toArray, List.set_cons_zero, List.set_cons_succ])
          refine TK.out.mono ?_
          rintro e w6 ⟨rfl, s6, t6⟩
          have K6 : Hid (SK ((w6.alloc (.cells (cellsOf z).toArray 31)).setRow w6.heap.size (cellsOf kk).toArray) g b (seg pk kf 0 (i - 8) q) (i : Int) ∧ Cb ((w6.alloc (.cells (cellsOf z).toArray 31)).setRow w6.heap.size (cellsOf kk).toArray) r2 31 (cellsOf pk) ∧ Cb ((w6.alloc (.cells (cellsOf z).toArray 31)).setRow w6.heap.size (cellsOf kk).toArray) w6.heap.size 31 (cellsOf kk) ∧ Ext w ((w6.alloc (.cells (cellsOf z).toArray 31)).setRow w6.heap.size (cellsOf kk).toArray)) :=
            ⟨s6.ext (Ext.newRow _ _ _), (t6.cb k2.out (by omega) (by omega)).ext (Ext.newRow _ _ _), key_box, (t6.ext xr.out wg wb).trans (Ext.newRow _ _ _)⟩
          clear TK k2 xr s6 t6
          go_upto_region 14 with (refine wpList_store_row rfl 31 _ _ rfl w6.heap.size (cellsOf kk).toArray rfl rfl 31 (cellsOf z).toArray (heap_alloc_new _ _) (by rw [S_kk]; rfl) (by rw [S_kk, S_z]) O_kk ?_; simp only [Act.put])
          refine wp_gen (fun W => SK W g b (seg pk kf 0 (i - 8) q) (i : Int) ∧ Cb W r2 31 (cellsOf pk) ∧ Cb W w6.heap.size 31 (cellsOf kk) ∧ Ext w W) K6.out ?_
          generalize w6.heap.size = r9 at *
          clear K6 w6
          rintro w7 ⟨s7, k2, k9, x7⟩
          replace s7 := Lib.hid s7
          replace k2 := Lib.hid k2
          replace k9 := Lib.hid k9
          replace x7 := Lib.hid x7
          rcases Decidable.em (i - 8 ≤ q) with hq | hq
          · obtain rfl : is = true := by rw [IS]; exact decide_eq_true hq
            obtain rfl := KK hq
            obtain ⟨y, hy⟩ : ∃ y, y = (UInt8.ofNat q).toNat := ⟨_, rfl⟩
            have BKi := Lib.hid (BK.out q y hy)
            have hu : IntKind.u8.wrap (q : Int) = (y : Int) := by rw [hy]; exact u8_ofNat (by omega)
            have g1 : (i : Int) - 8 ≤ (q : Int) := by omega
            have g2 : decide ((i : Int) - 8 ≤ (q : Int)) = true := decide_eq_true g1
            replace hy := Lib.hid hy
            clear IS KK hq
            generalize kf q = kq at *
            go_wp2_with (first
              | ((with_reducible refine wpList_load_rowW (o := ⟨some 71, _, _, _, _, _⟩) ?_ 31 _ rfl r9 ?_ 31 (cellsOf kq).toArray (0, 0) _ ?_ Try.underlying31 ?_ ?_ ?_); (· rfl); (· rfl); (· exact k9.out); (· rfl); (· rw [S_kk]; rfl); simp only [Act.put, List.setIfInBounds_toArray, List.set_cons_zero, List.set_cons_succ])
              | ((with_reducible refine wpList_exec (o := ⟨some 74, .build 31 _, _, _, _, _⟩) (v := .agg (cellsOf kq).toArray) ?_ ?_ ?_); (· rfl); (· refine exec_build_as rfl ?_; simp only [List.map_toArray, List.map_cons, List.map_nil]; exact BKi.out); simp only [Act.put, List.setIfInBounds_toArray, List.set_cons_zero, List.set_cons_succ])
              | ((with_reducible refine wpList_neq_keyB (o := ⟨some 75, _, _, _, _, _⟩) ?_ _ _ _ rfl kq kq false ?_ ?_ ?_ lkk lkk ?_); (· rfl); (· exact (by rw [decide_eq_true rfl]; rfl)); (· rfl); (· rfl); simp only [Act.put, List.setIfInBounds_toArray, List.set_cons_zero, List.set_cons_succ]))
            go_round
            case rel => exact ⟨q, by omega, rfl, s7.out, k2.out, x7.out⟩
            case measure => simp [intOf]
          · obtain rfl : is = false := by rw [IS]; exact decide_eq_false hq
            have g1 : ¬ (i : Int) - 8 ≤ (q : Int) := by omega
            have g2 : decide ((i : Int) - 8 ≤ (q : Int)) = false := decide_eq_false g1
            clear IS KK hq
            go_wp2_with fail
            go_round
            case rel => exact ⟨q, by omega, rfl, s7.out, k2.out, x7.out⟩
            case measure => simp [intOf]
end Go.Proofs.Ytonjialkfbbhpaa
