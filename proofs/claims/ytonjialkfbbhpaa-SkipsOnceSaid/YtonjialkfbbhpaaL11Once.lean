/-
  The law SkipsOnce.
-/
import Derived.Test.YtonjialkfbbhpaaL11Last
namespace Go.Proofs.Ytonjialkfbbhpaa
open Go.ChangeShapes Go.WideShapes Go.ChangeAt Go.RowKit Go.Deep Go.Maps
set_option maxRecDepth 100000

theorem keyB_built (x : UInt8) : Try.prog.built 31 [(0, .int .u8 (x.toNat : Int))] = some (cellsOf (keyB x)).toArray := by kernel_rfl
/-- The keys of the law: k, then those of one byte. -/
def onceK (k : List UInt8) : Nat → List UInt8
  | 0 => k
  | j + 1 => keyB (UInt8.ofNat j)
set_option maxHeartbeats 8000000 in
theorem once11_calls {w : World} {pk k : List UInt8} (lp : pk.length = 32) (lk : k.length = 32) {n o : Int} (hn : -9223372036854775808 ≤ n ∧ n ≤ 9223372036854775807) (ho : -9223372036854775808 ≤ o ∧ o ≤ 9223372036854775807) :
    Calls Try.prog 4 #[.agg (cellsOf pk).toArray, .agg (cellsOf k).toArray, .agg #[.int .i64 n, .int .i64 o]] w fun e w' => e = .returned (.bool true) ∧ Ext w w' := by
  have AW := Lib.hid (fun (W : World) => awake11_calls (w := W))
  have NW := Lib.hid (fun (W : World) => snew_calls (w := W))
  have hal3 : ∀ w, (zeroValue 31).run Try.prog w = .ok (.agg (cellsOf zk32).toArray) w := fun w => by kernel_rfl
  have lz : zk32.length = 32 := rfl
  generalize zk32 = z at *
  have S_p : (cellsOf pk).toArray.size = 32 := by simp [cellsOf_len, lp]
  have S_k : (cellsOf k).toArray.size = 32 := by simp [cellsOf_len, lk]
  have S_z : (cellsOf z).toArray.size = 32 := by simp [cellsOf_len, lz]
  obtain ⟨kf, hkf⟩ : ∃ kf : Nat → List UInt8, kf = onceK k := ⟨_, rfl⟩
  have lkf : ∀ j, (kf j).length = 32 := fun j => by rw [hkf]; cases j with | zero => exact lk | succ j => rfl
  have kf0 : kf 0 = k := by rw [hkf]; rfl
  have BK : Hid (∀ j y, y = (UInt8.ofNat j).toNat → Try.prog.built 31 [(0, .int .u8 (y : Int))] = some (cellsOf (kf (j + 1))).toArray) := fun j y e => by rw [hkf, e]; exact keyB_built _
  clear hkf
  obtain ⟨r3, hr3⟩ : ∃ r, r = w.heap.size := ⟨_, rfl⟩
  have B0 : Hid (Cb (((w.alloc (.cells (cellsOf pk).toArray 31)).alloc (.cells (cellsOf k).toArray 31)).alloc (.cells #[.int .i64 n, .int .i64 o] 40)) r3 31 (cellsOf pk) ∧ Cb (((w.alloc (.cells (cellsOf pk).toArray 31)).alloc (.cells (cellsOf k).toArray 31)).alloc (.cells #[.int .i64 n, .int .i64 o] 40)) (r3 + 1) 31 (cellsOf k) ∧ Cb (((w.alloc (.cells (cellsOf pk).toArray 31)).alloc (.cells (cellsOf k).toArray 31)).alloc (.cells #[.int .i64 n, .int .i64 o] 40)) (r3 + 1 + 1) 40 [.int .i64 n, .int .i64 o] ∧ Ext w (((w.alloc (.cells (cellsOf pk).toArray 31)).alloc (.cells (cellsOf k).toArray 31)).alloc (.cells #[.int .i64 n, .int .i64 o] 40))) := by
    rw [hr3]
    have c1 := Cb.new ((w.alloc (.cells (cellsOf pk).toArray 31)).alloc (.cells (cellsOf k).toArray 31)) 40 [.int .i64 n, .int .i64 o]
    rw [show ((w.alloc (.cells (cellsOf pk).toArray 31)).alloc (.cells (cellsOf k).toArray 31)).heap.size = w.heap.size + 1 + 1 by simp] at c1
    exact ⟨Cb.ext (heap_alloc1 _ _ _) ((Ext.refl _).alloc _), Cb.ext (heap_alloc2 _ _ _) ((Ext.refl _).alloc _), c1, (((Ext.refl w).alloc _).alloc _).alloc _⟩
  replace hr3 := Lib.hid hr3
  go_enter Try.func4, Try.ntmps4
  go_upto_region 1 with fail
  refine wp_gen (fun W => Cb W r3 31 (cellsOf pk) ∧ Cb W (r3 + 1) 31 (cellsOf k) ∧ Cb W (r3 + 1 + 1) 40 [.int .i64 n, .int .i64 o] ∧ Ext w W) B0.out ?_
  rw [← hr3.out]
  have wr3 : w.heap.size ≤ r3 := Nat.le_of_eq hr3.out.symm
  clear B0 hr3
  obtain ⟨r4, hr4⟩ : ∃ r, r = r3 + 1 := ⟨_, rfl⟩
  obtain ⟨r5, hr5⟩ : ∃ r, r = r4 + 1 := ⟨_, rfl⟩
  rw [← hr4, ← hr5]
  have r34 : r3 < r4 := by omega
  have r45 : r4 < r5 := by omega
  replace hr4 := Lib.hid hr4
  replace hr5 := Lib.hid hr5
  rintro w0 ⟨k3, k4, k5, x0⟩
  replace k3 := Lib.hid k3
  replace k4 := Lib.hid k4
  replace k5 := Lib.hid k5
  replace x0 := Lib.hid x0
  go_wp2_with fail
  refine (AW.out _).mono ?_
  rintro e w1 ⟨rfl, x1⟩
  have c50 := (k5.out.ext x1).cell (j := 0) rfl
  have c51 := (k5.out.ext x1).cell (j := 1) rfl
  have r5l := (k5.out.ext x1).lt
  replace x1 := Lib.hid x1
  clear AW
  go_wp2_with fail
  refine (NW.out _).mono ?_
  rintro e w5 ⟨g, b, rfl, gg, gb, s5, x5⟩
  have X1 := x0.out.trans x1.out
  have K5 : Hid (Cb w5 r3 31 (cellsOf pk) ∧ Cb w5 r4 31 (cellsOf k) ∧ Ext w w5) := ⟨k3.out.ext (x1.out.trans x5), k4.out.ext (x1.out.trans x5), X1.trans x5⟩
  have wg : w.heap.size ≤ g := Nat.le_trans X1.size gg
  have wb : w.heap.size ≤ b := Nat.le_trans X1.size gb
  have rg : r5 < g := Nat.lt_of_lt_of_le r5l gg
  have rb : r5 < b := Nat.lt_of_lt_of_le r5l gb
  replace s5 := Lib.hid s5
  clear NW k3 k4 k5 x0 x1 x5 gg gb X1 c50 c51 r5l
  rcases Decidable.em (n < 0) with hneg | hneg
  · have u1 : decide (n < 0) = true := decide_eq_true hneg
    go_wp2_with fail
    go_ret
    exact ⟨rfl, K5.out.2.2⟩
  have u1 : decide (n < 0) = false := decide_eq_false hneg
  rcases Decidable.em (1000 < n) with hbig | hbig
  · have u2 : decide (1000 < n) = true := decide_eq_true hbig
    go_wp2_with fail
    go_ret
    exact ⟨rfl, K5.out.2.2⟩
  have u2 : decide (1000 < n) = false := decide_eq_false hbig
  rcases Decidable.em (o < 0) with oneg | oneg
  · have u3 : decide (o < 0) = true := decide_eq_true oneg
    go_wp2_with fail
    go_ret
    exact ⟨rfl, K5.out.2.2⟩
  have u3 : decide (o < 0) = false := decide_eq_false oneg
  rcases Decidable.em (20 < o) with obig | obig
  · have u4 : decide (20 < o) = true := decide_eq_true obig
    go_wp2_with fail
    go_ret
    exact ⟨rfl, K5.out.2.2⟩
  have u4 : decide (20 < o) = false := decide_eq_false obig
  obtain ⟨O, rfl⟩ : ∃ O : Nat, o = (O : Int) := ⟨o.toNat, by omega⟩
  have O20 : O ≤ 20 := by omega
  have n0 : 0 ≤ n := by omega
  have n1000 : n ≤ 1000 := by omega
  clear hneg hbig oneg obig
  have PT := sput_calls s5.out (pk := pk) (k := k) (n := n) lp lk hn (by simp) (by omega)
  rw [putE_nil pk n0, putR_nil pk n0 k 0, show [(⟨pk, n, k, 0⟩ : Kp)] = seg pk kf n 0 1 by
    rw [show seg pk kf n 0 1 = [segE pk kf n 0] from rfl]
    unfold segE
    rw [kf0, show ((0 : Nat) : Int) = 0 from rfl, Int.add_zero]] at PT
  replace PT := Lib.hid PT
  have k3 := Lib.hid K5.out.1
  have k4 := Lib.hid K5.out.2.1
  have x5 := Lib.hid K5.out.2.2
  clear s5 K5
  go_wp2_with (first
    | ((with_reducible refine wpList_load_rowW (o := ⟨some 50, _, _, _, _, _⟩) ?_ 31 _ rfl r3 ?_ 31 (cellsOf pk).toArray (0, 0) _ ?_ Try.underlying31 ?_ ?_ ?_); (· rfl); (· rfl); (· exact k3.out); (· rfl); (· rw [S_p]; rfl); simp only [Act.put, List.setIfInBounds_toArray, List.set_cons_zero, List.set_cons_succ])
    | ((with_reducible refine wpList_load_rowW (o := ⟨some 52, _, _, _, _, _⟩) ?_ 31 _ rfl r4 ?_ 31 (cellsOf k).toArray (0, 0) _ ?_ Try.underlying31 ?_ ?_ ?_); (· rfl); (· rfl); (· exact k4.out); (· rfl); (· rw [S_k]; rfl); simp only [Act.put, List.setIfInBounds_toArray, List.set_cons_zero, List.set_cons_succ]))
  refine PT.out.mono ?_
  rintro e w6 ⟨rfl, ⟨p, _, _, p3, _, s6⟩, t6⟩
  obtain rfl := p3 trivial
  have k3' := t6.cb k3.out (by omega) (by omega)
  have k4' := t6.cb k4.out (by omega) (by omega)
  have x6 := t6.ext x5.out wg wb
  clear PT k3 k4 x5 t6 p3
  have k3 := Lib.hid k3'
  have k4 := Lib.hid k4'
  replace x6 := Lib.hid x6
  clear k3' k4'
  have hh1 : hasK (seg pk kf n 0 1) pk n = true := by
    have := seg_has (pk := pk) (kf := kf) (lo := 0) (hi := 1) (off := n) (j := 0)
    rw [show ((0 : Nat) : Int) = 0 from rfl, Int.add_zero] at this
    rw [this]; rfl
  have e9 : putE (seg pk kf n 0 1) pk n = 9 := by unfold putE; rw [if_neg (by omega), hh1]; rfl
  have PT := sput_calls s6 (pk := pk) (k := k) (n := n) lp lk hn (by rw [seg_len]; omega) (by omega)
  rw [show putR (seg pk kf n 0 1) ⟨pk, n, k, 0 + 1⟩ = seg pk kf n 0 1 by unfold putR; rw [if_neg (by rw [e9]; decide)], e9] at PT
  replace PT := Lib.hid PT
  clear s6 hh1 e9
  go_wp2_with (first
    | ((with_reducible refine wpList_load_rowW (o := ⟨some 55, _, _, _, _, _⟩) ?_ 31 _ rfl r3 ?_ 31 (cellsOf pk).toArray (0, 0) _ ?_ Try.underlying31 ?_ ?_ ?_); (· rfl); (· rfl); (· exact k3.out); (· rfl); (· rw [S_p]; rfl); simp only [Act.put, List.setIfInBounds_toArray, List.set_cons_zero, List.set_cons_succ])
    | ((with_reducible refine wpList_load_rowW (o := ⟨some 57, _, _, _, _, _⟩) ?_ 31 _ rfl r4 ?_ 31 (cellsOf k).toArray (0, 0) _ ?_ Try.underlying31 ?_ ?_ ?_); (· rfl); (· rfl); (· exact k4.out); (· rfl); (· rw [S_k]; rfl); simp only [Act.put, List.setIfInBounds_toArray, List.set_cons_zero, List.set_cons_succ]))
  refine PT.out.mono ?_
  rintro e w7 ⟨rfl, ⟨p, _, _, _, p4, s7⟩, t7⟩
  obtain rfl := p4 (by decide)
  have K7 : Hid (SK w7 g b (seg pk kf n 0 1) (0 + 1) ∧ Cb w7 r3 31 (cellsOf pk) ∧ Cb w7 r4 31 (cellsOf k) ∧ Ext w w7) := ⟨s7, t7.cb k3.out (by omega) (by omega), t7.cb k4.out (by omega) (by omega), t7.ext x6.out wg wb⟩
  clear PT k3 k4 x6 s7 t7 p4
  go_wp2_with fail
  go_loopw [13] (fun v wr => ∃ i : Nat, i ≤ O ∧ v = .int .i64 (i : Int) ∧ SK wr g b (seg pk kf n (i + 1 - 8) (i + 1)) ((i + 1 : Nat) : Int) ∧ Cb wr r3 31 (cellsOf pk) ∧ Cb wr r4 31 (cellsOf k) ∧ Ext w wr) (fun v _ => O - (intOf v).toNat)
  case atStart => exact ⟨0, Nat.zero_le _, rfl, K7.out⟩
  case round =>
    clear K7
    obtain ⟨i, hiO, rfl, sk, k3, k4, xr⟩ := hrel
    by_cases hlt : i < O
    · have PT := sput_calls sk (pk := pk) (k := kf (i + 1)) (n := n + ((i + 1 : Nat) : Int)) lp (lkf _) (by omega) (by rw [seg_len]; omega) (by omega)
      have hsp := seg_put (pk := pk) (kf := kf) (off := n) (lo := i + 1 - 8) (hi := i + 1) rfl n0
      unfold segE at hsp
      rw [hsp.1, hsp.2] at PT
      replace PT := Lib.hid PT
      obtain ⟨y, hy⟩ : ∃ y, y = (UInt8.ofNat i).toNat := ⟨_, rfl⟩
      have BKi := Lib.hid (BK.out i y hy)
      have hu : IntKind.u8.wrap (i : Int) = (y : Int) := by rw [hy]; exact u8_ofNat (by omega)
      have lki := lkf (i + 1)
      obtain ⟨S2, hS2⟩ : ∃ S2, S2 = seg pk kf n (i + 1 + 1 - 8) (i + 1 + 1) := ⟨_, rfl⟩
      obtain ⟨m, hm⟩ : ∃ m, m = i + 1 + 1 - (i + 1 + 1 - 8) := ⟨_, rfl⟩
      have lS2 : S2.length = m := by rw [hS2, seg_len, hm]
      have m8 : m ≤ 8 := by omega
      rw [← hS2] at PT
      replace hS2 := Lib.hid hS2
      generalize kf (i + 1) = ky at *
      obtain ⟨nn, hnn⟩ : ∃ nn : Int, nn = n + ((i + 1 : Nat) : Int) := ⟨_, rfl⟩
      rw [← hnn] at PT
      have hw0 : IntKind.i64.wrap (n + 1) = n + 1 := IntWalk.i64_in _ (by omega)
      have hw1 : IntKind.i64.wrap (n + 1 + (i : Int)) = nn := (IntWalk.i64_in _ (by omega)).trans (by omega)
      have hw : IntKind.i64.wrap ((i : Int) + 1) = (i : Int) + 1 := IntWalk.i64_in _ (by omega)
      have h8 : decide ((8 : Int) < (m : Int)) = false := decide_eq_false (by omega)
      replace hy := Lib.hid hy
      replace hm := Lib.hid hm
      replace hnn := Lib.hid hnn
      replace k3 := Lib.hid k3
      replace k4 := Lib.hid k4
      replace xr := Lib.hid xr
      clear hsp sk
      go_wp2_with (first
        | ((with_reducible refine wpList_load_rowW (o := ⟨some 65, _, _, _, _, _⟩) ?_ 31 _ rfl r3 ?_ 31 (cellsOf pk).toArray (0, 0) _ ?_ Try.underlying31 ?_ ?_ ?_); (· rfl); (· rfl); (· exact k3.out); (· rfl); (· rw [S_p]; rfl); simp only [Act.put, List.setIfInBounds_toArray, List.set_cons_zero, List.set_cons_succ])
        | ((with_reducible refine wpList_exec (o := ⟨some 72, .build 31 _, _, _, _, _⟩) (v := .agg (cellsOf ky).toArray) ?_ ?_ ?_); (· rfl); (· refine exec_build_as rfl ?_; simp only [List.map_toArray, List.map_cons, List.map_nil]; exact BKi.out); simp only [Act.put, List.setIfInBounds_toArray, List.set_cons_zero, List.set_cons_succ]))
      refine PT.out.mono ?_
      rintro e w6 ⟨rfl, ⟨p, _, _, p3, _, s6⟩, t6⟩
      obtain rfl := p3 trivial
      have LE := slen_calls s6
      rw [lS2] at LE
      replace LE := Lib.hid LE
      have K6 : Hid (∀ s, Ext w6 s → SK s g b S2 (((i + 1 : Nat) : Int) + 1) ∧ Cb s r3 31 (cellsOf pk) ∧ Cb s r4 31 (cellsOf k) ∧ Ext w s) := fun s e => ⟨s6.ext e, (t6.cb k3.out (by omega) (by omega)).ext e, (t6.cb k4.out (by omega) (by omega)).ext e, (t6.ext xr.out wg wb).trans e⟩
      clear PT BKi k3 k4 xr s6 t6 p3
      go_wp2_with fail
      refine LE.out.mono ?_
      rintro e w7 ⟨rfl, x7⟩
      have K7 := Lib.hid (K6.out _ x7)
      clear LE K6 x7
      go_wp2_with fail
      go_round
      case rel => exact ⟨i + 1, by omega, by go_num, by rw [← hS2.out]; exact K7.out.1, K7.out.2⟩
      case measure => simp [intOf]; omega
    · obtain rfl : i = O := by omega
      clear hlt
      have hv := lkf i
      obtain ⟨S0, hS0⟩ : ∃ S0, S0 = seg pk kf n (i + 1 - 8) (i + 1) := ⟨_, rfl⟩
      rw [← hS0] at sk
      obtain ⟨is1, his1⟩ : ∃ q, q = hasK S0 pk n := ⟨_, rfl⟩
      obtain ⟨a1, ha1⟩ : ∃ q, q = (theK S0 pk n).k := ⟨_, rfl⟩
      have la1 : a1.length = 32 := by rw [ha1]; exact theK_k sk.ok
      have IS1 : Hid (is1 = decide (i < 8)) := by
        have := seg_has (pk := pk) (kf := kf) (lo := i + 1 - 8) (hi := i + 1) (off := n) (j := 0)
        rw [show ((0 : Nat) : Int) = 0 from rfl, Int.add_zero] at this
        rw [his1, hS0, this]
        unfold Hid
        by_cases q : i < 8
        · rw [decide_eq_true q, decide_eq_true ⟨by omega, by omega⟩]
        · rw [decide_eq_false q, decide_eq_false (fun z => q (by omega))]
      have A1 : Hid (i < 8 → a1 = k) := fun q => by
        have := seg_the (pk := pk) (kf := kf) (off := n) (lo := i + 1 - 8) (hi := i + 1) (j := 0) (by omega) (by omega)
        rw [show ((0 : Nat) : Int) = 0 from rfl, Int.add_zero] at this
        rw [ha1, hS0, this, kf0]
      have H3 : Hid (0 < i → hasK (takeL S0 pk n) pk (n + (i : Int)) = true ∧ (theK (takeL S0 pk n) pk (n + (i : Int))).k = kf i) := fun q => by
        have hne : n + (i : Int) ≠ n := by omega
        rw [hasK_take_other hne, theK_take_other hne, hS0, seg_has, seg_the (by omega) (by omega)]
        exact ⟨decide_eq_true ⟨by omega, by omega⟩, rfl⟩
      obtain ⟨S1, hS1⟩ : ∃ S1, S1 = takeL S0 pk n := ⟨_, rfl⟩
      have HF : hasK S1 pk n = false := by rw [hS1]; exact hasK_take_self
      have T2 : takeL S1 pk n = S1 := takeL_none HF
      rw [← hS1] at H3
      have TK := stake_calls sk (pk := pk) (n := n) lp hn
      rw [← his1, ← ha1, ← hS1] at TK
      replace TK := Lib.hid TK
      have S_a1 : (cellsOf a1).toArray.size = 32 := by simp [cellsOf_len, la1]
      have O_a1 := one_cells (one_mem a1)
      replace k3 := Lib.hid k3
      replace k4 := Lib.hid k4
      replace xr := Lib.hid xr
      clear his1 ha1 hS0 hS1 sk
      go_wp2_with (first
        | ((with_reducible refine wpList_load_rowW (o := ⟨some 82, _, _, _, _, _⟩) ?_ 31 _ rfl r3 ?_ 31 (cellsOf pk).toArray (0, 0) _ ?_ Try.underlying31 ?_ ?_ ?_); (· rfl); (· rfl); (· exact k3.out); (· rfl); (· rw [S_p]; rfl); simp only [Act.put, List.setIfInBounds_toArray, List.set_cons_zero, List.set_cons_succ])
        | fail)
      refine TK.out.mono ?_
      rintro e v7 ⟨rfl, sT, tT⟩
      have KT : Hid (SK ((v7.alloc (.cells (cellsOf z).toArray 31)).setRow v7.heap.size (cellsOf a1).toArray) g b S1 ((i + 1 : Nat) : Int) ∧ Cb ((v7.alloc (.cells (cellsOf z).toArray 31)).setRow v7.heap.size (cellsOf a1).toArray) r3 31 (cellsOf pk) ∧ Cb ((v7.alloc (.cells (cellsOf z).toArray 31)).setRow v7.heap.size (cellsOf a1).toArray) r4 31 (cellsOf k) ∧ Cb ((v7.alloc (.cells (cellsOf z).toArray 31)).setRow v7.heap.size (cellsOf a1).toArray) v7.heap.size 31 (cellsOf a1) ∧ Ext w ((v7.alloc (.cells (cellsOf z).toArray 31)).setRow v7.heap.size (cellsOf a1).toArray)) :=
        ⟨sT.ext (Ext.newRow _ _ _), (tT.cb k3.out (by omega) (by omega)).ext (Ext.newRow _ _ _), (tT.cb k4.out (by omega) (by omega)).ext (Ext.newRow _ _ _), key_box, (tT.ext xr.out wg wb).trans (Ext.newRow _ _ _)⟩
      have gl := sT.cb.lt
      have bl := sT.mp.lt
      clear TK k3 k4 xr sT tT 
      go_upto_region 15 with (refine wpList_store_row rfl 31 _ _ rfl v7.heap.size (cellsOf a1).toArray rfl rfl 31 (cellsOf z).toArray (heap_alloc_new _ _) (by rw [S_a1]; rfl) (by rw [S_a1, S_z]) O_a1 ?_; simp only [Act.put])
      refine wp_gen (fun W => SK W g b S1 ((i + 1 : Nat) : Int) ∧ Cb W r3 31 (cellsOf pk) ∧ Cb W r4 31 (cellsOf k) ∧ Cb W v7.heap.size 31 (cellsOf a1) ∧ Ext w W) KT.out ?_
      generalize v7.heap.size = r14 at *
      clear KT v7
      rintro u7 ⟨sk, k3, k4, k14, xr⟩
      have r14g : g < r14 := gl
      have r14b : b < r14 := bl
      clear gl bl
      replace k3 := Lib.hid k3
      replace k4 := Lib.hid k4
      replace k14 := Lib.hid k14
      replace xr := Lib.hid xr
      obtain ⟨a2, ha2⟩ : ∃ q, q = (theK S1 pk n).k := ⟨_, rfl⟩
      have la2 : a2.length = 32 := by rw [ha2]; exact theK_k sk.ok
      have TK := stake_calls sk (pk := pk) (n := n) lp hn
      rw [HF, ← ha2, T2] at TK
      replace TK := Lib.hid TK
      have S_a2 : (cellsOf a2).toArray.size = 32 := by simp [cellsOf_len, la2]
      have O_a2 := one_cells (one_mem a2)
      clear ha2 sk HF T2
      go_wp2_with (first
        | ((with_reducible refine wpList_load_rowW (o := ⟨some 89, _, _, _, _, _⟩) ?_ 31 _ rfl r3 ?_ 31 (cellsOf pk).toArray (0, 0) _ ?_ Try.underlying31 ?_ ?_ ?_); (· rfl); (· rfl); (· exact k3.out); (· rfl); (· rw [S_p]; rfl); simp only [Act.put, List.setIfInBounds_toArray, List.set_cons_zero, List.set_cons_succ])
        | fail)
      refine TK.out.mono ?_
      rintro e v8 ⟨rfl, sT, tT⟩
      have KT : Hid (SK ((v8.alloc (.cells (cellsOf z).toArray 31)).setRow v8.heap.size (cellsOf a2).toArray) g b S1 ((i + 1 : Nat) : Int) ∧ Cb ((v8.alloc (.cells (cellsOf z).toArray 31)).setRow v8.heap.size (cellsOf a2).toArray) r3 31 (cellsOf pk) ∧ Cb ((v8.alloc (.cells (cellsOf z).toArray 31)).setRow v8.heap.size (cellsOf a2).toArray) r4 31 (cellsOf k) ∧ Cb ((v8.alloc (.cells (cellsOf z).toArray 31)).setRow v8.heap.size (cellsOf a2).toArray) r14 31 (cellsOf a1) ∧ Cb ((v8.alloc (.cells (cellsOf z).toArray 31)).setRow v8.heap.size (cellsOf a2).toArray) v8.heap.size 31 (cellsOf a2) ∧ Ext w ((v8.alloc (.cells (cellsOf z).toArray 31)).setRow v8.heap.size (cellsOf a2).toArray)) :=
        ⟨sT.ext (Ext.newRow _ _ _), (tT.cb k3.out (by omega) (by omega)).ext (Ext.newRow _ _ _), (tT.cb k4.out (by omega) (by omega)).ext (Ext.newRow _ _ _), (tT.cb k14.out (by omega) (by omega)).ext (Ext.newRow _ _ _), key_box, (tT.ext xr.out wg wb).trans (Ext.newRow _ _ _)⟩
      have gl := sT.cb.lt
      have bl := sT.mp.lt
      clear TK k3 k4 xr sT tT k14
      go_upto_region 16 with (refine wpList_store_row rfl 31 _ _ rfl v8.heap.size (cellsOf a2).toArray rfl rfl 31 (cellsOf z).toArray (heap_alloc_new _ _) (by rw [S_a2]; rfl) (by rw [S_a2, S_z]) O_a2 ?_; simp only [Act.put])
      refine wp_gen (fun W => SK W g b S1 ((i + 1 : Nat) : Int) ∧ Cb W r3 31 (cellsOf pk) ∧ Cb W r4 31 (cellsOf k) ∧ Cb W r14 31 (cellsOf a1) ∧ Cb W v8.heap.size 31 (cellsOf a2) ∧ Ext w W) KT.out ?_
      generalize v8.heap.size = r16 at *
      clear KT v8
      rintro u8 ⟨sk, k3, k4, k14, k16, xr⟩
      have r16g : g < r16 := gl
      have r16b : b < r16 := bl
      clear gl bl
      replace k3 := Lib.hid k3
      replace k4 := Lib.hid k4
      replace k14 := Lib.hid k14
      replace k16 := Lib.hid k16
      replace xr := Lib.hid xr
      obtain ⟨is3, his3⟩ : ∃ q, q = hasK S1 pk (n + (i : Int)) := ⟨_, rfl⟩
      obtain ⟨a3, ha3⟩ : ∃ q, q = (theK S1 pk (n + (i : Int))).k := ⟨_, rfl⟩
      obtain ⟨S3, hS3⟩ : ∃ q, q = takeL S1 pk (n + (i : Int)) := ⟨_, rfl⟩
      have la3 : a3.length = 32 := by rw [ha3]; exact theK_k sk.ok
      rw [← his3, ← ha3] at H3
      have TK := stake_calls sk (pk := pk) (n := n + (i : Int)) lp (by omega)
      rw [← his3, ← ha3, ← hS3] at TK
      replace TK := Lib.hid TK
      have S_a3 : (cellsOf a3).toArray.size = 32 := by simp [cellsOf_len, la3]
      have O_a3 := one_cells (one_mem a3)
      have hwn : IntKind.i64.wrap (n + (i : Int)) = n + (i : Int) := IntWalk.i64_in _ (by omega)
      clear his3 ha3 hS3 sk
      go_wp2_with (first
        | ((with_reducible refine wpList_load_rowW (o := ⟨some 96, _, _, _, _, _⟩) ?_ 31 _ rfl r3 ?_ 31 (cellsOf pk).toArray (0, 0) _ ?_ Try.underlying31 ?_ ?_ ?_); (· rfl); (· rfl); (· exact k3.out); (· rfl); (· rw [S_p]; rfl); simp only [Act.put, List.setIfInBounds_toArray, List.set_cons_zero, List.set_cons_succ])
        | fail)
      refine TK.out.mono ?_
      rintro e v9 ⟨rfl, sT, tT⟩
      have KT : Hid (SK ((v9.alloc (.cells (cellsOf z).toArray 31)).setRow v9.heap.size (cellsOf a3).toArray) g b S3 ((i + 1 : Nat) : Int) ∧ Cb ((v9.alloc (.cells (cellsOf z).toArray 31)).setRow v9.heap.size (cellsOf a3).toArray) r3 31 (cellsOf pk) ∧ Cb ((v9.alloc (.cells (cellsOf z).toArray 31)).setRow v9.heap.size (cellsOf a3).toArray) r4 31 (cellsOf k) ∧ Cb ((v9.alloc (.cells (cellsOf z).toArray 31)).setRow v9.heap.size (cellsOf a3).toArray) r14 31 (cellsOf a1) ∧ Cb ((v9.alloc (.cells (cellsOf z).toArray 31)).setRow v9.heap.size (cellsOf a3).toArray) r16 31 (cellsOf a2) ∧ Cb ((v9.alloc (.cells (cellsOf z).toArray 31)).setRow v9.heap.size (cellsOf a3).toArray) v9.heap.size 31 (cellsOf a3) ∧ Ext w ((v9.alloc (.cells (cellsOf z).toArray 31)).setRow v9.heap.size (cellsOf a3).toArray)) :=
        ⟨sT.ext (Ext.newRow _ _ _), (tT.cb k3.out (by omega) (by omega)).ext (Ext.newRow _ _ _), (tT.cb k4.out (by omega) (by omega)).ext (Ext.newRow _ _ _), (tT.cb k14.out (by omega) (by omega)).ext (Ext.newRow _ _ _), (tT.cb k16.out (by omega) (by omega)).ext (Ext.newRow _ _ _), key_box, (tT.ext xr.out wg wb).trans (Ext.newRow _ _ _)⟩
      have gl := sT.cb.lt
      have bl := sT.mp.lt
      clear TK k3 k4 xr sT tT k14 k16
      go_upto_region 17 with (refine wpList_store_row rfl 31 _ _ rfl v9.heap.size (cellsOf a3).toArray rfl rfl 31 (cellsOf z).toArray (heap_alloc_new _ _) (by rw [S_a3]; rfl) (by rw [S_a3, S_z]) O_a3 ?_; simp only [Act.put])
      refine wp_gen (fun W => SK W g b S3 ((i + 1 : Nat) : Int) ∧ Cb W r3 31 (cellsOf pk) ∧ Cb W r4 31 (cellsOf k) ∧ Cb W r14 31 (cellsOf a1) ∧ Cb W r16 31 (cellsOf a2) ∧ Cb W v9.heap.size 31 (cellsOf a3) ∧ Ext w W) KT.out ?_
      generalize v9.heap.size = r18 at *
      clear KT v9
      rintro u9 ⟨sk, k3, k4, k14, k16, k18, xr⟩
      have r18g : g < r18 := gl
      have r18b : b < r18 := bl
      clear gl bl
      replace k3 := Lib.hid k3
      replace k4 := Lib.hid k4
      replace k14 := Lib.hid k14
      replace k16 := Lib.hid k16
      replace k18 := Lib.hid k18
      replace xr := Lib.hid xr
      clear sk hwn
      rcases Nat.eq_zero_or_pos i with h0 | h0
      · have i8 : i < 8 := by omega
        obtain rfl : is1 = true := by rw [IS1.out]; exact decide_eq_true i8
        obtain rfl := A1.out i8
        clear IS1 A1 H3 i8
        subst h0
        rw [show ((0 : Nat) : Int) = 0 from rfl]
        go_wp2_with (first
          | ((with_reducible refine wpList_load_rowW (o := ⟨some 136, _, _, _, _, _⟩) ?_ 31 _ rfl r14 ?_ 31 (cellsOf a1).toArray (0, 0) _ ?_ Try.underlying31 ?_ ?_ ?_); (· rfl); (· rfl); (· exact k14.out); (· rfl); (· rw [S_a1]; rfl); simp only [Act.put, List.setIfInBounds_toArray, List.set_cons_zero, List.set_cons_succ])
          | ((with_reducible refine wpList_load_rowW (o := ⟨some 137, _, _, _, _, _⟩) ?_ 31 _ rfl r4 ?_ 31 (cellsOf a1).toArray (0, 0) _ ?_ Try.underlying31 ?_ ?_ ?_); (· rfl); (· rfl); (· exact k4.out); (· rfl); (· rw [S_k]; rfl); simp only [Act.put, List.setIfInBounds_toArray, List.set_cons_zero, List.set_cons_succ])
          | ((with_reducible refine wpList_eql_keyB (o := ⟨some 138, _, _, _, _, _⟩) ?_ _ _ _ rfl a1 a1 true ?_ ?_ ?_ la1 la1 ?_); (· rfl); (· exact (decide_eq_true rfl)); (· rfl); (· rfl); simp only [Act.put, List.setIfInBounds_toArray, List.set_cons_zero, List.set_cons_succ]))
        go_ret
        exact ⟨rfl, xr.out⟩
      · obtain ⟨rfl, rfl⟩ := H3.out h0
        obtain ⟨q, hq⟩ : ∃ q, i = q + 1 := ⟨i - 1, by omega⟩
        obtain ⟨y, hy⟩ : ∃ y, y = (UInt8.ofNat q).toNat := ⟨_, rfl⟩
        have BKi := BK.out q y hy
        rw [← hq] at BKi
        replace BKi := Lib.hid BKi
        have hu : IntKind.u8.wrap (q : Int) = (y : Int) := by rw [hy]; exact u8_ofNat (by omega)
        have hwi : IntKind.i64.wrap ((i : Int) - 1) = (q : Int) := (IntWalk.i64_in _ (by omega)).trans (by omega)
        replace hy := Lib.hid hy
        replace hq := Lib.hid hq
        clear H3 BK
        generalize kf i = ki at *
        rcases Decidable.em (i < 8) with i8 | i8
        · obtain rfl : is1 = true := by rw [IS1.out]; exact decide_eq_true i8
          obtain rfl := A1.out i8
          have g8 : decide ((i : Int) < 8) = true := decide_eq_true (by omega)
          clear IS1 A1
          go_wp2_with (first
            | ((with_reducible refine wpList_load_rowW (o := ⟨some 109, _, _, _, _, _⟩) ?_ 31 _ rfl r18 ?_ 31 (cellsOf ki).toArray (0, 0) _ ?_ Try.underlying31 ?_ ?_ ?_); (· rfl); (· rfl); (· exact k18.out); (· rfl); (· rw [S_a3]; rfl); simp only [Act.put, List.setIfInBounds_toArray, List.set_cons_zero, List.set_cons_succ])
            | ((with_reducible refine wpList_exec (o := ⟨some 113, .build 31 _, _, _, _, _⟩) (v := .agg (cellsOf ki).toArray) ?_ ?_ ?_); (· rfl); (· refine exec_build_as rfl ?_; simp only [List.map_toArray, List.map_cons, List.map_nil]; exact BKi.out); simp only [Act.put, List.setIfInBounds_toArray, List.set_cons_zero, List.set_cons_succ])
            | ((with_reducible refine wpList_neq_keyB (o := ⟨some 114, _, _, _, _, _⟩) ?_ _ _ _ rfl ki ki false ?_ ?_ ?_ hv hv ?_); (· rfl); (· exact (by rw [decide_eq_true rfl]; rfl)); (· rfl); (· rfl); simp only [Act.put, List.setIfInBounds_toArray, List.set_cons_zero, List.set_cons_succ])
            | ((with_reducible refine wpList_load_rowW (o := ⟨some 136, _, _, _, _, _⟩) ?_ 31 _ rfl r14 ?_ 31 (cellsOf a1).toArray (0, 0) _ ?_ Try.underlying31 ?_ ?_ ?_); (· rfl); (· rfl); (· exact k14.out); (· rfl); (· rw [S_a1]; rfl); simp only [Act.put, List.setIfInBounds_toArray, List.set_cons_zero, List.set_cons_succ])
            | ((with_reducible refine wpList_load_rowW (o := ⟨some 137, _, _, _, _, _⟩) ?_ 31 _ rfl r4 ?_ 31 (cellsOf a1).toArray (0, 0) _ ?_ Try.underlying31 ?_ ?_ ?_); (· rfl); (· rfl); (· exact k4.out); (· rfl); (· rw [S_k]; rfl); simp only [Act.put, List.setIfInBounds_toArray, List.set_cons_zero, List.set_cons_succ])
            | ((with_reducible refine wpList_eql_keyB (o := ⟨some 138, _, _, _, _, _⟩) ?_ _ _ _ rfl a1 a1 true ?_ ?_ ?_ la1 la1 ?_); (· rfl); (· exact (decide_eq_true rfl)); (· rfl); (· rfl); simp only [Act.put, List.setIfInBounds_toArray, List.set_cons_zero, List.set_cons_succ]))
          go_ret
          exact ⟨rfl, xr.out⟩
        · obtain rfl : is1 = false := by rw [IS1.out]; exact decide_eq_false i8
          have g8 : decide ((i : Int) < 8) = false := decide_eq_false (by omega)
          clear IS1 A1
          go_wp2_with (first
            | ((with_reducible refine wpList_load_rowW (o := ⟨some 109, _, _, _, _, _⟩) ?_ 31 _ rfl r18 ?_ 31 (cellsOf ki).toArray (0, 0) _ ?_ Try.underlying31 ?_ ?_ ?_); (· rfl); (· rfl); (· exact k18.out); (· rfl); (· rw [S_a3]; rfl); simp only [Act.put, List.setIfInBounds_toArray, List.set_cons_zero, List.set_cons_succ])
            | ((with_reducible refine wpList_exec (o := ⟨some 113, .build 31 _, _, _, _, _⟩) (v := .agg (cellsOf ki).toArray) ?_ ?_ ?_); (· rfl); (· refine exec_build_as rfl ?_; simp only [List.map_toArray, List.map_cons, List.map_nil]; exact BKi.out); simp only [Act.put, List.setIfInBounds_toArray, List.set_cons_zero, List.set_cons_succ])
            | ((with_reducible refine wpList_neq_keyB (o := ⟨some 114, _, _, _, _, _⟩) ?_ _ _ _ rfl ki ki false ?_ ?_ ?_ hv hv ?_); (· rfl); (· exact (by rw [decide_eq_true rfl]; rfl)); (· rfl); (· rfl); simp only [Act.put, List.setIfInBounds_toArray, List.set_cons_zero, List.set_cons_succ]))
          go_ret
          exact ⟨rfl, xr.out⟩
end Go.Proofs.Ytonjialkfbbhpaa
