/-
  The law DiskBurns.
-/
import Derived.Test.YtonjialkfbbhpaaAwake21
import Derived.Test.YtonjialkfbbhpaaBools
import Derived.Deep.DeepCutAuto
namespace Go.Proofs.Ytonjialkfbbhpaa
open Go.ChangeShapes Go.WideShapes Go.ChangeAt Go.RowKit Go.Deep Go.Maps
set_option maxRecDepth 100000

/-- The disk when i writes and syncs were asked for, its fuse being n. -/
def BI (d : Ds) (n i : Nat) : Prop := d.hf = true ∧ d.S.length = 4 ∧ (i ≤ n → d.dd = false ∧ d.f = (n : Int) - i) ∧ (n < i → d.dd = true)
theorem BI.fails {d : Ds} {n i : Nat} (h : BI d n i) : d.fails = decide (n ≤ i) := by
  obtain ⟨h1, _, h3, h4⟩ := h
  unfold Ds.fails
  by_cases q : n ≤ i
  · rw [decide_eq_true q]
    by_cases q2 : n = i
    · obtain ⟨a, b⟩ := h3 (by omega)
      have : d.f = 0 := by omega
      rw [a, h1, this]; rfl
    · rw [h4 (by omega)]; rfl
  · rw [decide_eq_false q]
    obtain ⟨a, b⟩ := h3 (by omega)
    have : (d.f == 0) = false := by simp; omega
    rw [a, h1, this]; rfl
theorem BI.burn {d : Ds} {n i : Nat} (h : BI d n i) : BI d.burn n (i + 1) := by
  have hf := h.fails
  obtain ⟨h1, h2, h3, h4⟩ := h
  unfold Ds.burn
  by_cases q : n ≤ i
  · rw [hf, decide_eq_true q, if_pos rfl]
    exact ⟨h1, h2, fun z => absurd z (by omega), fun _ => rfl⟩
  · rw [hf, decide_eq_false q, if_neg (by decide), h1, if_pos rfl]
    obtain ⟨a, b⟩ := h3 (by omega)
    exact ⟨rfl, h2, fun _ => ⟨a, by show d.f - 1 = _; omega⟩, fun z => absurd z (by omega)⟩
theorem BI.flush {d : Ds} {n i : Nat} (h : BI d n i) : BI d.flush n i := ⟨h.1, by simp [Ds.flush, h.2.1], h.2.2.1, h.2.2.2⟩
theorem BI.put {d : Ds} {n i k : Nat} {xs : List UInt8} (h : BI d n i) : BI (d.put k xs) n i := h
theorem BI.sync {d : Ds} {n i : Nat} (h : BI d n i) : BI d.sync n (i + 1) := by
  unfold Ds.sync
  split
  · exact h.burn
  · exact h.burn.flush
theorem BI.write {d : Ds} {n i k : Nat} {xs : List UInt8} (h : BI d n i) (hk : k < 4) : BI (d.write (k : Int) xs) n (i + 1) := by
  unfold Ds.write
  rw [if_pos ⟨by omega, by rw [h.2.1]; omega⟩]
  split
  · exact h.burn
  · exact h.burn.put
theorem BI.syncE {d : Ds} {n i : Nat} (h : BI d n i) : d.syncE = if i < n then 0 else 13 := by
  unfold Ds.syncE
  rw [h.fails]
  by_cases q : n ≤ i
  · rw [decide_eq_true q, if_pos rfl, if_neg (by omega)]
  · rw [decide_eq_false q, if_neg (by decide), if_pos (by omega)]
theorem BI.writeE {d : Ds} {n i k : Nat} (h : BI d n i) (hk : k < 4) : d.writeE (k : Int) = if i < n then 0 else 13 := by
  unfold Ds.writeE
  rw [if_pos ⟨by omega, by rw [h.2.1]; omega⟩]
  exact h.syncE
theorem BI.start {n : Nat} : BI ((newD 4).fuse (n : Int)) n 0 := by
  refine ⟨?_, rfl, fun _ => ⟨rfl, ?_⟩, fun z => absurd z (by omega)⟩
  · show decide (0 ≤ (n : Int)) = true
    exact decide_eq_true (by omega)
  · show (if 0 < (n : Int) then (n : Int) else 0) = _
    split <;> omega
theorem BI.last {d : Ds} {n i : Nat} (h : BI d n i) (xs : List UInt8) : (d.crash 0).writeE 0 = 0 ∧ ((d.crash 0).write 0 xs).syncE = 0 := by
  have hl : (d.crash 0).S.length = 4 := (crash_S d 0).trans h.2.1
  have hf : (d.crash 0).fails = false := rfl
  have hb : (d.crash 0).burn = d.crash 0 := by unfold Ds.burn; rw [hf, if_neg (by decide)]; rfl
  constructor
  · unfold Ds.writeE; rw [hf, if_pos ⟨by omega, by rw [hl]; omega⟩]; rfl
  · unfold Ds.write
    rw [hf, if_pos ⟨by omega, by rw [hl]; omega⟩, if_neg (by decide), hb]
    rfl
set_option maxHeartbeats 16000000 in
theorem burns21_calls {w : World} {z : Int} {A : Option Addr} {m c : Nat} {f : Nat → Bool} (hz : -9223372036854775808 ≤ z ∧ z ≤ 9223372036854775807) (hb : Bls w A m c f) :
    Calls Try.prog 10 #[.int .i64 z, .slice A m c] w fun e w' => e = .returned (.bool true) ∧ Ext w w' := by
  have AW := Lib.hid (fun (W : World) => awake21_calls (w := W))
  have NW := Lib.hid (fun (W : World) => dnew_ok (w := W) (n := 4) (by omega) (by omega))
  have q1 := hb.1
  have q2 := hb.2.1
  have q3 : c ≤ 9223372036854775807 := by unfold maxLen at q2; omega
  replace hb := Lib.hid hb
  clear q2
  go_enter Try.func10, Try.ntmps10
  go_wp2_with fail
  refine (AW.out _).mono ?_
  rintro e w1 ⟨rfl, x1⟩
  replace x1 := Lib.hid x1
  have NW1 := Lib.hid (NW.out w1)
  clear AW NW
  go_wp2_with fail
  refine NW1.out.mono ?_
  rintro e w2 ⟨g, r, mb0, rfl, wg, wrr, wb, k2, x2⟩
  have X2 : Hid (Ext w w2) := x1.out.trans x2
  have gs := x1.out.size
  replace wg : w.heap.size ≤ g := Nat.le_trans gs wg
  replace wrr : w.heap.size ≤ r := Nat.le_trans gs wrr
  replace wb : w.heap.size ≤ mb0 := Nat.le_trans gs wb
  replace k2 := Lib.hid k2
  clear NW1 x1 x2 gs
  rcases Decidable.em (z < 0) with h1 | h1
  · have u1 : decide (z < 0) = true := decide_eq_true h1
    clear k2
    go_wp2_with fail
    go_ret
    exact ⟨rfl, X2.out⟩
  have u1 : decide (z < 0) = false := decide_eq_false h1
  rcases Decidable.em (100 < m) with h100 | h100
  · have u3 : decide ((100 : Int) < (m : Int)) = true := decide_eq_true (by omega)
    clear k2
    go_wp2_with fail
    go_ret
    exact ⟨rfl, X2.out⟩
  have u3 : decide ((100 : Int) < (m : Int)) = false := decide_eq_false (by omega)
  obtain ⟨n, rfl⟩ : ∃ n : Nat, z = (n : Int) := ⟨z.toNat, by omega⟩
  have FU := Lib.hid (dfuse_calls k2.out hz)
  clear k2 h1
  go_wp2_with fail
  refine FU.out.mono ?_
  rintro e w3 ⟨rfl, k3, g3⟩
  have X3 : Hid (Ext w w3) := Two.ext (g := g) (g' := g) X2.out ⟨g3.os, g3.tape, g3.output, g3.size, fun i hi q _ => g3.block i hi (fun z => q (Option.some.inj z))⟩ wg wg
  replace k3 := Lib.hid k3
  clear FU g3 X2
  go_wp2_with fail
  go_loopw [8, 9] (fun v _ wr => ∃ (i mb : Nat) (d : Ds), i ≤ m ∧ v = .int .i64 (i : Int) ∧ DK wr g r mb d ∧ BI d n i ∧ w.heap.size ≤ mb ∧ Ext w wr) (fun v _ _ => m - (intOf v).toNat)
  case atStart => exact ⟨0, mb0, _, Nat.zero_le _, rfl, k3.out, BI.start, wb, X3.out⟩
  case round =>
    clear k3 X3
    obtain ⟨i, mb, d, him, rfl, dk, bi, wmb, xr⟩ := hrel
    by_cases hlt : i < m
    · obtain ⟨b, off, rfl, hbb, hbc⟩ := (hb.out.ext xr).2.2 (by omega)
      have cj := hbc i hlt
      have k4 : i % 4 < 4 := Nat.mod_lt _ (by omega)
      have tm : Int.tmod (i : Int) 4 = ((i % 4 : Nat) : Int) := by rw [Int.tmod_eq_emod_of_nonneg (by omega)]; rfl
      have cv : IntKind.u8.wrap (i : Int) = ((UInt8.ofNat i).toNat : Int) := by rw [IntKind.wrap_u8]; simp
      have OF := Lib.hid (of21_calls (w := wr) (b := UInt8.ofNat i))
      have SY := Lib.hid (sync_calls dk)
      have WR : Hid (∀ s, Ext wr s → Calls Try.prog 23 #[.pointer (some ⟨g, 0, none⟩), .int .i64 ((i % 4 : Nat) : Int), .agg (cellsOf (secB (UInt8.ofNat i))).toArray] s fun e w' => e = .returned (.int .i64 (if i < n then 0 else 13)) ∧ DK w' g r mb (d.write ((i % 4 : Nat) : Int) (secB (UInt8.ofNat i))) ∧ Two g mb s w') := fun s e => by
        have := dwrite_calls (i := ((i % 4 : Nat) : Int)) (dk.ext e) (secB_len (UInt8.ofNat i))
        rwa [bi.writeE k4] at this
      rw [bi.syncE] at SY
      have bw := Lib.hid (bi.write (xs := secB (UInt8.ofNat i)) k4)
      have bs := Lib.hid bi.sync
      have szr := xr.size
      have hwi : IntKind.i64.wrap ((i : Int) + 1) = (i : Int) + 1 := IntWalk.i64_in _ (by omega)
      replace xr := Lib.hid xr
      clear hbc dk bi
      obtain ⟨ee, hee⟩ : ∃ ee : Int, ee = (if i < n then 0 else 13) := ⟨_, rfl⟩
      rw [← hee] at SY WR
      replace hee := Lib.hid hee
      generalize d.write ((i % 4 : Nat) : Int) (secB (UInt8.ofNat i)) = dw at *
      generalize (cellsOf (secB (UInt8.ofNat i))).toArray = CS at *
      generalize d.sync = ds at *
      generalize i % 4 = k at *
      obtain ⟨bo, hbo⟩ : ∃ b, b = f i := ⟨_, rfl⟩
      rw [← hbo] at cj
      clear hbo
      go_upto_if 47 with fail
      clear cj
      go_cut [9] from 38 to 70 (fun s9 wx => s9 = .int .i64 ee ∧ ∃ (mb : Nat) (d : Ds), DK wx g r mb d ∧ BI d n (i + 1) ∧ w.heap.size ≤ mb ∧ Ext w wx)
      case first =>
        rcases bo with _ | _
        · clear SY bs
          go_wp2_with fail
          refine OF.out.mono ?_
          rintro e w4 ⟨rfl, x4⟩
          have W4 := Lib.hid (WR.out w4 x4)
          have X4 : Hid (Ext w w4) := xr.out.trans x4
          clear OF WR x4 xr
          go_wp2_with fail
          refine W4.out.mono ?_
          rintro e w5 ⟨rfl, k5, t5⟩
          have F : Hid (DK w5 g r mb dw ∧ BI dw n (i + 1) ∧ w.heap.size ≤ mb ∧ Ext w w5) := ⟨k5, bw.out, wmb, t5.ext X4.out wg wmb⟩
          clear W4 k5 t5 X4 bw
          go_wp2_with fail
          go_meet
          exact ⟨rfl, _, _, F.out⟩
        · clear OF WR bw
          go_wp2_with fail
          refine SY.out.mono ?_
          rintro e w5 ⟨rfl, mb5, k5, h5, t5⟩
          have F : Hid (DK w5 g r mb5 ds ∧ BI ds n (i + 1) ∧ w.heap.size ≤ mb5 ∧ Ext w w5) := ⟨k5, bs.out, by omega, t5.ext xr.out wg wrr⟩
          clear SY k5 t5 xr bs h5
          go_wp2_with fail
          go_meet
          exact ⟨rfl, _, _, F.out⟩
      case rest =>
        obtain ⟨rfl, mb2, d2, k5, b5, wb5, x5⟩ := hcut
        replace k5 := Lib.hid k5
        replace b5 := Lib.hid b5
        replace x5 := Lib.hid x5
        clear OF SY WR bw bs xr
        by_cases hin : i < n
        · obtain rfl : ee = 0 := by rw [hee.out, if_pos hin]
          have v1 : decide ((i : Int) < (n : Int)) = true := decide_eq_true (by omega)
          clear hee
          go_wp2_with fail
          go_round
          case rel => exact ⟨i + 1, mb2, d2, by omega, by go_num, k5.out, b5.out, wb5, x5.out⟩
          case measure => simp [intOf]; omega
        · obtain rfl : ee = 13 := by rw [hee.out, if_neg hin]
          have v1 : decide ((i : Int) < (n : Int)) = false := decide_eq_false (by omega)
          clear hee
          go_wp2_with fail
          go_round
          case rel => exact ⟨i + 1, mb2, d2, by omega, by go_num, k5.out, b5.out, wb5, x5.out⟩
          case measure => simp [intOf]; omega
    · obtain rfl : i = m := by omega
      have OF := Lib.hid (fun W => of21_calls (w := W) (b := 1))
      have CR := Lib.hid (dcrash_calls (kept := 0) dk (by omega))
      obtain ⟨l1, l2⟩ := bi.last (secB 1)
      have WR : Hid (∀ s mb, DK s g r mb (d.crash 0) → Calls Try.prog 23 #[.pointer (some ⟨g, 0, none⟩), .int .i64 0, .agg (cellsOf (secB 1)).toArray] s fun e w' => e = .returned (.int .i64 0) ∧ DK w' g r mb ((d.crash 0).write 0 (secB 1)) ∧ Two g mb s w') := fun s mb h => by
        have := dwrite_calls (i := 0) h (secB_len 1)
        rwa [l1] at this
      have SY : Hid (∀ s mb, DK s g r mb ((d.crash 0).write 0 (secB 1)) → Calls Try.prog 26 #[.pointer (some ⟨g, 0, none⟩)] s fun e w' => e = .returned (.int .i64 0) ∧ ∃ mb', DK w' g r mb' ((d.crash 0).write 0 (secB 1)).sync ∧ (mb' = mb ∨ s.heap.size ≤ mb') ∧ Two g r s w') := fun s mb h => by
        have := sync_calls h
        rwa [l2] at this
      replace xr := Lib.hid xr
      replace OF : Hid (∀ W, Calls Try.prog 24 #[.int .u8 1] W fun e w' => e = .returned (.agg (cellsOf (secB 1)).toArray) ∧ Ext W w') := OF
      clear l1 l2 bi dk
      generalize ((d.crash 0).write 0 (secB 1)).sync = d3 at *
      generalize (d.crash 0).write 0 (secB 1) = d2 at *
      generalize d.crash 0 = d1 at *
      generalize (cellsOf (secB 1)).toArray = CS at *
      go_wp2_with fail
      refine CR.out.mono ?_
      rintro e w4 ⟨rfl, mb4, k4, m4, t4⟩
      have X4 : Hid (Ext w w4) := t4.ext xr.out wg wrr
      have wb4 : w.heap.size ≤ mb4 := Nat.le_trans xr.out.size m4
      replace k4 := Lib.hid k4
      clear CR t4 xr m4
      go_wp2_with fail
      refine (OF.out _).mono ?_
      rintro e w5 ⟨rfl, x5⟩
      have W5 := Lib.hid (WR.out w5 mb4 (k4.out.ext x5))
      have X5 : Hid (Ext w w5) := X4.out.trans x5
      clear OF WR k4 x5 X4
      go_wp2_with fail
      refine W5.out.mono ?_
      rintro e w6 ⟨rfl, k6, t6⟩
      have X6 : Hid (Ext w w6) := t6.ext X5.out wg wb4
      have S6 := Lib.hid (SY.out w6 mb4 k6)
      clear W5 SY k6 t6 X5
      go_wp2_with fail
      refine S6.out.mono ?_
      rintro e w7 ⟨rfl, mb7, k7, _, t7⟩
      have X7 : Hid (Ext w w7) := t7.ext X6.out wg wrr
      clear S6 k7 t7 X6
      go_wp2_with fail
      go_ret
      exact ⟨rfl, X7.out⟩
end Go.Proofs.Ytonjialkfbbhpaa
