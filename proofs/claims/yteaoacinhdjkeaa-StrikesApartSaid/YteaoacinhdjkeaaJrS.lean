/-
  The journal: the records of a disk, one by one.
-/
import Derived.Test.YteaoacinhdjkeaaJr2
import Derived.Test.YteaoacinhdjkeaaRfB
import Derived.RangeFuncNested
import Derived.RangeFuncBound
import Derived.RangeFuncCalls
import Derived.RangeFuncLeaves
import Derived.Shelf.Abstract
import Derived.Shelf.RegionOpen
import Derived.WalkKit
import Derived.OwnWalkIn
import Derived.TacticsInMore
import Derived.LoopNIn
import Derived.LoopIn
import Derived.Sort.CutIn
namespace Go.Proofs.Yteaoacinhdjkeaa
open Go.ChangeShapes Go.WideShapes Go.ChangeAt Go.RowKit Go.Deep Go.Maps Go.Shelf
set_option maxRecDepth 100000
attribute [local go_sem] Oper.semAt_some

/-- The records of a disk: what its first sectors hold. -/
def recsF (f : Nat → Option (List UInt8)) : Nat → Nat → List (List UInt8)
  | _, 0 => []
  | k, n + 1 => match f k with
    | none => []
    | some x => x :: recsF f (k + 1) n
def Ds.recs (d : Ds) : List (List UInt8) := recsF (fun k => recL k (d.read (k : Int))) 0 d.S.length
/-- So far. -/
def Pre22 (d : Ds) (pre : List (List UInt8)) : Prop := pre.length ≤ d.S.length ∧ ∀ j, j < pre.length → recL j (d.read (j : Int)) = some (pre.getD j [])
theorem recsF_pre {f : Nat → Option (List UInt8)} : ∀ (pre : List (List UInt8)) (k n : Nat), pre.length ≤ n → (∀ j, j < pre.length → f (k + j) = some (pre.getD j [])) → (pre.length = n ∨ f (k + pre.length) = none) → recsF f k n = pre
  | [], k, 0, _, _, _ => rfl
  | [], k, n + 1, _, _, h => by
    rcases h with h | h
    · cases h
    · simp only [List.length_nil, Nat.add_zero] at h
      unfold recsF
      rw [h]
  | x :: pre, k, 0, h, _, _ => by simp at h
  | x :: pre, k, n + 1, h, hf, he => by
    have h0 := hf 0 (by simp)
    simp only [Nat.add_zero, List.getD_cons_zero] at h0
    unfold recsF
    rw [h0]
    dsimp only
    rw [recsF_pre pre (k + 1) n (by simpa using h) (fun j hj => by have := hf (j + 1) (by simpa using hj); rw [show k + 1 + j = k + (j + 1) by omega]; simpa using this) (by
      rcases he with e | e
      · left; simpa using e
      · right; rw [show k + 1 + pre.length = k + (x :: pre).length by simp; omega]; exact e)]
theorem Pre22.full {d : Ds} {pre : List (List UInt8)} (h : Pre22 d pre) (he : pre.length = d.S.length ∨ recL pre.length (d.read (pre.length : Int)) = none) : pre = d.recs :=
  (recsF_pre pre 0 d.S.length h.1 (fun j hj => by rw [Nat.zero_add]; exact h.2 j hj) (by rw [Nat.zero_add]; exact he)).symm
theorem Pre22.snoc {d : Ds} {pre : List (List UInt8)} {x : List UInt8} (h : Pre22 d pre) (hl : pre.length < d.S.length) (hx : recL pre.length (d.read (pre.length : Int)) = some x) : Pre22 d (pre ++ [x]) := by
  refine ⟨by simp; omega, fun j hj => ?_⟩
  by_cases q : j < pre.length
  · rw [h.2 j q]; simp [List.getD, List.getElem?_append_left q]
  · have : j = pre.length := by simp at hj; omega
    subst this
    rw [hx]; simp [List.getD]

set_option maxHeartbeats 4000000 in
theorem stored1_in {n l bd dg r mb : Nat} {d : Ds} {J : List (List UInt8) → World → Prop} {Jx : World → Prop} {W : World} (hm : d.S.length ≤ 64) (h64 : ∀ i : Int, (d.read i).length = 64)
    (hJ : ∀ pre w w', J pre w → Ext w w' → J pre w') (hD : ∀ pre w, J pre w → DK w dg r mb d ∧ Cb w bd 24 [.pointer (some ⟨dg, 0, none⟩)])
    (hY : ∀ pre v w A m c x, J pre v → Ext v w → Own v.heap.size w A m c x → Pre22 d (pre ++ [x]) → YieldAt Fence.wide (n - 1) Try.prog l #[.slice A m c] w fun e w' => (e = .returned (.bool true) ∧ J (pre ++ [x]) w') ∨ (e = .returned (.bool false) ∧ Jx w'))
    (h0 : J [] W) : CallsIn Fence.wide n Try.prog 63 #[.func (.yield l) #[] #[], .pointer (some ⟨bd, 0, none⟩)] W fun e w' => (∃ v, e = .returned v) ∧ (J d.recs w' ∨ Jx w') := by
  refine callsIn_of_wp Try.func63 rfl trivial ?_ rfl
  simp only [Try.ntmps63, List.size_toArray, List.length_cons, List.length_nil, Nat.reduceAdd, Nat.reduceSub, Array.replicate_succ, Array.replicate_zero, List.push_toArray, List.append_toArray, List.nil_append, List.cons_append]
  replace hJ := Lib.hid hJ
  replace hD := Lib.hid hD
  replace hY := Lib.hid hY
  replace h0 := Lib.hid h0
  replace h64 := Lib.hid h64
  gi_wp2
  gi_loopw [3] (fun i wr => ∃ pre : List (List UInt8), i = .int .i64 (pre.length : Int) ∧ Pre22 d pre ∧ J pre wr) (fun i _ => d.S.length - (intOf i).toNat)
  case atStart => exact ⟨[], rfl, ⟨Nat.zero_le _, fun j hj => absurd hj (Nat.not_lt_zero _)⟩, h0.out⟩
  case round =>
    obtain ⟨pre, rfl, hp, hj⟩ := hrel
    obtain ⟨dk, bx⟩ := hD.out _ _ hj
    have c1 := bx.cell (j := 0) rfl
    have RD := Lib.hid (dread_calls dk (i := (pre.length : Int)))
    replace hp := Lib.hid hp
    replace hj := Lib.hid hj
    replace dk := Lib.hid dk
    replace bx := Lib.hid bx
    by_cases hlt : pre.length < d.S.length
    · have e0 : d.readE (pre.length : Int) = 0 := if_pos ⟨by omega, by omega⟩
      rw [e0] at RD
      have L6 := h64.out (pre.length : Int)
      have RC : Hid (∀ w, Calls Try.prog 64 #[.agg (cellsOf (d.read (pre.length : Int))).toArray, .int .i64 (pre.length : Int)] w (RetRec (recL pre.length (d.read (pre.length : Int))) w)) := fun w => jrecord_calls (by omega) L6
      obtain ⟨ro, hro⟩ : ∃ q, q = recL pre.length (d.read (pre.length : Int)) := ⟨_, rfl⟩
      rw [← hro] at RC
      replace hro := Lib.hid hro
      generalize d.read (pre.length : Int) = s at RD RC L6
      have S_s : Hid ((cellsOf s).toArray.size = 64) := by unfold Hid; simp [cellsOf_len, L6]
      have O_s := cellsOf_one s
      have hal := sector_alloc
      have hzs : zS64.toArray.size = 64 := by rw [List.size_toArray, zS64_len]
      replace O_s := Lib.hid O_s
      obtain ⟨Z, hZ⟩ : ∃ q, q = zS64 := ⟨_, rfl⟩
      rw [← hZ] at hal hzs
      clear hZ
      have hz6 : Hid (Z.toArray.size = 64) := hzs
      clear hzs
      gi_wp2
      refine ⟨trivial, fun q => (by cases q), (callsIn_wide.2 RD.out).mono ?_⟩
      rintro e w1 ⟨rfl, x1⟩
      have zE := Lib.hid (heap_alloc_new w1 (.cells Z.toArray 45))
      obtain ⟨r4, hr4⟩ : ∃ q, q = w1.heap.size := ⟨_, rfl⟩
      rw [← hr4] at zE
      have F4 : Hid (Cb ((w1.alloc (.cells Z.toArray 45)).setRow r4 (cellsOf s).toArray) r4 45 (cellsOf s) ∧ Ext wr ((w1.alloc (.cells Z.toArray 45)).setRow r4 (cellsOf s).toArray)) := ⟨setRow_heap _ _ _ _ _ _ zE.out, x1.trans (by rw [hr4]; exact Ext.newRow w1 _ _)⟩
      clear x1
      gi_upto_region 3 with (refine in_of_wp rfl fun K hK => ?_; refine wp_store_row _ _ _ rfl r4 (cellsOf s).toArray ?_ rfl 45 Z.toArray zE.out ?_ ?_ O_s.out ?_; (rw [hr4]; rfl); (rw [S_s.out]; rfl); (rw [S_s.out, hz6.out]); refine hK _ _ ?_; simp only [Act.put])
      refine wpIn_gen (fun w => Cb w r4 45 (cellsOf s) ∧ Ext wr w) F4.out ?_
      have r4e := hr4.symm
      rw [← hr4]
      have wr4 : Hid (r4 = w1.heap.size) := hr4
      clear hr4 r4e F4 zE hal
      rintro w3 ⟨k4, x3⟩
      have RC3 := Lib.hid (RC.out w3)
      clear RC RD
      replace k4 := Lib.hid k4
      replace x3 := Lib.hid x3
      cases ro with
      | none =>
        gi_wp2_with (refine in_of_wp rfl fun K hK => ?_; refine wp_exec22 (exec_load_row (ty := 45) (g := r4) (cs := (cellsOf s).toArray) rfl rfl k4.out rfl rfl ?_) ?_; (rw [S_s.out]; rfl); refine hK _ _ ?_; go_frame)
        refine ⟨trivial, fun q => (by cases q), (callsIn_wide.2 RC3.out).mono ?_⟩
        rintro e w4 ⟨x4, ⟨_, rfl⟩ | ⟨x, A, m, c, hx, _⟩⟩
        · have FU := Lib.hid (hJ.out _ _ _ hj.out (x3.out.trans x4))
          rw [hp.out.full (.inr hro.out.symm)] at FU
          gi_wp2
          refine ⟨fun _ h => (by cases h), ?_⟩
          gi_wp2
          refine bodyPost_ret (results_none rfl _ _ _) rfl ?_
          exact ⟨⟨_, rfl⟩, .inl FU.out⟩
        · cases hx
      | some x =>
        gi_wp2_with (refine in_of_wp rfl fun K hK => ?_; refine wp_exec22 (exec_load_row (ty := 45) (g := r4) (cs := (cellsOf s).toArray) rfl rfl k4.out rfl rfl ?_) ?_; (rw [S_s.out]; rfl); refine hK _ _ ?_; go_frame)
        refine ⟨trivial, fun q => (by cases q), (callsIn_wide.2 RC3.out).mono ?_⟩
        rintro e w4 ⟨x4, ⟨hx, _⟩ | ⟨x', A, m, c, hx, rfl, ow⟩⟩
        · cases hx
        · cases hx
          have hp1 := Lib.hid (hp.out.snoc hlt hro.out.symm)
          have YY := hY.out pre wr w4 A m c x hj.out (x3.out.trans x4) (ow.mono22 x3.out.size) hp1.out
          obtain ⟨fn, tmps, assign, body, hy, hR⟩ := YY
          replace hR := Lib.hid hR
          gi_wp2
          refine ⟨fun q => (by cases q), hR.out.mono ?_⟩
          rintro e w5 (⟨rfl, hj5⟩ | ⟨rfl, hx5⟩)
          · gi_wp2
            go_roundw
            case rel => exact ⟨pre ++ [x], by simp, hp1.out, hj5⟩
            case measure => simp [intOf]; omega
          · gi_wp2
            refine bodyPost_ret (results_none rfl _ _ _) rfl ?_
            exact ⟨⟨_, rfl⟩, .inr hx5⟩
    · have e0 : d.readE (pre.length : Int) = 1 := if_neg (by omega)
      rw [e0] at RD
      have L6 := h64.out (pre.length : Int)
      have FL := Lib.hid (hp.out.full (.inl (by have := hp.out.1; omega)))
      generalize d.read (pre.length : Int) = s at RD L6
      have S_s : Hid ((cellsOf s).toArray.size = 64) := by unfold Hid; simp [cellsOf_len, L6]
      have O_s := Lib.hid (cellsOf_one s)
      have hal := sector_alloc
      have hzs : zS64.toArray.size = 64 := by rw [List.size_toArray, zS64_len]
      obtain ⟨Z, hZ⟩ : ∃ q, q = zS64 := ⟨_, rfl⟩
      rw [← hZ] at hal hzs
      clear hZ
      have hz6 : Hid (Z.toArray.size = 64) := hzs
      clear hzs
      gi_wp2
      refine ⟨trivial, fun q => (by cases q), (callsIn_wide.2 RD.out).mono ?_⟩
      rintro e w1 ⟨rfl, x1⟩
      have zE := Lib.hid (heap_alloc_new w1 (.cells Z.toArray 45))
      obtain ⟨r4, hr4⟩ : ∃ q, q = w1.heap.size := ⟨_, rfl⟩
      rw [← hr4] at zE
      have F4 : Hid (J d.recs ((w1.alloc (.cells Z.toArray 45)).setRow r4 (cellsOf s).toArray)) := by
        rw [← FL.out]
        exact hJ.out _ _ _ hj.out (x1.trans (by rw [hr4]; exact Ext.newRow w1 _ _))
      clear x1 FL
      gi_upto_region 3 with (refine in_of_wp rfl fun K hK => ?_; refine wp_store_row _ _ _ rfl r4 (cellsOf s).toArray ?_ rfl 45 Z.toArray zE.out ?_ ?_ O_s.out ?_; (rw [hr4]; rfl); (rw [S_s.out]; rfl); (rw [S_s.out, hz6.out]); refine hK _ _ ?_; simp only [Act.put])
      refine wpIn_gen (fun w => J d.recs w) F4.out ?_
      clear F4 zE hal
      intro w3 FU
      replace FU := Lib.hid FU
      gi_wp2
      refine bodyPost_ret (results_none rfl _ _ _) rfl ?_
      exact ⟨⟨_, rfl⟩, .inl FU.out⟩
end Go.Proofs.Yteaoacinhdjkeaa
