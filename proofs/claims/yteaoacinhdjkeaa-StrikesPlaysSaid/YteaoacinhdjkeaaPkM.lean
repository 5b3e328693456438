import Derived.Test.YteaoacinhdjkeaaPkN
import Derived.RangeFuncNested
import Derived.RangeFuncBound
import Derived.RangeFuncCalls
import Derived.RangeFuncLeaves
import Derived.Shelf.Abstract
import Derived.Shelf.RegionOpen
import Derived.WalkKit
import Derived.OwnWalkIn
import Derived.TacticsInMore
import Derived.LoopNIn
import Derived.LoopIn
import Derived.Sort.CutIn
import Derived.Test.YteaoacinhdjkeaaPkO
import Derived.Test.YteaoacinhdjkeaaSeq
import Derived.Test.YteaoacinhdjkeaaSeqZ
import Derived.Test.YteaoacinhdjkeaaTwo
section
/-
  The journal: the records of a disk, one by one.
-/
namespace Go.Proofs.Yteaoacinhdjkeaa
open Go.ChangeShapes Go.WideShapes Go.ChangeAt Go.RowKit Go.Deep Go.Maps Go.Shelf
set_option maxRecDepth 100000
attribute [local go_sem] Oper.semAt_some

/-- The records of a disk: what its first sectors hold. -/
def recsF (f : Nat → Option (List UInt8)) : Nat → Nat → List (List UInt8)
  | _, 0 => []
  | k, n + 1 => match f k with
    | none => []
    | some x => x :: recsF f (k + 1) n
def Ds.recs (d : Ds) : List (List UInt8) := recsF (fun k => recL k (d.read (k : Int))) 0 d.S.length
/-- So far. -/
def Pre22 (d : Ds) (pre : List (List UInt8)) : Prop := pre.length ≤ d.S.length ∧ ∀ j, j < pre.length → recL j (d.read (j : Int)) = some (pre.getD j [])
theorem recsF_pre {f : Nat → Option (List UInt8)} : ∀ (pre : List (List UInt8)) (k n : Nat), pre.length ≤ n → (∀ j, j < pre.length → f (k + j) = some (pre.getD j [])) → (pre.length = n ∨ f (k + pre.length) = none) → recsF f k n = pre
  | [], k, 0, _, _, _ => rfl
  | [], k, n + 1, _, _, h => by
    rcases h with h | h
    · cases h
    · simp only [List.length_nil, Nat.add_zero] at h
      unfold recsF
      rw [h]
  | x :: pre, k, 0, h, _, _ => by simp at h
  | x :: pre, k, n + 1, h, hf, he => by
    have h0 := hf 0 (by simp)
    simp only [Nat.add_zero, List.getD_cons_zero] at h0
    unfold recsF
    rw [h0]
    dsimp only
    rw [recsF_pre pre (k + 1) n (by simpa using h) (fun j hj => by have := hf (j + 1) (by simpa using hj); rw [show k + 1 + j = k + (j + 1) by omega]; simpa using this) (by
      rcases he with e | e
      · left; simpa using e
      · right; rw [show k + 1 + pre.length = k + (x :: pre).length by simp; omega]; exact e)]
theorem Pre22.full {d : Ds} {pre : List (List UInt8)} (h : Pre22 d pre) (he : pre.length = d.S.length ∨ recL pre.length (d.read (pre.length : Int)) = none) : pre = d.recs :=
  (recsF_pre pre 0 d.S.length h.1 (fun j hj => by rw [Nat.zero_add]; exact h.2 j hj) (by rw [Nat.zero_add]; exact he)).symm
theorem Pre22.snoc {d : Ds} {pre : List (List UInt8)} {x : List UInt8} (h : Pre22 d pre) (hl : pre.length < d.S.length) (hx : recL pre.length (d.read (pre.length : Int)) = some x) : Pre22 d (pre ++ [x]) := by
  refine ⟨by simp; omega, fun j hj => ?_⟩
  by_cases q : j < pre.length
  · rw [h.2 j q]; simp [List.getD, List.getElem?_append_left q]
  · have : j = pre.length := by simp at hj; omega
    subst this
    rw [hx]; simp [List.getD]

set_option maxHeartbeats 4000000 in
theorem stored1_in {n l bd dg r mb : Nat} {d : Ds} {J : List (List UInt8) → World → Prop} {Jx : World → Prop} {W : World} (hm : d.S.length ≤ 64) (h64 : ∀ i : Int, (d.read i).length = 64)
    (hJ : ∀ pre w w', J pre w → Ext w w' → J pre w') (hD : ∀ pre w, J pre w → DK w dg r mb d ∧ Cb w bd 24 [.pointer (some ⟨dg, 0, none⟩)])
    (hY : ∀ pre v w A m c x, J pre v → Ext v w → Own v.heap.size w A m c x → Pre22 d (pre ++ [x]) → YieldAt Fence.wide (n - 1) Try.prog l #[.slice A m c] w fun e w' => (e = .returned (.bool true) ∧ J (pre ++ [x]) w') ∨ (e = .returned (.bool false) ∧ Jx w'))
    (h0 : J [] W) : CallsIn Fence.wide n Try.prog 63 #[.func (.yield l) #[] #[], .pointer (some ⟨bd, 0, none⟩)] W fun e w' => (∃ v, e = .returned v) ∧ (J d.recs w' ∨ Jx w') := by
  refine callsIn_of_wp Try.func63 rfl trivial ?_ rfl
  simp only [Try.ntmps63, List.size_toArray, List.length_cons, List.length_nil, Nat.reduceAdd, Nat.reduceSub, Array.replicate_succ, Array.replicate_zero, List.push_toArray, List.append_toArray, List.nil_append, List.cons_append]
  replace hJ := Lib.hid hJ
  replace hD := Lib.hid hD
  replace hY := Lib.hid hY
  replace h0 := Lib.hid h0
  replace h64 := Lib.hid h64
  gi_wp2
  gi_loopw [3] (fun i wr => ∃ pre : List (List UInt8), i = .int .i64 (pre.length : Int) ∧ Pre22 d pre ∧ J pre wr) (fun i _ => d.S.length - (intOf i).toNat)
  case atStart => exact ⟨[], rfl, ⟨Nat.zero_le _, fun j hj => absurd hj (Nat.not_lt_zero _)⟩, h0.out⟩
  case round =>
    obtain ⟨pre, rfl, hp, hj⟩ := hrel
    obtain ⟨dk, bx⟩ := hD.out _ _ hj
    have c1 := bx.cell (j := 0) rfl
    have RD := Lib.hid (dread_calls dk (i := (pre.length : Int)))
    replace hp := Lib.hid hp
    replace hj := Lib.hid hj
    replace dk := Lib.hid dk
    replace bx := Lib.hid bx
    by_cases hlt : pre.length < d.S.length
    · have e0 : d.readE (pre.length : Int) = 0 := if_pos ⟨by omega, by omega⟩
      rw [e0] at RD
      have L6 := h64.out (pre.length : Int)
      have RC : Hid (∀ w, Calls Try.prog 64 #[.agg (cellsOf (d.read (pre.length : Int))).toArray, .int .i64 (pre.length : Int)] w (RetRec (recL pre.length (d.read (pre.length : Int))) w)) := fun w => jrecord_calls (by omega) L6
      obtain ⟨ro, hro⟩ : ∃ q, q = recL pre.length (d.read (pre.length : Int)) := ⟨_, rfl⟩
      rw [← hro] at RC
      replace hro := Lib.hid hro
      generalize d.read (pre.length : Int) = s at RD RC L6
      have S_s : Hid ((cellsOf s).toArray.size = 64) := by unfold Hid; simp [cellsOf_len, L6]
      have O_s := cellsOf_one s
      have hal := sector_alloc
      have hzs : zS64.toArray.size = 64 := by rw [List.size_toArray, zS64_len]
      replace O_s := Lib.hid O_s
      obtain ⟨Z, hZ⟩ : ∃ q, q = zS64 := ⟨_, rfl⟩
      rw [← hZ] at hal hzs
      clear hZ
      have hz6 : Hid (Z.toArray.size = 64) := hzs
      clear hzs
      gi_wp2
      refine ⟨trivial, fun q => (by cases q), (callsIn_wide.2 RD.out).mono ?_⟩
      rintro e w1 ⟨rfl, x1⟩
      have zE := Lib.hid (heap_alloc_new w1 (.cells Z.toArray 45))
      obtain ⟨r4, hr4⟩ : ∃ q, q = w1.heap.size := ⟨_, rfl⟩
      rw [← hr4] at zE
      have F4 : Hid (Cb ((w1.alloc (.cells Z.toArray 45)).setRow r4 (cellsOf s).toArray) r4 45 (cellsOf s) ∧ Ext wr ((w1.alloc (.cells Z.toArray 45)).setRow r4 (cellsOf s).toArray)) := ⟨setRow_heap _ _ _ _ _ _ zE.out, x1.trans (by rw [hr4]; exact Ext.newRow w1 _ _)⟩
      clear x1
      gi_upto_region 3 with (refine in_of_wp rfl fun K hK => ?_; refine wp_store_row _ _ _ rfl r4 (cellsOf s).toArray ?_ rfl 45 Z.toArray zE.out ?_ ?_ O_s.out ?_; (rw [hr4]; rfl); (rw [S_s.out]; rfl); (rw [S_s.out, hz6.out]); refine hK _ _ ?_; simp only [Act.put])
      refine wpIn_gen (fun w => Cb w r4 45 (cellsOf s) ∧ Ext wr w) F4.out ?_
      have r4e := hr4.symm
      rw [← hr4]
      have wr4 : Hid (r4 = w1.heap.size) := hr4
      clear hr4 r4e F4 zE hal
      rintro w3 ⟨k4, x3⟩
      have RC3 := Lib.hid (RC.out w3)
      clear RC RD
      replace k4 := Lib.hid k4
      replace x3 := Lib.hid x3
      cases ro with
      | none =>
        gi_wp2_with (refine in_of_wp rfl fun K hK => ?_; refine wp_exec22 (exec_load_row (ty := 45) (g := r4) (cs := (cellsOf s).toArray) rfl rfl k4.out rfl rfl ?_) ?_; (rw [S_s.out]; rfl); refine hK _ _ ?_; go_frame)
        refine ⟨trivial, fun q => (by cases q), (callsIn_wide.2 RC3.out).mono ?_⟩
        rintro e w4 ⟨x4, ⟨_, rfl⟩ | ⟨x, A, m, c, hx, _⟩⟩
        · have FU := Lib.hid (hJ.out _ _ _ hj.out (x3.out.trans x4))
          rw [hp.out.full (.inr hro.out.symm)] at FU
          gi_wp2
          refine ⟨fun _ h => (by cases h), ?_⟩
          gi_wp2
          refine bodyPost_ret (results_none rfl _ _ _) rfl ?_
          exact ⟨⟨_, rfl⟩, .inl FU.out⟩
        · cases hx
      | some x =>
        gi_wp2_with (refine in_of_wp rfl fun K hK => ?_; refine wp_exec22 (exec_load_row (ty := 45) (g := r4) (cs := (cellsOf s).toArray) rfl rfl k4.out rfl rfl ?_) ?_; (rw [S_s.out]; rfl); refine hK _ _ ?_; go_frame)
        refine ⟨trivial, fun q => (by cases q), (callsIn_wide.2 RC3.out).mono ?_⟩
        rintro e w4 ⟨x4, ⟨hx, _⟩ | ⟨x', A, m, c, hx, rfl, ow⟩⟩
        · cases hx
        · cases hx
          have hp1 := Lib.hid (hp.out.snoc hlt hro.out.symm)
          have YY := hY.out pre wr w4 A m c x hj.out (x3.out.trans x4) (ow.mono22 x3.out.size) hp1.out
          obtain ⟨fn, tmps, assign, body, hy, hR⟩ := YY
          replace hR := Lib.hid hR
          gi_wp2
          refine ⟨fun q => (by cases q), hR.out.mono ?_⟩
          rintro e w5 (⟨rfl, hj5⟩ | ⟨rfl, hx5⟩)
          · gi_wp2
            go_roundw
            case rel => exact ⟨pre ++ [x], by simp, hp1.out, hj5⟩
            case measure => simp [intOf]; omega
          · gi_wp2
            refine bodyPost_ret (results_none rfl _ _ _) rfl ?_
            exact ⟨⟨_, rfl⟩, .inr hx5⟩
    · have e0 : d.readE (pre.length : Int) = 1 := if_neg (by omega)
      rw [e0] at RD
      have L6 := h64.out (pre.length : Int)
      have FL := Lib.hid (hp.out.full (.inl (by have := hp.out.1; omega)))
      generalize d.read (pre.length : Int) = s at RD L6
      have S_s : Hid ((cellsOf s).toArray.size = 64) := by unfold Hid; simp [cellsOf_len, L6]
      have O_s := Lib.hid (cellsOf_one s)
      have hal := sector_alloc
      have hzs : zS64.toArray.size = 64 := by rw [List.size_toArray, zS64_len]
      obtain ⟨Z, hZ⟩ : ∃ q, q = zS64 := ⟨_, rfl⟩
      rw [← hZ] at hal hzs
      clear hZ
      have hz6 : Hid (Z.toArray.size = 64) := hzs
      clear hzs
      gi_wp2
      refine ⟨trivial, fun q => (by cases q), (callsIn_wide.2 RD.out).mono ?_⟩
      rintro e w1 ⟨rfl, x1⟩
      have zE := Lib.hid (heap_alloc_new w1 (.cells Z.toArray 45))
      obtain ⟨r4, hr4⟩ : ∃ q, q = w1.heap.size := ⟨_, rfl⟩
      rw [← hr4] at zE
      have F4 : Hid (J d.recs ((w1.alloc (.cells Z.toArray 45)).setRow r4 (cellsOf s).toArray)) := by
        rw [← FL.out]
        exact hJ.out _ _ _ hj.out (x1.trans (by rw [hr4]; exact Ext.newRow w1 _ _))
      clear x1 FL
      gi_upto_region 3 with (refine in_of_wp rfl fun K hK => ?_; refine wp_store_row _ _ _ rfl r4 (cellsOf s).toArray ?_ rfl 45 Z.toArray zE.out ?_ ?_ O_s.out ?_; (rw [hr4]; rfl); (rw [S_s.out]; rfl); (rw [S_s.out, hz6.out]); refine hK _ _ ?_; simp only [Act.put])
      refine wpIn_gen (fun w => J d.recs w) F4.out ?_
      clear F4 zE hal
      intro w3 FU
      replace FU := Lib.hid FU
      gi_wp2
      refine bodyPost_ret (results_none rfl _ _ _) rfl ?_
      exact ⟨⟨_, rfl⟩, .inl FU.out⟩
end Go.Proofs.Yteaoacinhdjkeaa
end

section
/-
  Slices of slices of bytes (Rw).
-/
namespace Go.Proofs.Yteaoacinhdjkeaa
open Go.ChangeShapes Go.WideShapes Go.ChangeAt Go.RowKit Go.Deep

/-- The slice '.slice A n c' reads as the rows l. -/
def Rw (w : World) (A : Option Addr) (n c : Nat) (l : List (List UInt8)) : Prop :=
  l.length = n ∧ n ≤ c ∧ c ≤ maxLen ∧ (0 < n → ∃ b off, A = some ⟨b, off, none⟩ ∧ b < w.heap.size ∧ ∀ j, j < n → ∃ A' n' c', w.cell? ⟨b, off + j, none⟩ = some (.slice A' n' c') ∧ Bs w A' n' c' (l.getD j []))

section
variable {w w' : World} {A : Option Addr} {n c : Nat} {l : List (List UInt8)}
theorem Rw.len (h : Rw w A n c l) : l.length = n := h.1
theorem Rw.le (h : Rw w A n c l) : n ≤ c := h.2.1
theorem Rw.cap (h : Rw w A n c l) : c ≤ 9223372036854775807 := h.2.2.1
theorem Rw.nil (w : World) : Rw w none 0 0 [] := ⟨rfl, Nat.le_refl _, Nat.zero_le _, fun h => absurd h (by omega)⟩
theorem Rw.pos (h : Rw w A n c l) (hn : 0 < n) : ∃ b off, A = some ⟨b, off, none⟩ ∧ b < w.heap.size ∧ ∀ j, j < n → ∃ A' n' c', w.cell? ⟨b, off + j, none⟩ = some (.slice A' n' c') ∧ Bs w A' n' c' (l.getD j []) := h.2.2.2 hn
theorem Rw.ext (h : Rw w A n c l) (he : Ext w w') : Rw w' A n c l :=
  ⟨h.1, h.2.1, h.2.2.1, fun hn => by
    obtain ⟨b, off, e, hb, hc⟩ := h.2.2.2 hn
    refine ⟨b, off, e, Nat.lt_of_lt_of_le hb he.size, fun j hj => ?_⟩
    obtain ⟨A', n', c', h1, h2⟩ := hc j hj
    exact ⟨A', n', c', (he.cell hb).trans h1, h2.ext he⟩⟩
end

end Go.Proofs.Yteaoacinhdjkeaa
end

section
/-
  A row of slices of bytes of the call's own, the bytes in memory of its own too. No conditions.
-/
namespace Go.Proofs.Yteaoacinhdjkeaa
open Go.ChangeShapes Go.WideShapes Go.ChangeAt Go.RowKit Go.Deep

theorem info22G : (Try.prog.info? 37).map (fun i => (i.zero, i.size, i.bytes)) = some (some (.slice none 0 0), 1, 24) := by kernel_rfl

/-- The slice '.slice D n c' is the call's own row of slices of bytes, and reads as l. -/
def OwnG (B : Nat) (w : World) (D : Option Addr) (n c : Nat) (l : List (List UInt8)) : Prop :=
  ∃ vs : List Value, w.ownsRow B 37 1 (.slice D n c) n vs ∧ l.length = n ∧
    ∀ j, j < n → ∃ A' n' c', vs[j]? = some (.slice A' n' c') ∧ Bs w A' n' c' (l.getD j []) ∧ (0 < n' → ∀ a, A' = some a → some a.block ≠ Value.ownBlock (.slice D n c) ∧ B ≤ a.block)

section
variable {w w' : World} {B : Nat} {D : Option Addr} {n c : Nat} {l : List (List UInt8)}
theorem OwnG.nil (B : Nat) (w : World) : OwnG B w none 0 0 [] := ⟨[], World.ownsRow_nil w B _ 1, rfl, fun j hj => absurd hj (by omega)⟩
theorem OwnG.len (h : OwnG B w D n c l) : l.length = n := by obtain ⟨_, _, h, _⟩ := h; exact h
theorem owns_extG {e : TypeId} {size : Nat} {v : Value} {xs : List Value} (h : w.ownsRow B e size v n xs) (he : Ext w w') : w'.ownsRow B e size v n xs := by
  refine ⟨h.1, ?_⟩
  rcases h.2 with h | ⟨g, cap, cur, hv, hb, hg, r⟩
  · exact .inl h
  · exact .inr ⟨g, cap, cur, hv, hb, (he.block g (by
      rcases Nat.lt_or_ge g w.heap.size with h | h
      · exact h
      · rw [Array.getElem?_eq_none h] at hg; cases hg)).trans hg, r⟩
theorem OwnG.ext (h : OwnG B w D n c l) (he : Ext w w') : OwnG B w' D n c l := by
  obtain ⟨vs, h1, h2, h3⟩ := h
  refine ⟨vs, owns_extG h1 he, h2, fun j hj => ?_⟩
  obtain ⟨A', n', c', e1, e2, e3⟩ := h3 j hj
  exact ⟨A', n', c', e1, e2.ext he, e3⟩
theorem OwnG.ge (h : OwnG B w D n c l) : ∀ g, Value.ownBlock (.slice D n c) = some g → B ≤ g := fun g hg => by
  obtain ⟨vs, h1, _⟩ := h
  exact (World.ownsRow.lt h1 g hg).1
theorem Bs.grownG {A : Option Addr} {m k : Nat} {xs : List UInt8} {row : Option Nat} (h : Bs w A m k xs) (hg : w.grownBy w' row) (hne : 0 < m → ∀ a, A = some a → some a.block ≠ row) : Bs w' A m k xs :=
  ⟨h.1, h.2.1, h.2.2.1, fun h0 => by
    obtain ⟨b, off, rfl, hb, hc⟩ := h.2.2.2 h0
    exact ⟨b, off, rfl, Nat.lt_of_lt_of_le hb hg.size, fun j hj => (World.cell?_of_block (hg.block b hb (hne h0 _ rfl))).trans (hc j hj)⟩⟩
theorem OwnG.rw (h : OwnG B w D n c l) : Rw w D n c l := by
  obtain ⟨vs, h1, h2, h3⟩ := h
  rcases h1.2 with ⟨hv, hn⟩ | ⟨g, cap, cur, hv, hb, hg, hnc, hcm, hcs, htk⟩
  · injection hv with q1 q2 q3
    subst q1 q2 q3
    exact ⟨h2, Nat.le_refl _, Nat.zero_le _, fun h => absurd h (by omega)⟩
  · injection hv with q1 q2 q3
    subst q1 q3
    refine ⟨h2, hnc, hcm, fun h0 => ⟨g, 0, rfl, ?_, fun j hj => ?_⟩⟩
    · rcases Nat.lt_or_ge g w.heap.size with h | h
      · exact h
      · rw [Array.getElem?_eq_none h] at hg; cases hg
    · rw [Nat.zero_add]
      obtain ⟨A', n', c', e1, e2, _⟩ := h3 j hj
      refine ⟨A', n', c', ?_, e2⟩
      have e : vs[j]? = cur[j]? := by rw [← htk, List.getElem?_take, if_pos (by omega), Array.getElem?_toList]
      rw [e1] at e
      simp [World.cell?, hg, ← e]
end

/-- 'append(rows, x)' on a row of the call's own: x lies in a new block of one cell. -/
theorem wp_append_rg {w : World} {o : Oper} {a : Act} {K : Act → World → Prop} {Q : Exit → Act → World → Prop} {B : Nat} {D A' : Option Addr} {n c n' c' b : Nat} {l : List (List UInt8)} {xs : List UInt8} {s x : Operand}
    (ho : o.op = .call { callee := .builtin .append, args := #[s, x], argTypes := #[50, 50] }) (hs : a.eval s = .slice D n c) (hx : a.eval x = .slice (some ⟨b, 0, none⟩) 1 1)
    (h : OwnG B w D n c l) (hc : w.cell? ⟨b, 0, none⟩ = some (.slice A' n' c')) (hr : Bs w A' n' c' xs) (hne : 0 < n' → ∀ a, A' = some a → some a.block ≠ Value.ownBlock (.slice D n c) ∧ B ≤ a.block) (hm : n ≤ 1000000) (hB : B ≤ w.heap.size)
    (hK : ∀ D'' c'' w', OwnG B w' D'' (n + 1) c'' (l ++ [xs]) → Below B w w' → K (a.put o.dst (.slice D'' (n + 1) c'')) w') : o.wp Try.prog a w K Q := by
  have hge := h.ge
  obtain ⟨vs, h1, h2, h3⟩ := h
  obtain ⟨i, hi, hz0, hz1, hz2⟩ := info_parts info22G
  obtain ⟨v', w', hrun, ho', hg, _, hown⟩ := run_append_own_at (P := Try.prog) w B 50 o.type 37 i (.slice none 0 0) 1 24 Try.underlying50 hi hz0 hz1 hz2 rfl (by decide) (.slice D n c) n vs h1 ⟨b, 0, none⟩ 1 1 [.slice A' n' c']
    rfl (fun j u hu => by
      have : j = 0 := by
        rcases Nat.eq_zero_or_pos j with h | h
        · exact h
        · simp [show ¬ j < 1 by omega] at hu
      subst this
      simp at hu
      subst hu
      simpa [Addr.add] using hc) (fun u hu => by simp at hu; subst hu; rfl) (by unfold maxLen; omega) (by omega) hB
  have hb' : Below B w w' := (Below.refl B w).grown hg hB hge
  have fin : ∃ D'' c'', v' = .slice D'' (n + 1) c'' ∧ OwnG B w' D'' (n + 1) c'' (l ++ [xs]) := by
    rcases ho'.2 with ⟨hv, hn⟩ | ⟨g, cap, cur, hv, _⟩
    · omega
    · refine ⟨_, _, hv, vs ++ [.slice A' n' c'], by rw [← hv]; exact ho', by simp [h2], fun j hj => ?_⟩
      have hvl : vs.length = n := by simpa using h1.1
      have far : ∀ (A2 : Option Addr) (n2 c2 : Nat) (ys : List UInt8), Bs w A2 n2 c2 ys → (0 < n2 → ∀ a, A2 = some a → some a.block ≠ Value.ownBlock (.slice D n c)) → (0 < n2 → ∀ a, A2 = some a → some a.block ≠ Value.ownBlock (.slice (some ⟨g, 0, none⟩) (n + 1) cap)) := by
        intro A2 n2 c2 ys hb2 hn2 h0 a ha
        rw [← hv]
        rcases hown with e | e
        · rw [e]; exact hn2 h0 a ha
        · rw [e]
          obtain ⟨b2, off2, e2, hlt, _⟩ := hb2.pos h0
          rw [e2] at ha
          injection ha with ha
          subst ha
          intro q
          injection q with q
          simp only at q
          omega
      by_cases hjn : j < n
      · obtain ⟨A2, n2, c2, e1, e2, e3⟩ := h3 j hjn
        refine ⟨A2, n2, c2, by rw [List.getElem?_append_left (by omega)]; exact e1, ?_, fun h0 a ha => ⟨far A2 n2 c2 _ e2 (fun h a q => (e3 h a q).1) h0 a ha, (e3 h0 a ha).2⟩⟩
        have : (l ++ [xs]).getD j [] = l.getD j [] := by simp [List.getD, List.getElem?_append_left (show j < l.length by omega)]
        rw [this]
        exact e2.grownG hg (fun h a q => (e3 h a q).1)
      · obtain rfl : j = n := by omega
        refine ⟨A', n', c', by rw [List.getElem?_append_right (by omega), hvl]; simp, ?_, fun h0 a ha => ⟨far A' n' c' xs hr (fun h a q => (hne h a q).1) h0 a ha, (hne h0 a ha).2⟩⟩
        have : (l ++ [xs]).getD j [] = xs := by simp [List.getD, List.getElem?_append_right (show l.length ≤ j by omega), h2]
        rw [this]
        exact hr.grownG hg (fun h a q => (hne h a q).1)
  obtain ⟨D'', c'', rfl, hfin⟩ := fin
  unfold Oper.wp execOp
  simp only [ho, resolve, invoke, builtin, Sem.run_bind, Sem.run_pure, Result.andThen_ok, List.map_toArray, List.map_cons, List.map_nil, hs, hx, hrun]
  exact hK D'' c'' w' hfin hb'

theorem wpList_append_rg {w : World} {ops : Array Oper} {rest : List Oper} {o : Oper} {a : Act} {Q : Exit → Act → World → Prop} (hgd : o.guard = none) {B : Nat} {D A' : Option Addr} {n c n' c' b : Nat} {l : List (List UInt8)} {xs : List UInt8} {s x : Operand}
    (ho : o.op = .call { callee := .builtin .append, args := #[s, x], argTypes := #[50, 50] }) (hs : a.eval s = .slice D n c) (hx : a.eval x = .slice (some ⟨b, 0, none⟩) 1 1)
    (h : OwnG B w D n c l) (hc : w.cell? ⟨b, 0, none⟩ = some (.slice A' n' c')) (hr : Bs w A' n' c' xs) (hne : 0 < n' → ∀ a, A' = some a → some a.block ≠ Value.ownBlock (.slice D n c) ∧ B ≤ a.block) (hm : n ≤ 1000000) (hB : B ≤ w.heap.size)
    (hK : ∀ D'' c'' w', OwnG B w' D'' (n + 1) c'' (l ++ [xs]) → Below B w w' → wpList Try.prog ops Q rest (a.put o.dst (.slice D'' (n + 1) c'')) w') : wpList Try.prog ops Q (o :: rest) a w :=
  wpList_plain hgd fun _ hK' => wp_append_rg ho hs hx h hc hr hne hm hB fun D'' c'' w' h2 h3 => hK' _ _ (hK D'' c'' w' h2 h3)

/-- What 'append(nil, s...)' made lies in a new block. -/
theorem far_of_newG {w w1 : World} {B : Nat} {A D : Option Addr} {n c k cc : Nat} {xs : List UInt8} {l : List (List UInt8)} (h : Own w.heap.size w1 A n c xs) (hD : OwnG B w D k cc l) (hB : B ≤ w.heap.size) :
    0 < n → ∀ a, A = some a → some a.block ≠ Value.ownBlock (.slice D k cc) ∧ B ≤ a.block := by
  intro h0 a ha
  subst ha
  obtain ⟨d, hd⟩ : ∃ g : Nat, a.block = g ∧ w.heap.size ≤ g := by
    rcases h.2 with ⟨hv, _⟩ | ⟨g, cap, cur, hv, hb, _⟩
    · injection hv with q1
      cases q1
    · injection hv with q1
      injection q1 with q1
      exact ⟨g, by rw [q1], hb⟩
  refine ⟨fun q => ?_, by omega⟩
  obtain ⟨vs, h1, _⟩ := hD
  have hlt := (World.ownsRow.lt h1 a.block q.symm).2
  omega

end Go.Proofs.Yteaoacinhdjkeaa
end

section
/-
  A region whose last operation is a store, in a round; a row of slices of bytes grows: just its block turns. No conditions.
-/
namespace Go.Proofs.Yteaoacinhdjkeaa
open Go.ChangeShapes Go.WideShapes Go.ChangeAt Go.RowKit Go.Deep

section
variable {P : Program} {ops : Array Oper} {Q : Exit → Act → World → Prop} {R : World → World → Prop} {id l n : Nat} {a : Act} {w : World}
theorem qgZ_in (hrf : ∀ w, R w w) (htr : ∀ a b c, R a b → R b c → R a c) (z : Nat) (σ cs : List Nat) (hout : ¬ LetsOut Q) (h : seqZ P ops Q R z cs σ a w.drew) (hm : P.follows .mixedOrders = true := by kernel_rfl) (hs : Region.noSelect ops = true := by kernel_rfl) (hin : edgesIn ops = true := by kernel_rfl) (hl : σ.length = ops.size := by exact rfl)
    (hp : planOk (ops.toList.map (encOf ops)) cs σ 0 = true := by kernel_rfl) (hz : zOk (ops.toList.map (encOf ops)) cs z = true := by kernel_rfl) (hd : noDefer ops = true := by kernel_rfl) (hQ : ∀ c a d v w, Q (.panic c) (Act.put a d v) w → Q (.panic c) a w := by exact fun _ _ d _ _ h => by cases d <;> exact h) : (Code.region id ops true).wpIn (rnd l) n P Q a w := by
  refine wpIn_region_draw fun t => ?_
  simp only [Region.schedule, hm, Bool.true_or, if_true]
  refine wpOps_in (noDefer_spec hd) hout _ _ _ (wpAny_sound ops.size t _ a _ (wpAny_of_Z (R := R) (z := z) _ _ _ _ ?_))
  have := any_of_seqZ hrf htr hs hQ cs rfl (fun j o ho e he => by
    have h1 := Array.all_eq_true_iff_forall_mem.1 hin o (Array.mem_of_getElem? ho)
    simpa using Array.all_eq_true_iff_forall_mem.1 h1 e he) hz σ (Array.replicate ops.size false) 0 a w.drew ⟨by simp, fun j hj => by simp [Array.getD, hj]⟩ (fun k ok _ hl => by
      exfalso
      rcases Nat.lt_or_ge k ops.size with h' | h'
      · simp [Array.getD, h'] at hl
      · simp [Array.getD, Nat.not_lt.2 h'] at hl) hp h
  rw [hl] at this
  exact this
end

/-- 'append(rows, x)' on a row of the call's own: just its block turns. -/
theorem wp_append_rg2 {w : World} {o : Oper} {a : Act} {K : Act → World → Prop} {Q : Exit → Act → World → Prop} {B : Nat} {D A' : Option Addr} {n c n' c' b : Nat} {l : List (List UInt8)} {xs : List UInt8} {s x : Operand}
    (ho : o.op = .call { callee := .builtin .append, args := #[s, x], argTypes := #[50, 50] }) (hs : a.eval s = .slice D n c) (hx : a.eval x = .slice (some ⟨b, 0, none⟩) 1 1)
    (h : OwnG B w D n c l) (hc : w.cell? ⟨b, 0, none⟩ = some (.slice A' n' c')) (hr : Bs w A' n' c' xs) (hne : 0 < n' → ∀ a, A' = some a → some a.block ≠ Value.ownBlock (.slice D n c) ∧ B ≤ a.block) (hm : n ≤ 1000000) (hB : B ≤ w.heap.size)
    (hK : ∀ D'' c'' w', OwnG B w' D'' (n + 1) c'' (l ++ [xs]) → w.grownBy w' (Value.ownBlock (.slice D n c)) → (Value.ownBlock (.slice D'' (n + 1) c'') = Value.ownBlock (.slice D n c) ∨ Value.ownBlock (.slice D'' (n + 1) c'') = some w.heap.size) → K (a.put o.dst (.slice D'' (n + 1) c'')) w') : o.wp Try.prog a w K Q := by
  have hge := h.ge
  obtain ⟨vs, h1, h2, h3⟩ := h
  obtain ⟨i, hi, hz0, hz1, hz2⟩ := info_parts info22G
  obtain ⟨v', w', hrun, ho', hg, _, hown⟩ := run_append_own_at (P := Try.prog) w B 50 o.type 37 i (.slice none 0 0) 1 24 Try.underlying50 hi hz0 hz1 hz2 rfl (by decide) (.slice D n c) n vs h1 ⟨b, 0, none⟩ 1 1 [.slice A' n' c']
    rfl (fun j u hu => by
      have : j = 0 := by
        rcases Nat.eq_zero_or_pos j with h | h
        · exact h
        · simp [show ¬ j < 1 by omega] at hu
      subst this
      simp at hu
      subst hu
      simpa [Addr.add] using hc) (fun u hu => by simp at hu; subst hu; rfl) (by unfold maxLen; omega) (by omega) hB
  have fin : ∃ D'' c'', v' = .slice D'' (n + 1) c'' ∧ OwnG B w' D'' (n + 1) c'' (l ++ [xs]) := by
    rcases ho'.2 with ⟨hv, hn⟩ | ⟨g, cap, cur, hv, _⟩
    · omega
    · refine ⟨_, _, hv, vs ++ [.slice A' n' c'], by rw [← hv]; exact ho', by simp [h2], fun j hj => ?_⟩
      have hvl : vs.length = n := by simpa using h1.1
      have far : ∀ (A2 : Option Addr) (n2 c2 : Nat) (ys : List UInt8), Bs w A2 n2 c2 ys → (0 < n2 → ∀ a, A2 = some a → some a.block ≠ Value.ownBlock (.slice D n c)) → (0 < n2 → ∀ a, A2 = some a → some a.block ≠ Value.ownBlock (.slice (some ⟨g, 0, none⟩) (n + 1) cap)) := by
        intro A2 n2 c2 ys hb2 hn2 h0 a ha
        rw [← hv]
        rcases hown with e | e
        · rw [e]; exact hn2 h0 a ha
        · rw [e]
          obtain ⟨b2, off2, e2, hlt, _⟩ := hb2.pos h0
          rw [e2] at ha
          injection ha with ha
          subst ha
          intro q
          injection q with q
          simp only at q
          omega
      by_cases hjn : j < n
      · obtain ⟨A2, n2, c2, e1, e2, e3⟩ := h3 j hjn
        refine ⟨A2, n2, c2, by rw [List.getElem?_append_left (by omega)]; exact e1, ?_, fun h0 a ha => ⟨far A2 n2 c2 _ e2 (fun h a q => (e3 h a q).1) h0 a ha, (e3 h0 a ha).2⟩⟩
        have : (l ++ [xs]).getD j [] = l.getD j [] := by simp [List.getD, List.getElem?_append_left (show j < l.length by omega)]
        rw [this]
        exact e2.grownG hg (fun h a q => (e3 h a q).1)
      · obtain rfl : j = n := by omega
        refine ⟨A', n', c', by rw [List.getElem?_append_right (by omega), hvl]; simp, ?_, fun h0 a ha => ⟨far A' n' c' xs hr (fun h a q => (hne h a q).1) h0 a ha, (hne h0 a ha).2⟩⟩
        have : (l ++ [xs]).getD j [] = xs := by simp [List.getD, List.getElem?_append_right (show l.length ≤ j by omega), h2]
        rw [this]
        exact hr.grownG hg (fun h a q => (hne h a q).1)
  obtain ⟨D'', c'', rfl, hfin⟩ := fin
  unfold Oper.wp execOp
  simp only [ho, resolve, invoke, builtin, Sem.run_bind, Sem.run_pure, Result.andThen_ok, List.map_toArray, List.map_cons, List.map_nil, hs, hx, hrun]
  exact hK D'' c'' w' hfin hg hown

/-- Its block holds slices of bytes: no block of another type is it. -/
theorem OwnG.ne_of {B : Nat} {w : World} {D : Option Addr} {n c : Nat} {l : List (List UInt8)} (h : OwnG B w D n c l) {g : Nat} {t : TypeId} {cs : Array Value} {fr : Nat × Nat} (hg : w.heap[g]? = some (.cells cs t fr)) (ht : t ≠ 37) : Value.ownBlock (.slice D n c) ≠ some g := by
  obtain ⟨vs, h1, _⟩ := h
  rcases h1.2 with ⟨hv, hn⟩ | ⟨g', cap, cur, hv, _, hg', _⟩
  · rw [hv]; intro q; cases q
  · rw [hv]
    intro q
    have e : g' = g := by
      have := Option.some.inj q
      simpa using this
    rw [e, hg] at hg'
    injection hg' with q1
    injection q1 with _ q2
    exact ht q2
/-- A block that holds no bytes and is none of its own turns. -/
theorem OwnG.turn2 {B : Nat} {w w' : World} {D : Option Addr} {n c g : Nat} {l : List (List UInt8)} (h : OwnG B w D n c l) (h1 : Value.ownBlock (.slice D n c) ≠ some g) (h2 : ∀ (i : Nat) (x : Int), w.cell? ⟨g, i, none⟩ ≠ some (.int .u8 x)) (k : w.grownBy w' (some g)) : OwnG B w' D n c l := by
  obtain ⟨vs, o1, o2, o3⟩ := h
  refine ⟨vs, World.ownsRow.kept o1 k (.inr h1), o2, fun j hj => ?_⟩
  obtain ⟨A', n', c', e1, e2, e3⟩ := o3 j hj
  refine ⟨A', n', c', e1, e2.grownG k (fun h0 a ha q => ?_), e3⟩
  obtain ⟨b, off, e4, hb, hc⟩ := e2.pos h0
  rw [e4] at ha
  injection ha with ha
  subst ha
  obtain rfl : b = g := Option.some.inj q
  exact h2 _ _ (hc 0 h0)
theorem OwnG.ne_obj {B : Nat} {w : World} {D : Option Addr} {n c : Nat} {l : List (List UInt8)} (h : OwnG B w D n c l) {g : Nat} {o : Obj} (hg : w.heap[g]? = some o) (ho : ∀ cs t f, o ≠ .cells cs t f) : Value.ownBlock (.slice D n c) ≠ some g := by
  obtain ⟨vs, h1, _⟩ := h
  rcases h1.2 with ⟨hv, hn⟩ | ⟨g', cap, cur, hv, _, hg', _⟩
  · rw [hv]; intro q; cases q
  · rw [hv]
    intro q
    have e : g' = g := by
      have := Option.some.inj q
      simpa using this
    rw [e, hg] at hg'
    exact ho _ _ _ (Option.some.inj hg')
theorem no_cell {w : World} {g : Nat} {o : Obj} (hg : w.heap[g]? = some o) (ho : ∀ cs t f, o ≠ .cells cs t f) (i : Nat) (v : Value) : w.cell? ⟨g, i, none⟩ ≠ some v := by
  unfold World.cell?
  rw [hg]
  cases o with
  | cells cs t f => exact absurd rfl (ho cs t f)
  | _ => intro q; simp at q
theorem rec_no (r : Rec) (s : LoopState) (p : Option Code) : ∀ cs t f, r.at s p ≠ .cells cs t f := fun _ _ _ q => by cases q
theorem grown_obj (w : World) (l : Nat) (o : Obj) : w.grownBy (w.putObj l o) (some l) := grownBy_putObj' w l o
/-- A block that is none of its own turns. -/
theorem OwnG.turn {B : Nat} {w w' : World} {D : Option Addr} {n c g : Nat} {l : List (List UInt8)} {t : TypeId} {cs : Array Value} (h : OwnG B w D n c l) (hg : w.heap[g]? = some (.cells cs t (0, 0))) (h1 : t ≠ 37) (h2 : ∀ v ∈ cs, ∀ i : Int, v ≠ .int .u8 i) (k : w.grownBy w' (some g)) : OwnG B w' D n c l := by
  have hne := h.ne_of hg h1
  obtain ⟨vs, o1, o2, o3⟩ := h
  refine ⟨vs, World.ownsRow.kept o1 k (.inr hne), o2, fun j hj => ?_⟩
  obtain ⟨A', n', c', e1, e2, e3⟩ := o3 j hj
  refine ⟨A', n', c', e1, e2.grownG k (fun h0 a ha q => ?_), e3⟩
  obtain ⟨b, off, e4, hb, hc⟩ := e2.pos h0
  rw [e4] at ha
  injection ha with ha
  subst ha
  obtain rfl : b = g := Option.some.inj q
  have := hc 0 h0
  simp only [World.cell?, hg, Option.bind_some] at this
  have hm := Array.mem_of_getElem? (a := .int .u8 (bt (l.getD j []) 0 : Int)) (xs := cs) (i := off + 0) (by simpa using this)
  exact h2 _ hm _ rfl
end Go.Proofs.Yteaoacinhdjkeaa
end

section
/-
  Worlds in which just some blocks turn. No conditions.
-/
namespace Go.Proofs.Yteaoacinhdjkeaa
open Go.ChangeShapes Go.WideShapes Go.ChangeAt Go.RowKit Go.Deep

/-- Only blocks of p turn. -/
def Ot (p : Nat → Prop) (a b : World) : Prop := b.os = a.os ∧ b.tape = a.tape ∧ b.output = a.output ∧ a.heap.size ≤ b.heap.size ∧ ∀ i, i < a.heap.size → ¬ p i → b.heap[i]? = a.heap[i]?
section
variable {p q : Nat → Prop} {a b c : World}
theorem Ot.refl (p : Nat → Prop) (w : World) : Ot p w w := ⟨rfl, rfl, rfl, Nat.le_refl _, fun _ _ _ => rfl⟩
theorem Ot.trans (h : Ot p a b) (k : Ot p b c) : Ot p a c :=
  ⟨k.1.trans h.1, k.2.1.trans h.2.1, k.2.2.1.trans h.2.2.1, Nat.le_trans h.2.2.2.1 k.2.2.2.1, fun i hi hp => (k.2.2.2.2 i (Nat.lt_of_lt_of_le hi h.2.2.2.1) hp).trans (h.2.2.2.2 i hi hp)⟩
theorem Ot.mono (h : Ot p a b) (k : ∀ i, i < a.heap.size → p i → q i) : Ot q a b := ⟨h.1, h.2.1, h.2.2.1, h.2.2.2.1, fun i hi hn => h.2.2.2.2 i hi fun z => hn (k i hi z)⟩
theorem Ot.of_ext (h : Ext a b) : Ot p a b := ⟨h.os, h.tape, h.output, h.size, fun i hi _ => h.block i hi⟩
theorem Ot.of_two {g g' : Nat} (h : Two g g' a b) (h1 : p g) (h2 : p g') : Ot p a b := ⟨h.1, h.2.1, h.2.2.1, h.2.2.2.1, fun i hi hn => h.2.2.2.2 i hi (fun z => hn (z ▸ h1)) (fun z => hn (z ▸ h2))⟩
theorem Ot.of_grown {g : Nat} (h : a.grownBy b (some g)) (h1 : p g) : Ot p a b := ⟨h.os, h.tape, h.output, h.size, fun i hi hn => h.block i hi (fun z => hn (Option.some.inj z ▸ h1))⟩
theorem Ot.size (h : Ot p a b) : a.heap.size ≤ b.heap.size := h.2.2.2.1
theorem Ot.drew (h : Ot p a b) : Ot p a b.drew := h
theorem Ot.same {i : Nat} (h : Ot p a b) (hi : i < a.heap.size) (hp : ¬ p i) : b.heap[i]? = a.heap[i]? := h.2.2.2.2 i hi hp
theorem Ot.block {i : Nat} {o : Obj} (h : Ot p a b) (hi : a.heap[i]? = some o) (hp : ¬ p i) : b.heap[i]? = some o := (h.2.2.2.2 i (heap_lt hi) hp).trans hi
theorem Ot.ext {w0 : World} (h : Ext w0 a) (k : Ot p a b) (hp : ∀ i, p i → w0.heap.size ≤ i) : Ext w0 b :=
  Below.trans h ⟨k.1, k.2.1, k.2.2.1, k.2.2.2.1, fun i hi => k.2.2.2.2 i (Nat.lt_of_lt_of_le hi h.size) (fun z => by have := hp i z; omega)⟩
/-- What the call did to blocks that were new to it does not count. -/
theorem Ot.cell (w : World) {g : Nat} (o : Nat) (v : Value) (h : p g) : Ot p w (w.setCell ⟨g, o, none⟩ v) := ⟨rfl, rfl, rfl, by simp [World.setCell], fun i _ hn => Below.heap_setCell _ _ _ _ (fun z => hn (z ▸ h))⟩
theorem Ot.row (w : World) {g : Nat} (C : Array Value) (h : p g) : Ot p w (w.setRow g C) := ⟨rfl, rfl, rfl, by simp, fun i _ hn => setRow_other _ _ _ _ (fun z => hn (z ▸ h))⟩
theorem Ot.newRow (w : World) {g : Nat} {w2 : World} (h : Ot p w w2) (hg : w.heap.size ≤ g) (C : Array Value) : Ot p w (w2.setRow g C) := ⟨h.1, h.2.1, h.2.2.1, by simpa using h.2.2.2.1, fun i hi hn => (setRow_other _ _ _ _ (by omega)).trans (h.2.2.2.2 i hi hn)⟩
theorem Ot.newCell (w : World) {g : Nat} {w2 : World} (h : Ot p w w2) (hg : w.heap.size ≤ g) (o : Nat) (v : Value) : Ot p w (w2.setCell ⟨g, o, none⟩ v) := ⟨h.1, h.2.1, h.2.2.1, by simpa [World.setCell] using h.2.2.2.1, fun i hi hn => (Below.heap_setCell _ _ _ _ (fun z => by have z : i = g := z; omega)).trans (h.2.2.2.2 i hi hn)⟩
end
theorem cb_differ {w : World} {i j : Nat} {t t' : TypeId} {C D : List Value} (h : w.heap[i]? = some (.cells C.toArray t (0, 0))) (k : w.heap[j]? = some (.cells D.toArray t' (0, 0))) (ht : t ≠ t') : i ≠ j := by
  rintro rfl
  rw [h] at k
  injection k with k
  injection k with _ k
  exact ht k
end Go.Proofs.Yteaoacinhdjkeaa
end
