import Derived.Test.YteaoacinhdjkeaaBase
import Derived.Test.YteaoacinhdjkeaaJr1
import Derived.Test.YteaoacinhdjkeaaSeq
import Derived.RangeFuncNested
import Derived.RangeFuncCalls
import Derived.OwnWalkIn
import Derived.OrdersIn
import Derived.OrdersHeld
section
/-
  The bytes behind the first k of a slice.
-/
namespace Go.Proofs.Yteaoacinhdjkeaa
open Go.ChangeShapes Go.WideShapes Go.ChangeAt Go.RowKit Go.Deep

theorem Bs.cut {w : World} {A : Option Addr} {n c k : Nat} {xs : List UInt8} (h : Bs w A n c xs) (hk : k ≤ n) : Bs w (if c = k then A else A.map (·.add k)) (n - k) (c - k) (xs.drop k) := by
  have h1 := h.le
  have h2 := h.2.2.1
  refine ⟨by rw [List.length_drop, h.len], by omega, by omega, fun h0 => ?_⟩
  obtain ⟨b, off, rfl, hb, hc⟩ := h.pos (by omega)
  rw [if_neg (by omega)]
  refine ⟨b, off + k, ?_, hb, fun j hj => ?_⟩
  · by_cases hk0 : k = 0
    · subst hk0; simp [Addr.add]
    · simp [Addr.add, hk0]
  · rw [bt_drop, Nat.add_assoc]
    exact hc (k + j) (by omega)
theorem Bs.recap {w : World} {A : Option Addr} {n c c2 : Nat} {xs : List UInt8} (h : Bs w A n c xs) (h2 : n ≤ c2) (hm : c2 ≤ 9223372036854775807 := by omega) : Bs w A n c2 xs := ⟨h.1, h2, hm, h.2.2.2⟩
theorem Bs.cutAt {w : World} {b off n c k : Nat} {xs : List UInt8} (h : Bs w (some ⟨b, off, none⟩) n c xs) (hk : k < n) : Bs w (some ⟨b, off + k, none⟩) (n - k) (c - k) (xs.drop k) := by
  have h1 := h.cut (Nat.le_of_lt hk)
  have h2 := h.le
  rw [if_neg (by omega)] at h1
  have : (some (⟨b, off, none⟩ : Addr)).map (·.add k) = some ⟨b, off + k, none⟩ := by
    by_cases hk0 : k = 0
    · subst hk0; simp [Addr.add]
    · simp [Addr.add, hk0]
  rwa [this] at h1
theorem size8 : (Try.prog.info? 5).map (·.size) = some 1 := by kernel_rfl
/-- 's[k:]'. -/
theorem wpList_cut {w : World} {ops : Array Oper} {rest : List Oper} {o : Oper} {a : Act} {Q : Exit → Act → World → Prop} (hgd : o.guard = none) {x lo : Operand} {A : Option Addr} {n c k : Nat} {kd : IntKind} {z : Int}
    (ho : o.op = .slice 37 x (some lo) none none) (hx : a.eval x = .slice A n c) (hl : a.eval lo = .int kd z) (hz : z = (k : Int)) (hk : k ≤ n) (hnc : n ≤ c)
    (hK : ∀ A', (∀ w0 xs, Bs w0 A n c xs → Bs w0 A' (n - k) (c - k) (xs.drop k)) → wpList Try.prog ops Q rest (a.put o.dst (.slice A' (n - k) (c - k))) w) : wpList Try.prog ops Q (o :: rest) a w := by
  subst hz
  refine wpList_plain hgd fun K hK' => ?_
  have hr : (Instr.slice 37 (.slice A n c) (some (.int kd (k : Int))) none none).run Try.prog w = .ok (.slice (if c = k then A else A.map (·.add k)) (n - k) (c - k)) w := by
    obtain ⟨i, hi, hsz⟩ := Option.map_eq_some_iff.1 size8
    simp [Instr.slice, run_underlying Try.underlying37, Instr.sliceBounds, Instr.sliceBound, asIntOf, sizeOf, typeInfo, hi, hsz]
    intro hlt
    omega
  have hop : (execOp a.eval o).run Try.prog w = .ok (.value (.slice (if c = k then A else A.map (·.add k)) (n - k) (c - k))) w := by
    obtain ⟨dst, op, ty, pos, af, gd⟩ := o
    simp only at ho
    subst ho
    simp only [execOp, hx, hl, Option.map, Instr.sliceAt]
    go_simp
    cases A <;> rfl
  unfold Oper.wp
  rw [hop]
  exact hK' _ _ (hK _ (fun w0 xs h => h.cut hk))
/-- 's[k:h]'. -/
theorem wpList_cut2 {w : World} {ops : Array Oper} {rest : List Oper} {o : Oper} {a : Act} {Q : Exit → Act → World → Prop} (hgd : o.guard = none) {x lo hi : Operand} {A : Option Addr} {n c k h : Nat} {kd kd' : IntKind} {z : Int}
    (ho : o.op = .slice 37 x (some lo) (some hi) none) (hx : a.eval x = .slice A n c) (hl : a.eval lo = .int kd (k : Int)) (hh : a.eval hi = .int kd' z) (hz : z = (h : Int)) (hk : k ≤ h) (hhn : h ≤ n) (hnc : n ≤ c)
    (hK : ∀ A', (∀ w0 xs, Bs w0 A n c xs → Bs w0 A' (h - k) (c - k) ((xs.take h).drop k)) → wpList Try.prog ops Q rest (a.put o.dst (.slice A' (h - k) (c - k))) w) : wpList Try.prog ops Q (o :: rest) a w := by
  refine wpList_plain hgd fun K hK' => ?_
  have hop : (execOp a.eval o).run Try.prog w = .ok (.value (.slice (if c = k then A else A.map (·.add k)) (h - k) (c - k))) w := by
    obtain ⟨dst, op, ty, pos, af, gd⟩ := o
    simp only at ho
    subst ho hz
    obtain ⟨i, hi', hsz⟩ := Option.map_eq_some_iff.1 size8
    have q1 : (k : Int) ≤ (h : Int) := by omega
    have q2 : (h : Int) ≤ (c : Int) := by omega
    simp only [execOp, hx, hl, hh, Option.map, Instr.sliceAt]
    go_simp
    cases A <;> rfl
  unfold Oper.wp
  rw [hop]
  exact hK' _ _ (hK _ (fun w0 xs hb => (hb.take hhn).cut hk))
end Go.Proofs.Yteaoacinhdjkeaa
end

section
/-
  The journal: a record is read from a sector.
-/
namespace Go.Proofs.Yteaoacinhdjkeaa
open Go.ChangeShapes Go.WideShapes Go.ChangeAt Go.RowKit Go.Deep Go.Maps
set_option maxRecDepth 100000

theorem cellsOf_app22 (xs ys : List UInt8) : cellsOf (xs ++ ys) = cellsOf xs ++ cellsOf ys := by rw [cellsOf_map, cellsOf_map, cellsOf_map, List.map_append]
theorem Own.mono22 {B B' : Nat} {w : World} {A : Option Addr} {n c : Nat} {xs : List UInt8} (h : Own B w A n c xs) (hB : B' ≤ B) : Own B' w A n c xs := by
  refine ⟨h.1, ?_⟩
  rcases h.2 with h | ⟨g, cap, cur, hv, hb, r⟩
  · exact .inl h
  · exact .inr ⟨g, cap, cur, hv, Nat.le_trans hB hb, r⟩
/-- A sector's record, at its place. -/
def recL (i : Nat) (s : List UInt8) : Option (List UInt8) :=
  if ofLowL (s.take 4).reverse = i + 1 ∧ bt s 4 ≤ 59 ∧ (∀ j, j < 59 - bt s 4 → bt s (5 + bt s 4 + j) = 0) then some ((s.drop 5).take (bt s 4)) else none

def RetRec (o : Option (List UInt8)) (w : World) (e : Ending) (w' : World) : Prop :=
  Ext w w' ∧ ((o = none ∧ e = .returned (.tuple #[.slice none 0 0, .bool false])) ∨ ∃ x A n c, o = some x ∧ e = .returned (.tuple #[.slice A n c, .bool true]) ∧ Own w.heap.size w' A n c x)

theorem sector_from5 {w : World} {g z : Nat} (hz : z ≤ 59) : ∃ a : Addr, (z < 59 → a = ⟨g, 5 + z, none⟩) ∧ ∀ w : World, (Instr.sliceAt 45 (.pointer (some ⟨g, 0, none⟩)) (some (.int .i64 (5 + (z : Int)))) none none).run Try.prog w = .ok (.slice (some a) (59 - z) (59 - z)) w := by
  refine ⟨if 64 = 5 + z then ⟨g, 0, none⟩ else (⟨g, 0, none⟩ : Addr).add ((5 + z) * 1), fun h => ?_, fun w => ?_⟩
  · rw [if_neg (by omega)]
    unfold Addr.add; split <;> simp_all
  · have hn : Try.prog.arrayLen 45 = 64 := rfl
    rw [run_sliceAt_array_l w 45 _ rfl .i64 _ (by omega) (by rw [hn]; omega)]
    have hs : (sizeOf (Try.prog.elem 45)).run Try.prog w = .ok 1 w := rfl
    rw [hs]
    have h1 : (5 + (z : Int)).toNat = 5 + z := by omega
    show Result.ok (slicedAt _ _ _ _ _) w = _
    rw [hn, h1]
    unfold slicedAt
    rw [show 64 - (5 + z) = 59 - z by omega]
theorem sector_to4 {w : World} {g : Nat} : (Instr.sliceAt 45 (.pointer (some ⟨g, 0, none⟩)) none (some (.int .i64 4)) none).run Try.prog w = .ok (.slice (some ⟨g, 0, none⟩) 4 64) w := by
  have hn : Try.prog.arrayLen 45 = 64 := rfl
  rw [run_sliceAt_array_h w 45 _ rfl .i64 _ (by omega) (by rw [hn]; omega)]
  have hs : (sizeOf (Try.prog.elem 45)).run Try.prog w = .ok 1 w := rfl
  rw [hs]
  show Result.ok (slicedAt _ _ _ _ _) w = _
  rw [hn]
  unfold slicedAt
  simp
  unfold Addr.add
  split <;> simp_all
theorem sector_rec {w : World} {g z : Nat} (hz : z ≤ 59) : (Instr.sliceAt 45 (.pointer (some ⟨g, 0, none⟩)) (some (.int .i64 5)) (some (.int .i64 (5 + (z : Int)))) none).run Try.prog w = .ok (.slice (some ⟨g, 5, none⟩) z 59) w := by
  have hn : Try.prog.arrayLen 45 = 64 := rfl
  rw [run_sliceAt_array_lh w 45 _ rfl .i64 .i64 _ _ (by omega) (by omega) (by rw [hn]; omega)]
  have hs : (sizeOf (Try.prog.elem 45)).run Try.prog w = .ok 1 w := rfl
  rw [hs]
  have h2 : (5 + (z : Int)).toNat = 5 + z := by omega
  have h3 : (⟨g, 0, none⟩ : Addr).add (5 * 1) = ⟨g, 5, none⟩ := by unfold Addr.add; split <;> simp_all
  show Result.ok (slicedAt _ _ _ _ _) w = _
  rw [hn, h2]
  unfold slicedAt
  rw [show (5 : Int).toNat = 5 from rfl, if_neg (by omega), h3, show 5 + z - 5 = z by omega]

set_option maxHeartbeats 4000000 in
theorem jrecord_calls {w : World} {i : Nat} {s : List UInt8} (hi : i < 4294967295) (hl : s.length = 64) :
    Calls Try.prog 64 #[.agg (cellsOf s).toArray, .int .i64 (i : Int)] w (RetRec (recL i s) w) := by
  have m1 : IntKind.u64.wrap (i : Int) = (i : Int) := IntWalk.u64_in _ (by omega)
  have m2 : IntKind.u64.wrap ((i : Int) + 1) = (i : Int) + 1 := IntWalk.u64_in _ (by omega)
  obtain ⟨z, hz⟩ : ∃ q, q = bt s 4 := ⟨_, rfl⟩
  have z256 : z < 256 := by rw [hz]; exact bt_lt s 4
  have m3 : IntKind.i64.wrap (z : Int) = (z : Int) := IntWalk.i64_in _ (by omega)
  have S_s : (cellsOf s).toArray.size = 64 := by simp [cellsOf_len, hl]
  obtain ⟨V, hV⟩ : ∃ q, q = ofLowL (s.take 4).reverse := ⟨_, rfl⟩
  have RL : Hid (recL i s = if V = i + 1 ∧ z ≤ 59 ∧ (∀ j, j < 59 - z → bt s (5 + z + j) = 0) then some ((s.drop 5).take z) else none) := by rw [hz, hV]; rfl
  obtain ⟨r, hr⟩ : ∃ r, r = w.heap.size := ⟨_, rfl⟩
  have B0 : Hid (Cb (w.alloc (.cells (cellsOf s).toArray 45)) r 45 (cellsOf s) ∧ Ext w (w.alloc (.cells (cellsOf s).toArray 45))) := by rw [hr]; exact ⟨Cb.new _ _ _, (Ext.refl w).alloc _⟩
  have hs4 := fun W : World => sector_to4 (w := W) (g := r)
  have CG : Hid (∀ W, Cb W r 45 (cellsOf s) → (∀ j, j < 64 → W.cell? ⟨r, j, none⟩ = some (.int .u8 (bt s j : Int))) ∧ Bs W (some ⟨r, 0, none⟩) 4 64 (s.take 4) ∧ (z ≤ 59 → Bs W (some ⟨r, 5, none⟩) z 59 ((s.drop 5).take z))) := fun W k => by
    refine ⟨fun j hj => k.cell (by rw [cellsOf_get (by omega)]), ?_, fun h => ?_⟩
    · exact (k.bs (p := []) (xs := s.take 4) (q := cellsOf (s.drop 4)) (n := 4) (by rw [List.nil_append, ← cellsOf_app22, List.take_append_drop]) rfl (by rw [List.length_take]; omega) (by omega)).recap (by omega)
    · exact (k.bs (p := cellsOf (s.take 5)) (xs := (s.drop 5).take z) (q := cellsOf ((s.drop 5).drop z)) (n := z) (by rw [← cellsOf_app22, List.take_append_drop, ← cellsOf_app22, List.take_append_drop]) (by rw [cellsOf_len, List.length_take]; omega) (by rw [List.length_take, List.length_drop]; omega) (by omega)).recap (by omega)
  go_enter Try.func64, Try.ntmps64
  go_upto_region 1 with fail
  refine wp_gen (fun W => Cb W r 45 (cellsOf s) ∧ Ext w W) B0.out ?_
  rw [← hr]
  replace hr := Lib.hid hr
  clear B0
  rintro w0 ⟨k0, x0⟩
  obtain ⟨c0, b0, b5⟩ := CG.out _ k0
  have c4 := c0 4 (by omega)
  rw [← hz] at c4
  replace c0 := Lib.hid c0
  replace b5 := Lib.hid b5
  replace x0 := Lib.hid x0
  have OH := Lib.hid (ofHigh_calls (m := 4) b0 (by omega) (by omega) (by omega))
  rw [List.take_of_length_le (show (s.take 4).length ≤ 4 by rw [List.length_take]; omega), ← hV] at OH
  replace hV := Lib.hid hV
  replace hz := Lib.hid hz
  clear b0 CG
  have K5 := fun h : z ≤ 59 => sector_from5 (w := w) (g := r) h
  have K6 := fun (W : World) (h : z ≤ 59) => sector_rec (w := W) (g := r) h
  replace K5 := Lib.hid K5
  replace K6 := Lib.hid K6
  go_upto_region 2 with fail
  by_cases hV1 : V = i + 1
  · subst hV1
    by_cases h59 : z ≤ 59
    · have q59 : decide ((59 : Int) < (z : Int)) = false := decide_eq_false (by omega)
      go_wp2_with fail
      refine OH.out.mono ?_
      rintro e w1 ⟨rfl, x1⟩
      obtain ⟨ad, had, hs5⟩ := K5.out h59
      have hsr := fun W : World => K6.out W h59
      have m5 : IntKind.i64.wrap (5 + (z : Int)) = 5 + (z : Int) := IntWalk.i64_in _ (by omega)
      have C1 : Hid (∀ j, j < 64 → w1.cell? ⟨r, j, none⟩ = some (.int .u8 (bt s j : Int))) := fun j hj => (x1.cell (p := ⟨r, j, none⟩) k0.lt).trans (c0.out j hj)
      have B5 := Lib.hid ((b5.out h59).ext x1)
      have X1 := Lib.hid (x0.out.trans x1)
      have CP : Hid (∀ W, Ext w1 W → Calls Try.prog 46 #[.slice (some ⟨r, 5, none⟩) z 59] W (RetOwn ((s.drop 5).take z) W)) := fun W e => jcopied_calls (B5.out.ext e) (by omega)
      clear K5 K6 OH x0 x1 b5 c0 hs4 m1 m2 m3 k0 c4 B5
      replace had := Lib.hid had
      go_wp2_with fail
      go_loop [26] (fun v => ∃ j : Nat, j ≤ 59 - z ∧ v = .int .i64 j ∧ ∀ t, t < j → bt s (5 + z + t) = 0) (fun v => 59 - z - (intOf v).toNat)
      case atStart => exact ⟨0, Nat.zero_le _, rfl, fun t ht => absurd ht (Nat.not_lt_zero _)⟩
      case round =>
        obtain ⟨j, hj, rfl, hz0⟩ := hrel
        replace hz0 := Lib.hid hz0
        by_cases hjl : j < 59 - z
        · have cj := C1.out (5 + z + j) (by omega)
          obtain rfl := had.out (by omega)
          have l1 : (j : Int) < ((59 - z : Nat) : Int) := by omega
          by_cases hb0 : bt s (5 + z + j) = 0
          · rw [hb0] at cj
            go_wp2_with fail
            go_round
            case rel => exact ⟨j + 1, by omega, by go_num, fun t ht => if e : t = j then (by rw [e]; exact hb0) else hz0.out t (by omega)⟩
            case measure => simp [intOf]; omega
          · have RN : Hid (recL i s = none) := by
              show recL i s = none
              rw [RL.out]
              exact if_neg fun q => hb0 (q.2.2 j hjl)
            generalize bt s (5 + z + j) = bb at *
            have hbb : ¬ (bb : Int) = 0 := by omega
            go_wp2_with fail
            go_ret2
            exact ⟨X1.out, .inl ⟨RN.out, rfl⟩⟩
        · obtain rfl : j = 59 - z := by omega
          have RS : Hid (recL i s = some ((s.drop 5).take z)) := by show recL i s = _; rw [RL.out]; exact if_pos ⟨trivial, h59, hz0.out⟩
          have CP1 := Lib.hid (CP.out w1 (Ext.refl w1))
          clear CP RL hz0 C1
          go_wp2_with fail
          refine CP1.out.mono ?_
          rintro e w2 ⟨D, n, c, rfl, o2, x2⟩
          replace o2 := Lib.hid o2
          replace x2 := Lib.hid x2
          go_wp2_with fail
          go_ret2
          exact ⟨X1.out.trans x2.out, .inr ⟨_, D, n, c, RS.out, rfl, o2.out.mono22 X1.out.size⟩⟩
    · have q59 : decide ((59 : Int) < (z : Int)) = true := decide_eq_true (by omega)
      go_wp2_with fail
      refine OH.out.mono ?_
      rintro e w1 ⟨rfl, x1⟩
      have RN : Hid (recL i s = none) := by
        show recL i s = none
        rw [RL.out]
        exact if_neg fun q => h59 q.2.1
      have X1 := Lib.hid (x0.out.trans x1)
      go_wp2_with fail
      go_ret2
      exact ⟨X1.out, .inl ⟨RN.out, rfl⟩⟩
  · have hne : ¬ (V : Int) = (i : Int) + 1 := by omega
    go_wp2_with fail
    refine OH.out.mono ?_
    rintro e w1 ⟨rfl, x1⟩
    have RN : Hid (recL i s = none) := by
      show recL i s = none
      rw [RL.out]
      exact if_neg fun q => hV1 q.1
    have X1 := Lib.hid (x0.out.trans x1)
    go_wp2_with fail
    go_ret2
    exact ⟨X1.out, .inl ⟨RN.out, rfl⟩⟩
end Go.Proofs.Yteaoacinhdjkeaa
end

section
/-
  Inside a round of a range over a function: what serves everywhere serves there too, where nothing is deferred; the loop over a function, from a contract on the call of the function and one on each round. No conditions.
-/
namespace Go.Proofs.Yteaoacinhdjkeaa
open Go.RowKit

abbrev rnd (l : Nat) : Fence := Fence.wide.inRound l

section
variable {P : Program} {ops : Array Oper} {Q : Exit → Act → World → Prop} {l n : Nat}
theorem rows_in {row : String} {args : Array Value} {w : World} {R : Value → World → Prop} (h : Rows P row args w R) : RowsIn (rnd l) n P row args w R := fun c cs _ => by
  obtain ⟨v, w', r, s⟩ := h c cs
  exact ⟨v, w', r, stepsIn_wide.2 s⟩
theorem calls_in {f : FuncId} {args : Array Value} {w : World} {R : Ending → World → Prop} (h : Calls P f args w R) : CallsIn (rnd l) n P f args w R := CallsIn.inRound l (callsIn_wide.2 h)
theorem op_in {o : Oper} {a : Act} {w : World} {K : Act → World → Prop} (hd : ∀ c, o.op ≠ Op.defer c) (h : o.wp P a w K Q) : o.wpIn (rnd l) n P a w K Q := by
  refine ⟨fun _ _ => trivial, ?_⟩
  rw [Oper.semAt_eq _ _ _ hd]
  unfold Oper.wp at h
  generalize (execOp a.eval o).run P w = r at h ⊢
  cases r with
  | ok x w' =>
    cases x with
    | enter f args => exact ⟨fun q => (by cases q), (calls_in h).mono fun e w'' he => by cases e <;> exact he⟩
    | row r args => exact ⟨fun q => (by cases q), rows_in h⟩
    | value v => exact h
    | skip => exact h
    | defer d => exact h
    | _ => exact (h : False).elim
  | halt x w' => cases x <;> exact h
theorem op_wide {o : Oper} {a : Act} {w : World} {K : Act → World → Prop} (h : o.wp P a w K Q) : o.wpIn Fence.wide n P a w K Q := by
  refine ⟨fun _ _ => trivial, ?_⟩
  change o.uponIn Fence.wide n P a K Q ((execOp a.eval o).run P w)
  unfold Oper.wp at h
  generalize (execOp a.eval o).run P w = r at h ⊢
  cases r with
  | ok x w' =>
    cases x with
    | enter f args => exact ⟨fun q => (by cases q), (callsIn_wide.2 h).mono fun e w'' he => by cases e <;> exact he⟩
    | row r args => exact ⟨fun q => (by cases q), fun c cs _ => by
        obtain ⟨v, w', r, s⟩ := h c cs
        exact ⟨v, w', r, stepsIn_wide.2 s⟩⟩
    | value v => exact h
    | skip => exact h
    | defer d => exact h
    | _ => exact (h : False).elim
  | halt x w' => cases x <;> exact h
theorem in_of_wp {rest : List Oper} {o : Oper} {a : Act} {w : World} (hg : o.guard = none) (h : ∀ K : Act → World → Prop, (∀ a w, wpListIn Fence.wide n P ops Q rest a w → K a w) → o.wp P a w K Q) : wpListIn Fence.wide n P ops Q (o :: rest) a w := wpListIn_plain hg fun K hK => op_wide (h K hK)
theorem in_of_wpR {rest : List Oper} {o : Oper} {a : Act} {w : World} (hg : o.guard = none) (hd : ∀ c, o.op ≠ Op.defer c) (h : ∀ K : Act → World → Prop, (∀ a w, wpListIn (rnd l) n P ops Q rest a w → K a w) → o.wp P a w K Q) : wpListIn (rnd l) n P ops Q (o :: rest) a w := wpListIn_plain hg fun K hK => op_in hd (h K hK)
theorem wpIn_gen {F : Fence} {c : Code} {a : Act} {W : World} (ψ : World → Prop) (h1 : ψ W) (h2 : ∀ w1, ψ w1 → c.wpIn F n P Q a w1) : c.wpIn F n P Q a W := h2 W h1
theorem wp_exec22 {o : Oper} {a : Act} {w : World} {K : Act → World → Prop} {v : Value} (hr : (execOp a.eval o).run P w = .ok (.value v) w) (h : K (a.put o.dst v) w) : o.wp P a w K Q := by
  unfold Oper.wp
  rw [hr]
  exact h
theorem wpOp_in {i : Nat} {a : Act} {w : World} {K : Act → World → Prop} (hd : ∀ (o : Oper), ops[i]? = some o → ∀ c, o.op ≠ Op.defer c) (hout : ¬ LetsOut Q) (h : wpOp P ops Q i K a w) : wpOpIn (rnd l) n P ops Q i K a w := by
  unfold wpOp at h
  unfold wpOpIn
  cases ho : ops[i]? with
  | none => rw [ho] at h; exact h
  | some o =>
    rw [ho] at h
    dsimp only at h ⊢
    by_cases hw : Region.wanted o (yielded ops a.tmps) = true
    · rw [if_pos hw] at h ⊢
      rcases h with h | h
      · exact op_in (hd o ho) h
      · exact absurd h.2 hout
    · rw [if_neg hw] at h ⊢
      exact ⟨fun _ _ => trivial, h⟩
theorem wpOps_in (hd : ∀ (i : Nat) (o : Oper), ops[i]? = some o → ∀ c, o.op ≠ Op.defer c) (hout : ¬ LetsOut Q) : ∀ (L : List Nat) (a : Act) (w : World), wpOps P ops Q L a w → wpOpsIn (rnd l) n P ops Q L a w
  | [], _, _, h => h
  | i :: rest, a, w, h => by
    rw [wpOps_cons] at h
    rw [wpOpsIn_cons]
    exact wpOpIn_mono (fun a w h => wpOps_in hd hout rest a w h) (wpOp_in (hd i) hout h)
def noDefer (ops : Array Oper) : Bool := ops.toList.all fun o => match o.op with | .defer _ => false | _ => true
theorem noDefer_spec (h : noDefer ops = true) : ∀ (i : Nat) (o : Oper), ops[i]? = some o → ∀ c, o.op ≠ Op.defer c := fun i o ho c e => by
  have h1 := List.all_eq_true.1 h o (Array.mem_toList_iff.2 (Array.mem_of_getElem? ho))
  rw [e] at h1
  cases h1
/-- A region that draws its order, in a round. -/
theorem qgE_in {id : Nat} {a : Act} {w : World} (σ cs : List Nat) (hout : ¬ LetsOut Q) (h : seqE P ops Q Ext cs σ a w.drew) (hm : P.follows .mixedOrders = true := by kernel_rfl) (hs : Region.noSelect ops = true := by kernel_rfl) (hin : edgesIn ops = true := by kernel_rfl) (hl : σ.length = ops.size := by exact rfl)
    (hp : planOk (ops.toList.map (encOf ops)) cs σ 0 = true := by kernel_rfl) (hd : noDefer ops = true := by kernel_rfl) (hQ : ∀ c a d v w, Q (.panic c) (Act.put a d v) w → Q (.panic c) a w := by exact fun _ _ d _ _ h => by cases d <;> exact h) : (Code.region id ops true).wpIn (rnd l) n P Q a w := by
  refine wpIn_region_draw fun t => ?_
  simp only [Region.schedule, hm, Bool.true_or, if_true]
  refine wpOps_in (noDefer_spec hd) hout _ _ _ (wpAny_sound ops.size t _ a _ (wpAny_of_held _ _ _ _ (S := Ext w.drew) ?_))
  have := held_of_seq Ext.refl (fun _ _ _ => Ext.trans) hs hQ cs rfl (fun j o ho e he => by
    have h1 := Array.all_eq_true_iff_forall_mem.1 hin o (Array.mem_of_getElem? ho)
    simpa using Array.all_eq_true_iff_forall_mem.1 h1 e he) σ (Array.replicate ops.size false) 0 a w.drew ⟨by simp, fun j hj => by simp [Array.getD, hj]⟩ hp h
  rw [hl] at this
  exact this
theorem qgW_in {id : Nat} {a : Act} {w : World} (g : Nat) (σ cs : List Nat) (hout : ¬ LetsOut Q) (h : seqE P ops Q (fun a b => a.grownBy b (some g)) cs σ a w.drew) (hm : P.follows .mixedOrders = true := by kernel_rfl) (hs : Region.noSelect ops = true := by kernel_rfl) (hin : edgesIn ops = true := by kernel_rfl) (hl : σ.length = ops.size := by exact rfl)
    (hp : planOk (ops.toList.map (encOf ops)) cs σ 0 = true := by kernel_rfl) (hd : noDefer ops = true := by kernel_rfl) (hQ : ∀ c a d v w, Q (.panic c) (Act.put a d v) w → Q (.panic c) a w := by exact fun _ _ d _ _ h => by cases d <;> exact h) : (Code.region id ops true).wpIn (rnd l) n P Q a w := by
  refine wpIn_region_draw fun t => ?_
  simp only [Region.schedule, hm, Bool.true_or, if_true]
  refine wpOps_in (noDefer_spec hd) hout _ _ _ (wpAny_sound ops.size t _ a _ (wpAny_of_held _ _ _ _ (S := fun b => w.drew.grownBy b (some g)) ?_))
  have := held_of_seq (R := fun a b => a.grownBy b (some g)) (fun w => World.grownBy.refl w _) (fun _ _ _ h k => ⟨k.os.trans h.os, k.tape.trans h.tape, k.output.trans h.output, Nat.le_trans h.size k.size, fun i hi hr => (k.block i (Nat.lt_of_lt_of_le hi h.size) hr).trans (h.block i hi hr)⟩) hs hQ cs rfl (fun j o ho e he => by
    have h1 := Array.all_eq_true_iff_forall_mem.1 hin o (Array.mem_of_getElem? ho)
    simpa using Array.all_eq_true_iff_forall_mem.1 h1 e he) σ (Array.replicate ops.size false) 0 a w.drew ⟨by simp, fun j hj => by simp [Array.getD, hj]⟩ hp h
  rw [hl] at this
  exact this
theorem qgB_in {id : Nat} {a : Act} {w : World} (B : Nat) (σ cs : List Nat) (hout : ¬ LetsOut Q) (h : seqE P ops Q (Below B) cs σ a w.drew) (hm : P.follows .mixedOrders = true := by kernel_rfl) (hs : Region.noSelect ops = true := by kernel_rfl) (hin : edgesIn ops = true := by kernel_rfl) (hl : σ.length = ops.size := by exact rfl)
    (hp : planOk (ops.toList.map (encOf ops)) cs σ 0 = true := by kernel_rfl) (hd : noDefer ops = true := by kernel_rfl) (hQ : ∀ c a d v w, Q (.panic c) (Act.put a d v) w → Q (.panic c) a w := by exact fun _ _ d _ _ h => by cases d <;> exact h) : (Code.region id ops true).wpIn (rnd l) n P Q a w := by
  refine wpIn_region_draw fun t => ?_
  simp only [Region.schedule, hm, Bool.true_or, if_true]
  refine wpOps_in (noDefer_spec hd) hout _ _ _ (wpAny_sound ops.size t _ a _ (wpAny_of_held _ _ _ _ (S := Below B w.drew) ?_))
  have := held_of_seq (R := Below B) (Below.refl _) (fun _ _ _ => Below.trans) hs hQ cs rfl (fun j o ho e he => by
    have h1 := Array.all_eq_true_iff_forall_mem.1 hin o (Array.mem_of_getElem? ho)
    simpa using Array.all_eq_true_iff_forall_mem.1 h1 e he) σ (Array.replicate ops.size false) 0 a w.drew ⟨by simp, fun j hj => by simp [Array.getD, hj]⟩ hp h
  rw [hl] at this
  exact this
end

/-! ### The loop over a function -/
/-- What the loop's record says, but for its state and what is pending. -/
structure Rec where
  fn : FuncId
  tmps : Array Value
  ps : Array Tmp
  assign : Code
  body : Code
  D : Nat
def Rec.at (r : Rec) (s : LoopState) (p : Option Code) : Obj := .loop { state := s, pending := p, fn := r.fn, tmps := r.tmps, params := r.ps, assign := r.assign, body := r.body, defers := r.D }

/-- How a round ends: its record lies busy; what is said behind it. -/
def roundEnd (l : Nat) (r : Rec) (R : Ending → World → Prop) : Exit → Act → World → Prop
  | .normal, _, w => w.heap[l]? = some (r.at .busy none) ∧ R (.returned (.bool true)) (w.putObj l (r.at .ready none))
  | .ret, _, w => w.heap[l]? = some (r.at .busy none) ∧ R (.returned (.bool false)) (w.putObj l (r.at .done (some .ret)))
  | .exit id, _, w => w.heap[l]? = some (r.at .busy none) ∧ R (.returned (.bool false)) (w.putObj l (r.at .done (some (.exit id))))
  | _, _, _ => False
theorem yield_round {P : Program} {l m : Nat} {r : Rec} {W : World} {args : Array Value} {R : Ending → World → Prop} (hl : W.heap[l]? = some (r.at .ready none)) (hs : args.size = r.ps.size)
    (h : r.assign.wpIn (rnd l) m P (Exit.then (fun a1 w1 => w1 = W ∧ r.body.wpIn (rnd l) m P (roundEnd l r R) a1 (W.putObj l (r.at .busy none))) (fun _ _ _ => False)) { tmps := (r.ps.zip args).foldl (fun t (p, v) => t.setIfInBounds p v) r.tmps, defers := [] } W) :
    YieldAt Fence.wide m P l args W R := by
  refine ⟨_, _, _, _, run_yield hl hs, roundIn_of_wpIn (F := Fence.wide) trivial (wpIn_mono h ?_)⟩
  intro e a w1 he
  cases e with
  | normal =>
    obtain ⟨rfl, hb⟩ := he
    refine ⟨_, run_beginRound hl rfl, wpIn_mono hb ?_⟩
    intro e2 a2 w2 h2
    cases e2 with
    | normal => exact ⟨_, _, run_endRound none h2.1, h2.2⟩
    | ret => exact ⟨_, _, run_endRound (some .ret) h2.1, h2.2⟩
    | exit id => exact ⟨_, _, run_endRound (some (.exit id)) h2.1, h2.2⟩
    | _ => exact h2.elim
  | _ => exact he.elim

/-- What is asked behind the function's return. -/
def rangeEnd (n : Nat) (P : Program) (l : Nat) (r : Rec) (Q : Exit → Act → World → Prop) (a : Act) (e : Ending) (w : World) : Prop :=
  (∃ v, e = .returned v) ∧ ∃ s p, s ≠ LoopState.busy ∧ w.heap[l]? = some (r.at s p) ∧
    (match p with | none => Q .normal a (w.putObj l (r.at .exhausted none)) | some c => c.wpIn Fence.wide n P Q a (w.putObj l (r.at .exhausted (some c))))
theorem range_fn {P : Program} {n : Nat} {g : Operand} {ps : Array Tmp} {assign body : Code} {Q : Exit → Act → World → Prop} {a : Act} {w : World} {gf : Nat} {lb : Array Value} (hg : a.eval g = .func (.func gf) #[] lb) (eg : ∀ args w, (callFunc gf args).run P w = .ok (.enter gf args) w)
    (h : ∀ (fn : FuncId) (r : Rec), r = ⟨fn, a.tmps, ps, assign, body, w.heap.size⟩ → CallsIn Fence.wide (n - 1) P gf (#[.func (.yield (w.heap.size + 1)) #[] #[]] ++ lb) ((w.alloc (.deferred (some []))).alloc (r.at .ready none))
      (rangeEnd n P (w.heap.size + 1) r Q { a with defers := { target := .collected w.heap.size, args := #[] } :: a.defers })) :
    (Code.rangeFunc g ps assign body).wpIn Fence.wide n P Q a w := by
  refine wpIn_rangeFunc ?_
  intro fn _
  obtain ⟨r, hr⟩ : ∃ r : Rec, r = ⟨fn, a.tmps, ps, assign, body, w.heap.size⟩ := ⟨_, rfl⟩
  have hh := h fn r hr
  clear h
  obtain ⟨W1, hW1⟩ : ∃ W1, (w.alloc (.deferred (some []))).alloc (r.at .ready none) = W1 := ⟨_, rfl⟩
  rw [hW1] at hh
  have he : (Instr.enterLoop fn a.tmps ps assign body none).run P w = .ok (w.heap.size + 1, [{ target := .collected w.heap.size, args := #[] }]) W1 := by rw [← hW1, hr]; exact run_enterLoop_outer _ _ _ _ _
  have hres : (resolve a.eval (rangeCall g (w.heap.size + 1)) 0).run P W1 = .ok { target := .fn (.func gf) lb, args := #[.func (.yield (w.heap.size + 1)) #[] #[]] } W1 := by
    simp only [resolve, hg]
    simp [go_sem]
  have hinv : (invoke (.fn (.func gf) lb) #[.func (.yield (w.heap.size + 1)) #[] #[]]).run P W1 = .ok (.enter gf (#[.func (.yield (w.heap.size + 1)) #[] #[]] ++ lb)) W1 := by simp [invoke, go_sem, eg]
  clear hW1 hr
  have hl : ∀ f' : FuncId, Target.leads P W1 (.fn (.func gf) lb) #[.func (.yield (w.heap.size + 1)) #[] #[]] = some f' → Fence.wide.fn f' := fun _ _ => trivial
  have hc : CallsIn Fence.wide (n - 1) P gf (#[.func (.yield (w.heap.size + 1)) #[] #[]] ++ lb) W1 (rangePost Fence.wide n P (w.heap.size + 1) Q { a with defers := [{ target := .collected w.heap.size, args := #[] }] ++ a.defers }) := by
    refine hh.mono ?_
    rintro e w2 ⟨⟨v, rfl⟩, s, p, hb, hl, hq⟩
    refine ⟨p, w2.putObj (w.heap.size + 1) (r.at .exhausted p), run_endLoop hl hb, ?_⟩
    cases p <;> exact hq
  have hd : Fence.wide.depth.isSome = true → 1 ≤ n := fun q => (by cases q)
  exact ⟨_, _, _, _, _, _, _, _, he, hres, hl, hinv, hd, hc⟩

end Go.Proofs.Yteaoacinhdjkeaa
end
