import Derived.Test.YteaoacinhdjkeaaSameL
import Derived.RegionTactic
import Derived.Test.YteaoacinhdjkeaaBase
import Derived.Maps.AppendAt
import Derived.Deep.RegionHeld3
import Derived.OwnWalk
import Derived.Deep.DeepMust
import Derived.Test.YteaoacinhdjkeaaKeyEq
import Derived.Lib.AppendStr
import Derived.Lib.AppendZerosOnto
import Derived.Test.YteaoacinhdjkeaaFillS
section
/-
  octets.Low and OfLow alone (for seats that have no High).
-/
namespace Go.Proofs.Yteaoacinhdjkeaa
open Go.ChangeShapes Go.WideShapes Go.ChangeAt Go.RowKit Go.Deep

def lowL (n m : Nat) : List UInt8 := (List.range m).map fun i => UInt8.ofNat (n / 256 ^ i)
theorem lowL_len (n m : Nat) : (lowL n m).length = m := by simp [lowL]
theorem bt_lowL {n m k : Nat} (hk : k < m) : bt (lowL n m) k = n / 256 ^ k % 256 := by
  unfold bt lowL
  simp [List.getD, hk]

/-- What is left of the number when k bytes are told. -/
def lowAt (n k : Nat) : Nat := n / 256 ^ k
theorem lowAt_succ (n k : Nat) : lowAt n k / 256 = lowAt n (k + 1) := by unfold lowAt; rw [Nat.div_div_eq_div_mul, Nat.pow_succ]
theorem lowAt_le (n k : Nat) : lowAt n k ≤ n := Nat.div_le_self _ _

theorem lowAt_int (n k : Nat) : (lowAt n k : Int) / 256 = (lowAt n (k + 1) : Int) := by rw [← lowAt_succ]; omega
theorem lowAt_byte (n k : Nat) : (lowAt n k : Int) % 256 = ((n / 256 ^ k % 256 : Nat) : Int) := by
  show (lowAt n k : Int) % 256 = ((lowAt n k % 256 : Nat) : Int)
  omega

set_option maxHeartbeats 400000 in
theorem low_calls {n m : Nat} {many : Int} {w : World} (hn : n < 18446744073709551616) (h1 : 0 ≤ many) (h2 : many ≤ 9223372036854775807) (hm8 : m ≤ 8) (hM : (if (8 : Int) < many then 8 else many) = (m : Int)) :
    Calls Try.prog 75 #[.int .u64 (n : Int), .int .i64 many] w (RetBs (lowL n m) w) := by
  have hmk := make8 m (by omega)
  have hz : lowAt n 0 = n := by simp [lowAt]
  go_enter Try.func75, Try.ntmps75
  go_wp2
  clear hmk hM
  go_loopw [0, 13] (fun x i wr => ∃ k : Nat, k ≤ m ∧ i = .int .i64 k ∧ x = .int .u64 (lowAt n k : Int) ∧ Fill w wr m k (fun j => n / 256 ^ j % 256)) (fun _ i _ => m - (intOf i).toNat)
  case atStart => exact ⟨0, Nat.zero_le _, rfl, by rw [hz], Fill.start _ _ _⟩
  case round =>
    obtain ⟨k, hk, rfl, rfl, hf⟩ := hrel
    clear hz
    by_cases hlt : k < m
    · have g3 := hf.cell hlt
      have g4 := hf.frozen k
      have hle := Nat.lt_of_le_of_lt (lowAt_le n k) hn
      go_wp2
      go_roundw
      case rel =>
        exact ⟨k + 1, by omega, by go_num, congrArg (Value.int .u64) (lowAt_int n k), hf.step (lowAt_byte n k)⟩
      case measure => simp [intOf]; omega
    · obtain rfl : k = m := by omega
      go_wp2
      go_ret
      exact ⟨_, _, _, rfl, hf.done (lowL_len n k) (by omega) (fun j hj => (bt_lowL hj).symm), hf.1⟩

/-- The number of bytes, the lowest first. -/
def ofLowL : List UInt8 → Nat
  | [] => 0
  | x :: xs => x.toNat + 256 * ofLowL xs
theorem ofLowL_lt : ∀ xs : List UInt8, ofLowL xs < 256 ^ xs.length
  | [] => by simp [ofLowL]
  | x :: xs => by
    have h := ofLowL_lt xs
    have hx : x.toNat < 256 := x.toNat_lt
    simp only [ofLowL, List.length_cons, Nat.pow_succ]
    omega
theorem ofLowL_append : ∀ (xs : List UInt8) (y : UInt8), ofLowL (xs ++ [y]) = ofLowL xs + 256 ^ xs.length * y.toNat
  | [], y => by simp [ofLowL]
  | x :: xs, y => by
    rw [List.cons_append, ofLowL, ofLowL_append xs y, ofLowL, List.length_cons, Nat.pow_succ, Nat.mul_add, Nat.mul_comm (256 ^ xs.length) 256, Nat.mul_assoc, Nat.add_assoc]
/-- The number of the first k bytes. -/
def ofLowAt (xs : List UInt8) (k : Nat) : Nat := ofLowL (xs.take k)
theorem ofLowAt_succ {xs : List UInt8} {k : Nat} (h : k < xs.length) : ofLowAt xs (k + 1) = ofLowAt xs k + 256 ^ k * bt xs k := by
  unfold ofLowAt
  rw [List.take_succ_eq_append_getElem h, ofLowL_append, List.length_take, Nat.min_eq_left (by omega)]
  simp [bt, List.getD, h]
theorem ofLowAt_lt {xs : List UInt8} {k : Nat} (h : k ≤ xs.length) : ofLowAt xs k < 256 ^ k := by
  have := ofLowL_lt (xs.take k)
  rwa [List.length_take, Nat.min_eq_left h] at this

theorem ofLow_bits {xs : List UInt8} {k : Nat} (h : k < xs.length) (hk : k < 8) :
    bits .or .u64 (ofLowAt xs k : Int) (IntKind.u64.wrap ((bt xs k : Int) * 2 ^ (8 * k))) = (ofLowAt xs (k + 1) : Int) := by
  have h1 := ofLowAt_lt (xs := xs) (k := k) (by omega)
  have hb := bt_lt xs k
  have hp : (256 : Nat) ^ k = 2 ^ (8 * k) := by rw [Nat.pow_mul]
  have hpk : (2 : Nat) ^ (8 * k) ≤ 2 ^ 56 := Nat.pow_le_pow_right (by omega) (by omega)
  have hlt : bt xs k * 2 ^ (8 * k) < 18446744073709551616 := by
    have : bt xs k * 2 ^ (8 * k) ≤ 255 * 2 ^ 56 := Nat.mul_le_mul (by omega) hpk
    omega
  have hc : ((bt xs k : Int) * 2 ^ (8 * k)) = ((bt xs k * 2 ^ (8 * k) : Nat) : Int) := by push_cast; rfl
  rw [hc, IntWalk.u64_in _ (by omega), ofLowAt_succ h, hp]
  rw [hp] at h1
  generalize ofLowAt xs k = y at *
  have hy : y < 18446744073709551616 := by omega
  rw [u64_or_nat _ _ hy hlt, Nat.or_comm, nat_join (8 * k) _ _ (Nat.mul_mod_left _ _) h1, Nat.mul_comm, Nat.add_comm]

set_option maxHeartbeats 400000 in
theorem ofLow_calls {A : Option Addr} {n c : Nat} {m : Nat} {xs : List UInt8} {w : World} (h : Bs w A n c xs) (hm8 : m ≤ 8) (hmn : m ≤ n) (hM : (if (8 : Int) < (n : Int) then 8 else (n : Int)) = (m : Int)) :
    Calls Try.prog 76 #[.slice A n c] w fun e w' => e = .returned (.int .u64 (ofLowL (xs.take m) : Int)) ∧ w' = w := by
  have h1 := h.le
  have h2 := h.cap
  go_enter Try.func76, Try.ntmps76
  go_wp2
  clear hM
  go_loop [3, 8] (fun x i => ∃ k : Nat, k ≤ m ∧ i = .int .i64 k ∧ x = .int .u64 (ofLowAt xs k : Int)) (fun _ i => m - (intOf i).toNat)
  case atStart => exact ⟨0, Nat.zero_le _, rfl, rfl⟩
  case round =>
    obtain ⟨k, hk, rfl, rfl⟩ := hrel
    by_cases hlt : k < m
    · obtain ⟨b, off, rfl, hb, hc⟩ := h.pos (by omega)
      have g1 := hc k (by omega)
      have hbt := bt_lt xs k
      clear hc
      go_wp2
      go_round
      case rel =>
        exact ⟨k + 1, by omega, by go_num, congrArg (Value.int .u64) (ofLow_bits (by rw [h.len]; omega) (by omega))⟩
      case measure => simp [intOf]; omega
    · obtain rfl : k = m := by omega
      go_wp2
      go_ret
      exact ⟨rfl, rfl⟩
end Go.Proofs.Yteaoacinhdjkeaa
end

section
/-
  octets.High (over LowB): for seats without layer 1's laws.
-/
namespace Go.Proofs.Yteaoacinhdjkeaa
open Go.ChangeShapes Go.WideShapes Go.ChangeAt Go.RowKit Go.Deep

theorem bt_reverse {xs : List UInt8} {k : Nat} (hk : k < xs.length) : bt xs.reverse k = bt xs (xs.length - 1 - k) := by
  unfold bt
  simp [List.getD, hk, List.getElem?_reverse, show xs.length - 1 - k < xs.length by omega]

/-- A row of bytes of the call's own that is filled from its end on. -/
def FillBack (w wr : World) (n k : Nat) (f : Nat → Nat) : Prop := Ext w wr ∧ wr.rowIs w.heap.size 5 n (fun i => if n ≤ i + k then .int .u8 (f i : Int) else .int .u8 0)
theorem FillBack.step {w wr : World} {n k : Nat} {f : Nat → Nat} (h : FillBack w wr n k f) {j : Nat} (hj : j + k + 1 = n) {u : Int} (hu : u = (f j : Int)) :
    FillBack w (wr.setCell ⟨w.heap.size, j, none⟩ (.int .u8 u)) n (k + 1) f := by
  subst hu
  refine ⟨h.1.setCell (Nat.le_refl _) _, (h.2.set j _).congr fun i _ => ?_⟩
  by_cases e : i = j
  · subst e; simp only [if_true]; rw [if_pos (by omega)]
  · simp only [if_neg e]
    by_cases hi : n ≤ i + k
    · rw [if_pos hi, if_pos (by omega)]
    · rw [if_neg hi, if_neg (by omega)]

set_option maxHeartbeats 400000 in
theorem reversed_calls {A : Option Addr} {n c : Nat} {xs : List UInt8} {w : World} (h : Bs w A n c xs) (hm : n ≤ 281474976710656) :
    Calls Try.prog 74 #[.slice A n c] w (RetBs xs.reverse w) := by
  have h1 := h.le
  have h2 := h.cap
  have hmk := make8 n hm
  go_enter Try.func74, Try.ntmps74
  go_wp2
  clear hmk
  go_loopw [10] (fun i wr => ∃ k : Nat, k ≤ n ∧ i = .int .i64 k ∧ FillBack w wr n k (fun j => bt xs (n - 1 - j))) (fun i _ => n - (intOf i).toNat)
  case atStart => exact ⟨0, Nat.zero_le _, rfl, (Ext.refl w).alloc _, (World.rowIs_made w _ n _).congr fun i hi => by rw [if_neg (by omega)]⟩
  case round =>
    obtain ⟨k, hk, rfl, hf⟩ := hrel
    by_cases hlt : k < n
    · obtain ⟨b, off, rfl, hb, hc⟩ := h.pos (by omega)
      have g1 := (hf.1.cell (p := ⟨b, off + k, none⟩) hb).trans (hc k hlt)
      have g3 := hf.2.cell (i := n - 1 - k) (by omega)
      rw [if_neg (by omega)] at g3
      have g4 := hf.2.frozen (n - 1 - k)
      clear hc
      go_wp2
      go_roundw
      case rel =>
        exact ⟨k + 1, by omega, by go_num, hf.step (by omega) (by rw [show n - 1 - (n - 1 - k) = k by omega])⟩
      case measure => simp [intOf]; omega
    · obtain rfl : k = n := by omega
      go_wp2
      go_ret
      refine ⟨_, _, _, rfl, ?_, hf.1⟩
      refine ⟨by rw [List.length_reverse, h.len], Nat.le_refl _, by unfold maxLen; omega, fun _ => ⟨w.heap.size, 0, rfl, hf.2.lt, fun j hj => ?_⟩⟩
      rw [Nat.zero_add, hf.2.cell hj, if_pos (by omega), bt_reverse (by rw [h.len]; exact hj), h.len]

set_option maxHeartbeats 400000 in
theorem high_calls {n m : Nat} {many : Int} {w : World} (hn : n < 18446744073709551616) (h1 : 0 ≤ many) (h2 : many ≤ 9223372036854775807) (hm8 : m ≤ 8) (hM : (if (8 : Int) < many then 8 else many) = (m : Int)) :
    Calls Try.prog 66 #[.int .u64 (n : Int), .int .i64 many] w (RetBs (lowL n m).reverse w) := by
  have hM' := Lib.hid hM
  clear hM
  go_enter Try.func66, Try.ntmps66
  go_wp2_with fail
  refine (low_calls hn h1 h2 hm8 hM'.out).mono ?_
  rintro e w1 ⟨A, k, c, rfl, hb, he⟩
  go_wp2_with fail
  have hk : k ≤ 8 := by have := hb.len; rw [lowL_len] at this; omega
  refine (reversed_calls hb (by omega)).mono ?_
  rintro e w2 ⟨A, k, c, rfl, hb2, he2⟩
  go_wp2_with fail
  go_ret
  exact ⟨_, _, _, rfl, hb2, he.trans he2⟩
end Go.Proofs.Yteaoacinhdjkeaa
end

section
/-
  octets.OfHigh: the number of bytes, the highest first (where the program holds neither Xor nor the law of layer 1).
-/
namespace Go.Proofs.Yteaoacinhdjkeaa
open Go.ChangeShapes Go.WideShapes Go.ChangeAt Go.RowKit Go.Deep

set_option maxHeartbeats 400000 in
theorem ofHigh_calls {A : Option Addr} {n c : Nat} {m : Nat} {xs : List UInt8} {w : World} (h : Bs w A n c xs) (hm8 : m ≤ 8) (hmn : m ≤ n) (hM : (if (8 : Int) < (n : Int) then 8 else (n : Int)) = (m : Int)) :
    Calls Try.prog 73 #[.slice A n c] w fun e w' => e = .returned (.int .u64 (ofLowL (xs.take m).reverse : Int)) ∧ Ext w w' := by
  have h1 := h.le
  have h2 := h.cap
  go_enter Try.func73, Try.ntmps73
  go_wp2_with fail
  refine (reversed_calls (h.take hmn) (by omega)).mono ?_
  rintro e w1 ⟨A1, k, c1, rfl, hb, he⟩
  have hk : k = m := by have := hb.len; rw [List.length_reverse, List.length_take, h.len] at this; omega
  have hk' := Lib.hid hk
  clear hk hM
  go_wp2_with fail
  refine (ofLow_calls (m := m) hb hm8 (by rw [hk'.out]; omega) (by rw [hk'.out, if_neg (by omega)])).mono ?_
  rintro e w2 ⟨rfl, rfl⟩
  go_wp2_with fail
  go_ret
  refine ⟨ret_int ?_, he⟩
  rw [List.take_of_length_le (by rw [hb.len, hk'.out]; omega)]

end Go.Proofs.Yteaoacinhdjkeaa
end

section
/-
  A row of bytes of the call's own that is appended to ('Own'); what append does with it. No conditions.
-/
namespace Go.Proofs.Yteaoacinhdjkeaa
open Go.ChangeShapes Go.WideShapes Go.ChangeAt Go.RowKit Go.Deep
set_option maxRecDepth 100000

def u8v (x : UInt8) : Value := .int .u8 (x.toNat : Int)
theorem u8v_bt {xs : List UInt8} {j : Nat} (h : j < xs.length) : (xs.map u8v)[j]? = some (.int .u8 (bt xs j : Int)) := by simp [u8v, bt, List.getD, h]

/-- The slice '.slice A n c' is the call's own row (in a block from B on), and holds xs. -/
def Own (B : Nat) (w : World) (A : Option Addr) (n c : Nat) (xs : List UInt8) : Prop := w.ownsRow B 5 1 (.slice A n c) n (xs.map u8v)

section
variable {w w' : World} {B : Nat} {A : Option Addr} {n c : Nat} {xs : List UInt8}
theorem Own.nil (B : Nat) (w : World) : Own B w none 0 0 [] := World.ownsRow_nil w B _ 1
theorem Own.made (w : World) (B cap : Nat) (hB : B ≤ w.heap.size) (hm : cap ≤ 281474976710656) : Own B (w.alloc (.cells (madeCells #[.int .u8 0] cap) 5)) (some ⟨w.heap.size, 0, none⟩) 0 cap [] :=
  World.ownsRow_made w _ cap hB (by unfold maxLen; omega) (by rw [size_madeCells, Nat.mul_one])
theorem Own.alloc (h : Own B w A n c xs) (o : Obj) : Own B (w.alloc o) A n c xs := World.ownsRow.alloc h o
theorem Own.drew (h : Own B w A n c xs) : Own B w.drew A n c xs := h
theorem Own.len (h : Own B w A n c xs) : xs.length = n := by simpa using h.1
theorem Own.bs (h : Own B w A n c xs) : Bs w A n c xs := by
  have hl := h.len
  rcases h.2 with ⟨hv, hn⟩ | ⟨g, cap, cur, hv, hb, hg, hnc, hcm, hcs, htk⟩
  · injection hv with h1 h2 h3
    subst h1 h2 h3
    exact ⟨hl, Nat.le_refl _, Nat.zero_le _, fun h => absurd h (by omega)⟩
  · injection hv with h1 h2 h3
    subst h1 h3
    refine ⟨hl, hnc, hcm, fun h0 => ⟨g, 0, rfl, ?_, fun j hj => ?_⟩⟩
    · rcases Nat.lt_or_ge g w.heap.size with h | h
      · exact h
      · rw [Array.getElem?_eq_none h] at hg; cases hg
    · rw [Nat.zero_add]
      have e : (xs.map u8v)[j]? = cur[j]? := by
        rw [← htk, List.getElem?_take, if_pos (by omega), Array.getElem?_toList]
      rw [u8v_bt (by omega)] at e
      simp [World.cell?, hg, ← e]
theorem Own.ext (h : Own B w A n c xs) (he : Ext w w') : Own B w' A n c xs := by
  refine ⟨h.1, ?_⟩
  rcases h.2 with h | ⟨g, cap, cur, hv, hb, hg, r⟩
  · exact .inl h
  · exact .inr ⟨g, cap, cur, hv, hb, (he.block g (by
      rcases Nat.lt_or_ge g w.heap.size with h | h
      · exact h
      · rw [Array.getElem?_eq_none h] at hg; cases hg)).trans hg, r⟩
theorem Own.ge (h : Own B w A n c xs) : ∀ g, Value.ownBlock (.slice A n c) = some g → B ≤ g := fun g hg => (World.ownsRow.lt h g hg).1
theorem Own.kept {row : Option Nat} (h : Own B w A n c xs) (hg : w.grownBy w' row) (hne : Value.ownBlock (.slice A n c) = none ∨ Value.ownBlock (.slice A n c) ≠ row) : Own B w' A n c xs := World.ownsRow.kept h hg hne
end

theorem Own.empty (w : World) (B : Nat) (hB : B ≤ w.heap.size) : Own B (w.alloc (.cells #[] 5)) (some ⟨w.heap.size, 0, none⟩) 0 0 [] :=
  World.ownsRow_lit (e := 5) (size := 1) w #[] 0 hB (Nat.zero_le _) rfl

theorem make0 (n : Nat) (hn : n ≤ 281474976710656) (w : World) :
    (Instr.makeSlice 37 (.int .i64 0) (.int .i64 (n : Int))).run Try.prog w = .ok (.slice (some ⟨w.heap.size, 0, none⟩) 0 n) (w.alloc (.cells (madeCells #[.int .u8 0] n) 5)) := by
  obtain ⟨i, hi, hz0, hz1, hz2⟩ := info_parts info8
  have h := run_make (P := Try.prog) w 37 5 i (.int .u8 0) Try.underlying37 hi hz0 .i64 .i64 0 (n : Int) (by omega) (by omega) (by rw [hz2]; omega) (by omega)
  simpa [hz1, Value.cells] using h

/-- 'append(v, s...)' on a row of the call's own. -/
theorem append_bs {w : World} {B : Nat} {A A' : Option Addr} {n c m c' : Nat} {xs ys : List UInt8} (ty : TypeId) (h : Own B w A n c xs) (hr : Bs w A' m c' ys) (hm : n + m ≤ 140737488355328) (hB : B ≤ w.heap.size) :
    ∃ A'' c'' w', (Builtin.append_ #[37, 37] ty #[.slice A n c, .slice A' m c']).run Try.prog w = .ok (.slice A'' (n + m) c'') w' ∧ Own B w' A'' (n + m) c'' (xs ++ ys) ∧ w.grownBy w' (Value.ownBlock (.slice A n c)) ∧
      (Value.ownBlock (.slice A'' (n + m) c'') = Value.ownBlock (.slice A n c) ∨ Value.ownBlock (.slice A'' (n + m) c'') = some w.heap.size) := by
  obtain ⟨i, hi, hz0, hz1, hz2⟩ := info_parts info8
  have form : ∀ (v' : Value) (w' : World), w'.ownsRow B 5 1 v' (n + m) (xs.map u8v ++ ys.map u8v) → ∃ A'' c'', v' = .slice A'' (n + m) c'' ∧ Own B w' A'' (n + m) c'' (xs ++ ys) := by
    intro v' w' ho
    rcases ho.2 with ⟨hv, hn⟩ | ⟨g, cap, cur, hv, _⟩
    · refine ⟨none, 0, by rw [hv, hn], ?_⟩
      rw [hv] at ho
      unfold Own
      rw [List.map_append]
      rw [show (Value.slice none (n + m) 0) = .slice none 0 0 by rw [hn]]
      exact ho
    · refine ⟨_, _, hv, ?_⟩
      rw [hv] at ho
      unfold Own
      rw [List.map_append]
      exact ho
  rcases A' with _ | a
  · have hm0 : m = 0 := by
      rcases Nat.eq_zero_or_pos m with h0 | h0
      · exact h0
      · obtain ⟨b, off, e, _⟩ := hr.pos h0
        cases e
    subst hm0
    have hy := hr.zero
    subst hy
    refine ⟨A, c, w, ?_, by simpa using h, ⟨rfl, rfl, rfl, Nat.le_refl _, fun _ _ _ => rfl⟩, .inl rfl⟩
    rcases h.2 with ⟨hv, hn⟩ | ⟨g, cap, cur, hv, _, _, hnc, _⟩
    · rw [hv]
      subst hn
      injection hv with _ _ h3
      subst h3
      simp [Builtin.append_, run_underlying Try.underlying37, sizeOf, typeInfo, hi, Builtin.lenOf, Builtin.firstCells]
      exact Eq.symm ‹A = none›
    · rw [hv]
      injection hv with _ _ h3
      subst h3
      simp [Builtin.append_, run_underlying Try.underlying37, sizeOf, typeInfo, hi, Builtin.lenOf, Builtin.firstCells, hnc, storeCells]
      exact Eq.symm ‹A = some _›
  · obtain ⟨v', w', hrun, ho, hg, _, hown⟩ := run_append_own_at (P := Try.prog) w B 37 ty 5 i (.int .u8 0) 1 1 Try.underlying37 hi hz0 hz1 hz2 rfl (by decide) (.slice A n c) n (xs.map u8v) h a m c' (ys.map u8v)
      (by rw [List.length_map, hr.len, Nat.mul_one]) (fun j u hu => by
        have hj : j < ys.length := by
          rcases Nat.lt_or_ge j ys.length with h | h
          · exact h
          · simp [h] at hu
        obtain ⟨b, off, e, hb, hc⟩ := hr.pos (by have := hr.len; omega)
        injection e with e
        subst e
        have hplain : (⟨b, off, none⟩ : Addr).add j = ⟨b, off + j, none⟩ := by unfold Addr.add; split <;> simp_all
        rw [hplain, hc j (by rw [← hr.len]; exact hj), ← u8v_bt hj, hu])
      (fun u hu => by
        obtain ⟨x, _, rfl⟩ := List.mem_map.1 hu
        rfl) (by unfold maxLen; omega) (by omega) hB
    obtain ⟨A'', c'', rfl, ho'⟩ := form v' w' ho
    exact ⟨A'', c'', w', hrun, ho', hg, hown⟩

/-- The same as a law for a region's step. -/
theorem wp_append_bs {w : World} {o : Oper} {a : Act} {K : Act → World → Prop} {Q : Exit → Act → World → Prop} {B : Nat} {A A' : Option Addr} {n c m c' : Nat} {xs ys : List UInt8} {s x : Operand}
    (ho : o.op = .call { callee := .builtin .append, args := #[s, x], argTypes := #[37, 37] }) (hs : a.eval s = .slice A n c) (hx : a.eval x = .slice A' m c')
    (h : Own B w A n c xs) (hr : Bs w A' m c' ys) (hm : n + m ≤ 140737488355328) (hB : B ≤ w.heap.size)
    (hK : ∀ A'' c'' w', Own B w' A'' (n + m) c'' (xs ++ ys) → w.grownBy w' (Value.ownBlock (.slice A n c)) → Below B w w' → K (a.put o.dst (.slice A'' (n + m) c'')) w') : o.wp Try.prog a w K Q := by
  obtain ⟨A'', c'', w', hrun, h2, h3, h4⟩ := append_bs o.type h hr hm hB
  unfold Oper.wp execOp
  simp only [ho, resolve, invoke, builtin, Sem.run_bind, Sem.run_pure, Result.andThen_ok, List.map_toArray, List.map_cons, List.map_nil, hs, hx, hrun]
  exact hK A'' c'' w' h2 h3 ((Below.refl B w).grown h3 hB h.ge)

/-- .. and for a plain list of operations. -/
theorem wpList_append_bs {w : World} {ops : Array Oper} {rest : List Oper} {o : Oper} {a : Act} {Q : Exit → Act → World → Prop} (hgd : o.guard = none) {B : Nat} {A A' : Option Addr} {n c m c' : Nat} {xs ys : List UInt8} {s x : Operand}
    (ho : o.op = .call { callee := .builtin .append, args := #[s, x], argTypes := #[37, 37] }) (hs : a.eval s = .slice A n c) (hx : a.eval x = .slice A' m c')
    (h : Own B w A n c xs) (hr : Bs w A' m c' ys) (hm : n + m ≤ 140737488355328) (hB : B ≤ w.heap.size)
    (hK : ∀ A'' c'' w', Own B w' A'' (n + m) c'' (xs ++ ys) → w.grownBy w' (Value.ownBlock (.slice A n c)) → Below B w w' → wpList Try.prog ops Q rest (a.put o.dst (.slice A'' (n + m) c'')) w') : wpList Try.prog ops Q (o :: rest) a w :=
  wpList_plain hgd fun _ hK' => wp_append_bs ho hs hx h hr hm hB fun A'' c'' w' h2 h3 h4 => hK' _ _ (hK A'' c'' w' h2 h3 h4)
end Go.Proofs.Yteaoacinhdjkeaa
end

section
/-
  append of a string's bytes, and of noughts, onto a row of the call's own.
-/
namespace Go.Proofs.Yteaoacinhdjkeaa
open Go.ChangeShapes Go.WideShapes Go.ChangeAt Go.RowKit Go.Deep

/-- What a slice that owns a row looks like. -/
theorem own_form {w' : World} {B k : Nat} {v' : Value} {xs : List UInt8} (ho : w'.ownsRow B 5 1 v' k (xs.map u8v)) : ∃ A'' c'', v' = .slice A'' k c'' ∧ Own B w' A'' k c'' xs := by
  rcases ho.2 with ⟨hv, hn⟩ | ⟨g, cap, cur, hv, _⟩
  · refine ⟨none, 0, by rw [hv, hn], ?_⟩
    rw [hv] at ho
    unfold Own
    rw [show (Value.slice none k 0) = .slice none 0 0 by rw [hn]]
    exact ho
  · refine ⟨_, _, hv, ?_⟩
    rw [hv] at ho
    exact ho

theorem append_str {w : World} {B : Nat} {A : Option Addr} {n c : Nat} {xs ys : List UInt8} (ty : TypeId) (h : Own B w A n c xs) (hm : n + ys.length ≤ 140737488355328) (hB : B ≤ w.heap.size) :
    ∃ A'' c'' w', (Builtin.append_ #[37, 9] ty #[.slice A n c, .string (strL ys)]).run Try.prog w = .ok (.slice A'' (n + ys.length) c'') w' ∧ Own B w' A'' (n + ys.length) c'' (xs ++ ys) ∧ w.grownBy w' (Value.ownBlock (.slice A n c)) := by
  obtain ⟨i, hi, hz0, hz1, hz2⟩ := info_parts info8
  obtain ⟨v', w', hr, ho, hg, _⟩ := Lib.run_append_own_string (P := Try.prog) w B 37 9 ty 5 i Try.underlying37 Try.underlying9 hi hz0 hz1 hz2 (.slice A n c) n (xs.map u8v) h (strL ys) (by rw [strL_size]; unfold maxLen; omega) (by rw [strL_size]; exact hm) hB
  rw [strL_size] at ho
  have e : xs.map u8v ++ Lib.strCells (strL ys) = (xs ++ ys).map u8v := by
    rw [List.map_append]
    congr 1
  rw [e] at ho
  obtain ⟨A'', c'', rfl, ho'⟩ := own_form ho
  exact ⟨A'', c'', w', hr, ho', hg⟩

theorem wp_append_str {w : World} {o : Oper} {a : Act} {K : Act → World → Prop} {Q : Exit → Act → World → Prop} {B : Nat} {A : Option Addr} {n c : Nat} {xs ys : List UInt8} {s x : Operand}
    (ho : o.op = .call { callee := .builtin .append, args := #[s, x], argTypes := #[37, 9] }) (hs : a.eval s = .slice A n c) (hx : a.eval x = .string (strL ys))
    (h : Own B w A n c xs) (hm : n + ys.length ≤ 140737488355328) (hB : B ≤ w.heap.size)
    (hK : ∀ A'' c'' w', Own B w' A'' (n + ys.length) c'' (xs ++ ys) → w.grownBy w' (Value.ownBlock (.slice A n c)) → Below B w w' → K (a.put o.dst (.slice A'' (n + ys.length) c'')) w') : o.wp Try.prog a w K Q := by
  obtain ⟨A'', c'', w', hrun, h2, h3⟩ := append_str o.type h hm hB
  unfold Oper.wp execOp
  simp only [ho, resolve, invoke, builtin, Sem.run_bind, Sem.run_pure, Result.andThen_ok, List.map_toArray, List.map_cons, List.map_nil, hs, hx, hrun]
  exact hK A'' c'' w' h2 h3 ((Below.refl B w).grown h3 hB h.ge)

theorem wpList_append_str {w : World} {ops : Array Oper} {rest : List Oper} {o : Oper} {a : Act} {Q : Exit → Act → World → Prop} (hgd : o.guard = none) {B : Nat} {A : Option Addr} {n c : Nat} {xs ys : List UInt8} {s x : Operand}
    (ho : o.op = .call { callee := .builtin .append, args := #[s, x], argTypes := #[37, 9] }) (hs : a.eval s = .slice A n c) (hx : a.eval x = .string (strL ys))
    (h : Own B w A n c xs) (hm : n + ys.length ≤ 140737488355328) (hB : B ≤ w.heap.size)
    (hK : ∀ A'' c'' w', Own B w' A'' (n + ys.length) c'' (xs ++ ys) → w.grownBy w' (Value.ownBlock (.slice A n c)) → Below B w w' → wpList Try.prog ops Q rest (a.put o.dst (.slice A'' (n + ys.length) c'')) w') : wpList Try.prog ops Q (o :: rest) a w :=
  wpList_plain hgd fun _ hK' => wp_append_str ho hs hx h hm hB fun A'' c'' w' h2 h3 h4 => hK' _ _ (hK A'' c'' w' h2 h3 h4)

/-- One byte in a block of its own. -/
theorem Bs.one (w : World) (t : TypeId) (fr : Nat × Nat) (x : UInt8) : Bs (w.alloc (.cells #[.int .u8 (x.toNat : Int)] t fr)) (some ⟨w.heap.size, 0, none⟩) 1 1 [x] :=
  Bs.of_list rfl (heap_alloc_new _ _) ⟨rfl, by omega⟩
end Go.Proofs.Yteaoacinhdjkeaa
end

section
/-
  append onto an own row: where it comes to lie; what else stands as it stood.
-/
namespace Go.Proofs.Yteaoacinhdjkeaa
open Go.ChangeShapes Go.WideShapes Go.ChangeAt Go.RowKit Go.Deep

theorem wp_append_bs2 {w : World} {o : Oper} {a : Act} {K : Act → World → Prop} {Q : Exit → Act → World → Prop} {B : Nat} {A A' : Option Addr} {n c m c' : Nat} {xs ys : List UInt8} {s x : Operand}
    (ho : o.op = .call { callee := .builtin .append, args := #[s, x], argTypes := #[37, 37] }) (hs : a.eval s = .slice A n c) (hx : a.eval x = .slice A' m c')
    (h : Own B w A n c xs) (hr : Bs w A' m c' ys) (hm : n + m ≤ 140737488355328) (hB : B ≤ w.heap.size)
    (hK : ∀ A'' c'' w', Own B w' A'' (n + m) c'' (xs ++ ys) → w.grownBy w' (Value.ownBlock (.slice A n c)) → Below B w w' → (Value.ownBlock (.slice A'' (n + m) c'') = Value.ownBlock (.slice A n c) ∨ Value.ownBlock (.slice A'' (n + m) c'') = some w.heap.size) → K (a.put o.dst (.slice A'' (n + m) c'')) w') : o.wp Try.prog a w K Q := by
  obtain ⟨A'', c'', w', hrun, h2, h3, h4⟩ := append_bs o.type h hr hm hB
  unfold Oper.wp execOp
  simp only [ho, resolve, invoke, builtin, Sem.run_bind, Sem.run_pure, Result.andThen_ok, List.map_toArray, List.map_cons, List.map_nil, hs, hx, hrun]
  exact hK A'' c'' w' h2 h3 ((Below.refl B w).grown h3 hB h.ge) h4
theorem Bs.grown {w w' : World} {g o n c : Nat} {xs : List UInt8} {row : Option Nat} (h : Bs w (some ⟨g, o, none⟩) n c xs) (e : w.grownBy w' row) (hne : row ≠ some g) : Bs w' (some ⟨g, o, none⟩) n c xs :=
  ⟨h.1, h.2.1, h.2.2.1, fun h0 => by
    obtain ⟨b, off, q, hb, hc⟩ := h.2.2.2 h0
    injection q with q
    injection q with q1 q2
    subst q1 q2
    refine ⟨g, o, rfl, Nat.lt_of_lt_of_le hb e.size, fun j hj => ?_⟩
    unfold World.cell?
    simp only
    rw [e.block g hb (fun q => hne q.symm)]
    exact hc j hj⟩
/-- A block of another kind is not the own row's. -/
theorem Own.ne_of {B : Nat} {w : World} {A : Option Addr} {n c : Nat} {xs : List UInt8} (h : Own B w A n c xs) {g : Nat} {t : TypeId} {cs : Array Value} {fr : Nat × Nat} (hg : w.heap[g]? = some (.cells cs t fr)) (ht : t ≠ 5) : Value.ownBlock (.slice A n c) ≠ some g := by
  rcases h.2 with ⟨hv, _⟩ | ⟨g', cap, cur, hv, _, hg', _⟩
  · rw [hv]; simp [Value.ownBlock]
  · rw [hv]
    simp only [Value.ownBlock]
    intro q
    injection q with q
    subst q
    rw [hg] at hg'
    injection hg' with h1
    injection h1 with _ h2 _
    exact ht h2
theorem own_at {V V' : Value} {g s : Nat} (h : V.ownBlock ≠ some g) (hs : g < s) (h3 : V'.ownBlock = V.ownBlock ∨ V'.ownBlock = some s) : V'.ownBlock ≠ some g := fun q => by
  rcases h3 with h3 | h3
  · exact h (h3 ▸ q)
  · rw [h3] at q
    injection q with q
    omega
theorem own_lit {g s n c : Nat} (h : g < s) : Value.ownBlock (.slice (some ⟨s, 0, none⟩) n c) ≠ some g := by
  simp only [Value.ownBlock]
  intro q
  injection q with q
  omega
theorem Own.ne_size {B : Nat} {w : World} {A : Option Addr} {n c : Nat} {xs : List UInt8} (h : Own B w A n c xs) : Value.ownBlock (.slice A n c) ≠ some w.heap.size := fun q => by
  have := (World.ownsRow.lt h _ q).2
  omega
end Go.Proofs.Yteaoacinhdjkeaa
end

section
/-
  Bytes within a block. No conditions.
-/
namespace Go.Proofs.Yteaoacinhdjkeaa
open Go.ChangeShapes Go.WideShapes Go.ChangeAt Go.RowKit Go.Deep

/-- A part of a block that holds bytes reads as them. -/
theorem Cb.bs {w : World} {g : Nat} {T : TypeId} {L : List Value} (h : Cb w g T L) {p q : List Value} {xs : List UInt8} {off n : Nat} (hL : L = p ++ (cellsOf xs ++ q)) (hp : p.length = off) (hn : xs.length = n) (hm : n ≤ 1000000) : Bs w (some ⟨g, off, none⟩) n n xs :=
  ⟨hn, Nat.le_refl _, by unfold maxLen; omega, fun _ => ⟨g, off, rfl, h.lt, fun j hj => h.mid hL hp j _ (cellsOf_get (by omega))⟩⟩
end Go.Proofs.Yteaoacinhdjkeaa
end

section
/-
  Bytes that lie in memory of the call's own. No conditions.
-/
namespace Go.Proofs.Yteaoacinhdjkeaa
open Go.ChangeShapes Go.WideShapes Go.ChangeAt Go.RowKit Go.Deep

/-- The call hands back bytes that lie in memory of its own. -/
def RetOwn (xs : List UInt8) (w : World) (e : Ending) (w' : World) : Prop := ∃ A n c, e = .returned (.slice A n c) ∧ Own w.heap.size w' A n c xs ∧ Ext w w'
end Go.Proofs.Yteaoacinhdjkeaa
end
