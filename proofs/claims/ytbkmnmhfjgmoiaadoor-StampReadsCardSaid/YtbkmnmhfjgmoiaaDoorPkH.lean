import Derived.Test.YtbkmnmhfjgmoiaaDoorCheck16
import Derived.Test.YtbkmnmhfjgmoiaaDoorLowM
import Derived.Test.YtbkmnmhfjgmoiaaDoorWords
import Derived.Test.YtbkmnmhfjgmoiaaDoorCells
import Derived.Test.YtbkmnmhfjgmoiaaDoorPkM
import Derived.Test.YtbkmnmhfjgmoiaaDoorPkL
import Derived.Test.YtbkmnmhfjgmoiaaDoorStV
import Derived.Test.YtbkmnmhfjgmoiaaDoorPkI
section
/-
  palfreylaw16.awake.
-/
namespace Go.Proofs.YtbkmnmhfjgmoiaaDoor
open Go.ChangeShapes Go.WideShapes Go.ChangeAt Go.RowKit Go.Deep Go.Maps
set_option maxRecDepth 100000

def kB16 (x : Nat) : List UInt8 := UInt8.ofNat x :: List.replicate 31 0
theorem kB16_len (x : Nat) : (kB16 x).length = 32 := rfl
theorem key_b1 : Tryd.prog.built 23 [(0, .int .u8 1)] = some (cellsOf (kB16 1)).toArray := by kernel_rfl
theorem key_b4 : Tryd.prog.built 23 [(0, .int .u8 4)] = some (cellsOf (kB16 4)).toArray := by kernel_rfl
theorem env_b4 : Tryd.prog.built 29 [(0, .int .i64 2), (1, .int .i64 3), (2, .agg (cellsOf (kB16 4)).toArray)] = some (evC 2 3 (kB16 4) (List.replicate 32 0) 0 0 none 0 0).toArray := by kernel_rfl
theorem Told.ext {w w' W : World} {g mb q n ticks : Nat} {root : List UInt8} (h : Told w g mb q root ticks n w') (x : Ext W w) (hb : W.heap.size ≤ mb) : Ext W w' := Below.trans x ⟨h.2.os, h.2.tape, h.2.output, h.2.size, fun i hi => h.2.block i (Nat.lt_of_lt_of_le hi x.size) (fun z => by have := Option.some.inj z; omega)⟩
theorem mk_awake : (mkS (kB16 1) 5 2 3 (kB16 4) 7).ep = 1 ∧ mkE 2 3 7 = 0 ∧ chkE (kB16 1) 5 (mkS (kB16 1) 5 2 3 (kB16 4) 7) 57 = 0 ∧ chkE (kB16 1) 5 (mkS (kB16 1) 5 2 3 (kB16 4) 7) 58 = 5 := by
  obtain ⟨_, M1⟩ := mk_facts (root := kB16 1) (ticks := 5) (f := 2) (t := 3) (cm := kB16 4) (now := 7)
  obtain ⟨e1, e2⟩ := M1 rfl
  obtain ⟨_, _, _, C1⟩ := chk_facts (root := kB16 1) (ticks := 5) (s := mkS (kB16 1) 5 2 3 (kB16 4) 7) (now := 57)
  obtain ⟨_, _, _, C2⟩ := chk_facts (root := kB16 1) (ticks := 5) (s := mkS (kB16 1) 5 2 3 (kB16 4) 7) (now := 58)
  rw [e1] at C1 C2 ⊢
  refine ⟨rfl, e2, ?_, ?_⟩
  · rw [C1 rfl rfl rfl]; rfl
  · rw [C2 rfl rfl rfl]; rfl
set_option maxHeartbeats 8000000 in
theorem awake16_calls {w : World} {tg : TypeId × Nat × Nat} (hG : Gl w tg) :
    Calls Tryd.prog 8 #[] w fun e w' => e = .returned (.bool true) ∧ Ext w w' := by
  obtain ⟨a1, a2, a3, a4⟩ := mk_awake
  have NW : Hid (∀ W : World, Calls Tryd.prog 9 #[.agg (cellsOf (kB16 1)).toArray, .int .i64 5] W fun e w' => ∃ (g b q : Nat), e = .returned (.tuple #[.pointer (some ⟨g, 0, none⟩), .int .i64 0]) ∧ (W.heap.size ≤ g ∧ W.heap.size ≤ b ∧ W.heap.size ≤ q) ∧ SR w' g b q (kB16 1) 5 [] ∧ Ext W w') := fun W => snew16_ok (n := 5) rfl (by omega) (by omega)
  have ST : Hid (∀ (W : World) (g b q : Nat), SR W g b q (kB16 1) 5 [] → Gl W tg → Calls Tryd.prog 10 #[.pointer (some ⟨g, 0, none⟩), .agg (evC 2 3 (kB16 4) (List.replicate 32 0) 0 0 none 0 0).toArray, .int .i64 7] W fun e w' => e = .returned (.tuple #[.agg (mkS (kB16 1) 5 2 3 (kB16 4) 7).C.toArray, .int .i64 0]) ∧ Told W g b q (kB16 1) 5 0 w') := fun W g b q h k => by
    have := stamp16_calls h (Nat.zero_le _) (by omega) (by omega) (f := 2) (t := 3) (pp := 0) (nn := 0) (now := 7) (cm := kB16 4) (pk := List.replicate 32 0) (A := none) (m := 0) (c := 0) rfl rfl k
    rw [a2] at this
    exact this
  have ok := mkS_ok (kB16 1) 5 2 3 7 (kB16_len 4)
  have CK : Hid (∀ (W : World) (g b q : Nat) (E : List (Value × Value)) (z : Int), SR W g b q (kB16 1) 5 E → E.length ≤ 1000000 → Gl W tg → Calls Tryd.prog 12 #[.pointer (some ⟨g, 0, none⟩), .agg (mkS (kB16 1) 5 2 3 (kB16 4) 7).C.toArray, .int .i64 z] W fun e w' => e = .returned (.int .i64 (chkE (kB16 1) 5 (mkS (kB16 1) 5 2 3 (kB16 4) 7) z)) ∧ Told W g b q (kB16 1) 5 E.length w') := fun W g b q E z h hE k => check16_calls h hE (by omega) (by omega) ok k
  obtain ⟨SS, hSS⟩ : ∃ s, s = mkS (kB16 1) 5 2 3 (kB16 4) 7 := ⟨_, rfl⟩
  rw [← hSS] at a1 a3 a4 ok ST CK
  have C7 : Hid (∀ (W : World) (g b q : Nat) (E : List (Value × Value)), SR W g b q (kB16 1) 5 E → E.length ≤ 1000000 → Gl W tg → Calls Tryd.prog 12 #[.pointer (some ⟨g, 0, none⟩), .agg SS.C.toArray, .int .i64 57] W fun e w' => e = .returned (.int .i64 0) ∧ Told W g b q (kB16 1) 5 E.length w') := fun W g b q E h hE k => by
    have := CK.out W g b q E 57 h hE k
    rw [a3] at this
    exact this
  have C8 : Hid (∀ (W : World) (g b q : Nat) (E : List (Value × Value)), SR W g b q (kB16 1) 5 E → E.length ≤ 1000000 → Gl W tg → Calls Tryd.prog 12 #[.pointer (some ⟨g, 0, none⟩), .agg SS.C.toArray, .int .i64 58] W fun e w' => e = .returned (.int .i64 5) ∧ Told W g b q (kB16 1) 5 E.length w') := fun W g b q E h hE k => by
    have := CK.out W g b q E 58 h hE k
    rw [a4] at this
    exact this
  clear CK hSS a2 a3 a4
  have L_S := Sm.C_len ok
  have O_S : SS.C.toArray.all (·.oneCell') = true := one_cells SS.one
  have s0 : Hid (SS.C[0]? = some (.int .i64 1)) := by show some (Value.int .i64 SS.ep) = _; rw [a1]
  generalize SS.C = SC at *
  have S_S : SC.toArray.size = 68 := by rw [List.size_toArray, L_S]
  clear a1 ok L_S
  have hal := stamp_alloc16
  have L_Z := Sm.C_len zSm_ok
  generalize zSm.C = ZS at *
  have S_Z : ZS.toArray.size = 68 := by rw [List.size_toArray, L_Z]
  clear L_Z
  have kb1 := Lib.hid key_b1
  have kb4 := Lib.hid key_b4
  have eb4 := Lib.hid env_b4
  generalize (evC 2 3 (kB16 4) (List.replicate 32 0) 0 0 none 0 0).toArray = EV at *
  generalize (cellsOf (kB16 1)).toArray = K1 at *
  generalize (cellsOf (kB16 4)).toArray = K4 at *
  generalize kB16 1 = rt at *
  go_enter Tryd.func8, Tryd.ntmps8
  go_wp2_with (first | (refine wpList_build_as rfl _ _ rfl K1 (by simp only [List.map_toArray, List.map_cons, List.map_nil]; exact kb1.out) ?_; simp only [Act.put, List.setIfInBounds_toArray, List.set_cons_zero, List.set_cons_succ]))
  refine (NW.out _).mono ?_
  rintro e w1 ⟨g, b, q, rfl, ⟨_, hb, _⟩, s1, x1⟩
  have G1 := hG.kept x1 hG.lt
  have T1 := Lib.hid (ST.out w1 g b q s1 G1)
  have GE : Hid (∀ s, w1.grownBy s (some b) → Gl s tg) := fun s x => G1.grown s1.mp x
  replace x1 := Lib.hid x1
  clear NW ST s1 G1 hG kb1
  go_wp2_with (first
    | (refine wpList_build_as rfl _ _ rfl K4 (by simp only [List.map_toArray, List.map_cons, List.map_nil]; exact kb4.out) ?_; simp only [Act.put, List.setIfInBounds_toArray, List.set_cons_zero, List.set_cons_succ])
    | (refine wpList_build_as rfl _ _ rfl EV (by simp only [List.map_toArray, List.map_cons, List.map_nil]; exact eb4.out) ?_; simp only [Act.put, List.setIfInBounds_toArray, List.set_cons_zero, List.set_cons_succ]))
  refine T1.out.mono ?_
  rintro e w2 ⟨rfl, ⟨E2, s2, e2⟩, gr2⟩
  have B2 : Hid (Cb ((w2.alloc (.cells ZS.toArray 36)).setRow w2.heap.size SC.toArray) w2.heap.size 36 SC ∧ Ext w2 ((w2.alloc (.cells ZS.toArray 36)).setRow w2.heap.size SC.toArray)) := ⟨Cb.set (Cb.new _ _ _), Ext.newRow _ _ _⟩
  have wb : b < w2.heap.size := s2.mp.lt
  replace s2 := Lib.hid s2
  replace gr2 := Lib.hid gr2
  clear T1 kb4 eb4
  go_upto_region 5 with (refine wpList_store_row rfl 36 _ _ rfl w2.heap.size SC.toArray rfl rfl 36 ZS.toArray (heap_alloc_new _ _) (by rw [S_S]; rfl) (by rw [S_S, S_Z]) O_S ?_; simp only [Act.put])
  refine wp_gen (fun W => Cb W w2.heap.size 36 SC ∧ Ext w2 W) B2.out ?_
  generalize w2.heap.size = r at *
  clear B2
  rintro w3 ⟨k3, x3⟩
  have f0 := k3.cell s0.out
  have gr3 : Hid (w1.grownBy w3 (some b)) := grown_trans' gr2.out (grown_ofE16 x3)
  have K7 := Lib.hid (C7.out w3 g b q E2 (s2.out.ext x3) (by have : E2.length ≤ 0 + 1 := e2; omega) (GE.out w3 gr3.out))
  replace k3 := Lib.hid k3
  clear C7 s2 gr2 x3 s0
  go_wp2_with (first | ((with_reducible refine wpList_load_rowW (o := ⟨some 32, _, _, _, _, _⟩) ?_ 36 _ rfl r ?_ 36 SC.toArray (0, 0) _ ?_ Tryd.underlying36 ?_ ?_ ?_); (· rfl); (· rfl); (· exact k3.out); (· rfl); (· rw [S_S]; rfl); simp only [Act.put, List.setIfInBounds_toArray, List.set_cons_zero, List.set_cons_succ]))
  refine K7.out.mono ?_
  rintro e w4 ⟨rfl, ⟨E4, s4, e4⟩, gr4⟩
  have gr5 : Hid (w1.grownBy w4 (some b)) := grown_trans' gr3.out gr4
  have k4 : Hid (Cb w4 r 36 SC) := (gr4.block _ k3.out.lt (fun z => by have := Option.some.inj z; omega)).trans k3.out
  have K8 := Lib.hid (C8.out w4 g b q E4 s4 (by have : E2.length ≤ 0 + 1 := e2; omega) (GE.out w4 gr5.out))
  clear K7 C8 s4 gr4 gr3 k3 f0
  go_wp2_with (first | ((with_reducible refine wpList_load_rowW (o := ⟨some 38, _, _, _, _, _⟩) ?_ 36 _ rfl r ?_ 36 SC.toArray (0, 0) _ ?_ Tryd.underlying36 ?_ ?_ ?_); (· rfl); (· rfl); (· exact k4.out); (· rfl); (· rw [S_S]; rfl); simp only [Act.put, List.setIfInBounds_toArray, List.set_cons_zero, List.set_cons_succ]))
  refine K8.out.mono ?_
  rintro e w5 ⟨rfl, ⟨E6, s6, e6⟩, gr6⟩
  have F : Hid (Ext w w5) := by
    have g7 := grown_trans' gr5.out gr6
    exact Below.trans x1.out ⟨g7.os, g7.tape, g7.output, g7.size, fun i hi => g7.block i (Nat.lt_of_lt_of_le hi x1.out.size) (fun z => by have := Option.some.inj z; omega)⟩
  clear K8 gr5 gr6 s6 k4 GE x1
  go_wp2_with fail
  go_ret
  exact ⟨rfl, F.out⟩
end Go.Proofs.YtbkmnmhfjgmoiaaDoor
end

section
/-
  Parts of bytes: a key that is half copied, numbers of bytes, slices of slices.
-/
namespace Go.Proofs.YtbkmnmhfjgmoiaaDoor
open Go.ChangeShapes Go.WideShapes Go.ChangeAt Go.RowKit Go.Deep
set_option maxRecDepth 100000

/-- The first k of 32 bytes are there, behind them are noughts. -/
def partK (xs : List UInt8) (k : Nat) : List UInt8 := xs.take k ++ List.replicate (32 - k) 0
theorem partK_len {xs : List UInt8} {k : Nat} (h : 32 ≤ xs.length) (hk : k ≤ 32) : (partK xs k).length = 32 := by simp [partK]; omega
theorem partK_step {xs : List UInt8} {k : Nat} (h : 32 ≤ xs.length) (hk : k < 32) : (cellsOf (partK xs k)).set k (.int .u8 (bt xs k : Int)) = cellsOf (partK xs (k + 1)) := by
  have e1 : partK xs (k + 1) = (partK xs k).set k (xs.getD k 0) := by
    unfold partK
    rw [List.set_append_right _ _ (by simp; omega), List.take_succ_eq_append_getElem (by omega), show 32 - k = (32 - (k + 1)) + 1 by omega, List.replicate_succ]
    simp [show min k xs.length = k by omega, List.getD, show k < xs.length by omega]
    rw [List.take_succ_eq_append_getElem (by omega), List.append_assoc]
    rfl
  rw [e1, cellsOf_map, cellsOf_map, List.map_set]
  rfl
theorem partK_zero (xs : List UInt8) : partK xs 0 = List.replicate 32 0 := rfl
theorem partK_full (xs : List UInt8) : partK xs 32 = xs.take 32 := by simp [partK]
theorem Bs.sub {w : World} {b off n c : Nat} {xs : List UInt8} (h : Bs w (some ⟨b, off, none⟩) n c xs) {i k : Nat} (hk : i + k ≤ n) : Bs w (some ⟨b, off + i, none⟩) k (c - i) ((xs.drop i).take k) :=
  ⟨by rw [List.length_take, List.length_drop, h.1]; omega, by have := h.2.1; omega, by have := h.2.2.1; omega, fun h0 => by
    obtain ⟨b', off', hA, hb, hc⟩ := h.2.2.2 (by omega)
    cases hA
    refine ⟨b, off + i, rfl, hb, fun j hj => ?_⟩
    rw [bt_take hj, bt_drop, Nat.add_assoc]
    exact hc (i + j) (by omega)⟩
theorem numN_bt {xs : List UInt8} (h : 0 < xs.length) : numN xs 1 = bt xs 0 := by
  match xs, h with
  | x :: r, _ => simp [numN, ofLowL, bt]
theorem Bs.from {w : World} {b off n c : Nat} {xs : List UInt8} (h : Bs w (some ⟨b, off, none⟩) n c xs) {i : Nat} (hk : i ≤ n) : Bs w (some ⟨b, off + i, none⟩) (n - i) (c - i) (xs.drop i) := by
  have := h.sub (i := i) (k := n - i) (by omega)
  rwa [List.take_of_length_le (by rw [List.length_drop, h.1]; omega)] at this
theorem numN1_lt (xs : List UInt8) : numN xs 1 < 256 := by
  have h := ofLowL_lt (xs.take 1).reverse
  have hl : (xs.take 1).reverse.length ≤ 1 := by rw [List.length_reverse, List.length_take]; omega
  have h2 : 256 ^ (xs.take 1).reverse.length ≤ 256 ^ 1 := Nat.pow_le_pow_right (by omega) hl
  unfold numN
  omega
theorem numN2_lt (xs : List UInt8) : numN xs 2 < 65536 := by
  have h := ofLowL_lt (xs.take 2).reverse
  have hl : (xs.take 2).reverse.length ≤ 2 := by rw [List.length_reverse, List.length_take]; omega
  have h2 : 256 ^ (xs.take 2).reverse.length ≤ 256 ^ 2 := Nat.pow_le_pow_right (by omega) hl
  unfold numN
  omega
theorem numN_lt {xs : List UInt8} {k : Nat} (hk : k ≤ 4) : numN xs k < 4294967296 := by
  have h := ofLowL_lt (xs.take k).reverse
  have hl : (xs.take k).reverse.length ≤ 4 := by rw [List.length_reverse, List.length_take]; omega
  have h2 : 256 ^ (xs.take k).reverse.length ≤ 256 ^ 4 := Nat.pow_le_pow_right (by omega) hl
  unfold numN
  omega
end Go.Proofs.YtbkmnmhfjgmoiaaDoor
end

section
/-
  octets.OfHigh: the number of bytes, the highest first (where the program holds neither Xor nor the law of layer 1).
-/
namespace Go.Proofs.YtbkmnmhfjgmoiaaDoor
open Go.ChangeShapes Go.WideShapes Go.ChangeAt Go.RowKit Go.Deep

set_option maxHeartbeats 400000 in
theorem ofHigh_calls {A : Option Addr} {n c : Nat} {m : Nat} {xs : List UInt8} {w : World} (h : Bs w A n c xs) (hm8 : m ≤ 8) (hmn : m ≤ n) (hM : (if (8 : Int) < (n : Int) then 8 else (n : Int)) = (m : Int)) :
    Calls Tryd.prog 44 #[.slice A n c] w fun e w' => e = .returned (.int .u64 (ofLowL (xs.take m).reverse : Int)) ∧ Ext w w' := by
  have h1 := h.le
  have h2 := h.cap
  go_enter Tryd.func44, Tryd.ntmps44
  go_wp2_with fail
  refine (reversed_calls (h.take hmn) (by omega)).mono ?_
  rintro e w1 ⟨A1, k, c1, rfl, hb, he⟩
  have hk : k = m := by have := hb.len; rw [List.length_reverse, List.length_take, h.len] at this; omega
  have hk' := Lib.hid hk
  clear hk hM
  go_wp2_with fail
  refine (ofLow_calls (m := m) hb hm8 (by rw [hk'.out]; omega) (by rw [hk'.out, if_neg (by omega)])).mono ?_
  rintro e w2 ⟨rfl, rfl⟩
  go_wp2_with fail
  go_ret
  refine ⟨ret_int ?_, he⟩
  rw [List.take_of_length_le (by rw [hb.len, hk'.out]; omega)]

end Go.Proofs.YtbkmnmhfjgmoiaaDoor
end

section
/-
  The document's OfHigh.
-/
namespace Go.Proofs.YtbkmnmhfjgmoiaaDoor
open Go.ChangeShapes Go.WideShapes Go.ChangeAt Go.RowKit Go.Deep

/-- The number of bytes, the highest first, one by one. -/
def ofHighAt (xs : List UInt8) : Nat → Nat
  | 0 => 0
  | k + 1 => ofHighAt xs k * 256 + bt xs k
theorem ofHighAt_lt (xs : List UInt8) : ∀ k, ofHighAt xs k < 256 ^ k
  | 0 => by simp [ofHighAt]
  | k + 1 => by
    have := ofHighAt_lt xs k
    have := bt_lt xs k
    rw [ofHighAt, Nat.pow_succ]
    omega
theorem ofHighAt_eq {xs : List UInt8} : ∀ {k : Nat}, k ≤ xs.length → ofHighAt xs k = ofLowL (xs.take k).reverse
  | 0, _ => by simp [ofHighAt, ofLowL]
  | k + 1, h => by
    rw [ofHighAt, ofHighAt_eq (by omega), List.take_succ_eq_append_getElem (by omega), List.reverse_append]
    simp [ofLowL, bt, List.getD, show k < xs.length by omega]
    omega

set_option maxHeartbeats 400000 in
theorem refOfHigh_calls {A : Option Addr} {n c : Nat} {m : Nat} {xs : List UInt8} {w : World} (h : Bs w A n c xs) (hm8 : m ≤ 8) (hmn : m ≤ n) (hM : m = n ∨ m = 8) :
    Calls Tryd.prog 35 #[.slice A n c] w fun e w' => e = .returned (.int .u64 (ofLowL (xs.take m).reverse : Int)) ∧ w' = w := by
  have h1 := h.le
  have h2 := h.cap
  have hf : Hid (ofHighAt xs m = ofLowL (xs.take m).reverse) := ofHighAt_eq (by rw [h.len]; exact hmn)
  go_enter Tryd.func35, Tryd.ntmps35
  go_wp2
  go_loop [3, 4] (fun x i => ∃ k : Nat, k ≤ m ∧ i = .int .i64 k ∧ x = .int .u64 (ofHighAt xs k : Int)) (fun _ i => m - (intOf i).toNat)
  case atStart => exact ⟨0, Nat.zero_le _, rfl, rfl⟩
  case round =>
    obtain ⟨k, hk, rfl, rfl⟩ := hrel
    by_cases hlt : k < m
    · obtain ⟨b, off, rfl, hb, hc⟩ := h.pos (by omega)
      have g1 := hc k (by omega)
      have hbt := bt_lt xs k
      have hlt2 : ofHighAt xs k < 72057594037927936 := Nat.lt_of_lt_of_le (ofHighAt_lt xs k) (Nat.pow_le_pow_right (by omega) (show k ≤ 7 by omega))
      have hsucc : Hid ((ofHighAt xs (k + 1) : Int) = (ofHighAt xs k : Int) * 256 + (bt xs k : Int)) := by unfold Hid; rw [ofHighAt]; omega
      have t1 : (k : Int) < 8 := by omega
      have t2 : (k : Int) < (n : Int) := by omega
      clear hc hM
      go_wp2
      go_round
      case rel => exact ⟨k + 1, by omega, by go_num, congrArg (Value.int .u64) hsucc.out.symm⟩
      case measure => simp [intOf]; omega
    · obtain rfl : k = m := by omega
      rcases hM with rfl | rfl
      · go_wp2
        go_ret
        exact ⟨ret_int (by rw [hf.out]), rfl⟩
      · by_cases q : 8 < n
        · go_wp2
          go_ret
          exact ⟨ret_int (by rw [hf.out]), rfl⟩
        · obtain rfl : n = 8 := by omega
          go_wp2
          go_ret
          exact ⟨ret_int (by rw [hf.out]), rfl⟩
end Go.Proofs.YtbkmnmhfjgmoiaaDoor
end

section
/-
  stamp.Bytes.
-/
namespace Go.Proofs.YtbkmnmhfjgmoiaaDoor
open Go.ChangeShapes Go.WideShapes Go.ChangeAt Go.RowKit Go.Deep
set_option maxRecDepth 100000

theorem bytes_facts {s : Sm} : (s.valid = false → bytesS s = [] ∧ bytesE s = 1) ∧ (s.valid = true → bytesS s = hiB s.ep.toNat 4 ++ toldL s.f.toNat s.t.toNat s.tm.toNat s.cm ++ s.tg ∧ bytesE s = 0) := by
  refine ⟨fun h => ?_, fun h => ?_⟩
  · unfold bytesS bytesE; rw [h]; exact ⟨rfl, rfl⟩
  · unfold bytesS bytesE; rw [h]; exact ⟨rfl, rfl⟩
set_option maxHeartbeats 8000000 in
theorem bytes16_calls {w : World} {s : Sm} (ok : s.ok) :
    Calls Tryd.prog 14 #[.agg s.C.toArray] w fun e w' => ∃ A n c, e = .returned (.tuple #[.slice A n c, .int .i64 (bytesE s)]) ∧ Own w.heap.size w' A n c (bytesS s) ∧ Ext w w' := by
  have VA : Hid (∀ (W : World), Calls Tryd.prog 29 #[.agg s.C.toArray] W fun e w' => e = .returned (.bool s.valid) ∧ Ext W w') := fun W => valid16_calls
  obtain ⟨R0, R1⟩ := bytes_facts (s := s)
  replace R0 := Lib.hid R0
  replace R1 := Lib.hid R1
  have L_s := Sm.C_len ok
  have s0 : Hid (s.C[0]? = some (.int .i64 s.ep)) := rfl
  have SP := Lib.hid (fun _ : Unit => st_parts (ep := s.ep) (f := s.f) (t := s.t) (tm := s.tm) (tg := s.tg) ok.1)
  have S_s : s.C.toArray.size = 68 := by rw [List.size_toArray, L_s]
  obtain ⟨r, hr⟩ : ∃ r, r = w.heap.size := ⟨_, rfl⟩
  have B0 : Hid (Cb (w.alloc (.cells s.C.toArray 36)) r 36 s.C ∧ Ext w (w.alloc (.cells s.C.toArray 36))) := by rw [hr]; exact ⟨Cb.new _ _ _, (Ext.refl w).alloc _⟩
  obtain ⟨SC, hSC⟩ : ∃ SC, SC = s.C := ⟨_, rfl⟩
  rw [← hSC] at VA L_s s0 S_s B0 ⊢
  replace hSC := Lib.hid hSC
  obtain ⟨RE, hRE⟩ : ∃ r, r = bytesE s := ⟨_, rfl⟩
  obtain ⟨RS, hRS⟩ : ∃ r, r = bytesS s := ⟨_, rfl⟩
  rw [← hRE, ← hRS] at R0 R1 ⊢
  clear hRE hRS
  go_enter Tryd.func14, Tryd.ntmps14
  go_upto_region 1 with fail
  refine wp_gen (fun W => Cb W r 36 SC ∧ Ext w W) B0.out ?_
  rw [← hr]
  have wr : w.heap.size ≤ r := Nat.le_of_eq hr.symm
  clear B0
  replace hr := Lib.hid hr
  rintro w0 ⟨k0, x0⟩
  replace k0 := Lib.hid k0
  replace x0 := Lib.hid x0
  go_wp2_with (first | ((with_reducible refine wpList_load_rowW (o := ⟨some 5, _, _, _, _, _⟩) ?_ 36 _ rfl r ?_ 36 SC.toArray (0, 0) _ ?_ Tryd.underlying36 ?_ ?_ ?_); (· rfl); (· rfl); (· exact k0.out); (· rfl); (· rw [S_s]; rfl); simp only [Act.put, List.setIfInBounds_toArray, List.set_cons_zero, List.set_cons_succ]))
  refine (VA.out _).mono ?_
  rintro e w1 ⟨rfl, x1⟩
  have k1 := Lib.hid (k0.out.ext x1)
  replace x1 := Lib.hid (x0.out.trans x1)
  clear k0 VA x0
  rcases h1 : s.valid with _ | _
  · have z1 := Lib.hid (R0.out h1)
    clear R0 R1
    go_wp2_with fail
    go_ret2
    exact ⟨none, 0, 0, by rw [z1.out.2]; rfl, by rw [z1.out.1]; exact Own.nil _ _, x1.out⟩
  replace R1 := R1.out h1
  obtain ⟨ep, fn, tn, tm, hs, hep, hf7, ht7, htm⟩ := Sm.nat h1
  obtain ⟨lc, lg⟩ := ok
  clear R0 h1
  generalize s.cm = cm at *
  generalize s.tg = tgv at *
  subst hs
  have TO : Hid (∀ W : World, Calls Tryd.prog 25 #[.agg SC.toArray] W (RetOwn (toldL fn tn tm cm) W)) := by
    refine Lib.hid fun W => ?_
    rw [hSC.out]
    exact told_calls lc hf7 ht7 htm
  have SP1 : Hid (SC = ([.int .i64 (ep : Int), .int .i64 (fn : Int), .int .i64 (tn : Int), .int .i64 (tm : Int)] ++ cellsOf cm) ++ (cellsOf tgv ++ []) ∧ ([Value.int .i64 (ep : Int), .int .i64 (fn : Int), .int .i64 (tn : Int), .int .i64 (tm : Int)] ++ cellsOf cm).length = 36) := by
    rw [hSC.out]; exact Lib.hid (SP.out ()).2
  clear SP hSC
  simp only [Int.toNat_natCast] at R1
  replace R1 := Lib.hid R1
  have H4 : Hid (∀ (W : World), Calls Tryd.prog 20 #[.int .u64 (ep : Int), .int .i64 4] W (RetOwn (hiB ep 4) W)) := fun W => highO_calls (by omega) (by omega) (by omega) (by omega) rfl
  have u1 : IntKind.u64.wrap (ep : Int) = (ep : Int) := IntWalk.u64_in _ (by omega)
  have l4 := hiB_len ep 4
  have lt := toldL_len (f := fn) (t := tn) (tm := tm) lc
  generalize toldL fn tn tm cm = TL at *
  generalize hiB ep 4 = b4 at *
  have g0 := k1.out.cell s0.out
  have z1 : r + 1 ≤ w1.heap.size := k1.out.lt
  clear s0 hf7 ht7 htm hep L_s
  go_wp2_with fail
  refine (H4.out _).mono ?_
  rintro e w2 ⟨A2, n2, m2, rfl, o2, e2⟩
  obtain rfl : n2 = 4 := by rw [← o2.len, l4]
  replace o2 := Lib.hid (o2.mono z1)
  have k2 := Lib.hid (k1.out.ext e2)
  have x2 := Lib.hid (x1.out.trans e2)
  clear g0 k1 x1 e2 H4 z1
  go_upto_region 4 with fail
  refine wp_gen (fun W => Own (r + 1) W A2 4 m2 b4 ∧ Cb W r 36 SC ∧ Ext w W) ⟨o2.out, k2.out, x2.out⟩ ?_
  clear o2 k2 x2
  rintro w3 ⟨o3, k3, x3⟩
  replace k3 := Lib.hid k3
  go_wp2_with (first | ((with_reducible refine wpList_load_rowW (o := ⟨some 13, _, _, _, _, _⟩) ?_ 36 _ rfl r ?_ 36 SC.toArray (0, 0) _ ?_ Tryd.underlying36 ?_ ?_ ?_); (· rfl); (· rfl); (· exact k3.out); (· rfl); (· rw [S_s]; rfl); simp only [Act.put, List.setIfInBounds_toArray, List.set_cons_zero, List.set_cons_succ]))
  refine (TO.out _).mono ?_
  rintro e w4 ⟨A4, n4, m4, rfl, o4, e4⟩
  obtain rfl : n4 = 38 := by rw [← o4.len, lt]
  have o5 := Lib.hid (o3.ext e4)
  replace o4 := Lib.hid o4.bs
  have k4 := Lib.hid (k3.out.ext e4)
  have x4 := Lib.hid (x3.trans e4)
  have z4 : r + 1 ≤ w4.heap.size := k4.out.lt
  clear o3 k3 x3 e4 TO
  go_upto_region 5 with (at_builtin; (with_reducible refine wpList_append_bs rfl (B := r + 1) (s := .tmp 12) (x := .tmp 14) rfl rfl rfl o5.out o4.out (by omega) z4 ?_); intro A6 m6 w6 o6 g6 d6; replace o6 := Lib.hid o6; clear g6; replace d6 := Lib.hid d6; simp only [Act.put, List.setIfInBounds_toArray, List.set_cons_zero, List.set_cons_succ])
  refine wp_gen (fun W => Own (r + 1) W A6 (4 + 38) m6 (b4 ++ TL) ∧ Cb W r 36 SC ∧ Ext w W) ⟨o6.out, k4.out.kept d6.out (by omega), Below.trans x4.out (d6.out.mono (by omega))⟩ ?_
  clear o6 d6 o4 o5 k4 x4 z4
  rintro w7 ⟨o7, k7, x7⟩
  have b7 := Lib.hid (k7.bs SP1.out.1 SP1.out.2 lg (by omega))
  have z7 : r + 1 ≤ w7.heap.size := k7.lt
  replace o7 := Lib.hid o7
  replace x7 := Lib.hid x7
  clear k7
  go_wp2_with (at_builtin; (with_reducible refine wpList_append_bs rfl (B := r + 1) (s := .tmp 16) (x := .tmp 18) rfl rfl rfl o7.out b7.out (by omega) z7 ?_); intro A8 m8 w8 o8 g8 d8; replace o8 := Lib.hid o8; clear g8; replace d8 := Lib.hid d8; simp only [Act.put, List.setIfInBounds_toArray, List.set_cons_zero, List.set_cons_succ])
  go_ret2
  exact ⟨A8, 4 + 38 + 32, m8, by rw [R1.out.2]; rfl, by rw [R1.out.1]; exact o8.out.mono (by omega), Below.trans x7.out (d8.out.mono (by omega))⟩
end Go.Proofs.YtbkmnmhfjgmoiaaDoor
end
