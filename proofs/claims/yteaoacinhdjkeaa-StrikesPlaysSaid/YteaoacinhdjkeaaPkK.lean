import Derived.Test.YteaoacinhdjkeaaPkO
import Derived.Test.YteaoacinhdjkeaaJrAll
import Derived.Test.YteaoacinhdjkeaaJrA
import Derived.Test.YteaoacinhdjkeaaDkS
import Derived.Test.YteaoacinhdjkeaaOwnC
import Derived.Test.YteaoacinhdjkeaaFillS
section
/-
  Numbers as bytes, and back: plain mathematics.
-/
namespace Go.Proofs.Yteaoacinhdjkeaa
open Go.ChangeShapes Go.WideShapes Go.ChangeAt Go.RowKit Go.Deep

def numN (xs : List UInt8) (k : Nat) : Nat := ofLowL (xs.take k).reverse
theorem ofLowL_lowL : ∀ (m n : Nat), ofLowL (lowL n m) = n % 256 ^ m
  | 0, n => by simp [lowL, ofLowL, Nat.mod_one]
  | m + 1, n => by
    have h : lowL n (m + 1) = UInt8.ofNat n :: lowL (n / 256) m := by
      unfold lowL
      rw [List.range_succ_eq_map, List.map_cons, List.map_map]
      congr 1
      · simp
      · apply List.map_congr_left
        intro k _
        simp only [Function.comp, Nat.succ_eq_add_one]
        rw [Nat.pow_succ, Nat.mul_comm, Nat.div_div_eq_div_mul]
    have hp : 256 ^ (m + 1) = 256 * 256 ^ m := (Nat.pow_succ 256 m).trans (Nat.mul_comm _ _)
    rw [h, ofLowL, ofLowL_lowL m (n / 256), UInt8.toNat_ofNat', hp, Nat.mod_mul]
theorem lowL_ofLowL : ∀ (xs : List UInt8), lowL (ofLowL xs) xs.length = xs
  | [] => rfl
  | x :: r => by
    have h : ∀ n m, lowL n (m + 1) = UInt8.ofNat n :: lowL (n / 256) m := fun n m => by
      unfold lowL
      rw [List.range_succ_eq_map, List.map_cons, List.map_map]
      congr 1
      · simp
      · apply List.map_congr_left
        intro k _
        simp only [Function.comp, Nat.succ_eq_add_one]
        rw [Nat.pow_succ, Nat.mul_comm, Nat.div_div_eq_div_mul]
    have hx := x.toNat_lt
    rw [List.length_cons, h]
    have e1 : ofLowL (x :: r) = x.toNat + 256 * ofLowL r := rfl
    rw [e1, show (x.toNat + 256 * ofLowL r) / 256 = ofLowL r by omega, lowL_ofLowL r]
    congr 1
    apply UInt8.toNat_inj.1
    rw [UInt8.toNat_ofNat']
    omega
theorem numN_high {n m : Nat} {r : List UInt8} (hn : n < 256 ^ m) : numN ((lowL n m).reverse ++ r) m = n := by
  unfold numN
  rw [List.take_left' (by rw [List.length_reverse, lowL_len]), List.reverse_reverse, ofLowL_lowL, Nat.mod_eq_of_lt hn]
theorem high_numN {xs : List UInt8} {m : Nat} (h : m ≤ xs.length) : (lowL (numN xs m) m).reverse = xs.take m := by
  unfold numN
  have hl : (xs.take m).reverse.length = m := by rw [List.length_reverse, List.length_take]; omega
  have := lowL_ofLowL (xs.take m).reverse
  rw [hl] at this
  rw [this, List.reverse_reverse]
end Go.Proofs.Yteaoacinhdjkeaa
end

section
/-
  The journal's mathematics: what a sector of a record reads as; a disk that holds records.
-/
namespace Go.Proofs.Yteaoacinhdjkeaa
open Go.ChangeShapes Go.WideShapes Go.ChangeAt Go.RowKit Go.Deep Go.Maps
set_option maxRecDepth 100000

theorem rep_add22 {n : Nat} (h : n ≤ 59) : List.replicate 59 (0 : UInt8) = List.replicate n 0 ++ List.replicate (59 - n) 0 := by
  rw [List.replicate_append_replicate]
  congr 1
  omega
theorem secL_eq {i : Nat} {xs : List UInt8} (h : xs.length ≤ 59) : secL i xs = ((lowL (i + 1) 4).reverse ++ [UInt8.ofNat xs.length]) ++ (xs ++ List.replicate (59 - xs.length) 0) := by
  have h4 : ((lowL (i + 1) 4).reverse).length = 4 := by rw [List.length_reverse, lowL_len]
  unfold secL
  rw [show List.replicate 64 (0 : UInt8) = List.replicate 4 0 ++ ([0] ++ List.replicate 59 0) from rfl, splice_zero (by rw [h4]; rfl), splice_mid h4 (by rfl), ← List.append_assoc,
    show List.replicate 59 (0 : UInt8) = List.replicate xs.length 0 ++ List.replicate (59 - xs.length) 0 from rep_add22 h]
  exact splice_mid (by simp [h4]) (by simp)
theorem bt_app_r {xs ys : List UInt8} {j : Nat} : bt (xs ++ ys) (xs.length + j) = bt ys j := by
  unfold bt
  rw [List.getD_eq_getElem?_getD, List.getD_eq_getElem?_getD, List.getElem?_append_right (by omega)]
  congr 3
  omega
theorem recL_sec {i : Nat} {xs : List UInt8} (h : xs.length ≤ 59) (hi : i < 4294967295) : recL i (secL i xs) = some xs := by
  have h4 : ((lowL (i + 1) 4).reverse).length = 4 := by rw [List.length_reverse, lowL_len]
  have e := secL_eq (i := i) h
  have t4 : (secL i xs).take 4 = (lowL (i + 1) 4).reverse := by rw [e, List.append_assoc, List.take_left' h4]
  have d5 : (secL i xs).drop 5 = xs ++ List.replicate (59 - xs.length) 0 := by rw [e]; exact List.drop_left' (by simp [h4])
  have b4 : bt (secL i xs) 4 = xs.length := by
    rw [e, List.append_assoc]
    have := bt_app_r (xs := (lowL (i + 1) 4).reverse) (ys := [UInt8.ofNat xs.length] ++ (xs ++ List.replicate (59 - xs.length) 0)) (j := 0)
    rw [h4] at this
    rw [show (4 : Nat) = 4 + 0 from rfl, this]
    simp [bt]
    omega
  unfold recL
  rw [t4, b4, d5, List.reverse_reverse, List.take_left' rfl]
  rw [if_pos]
  refine ⟨?_, h, fun j hj => ?_⟩
  · rw [ofLowL_lowL]; exact Nat.mod_eq_of_lt (by omega)
  · have e5 : secL i xs = ((lowL (i + 1) 4).reverse ++ [UInt8.ofNat xs.length] ++ xs) ++ List.replicate (59 - xs.length) 0 := by rw [e]; simp
    have := bt_app_r (xs := ((lowL (i + 1) 4).reverse ++ [UInt8.ofNat xs.length] ++ xs)) (ys := List.replicate (59 - xs.length) 0) (j := j)
    rw [e5, show 5 + xs.length + j = ((lowL (i + 1) 4).reverse ++ [UInt8.ofNat xs.length] ++ xs).length + j by simp [h4]; omega, this]
    simp [bt, List.getD, hj]
theorem recL_nought (i : Nat) : recL i (List.replicate 64 0) = none := by
  unfold recL
  rw [if_neg]
  rintro ⟨h, _⟩
  have : ofLowL ((List.replicate 64 (0 : UInt8)).take 4).reverse = 0 := by decide
  omega

/-- A disk of m sectors that has power and no fuse, nothing pending: it holds just these records. -/
structure Hd22 (d : Ds) (m : Nat) (L : List (List UInt8)) : Prop where
  len : d.S.length = m
  hf : d.hf = false
  dd : d.dd = false
  le : L.length ≤ m
  sh : ∀ j, j < L.length → (L.getD j []).length ≤ 59
  rd : ∀ j, j < m → d.read (j : Int) = if j < L.length then secL j (L.getD j []) else List.replicate 64 0
section
variable {d : Ds} {m : Nat} {L : List (List UInt8)}
theorem Hd22.fails (h : Hd22 d m L) : d.fails = false := by unfold Ds.fails; rw [h.hf, h.dd]; rfl
theorem Hd22.burn (h : Hd22 d m L) : d.burn = d := by
  unfold Ds.burn
  rw [h.fails, if_neg (by decide), h.hf, if_neg (by decide)]
theorem Hd22.new (h : 1 ≤ m) : Hd22 (newD m) m [] := by
  refine ⟨by simp [newD], rfl, rfl, Nat.zero_le _, fun j hj => absurd hj (Nat.not_lt_zero _), fun j hj => ?_⟩
  unfold Ds.read
  rw [if_pos ⟨by omega, by simp [newD]; omega⟩, if_neg (show ¬ j < ([] : List (List UInt8)).length from Nat.not_lt_zero _), Int.toNat_natCast]
  show (none : Option (List UInt8)).getD ((List.replicate m (List.replicate 64 0)).getD j []) = _
  rw [Option.getD_none, List.getD_eq_getElem?_getD, List.getElem?_replicate, if_pos hj]
  rfl
theorem Hd22.recs (h : Hd22 d m L) (hm : m ≤ 64) : d.recs = L := by
  refine (Pre22.full ⟨by rw [h.len]; exact h.le, fun j hj => ?_⟩ ?_).symm
  · rw [h.rd j (Nat.lt_of_lt_of_le hj h.le), if_pos hj]
    exact recL_sec (h.sh j hj) (by have := h.le; omega)
  · by_cases q : L.length = m
    · left; rw [h.len]; exact q
    · right
      rw [h.rd _ (by have := h.le; omega), if_neg (Nat.lt_irrefl _)]
      exact recL_nought _
theorem Hd22.step (h : Hd22 d m L) {xs : List UInt8} (hx : xs.length ≤ 59) :
    d.jE L.length xs = (if m ≤ L.length then 8 else 0) ∧ Hd22 (d.jD L.length xs) m (d.jL L xs) ∧ d.jL L xs = (if m ≤ L.length then L else L ++ [xs]) := by
  by_cases q : m ≤ L.length
  · have e : d.jE L.length xs = 8 := by unfold Ds.jE; rw [if_neg (by omega), if_pos (by rw [h.len]; exact q)]
    have e2 : d.jD L.length xs = d := by unfold Ds.jD; rw [if_neg (by omega), if_pos (by rw [h.len]; exact q)]
    have e3 : d.jL L xs = L := by unfold Ds.jL; rw [e]; rfl
    rw [e, e2, e3, if_pos q, if_pos q]
    exact ⟨rfl, h, rfl⟩
  · have hin : 0 ≤ (L.length : Int) ∧ (L.length : Int) < (d.S.length : Int) := ⟨by omega, by rw [h.len]; omega⟩
    have hw : d.write (L.length : Int) (secL L.length xs) = d.put L.length (secL L.length xs) := by
      unfold Ds.write
      rw [if_pos hin, h.fails, if_neg (by decide), h.burn, Int.toNat_natCast]
    have hf : (d.put L.length (secL L.length xs)).fails = false := h.fails
    have hb : (d.put L.length (secL L.length xs)).burn = d.put L.length (secL L.length xs) := by
      unfold Ds.burn
      rw [hf, if_neg (by decide), show (d.put L.length (secL L.length xs)).hf = false from h.hf, if_neg (by decide)]
    have e : d.jE L.length xs = 0 := by unfold Ds.jE; rw [if_neg (by omega), if_neg (by rw [h.len]; exact q), h.fails, if_neg (by decide), hw, hf]; rfl
    have e2 : d.jD L.length xs = (d.put L.length (secL L.length xs)).flush := by unfold Ds.jD; rw [if_neg (by omega), if_neg (by rw [h.len]; exact q), h.fails, if_neg (by decide), hw, hf, if_neg (by decide), hb]
    have e3 : d.jL L xs = L ++ [xs] := by unfold Ds.jL; rw [e]; rfl
    rw [e, e2, e3, if_neg q, if_neg q]
    refine ⟨rfl, ⟨by simp [Ds.flush, Ds.put, h.len], h.hf, h.dd, by simp; omega, fun j hj => ?_, fun j hj => ?_⟩, rfl⟩
    · by_cases z : j < L.length
      · rw [List.getD_eq_getElem?_getD, List.getElem?_append_left z, ← List.getD_eq_getElem?_getD]; exact h.sh j z
      · obtain rfl : j = L.length := by simp at hj; omega
        simpa [List.getD] using hx
    · have r0 := h.rd j hj
      unfold Ds.read at r0 ⊢
      rw [if_pos ⟨by omega, by rw [h.len]; omega⟩, Int.toNat_natCast] at r0
      rw [if_pos ⟨by omega, by simp [Ds.flush, Ds.put, h.len]; omega⟩, Int.toNat_natCast]
      show (none : Option (List UInt8)).getD (((List.range d.S.length).map fun i => (if i = L.length then some (secL L.length xs) else d.N i).getD (d.S.getD i [])).getD j []) = _
      rw [Option.getD_none, List.getD_eq_getElem?_getD, List.getElem?_map, List.getElem?_range (by rw [h.len]; exact hj)]
      simp only [Option.map_some, Option.getD_some]
      by_cases z : j < L.length
      · rw [if_neg (by omega), r0, if_pos z, if_pos (by simp; omega)]
        congr 1
        rw [List.getD_eq_getElem?_getD, List.getD_eq_getElem?_getD, List.getElem?_append_left z]
      · by_cases z2 : j = L.length
        · subst z2
          rw [if_pos rfl, if_pos (by simp)]
          simp [List.getD]
        · rw [if_neg z2, r0, if_neg z, if_neg (by simp; omega)]
end
end Go.Proofs.Yteaoacinhdjkeaa
end

section
/-
  palfreylaw22.awake.
-/
namespace Go.Proofs.Yteaoacinhdjkeaa
open Go.ChangeShapes Go.WideShapes Go.ChangeAt Go.RowKit Go.Deep Go.Maps
set_option maxRecDepth 100000

theorem Bs.ot22 {p : Nat → Prop} {w s : World} {A : Option Addr} {n c : Nat} {xs : List UInt8} (h : Bs w A n c xs) (k : Ot p w s) (hp : ∀ a, A = some a → 0 < n → ¬ p a.block) : Bs s A n c xs :=
  ⟨h.1, h.2.1, h.2.2.1, fun h0 => by
    obtain ⟨b, off, rfl, hb, hc⟩ := h.2.2.2 h0
    exact ⟨b, off, rfl, Nat.lt_of_lt_of_le hb k.size, fun j hj => (World.cell?_of_block (k.same hb (show ¬ p b from hp _ rfl h0))).trans (hc j hj)⟩⟩
theorem Bs.nil22 (w : World) : Bs w none 0 0 [] := ⟨rfl, Nat.le_refl _, Nat.zero_le _, fun h => absurd h (Nat.lt_irrefl _)⟩
/-- A new disk's blocks lie below what is made behind it. -/
theorem pd_lt {w : World} {dg r mb : Nat} {d : Ds} (h : DK w dg r mb d) : ∀ i, Pd22 dg r mb i → i < w.heap.size := fun i q => by
  rcases q with q | q | q
  · rw [q]; exact h.cb.lt
  · rw [q]; exact h.row.lt
  · rw [q]; exact h.mp.lt
/-- A journal and its disk, all made since w. -/
structure JN (w W : World) (g dg r mb : Nat) (d : Ds) (B : Nat) (R : Nat → Prop) (D : Option Addr) (c : Nat) (L : List (List UInt8)) : Prop where
  jk : JS B R W g dg D c L
  dk : DK W dg r mb d
  rR : R r
  rw : ∀ i, R i → i < W.heap.size
  wB : w.heap.size ≤ B
  wd : w.heap.size ≤ dg
  wr : w.heap.size ≤ r
  wm : w.heap.size ≤ mb
  ex : Ext w W
theorem JN.ext {w W W' : World} {g dg r mb : Nat} {d : Ds} {B : Nat} {R : Nat → Prop} {D : Option Addr} {c : Nat} {L : List (List UInt8)} (h : JN w W g dg r mb d B R D c L) (x : Ext W W') : JN w W' g dg r mb d B R D c L := ⟨h.jk.ext x, h.dk.ext x, h.rR, fun i q => Nat.lt_of_lt_of_le (h.rw i q) x.size, h.wB, h.wd, h.wr, h.wm, h.ex.trans x⟩
theorem JN.append {w W : World} {g dg r mb : Nat} {d : Ds} {B : Nat} {R : Nat → Prop} {D : Option Addr} {c : Nat} {L : List (List UInt8)} (h : JN w W g dg r mb d B R D c L) {A : Option Addr} {n c' : Nat} {xs : List UInt8} (hL : L.length ≤ 64) (hM : ∀ s, Ot (Pd22 dg r mb) W s → Bs s A n c' xs) (hn : n ≤ 1000000) :
    Calls Try.prog 16 #[.pointer (some ⟨g, 0, none⟩), .slice A n c'] W fun e W' => e = .returned (.int .i64 (d.jE L.length xs)) ∧ ∃ mb' D' c2, JN w W' g dg r mb' (d.jD L.length xs) B R D' c2 (d.jL L xs) ∧ Ot (Pj22 g dg r mb (Value.ownBlock (.slice D L.length c))) W W' ∧
      (Value.ownBlock (.slice D' (d.jL L xs).length c2) = Value.ownBlock (.slice D L.length c) ∨ ∃ i, Value.ownBlock (.slice D' (d.jL L xs).length c2) = some i ∧ W.heap.size ≤ i) := by
  refine (jappend_calls h.jk h.dk h.rR h.rw (Nat.le_of_lt (Nat.lt_of_le_of_lt h.jk.2.2 h.jk.1.lt)) hL hM hn).mono ?_
  rintro e W' ⟨he, mb', D', c2, dk, jk, ot, hmb, ho⟩
  have hwm : w.heap.size ≤ mb' := by
    rcases hmb with q | q
    · rw [q]; exact h.wm
    · exact Nat.le_trans h.ex.size q
  refine ⟨he, mb', D', c2, ⟨jk, dk, h.rR, fun i q => Nat.lt_of_lt_of_le (h.rw i q) ot.size, h.wB, h.wd, h.wr, hwm, Ot.ext h.ex ot fun i q => ?_⟩, ot, ho⟩
  have h1 := h.wd
  have h2 := h.wr
  have h3 := h.wm
  have h4 := h.wB
  have h5 := h.jk.2.2
  rcases q with q | q | q | q | q
  · omega
  · omega
  · omega
  · omega
  · have := (h.jk.2.1.ge _ q).1; omega
/-- What Open hands back. -/
theorem JN.opened {w w1 : World} {dg r mb : Nat} {d : Ds} (h : DK w1 dg r mb d) (x : Ext w w1) (wd : w.heap.size ≤ dg) (wr : w.heap.size ≤ r) (wm : w.heap.size ≤ mb) :
    Calls Try.prog 14 #[.pointer (some ⟨dg, 0, none⟩)] w1 fun e w' => ∃ g D c, e = .returned (.tuple #[.pointer (some ⟨g, 0, none⟩), .int .i64 0]) ∧ JN w w' g dg r mb d w1.heap.size (fun i => i < w1.heap.size) D c d.recs ∧ Ext w1 w' := by
  refine (jopen_calls h h.ok.most (read_len22 h.ok)).mono ?_
  rintro e w' ⟨g, D, c, he, jk, x'⟩
  exact ⟨g, D, c, he, ⟨jk.toS (fun _ q => q), h.ext x', h.row.lt, fun i q => Nat.lt_of_lt_of_le q x'.size, x.size, wd, wr, wm, x.trans x'⟩, x'⟩
set_option maxHeartbeats 4000000 in
theorem awake22_calls {w : World} : Calls Try.prog 11 #[] w fun e w' => e = .returned (.bool true) ∧ Ext w w' := by
  have hcv := conv_const
  have ND := Lib.hid (dnew_ok (w := w) (n := 1) (by omega) (by omega))
  go_enter Try.func11, Try.ntmps11
  go_wp2_with fail
  refine ND.out.mono ?_
  rintro e w1 ⟨dg, r, mb, rfl, q1, q2, q3, dk1, x1⟩
  have H0 : Hd22 (newD 1) 1 [] := Hd22.new (by omega)
  have OP := Lib.hid (JN.opened dk1 x1 q1 q2 q3)
  rw [H0.recs (by omega)] at OP
  replace H0 := Lib.hid H0
  clear ND dk1 x1 q1 q2 q3
  go_wp2_with fail
  refine OP.out.mono ?_
  rintro e w2 ⟨g, D, c, rfl, j2, _⟩
  have x2a : Ext w2 (w2.alloc (.cells #[.int .u8 97, .int .u8 98] 5 (2, 3))) := (Ext.refl w2).alloc _
  obtain ⟨s1, s2, s3⟩ := H0.out.step (xs := [97, 98]) (by decide)
  rw [if_neg (by decide)] at s1 s3
  have AP := JN.append (xs := [97, 98]) (A := some ⟨w2.heap.size, 0, none⟩) (n := 2) (c' := 2) (j2.ext x2a) (by simp) (fun s k => (Bs.of_list (xs := [97, 98]) rfl (heap_alloc_new w2 (.cells #[.int .u8 97, .int .u8 98] 5 (2, 3))) ⟨rfl, by decide⟩).ot22 k (fun a ha _ q => by
    injection ha with ha
    subst ha
    have := pd_lt j2.dk _ q
    simp only at this
    omega)) (by omega)
  rw [s1] at AP
  rw [s3] at AP s2
  replace AP := Lib.hid AP
  replace s2 := Lib.hid s2
  generalize (newD 1).jD ([] : List (List UInt8)).length [97, 98] = d1 at *
  clear OP s1 s3 x2a j2 H0
  go_wp2_with fail
  refine AP.out.mono ?_
  rintro e w3 ⟨rfl, mb3, D3, c3, j3, _⟩
  obtain ⟨s1, s4, s3⟩ := s2.out.step (xs := []) (by decide)
  rw [if_pos (by decide)] at s1 s3
  have AP2 := JN.append (xs := []) (A := none) (n := 0) (c' := 0) j3 (by simp) (fun s k => Bs.nil22 s) (by omega)
  rw [s1] at AP2
  rw [s3] at AP2 s4
  replace AP2 := Lib.hid AP2
  replace s4 := Lib.hid s4
  generalize d1.jD (([] : List (List UInt8)) ++ [[97, 98]]).length [] = d2 at *
  clear AP s1 s3 j3 s2 hcv
  go_wp2_with fail
  refine AP2.out.mono ?_
  rintro e w4 ⟨rfl, mb4, D4, c4, j4, _⟩
  have OP := Lib.hid (JN.opened j4.dk j4.ex j4.wd j4.wr j4.wm)
  rw [s4.out.recs (by omega)] at OP
  clear AP2 s4 j4
  go_wp2_with fail
  refine OP.out.mono ?_
  rintro e w5 ⟨k, D5, c5, rfl, j5, _⟩
  replace j5 := Lib.hid j5
  clear OP
  go_wp2_with fail
  refine (jopen_none (w := w5)).mono ?_
  rintro e w6 ⟨rfl, rfl⟩
  have AL := Lib.hid (lall_calls j5.out.jk (by decide) (by decide))
  have x5 := Lib.hid j5.out.ex
  clear j5
  go_wp2_with fail
  refine AL.out.mono ?_
  rintro e w7 ⟨D7, c7, rfl, o7, x7⟩
  have x07 := Lib.hid (x5.out.trans x7)
  obtain ⟨b, off, rfl, hb, hcell⟩ := o7.rw.pos (by decide)
  obtain ⟨A1, n1, c1, hc1, hb1⟩ := hcell 0 (by decide)
  have hcv : (convert 37 9 (.slice A1 n1 c1)).run Try.prog w7 = .ok (.string ⟨#[97, 98]⟩) w7 := conv_bs hb1
  rw [Nat.add_zero] at hc1
  clear AL o7 x7 x5 hcell hb1
  go_wp2_with fail
  go_ret
  exact ⟨rfl, x07.out⟩
end Go.Proofs.Yteaoacinhdjkeaa
end

section
/-
  disk.Pending.
-/
namespace Go.Proofs.Yteaoacinhdjkeaa
open Go.ChangeShapes Go.WideShapes Go.ChangeAt Go.RowKit Go.Deep Go.Maps
set_option maxRecDepth 100000

/-- The sectors below k that are not sure, rising. -/
def Ds.pend (d : Ds) (k : Nat) : List Nat := (List.range k).filter fun i => (d.N i).isSome
theorem pend_succ (d : Ds) (k : Nat) : d.pend (k + 1) = d.pend k ++ (if (d.N k).isSome then [k] else []) := by
  unfold Ds.pend
  rw [List.range_succ, List.filter_append]
  congr 1
  simp only [List.filter_cons, List.filter_nil]
theorem pend_len (d : Ds) (k : Nat) : (d.pend k).length ≤ k := by
  have := List.length_filter_le (fun i => (d.N i).isSome) (List.range k)
  rw [List.length_range] at this
  exact this
def iC (L : List Nat) : List (List Value) := L.map fun (n : Nat) => [Value.int .i64 (n : Int)]
theorem infoI21 : (Try.prog.info? 3).map (fun i => (i.zero, i.size, i.bytes)) = some (some (.int .i64 0), 1, 8) := by kernel_rfl
set_option maxHeartbeats 4000000 in
theorem dpending_calls {w : World} {g r mb : Nat} {d : Ds} (h : DK w g r mb d) :
    Calls Try.prog 49 #[.pointer (some ⟨g, 0, none⟩)] w fun e w' => ∃ A c, e = .returned (.slice A (d.pend d.S.length).length c) ∧ OwnC w.heap.size w' 3 1 A (d.pend d.S.length).length c (iC (d.pend d.S.length)) ∧ Ext w w' := by
  have hm := h.ok.most
  have hal := sector_alloc
  have C0 : Hid (∀ s, Ext w s → s.cell? ⟨g, 0, none⟩ = some (.slice (some ⟨r, 0, none⟩) d.S.length d.S.length) ∧ s.cell? ⟨g, 1, none⟩ = some (.map (some mb))) := fun s e => ⟨(h.ext e).cb.cell rfl, (h.ext e).cb.cell rfl⟩
  have LK : Hid (∀ s (n : Nat), Ext w s → n < d.S.length → (Instr.lookup 84 (.map (some mb)) (.int .i64 (n : Int)) true).run Try.prog s = .ok (.tuple #[.agg (cellsOf ((d.N n).getD (List.replicate 64 0))).toArray, .bool (d.N n).isSome]) s) := fun s n e q2 => (h.ext e).look q2
  have OW : Hid (OwnC w.heap.size w 3 1 none 0 0 (iC (d.pend 0))) := Lib.hid (OwnC.nil _ _ _ _)
  have c0 := (C0.out w (Ext.refl w)).1
  have NL := Lib.hid h.ok.nl
  clear h
  go_enter Try.func49, Try.ntmps49
  go_wp2_with fail
  go_loopw [3, 12] (fun sv iv wr => ∃ (k c : Nat) (A : Option Addr), iv = .int .i64 (k : Int) ∧ k ≤ d.S.length ∧ sv = .slice A (d.pend k).length c ∧ OwnC w.heap.size wr 3 1 A (d.pend k).length c (iC (d.pend k)) ∧ Ext w wr) (fun _ iv _ => ((d.S.length : Int) - intOf iv).toNat)
  case atStart => exact ⟨0, 0, none, rfl, Nat.zero_le _, rfl, OW.out, Ext.refl w⟩
  case round =>
    obtain ⟨k, c, A, rfl, hk, rfl, ow, xr⟩ := hrel
    clear OW c0
    by_cases hlt : k < d.S.length
    · have u1 : decide ((k : Int) < (d.S.length : Int)) = true := decide_eq_true (by omega)
      have ad : IntKind.i64.wrap ((k : Int) + 1) = (k : Int) + 1 := IntWalk.i64_in _ (by omega)
      have hme : Hid (((d.S.length : Int) - ((k : Int) + 1)).toNat < ((d.S.length : Int) - (k : Int)).toNat) := by unfold Hid; omega
      have LK1 := LK.out wr k xr hlt
      have c1 := (C0.out wr xr).2
      obtain ⟨xs, hxs⟩ : ∃ q, q = (d.N k).getD (List.replicate 64 0) := ⟨_, rfl⟩
      have L_xs : xs.length = 64 := by
        rw [hxs]
        cases q : d.N k
        · rfl
        · exact (NL.out _ _ q).1
      have PS := Lib.hid (pend_succ d k)
      obtain ⟨is, his⟩ : ∃ q, q = (d.N k).isSome := ⟨_, rfl⟩
      rw [← hxs, ← his] at LK1
      rw [← his] at PS
      clear hxs his
      have S_xs : (cellsOf xs).toArray.size = 64 := by simp [cellsOf_len, L_xs]
      have O_xs := one_cells (one_mem xs)
      have S_Z : zS64.toArray.size = 64 := by rw [List.size_toArray, zS64_len]
      generalize zS64 = ZL at *
      have K1 : Hid (OwnC w.heap.size ((wr.alloc (.cells ZL.toArray 45)).setRow wr.heap.size (cellsOf xs).toArray) 3 1 A (d.pend k).length c (iC (d.pend k)) ∧ Ext w ((wr.alloc (.cells ZL.toArray 45)).setRow wr.heap.size (cellsOf xs).toArray)) := ⟨ow.ext (Ext.newRow _ _ _), xr.trans (Ext.newRow _ _ _)⟩
      have pl := pend_len d k
      clear ow xr
      go_upto_region 6 with (first
        | (refine wpList_lookup_mp rfl _ _ rfl rfl rfl LK1 ?_; go_frame)
        | (refine wpList_store_row rfl 45 _ _ rfl wr.heap.size (cellsOf xs).toArray rfl rfl 45 ZL.toArray (heap_alloc_new _ _) (by rw [S_xs]; rfl) (by rw [S_xs, S_Z]) O_xs ?_; simp only [Act.put]))
      refine wp_gen (fun W => OwnC w.heap.size W 3 1 A (d.pend k).length c (iC (d.pend k)) ∧ Ext w W) K1.out ?_
      generalize wr.heap.size = r9 at *
      clear K1 LK1 c1 wr
      rintro w2 ⟨ow, x2⟩
      cases is with
      | false =>
        have F := Lib.hid (show d.pend (k + 1) = d.pend k from by rw [PS.out]; simp)
        replace ow := Lib.hid ow
        replace x2 := Lib.hid x2
        go_wp2_with fail
        go_round
        case rel => exact ⟨k + 1, c, A, rfl, hlt, by rw [F.out], by rw [F.out]; exact ow.out, x2.out⟩
        case measure => exact hme.out
      | true =>
        have F := Lib.hid (show d.pend (k + 1) = d.pend k ++ [k] from by rw [PS.out]; simp)
        have hzs : (Value.int .i64 0).cells.size = 1 := rfl
        have n1 : Hid ((w2.alloc (.cells #[.int .i64 (k : Int)] 3)).heap[w2.heap.size]? = some (.cells [Value.int .i64 (k : Int)].toArray 3 (0, 0))) := heap_alloc_new _ _
        have o2 := Lib.hid (ow.ext ((Ext.refl w2).alloc (.cells #[.int .i64 (k : Int)] 3)))
        have X2 := Lib.hid (x2.alloc (.cells #[.int .i64 (k : Int)] 3))
        have z2 : Hid (w.heap.size ≤ (w2.alloc (.cells #[.int .i64 (k : Int)] 3)).heap.size) := X2.out.size
        have C_1 : [Value.int .i64 (k : Int)].length = 1 := rfl
        have one1 : ∀ u ∈ [Value.int .i64 (k : Int)], u.oneCell' = true := fun u hu => by rw [List.mem_singleton.1 hu]; rfl
        clear ow x2 PS
        go_wp2_with (at_builtin; (with_reducible refine wpList_append_c rfl Try.underlying73 infoI21 hzs (by omega) (by omega) (x := .tmp 25) (y := .tmp 27) rfl rfl rfl o2.out n1.out C_1 one1 (by omega) z2.out ?_); intro A3 c3 w3 o3 g3 b3; replace o3 := Lib.hid o3; replace g3 := Lib.hid g3; replace b3 := Lib.hid b3; go_frame)
        go_round
        case rel => exact ⟨k + 1, c3, A3, rfl, hlt, by rw [F.out, List.length_append]; rfl, by rw [F.out, List.length_append, iC, List.map_append]; exact o3.out, Below.trans X2.out b3.out⟩
        case measure => exact hme.out
    · obtain rfl : k = d.S.length := by omega
      have u1 : decide ((d.S.length : Int) < (d.S.length : Int)) = false := decide_eq_false (by omega)
      replace ow := Lib.hid ow
      replace xr := Lib.hid xr
      go_wp2_with fail
      go_ret
      exact ⟨A, c, rfl, ow.out, xr.out⟩
end Go.Proofs.Yteaoacinhdjkeaa
end

section
/-
  Slices whose elements have several cells: read. No conditions.
-/
namespace Go.Proofs.Yteaoacinhdjkeaa
open Go.ChangeShapes Go.WideShapes Go.ChangeAt Go.RowKit Go.Deep
set_option maxRecDepth 100000

/-- The slice reads as elements with the cells of K, s each. -/
def Cs (w : World) (s : Nat) (A : Option Addr) (n c : Nat) (K : List (List Value)) : Prop :=
  (K.length = n ∧ (∀ x ∈ K, x.length = s)) ∧ (n ≤ c ∧ c ≤ maxLen) ∧ (0 < n → ∃ b off, A = some ⟨b, off, none⟩ ∧ b < w.heap.size ∧ ∀ q v, K.flatten[q]? = some v → w.cell? ⟨b, off + q, none⟩ = some v)
section
variable {w w' : World} {s : Nat} {A : Option Addr} {n c : Nat} {K : List (List Value)}
theorem Cs.ext (h : Cs w s A n c K) (e : Ext w w') : Cs w' s A n c K := ⟨h.1, h.2.1, fun h0 => by
  obtain ⟨b, off, hA, hb, hc⟩ := h.2.2 h0
  exact ⟨b, off, hA, Nat.lt_of_lt_of_le hb e.size, fun q v hq => (e.cell hb).trans (hc q v hq)⟩⟩
theorem flatten_len {α : Type} {s : Nat} : ∀ {L : List (List α)}, (∀ x ∈ L, x.length = s) → L.flatten.length = L.length * s
  | [], _ => by simp
  | x :: L, h => by
    rw [List.flatten_cons, List.length_append, h x (List.mem_cons_self ..), flatten_len fun y hy => h y (List.mem_cons_of_mem _ hy), List.length_cons, Nat.add_mul]
    omega
theorem OwnC.cs {B : Nat} {e : TypeId} (h : OwnC B w e s A n c K) : Cs w s A n c K := by
  refine ⟨⟨h.2.2, h.2.1⟩, h.cap, fun h0 => ?_⟩
  obtain ⟨b, hA, hb, _, hc⟩ := h.cells h0
  exact ⟨b, 0, hA, hb, fun q v hq => by rw [Nat.zero_add]; exact hc q v hq⟩
/-- Cell i of element j. -/
theorem Cs.at (h : Cs w s A n c K) {j : Nat} (hj : j < n) : ∃ b off, A = some ⟨b, off, none⟩ ∧ b < w.heap.size ∧ ∀ i v, (K.getD j [])[i]? = some v → w.cell? ⟨b, off + j * s + i, none⟩ = some v := by
  obtain ⟨b, off, hA, hb, hc⟩ := h.2.2 (by omega)
  refine ⟨b, off, hA, hb, fun i v hi => ?_⟩
  have hl : (K.getD j []).length = s := by
    have q : j < K.length := by rw [h.1.1]; exact hj
    rw [List.getD_eq_getElem?_getD, List.getElem?_eq_getElem q]
    exact h.1.2 _ (List.getElem_mem q)
  have his : i < s := by rw [← hl]; exact (List.getElem?_eq_some_iff.1 hi).1
  rw [Nat.add_assoc]
  exact hc _ _ ((flat_at h.1.2 (by rw [h.1.1]; exact hj) his).trans hi)
theorem Cs.take (h : Cs w s A n c K) {k : Nat} (hk : k ≤ n) : Cs w s A k c (K.take k) := by
  have h2 := h.2.1
  refine ⟨⟨by rw [List.length_take, h.1.1]; omega, fun x hx => h.1.2 x (List.mem_of_mem_take hx)⟩, ⟨by omega, h2.2⟩, fun h0 => ?_⟩
  obtain ⟨b, off, hA, hb, hc⟩ := h.2.2 (by omega)
  refine ⟨b, off, hA, hb, fun q v hq => hc q v ?_⟩
  have e : K.flatten = (K.take k).flatten ++ (K.drop k).flatten := by rw [← List.flatten_append, List.take_append_drop]
  rw [e, List.getElem?_append_left (List.getElem?_eq_some_iff.1 hq).1]
  exact hq
end
end Go.Proofs.Yteaoacinhdjkeaa
end

section
/-
  Slices whose elements have several cells: cut, appended. No conditions.
-/
namespace Go.Proofs.Yteaoacinhdjkeaa
open Go.ChangeShapes Go.WideShapes Go.ChangeAt Go.RowKit Go.Deep
set_option maxRecDepth 100000

section
variable {w w' : World} {s : Nat} {A : Option Addr} {n c : Nat} {K : List (List Value)}
theorem add_at {b off k : Nat} : (some (⟨b, off, none⟩ : Addr)).map (·.add k) = some ⟨b, off + k, none⟩ := by
  by_cases hk0 : k = 0
  · subst hk0; simp [Addr.add]
  · simp [Addr.add, hk0]
theorem Cs.cut (h : Cs w s A n c K) {k : Nat} (hk : k ≤ n) : Cs w s (if c = k then A else A.map (·.add (k * s))) (n - k) (c - k) (K.drop k) := by
  have h2 := h.2.1
  refine ⟨⟨by rw [List.length_drop, h.1.1], fun x hx => h.1.2 x (List.mem_of_mem_drop hx)⟩, ⟨by omega, by omega⟩, fun h0 => ?_⟩
  obtain ⟨b, off, rfl, hb, hc⟩ := h.2.2 (by omega)
  rw [if_neg (by omega)]
  refine ⟨b, off + k * s, add_at, hb, fun q v hq => ?_⟩
  rw [Nat.add_assoc]
  refine hc _ v ?_
  have e : K.flatten = (K.take k).flatten ++ (K.drop k).flatten := by rw [← List.flatten_append, List.take_append_drop]
  have l : (K.take k).flatten.length = k * s := by rw [flatten_len fun x hx => h.1.2 x (List.mem_of_mem_take hx), List.length_take, h.1.1, Nat.min_eq_left hk]
  rw [e, List.getElem?_append_right (by omega), l, Nat.add_sub_cancel_left]
  exact hq
end
theorem append_cc {P : Program} {w : World} {B : Nat} {t e ty : TypeId} {s bytes : Nat} {z : Value} (ht : P.underlying t = some (.slice e)) (hinfo : (P.info? e).map (fun i => (i.zero, i.size, i.bytes)) = some (some z, s, bytes)) (hzs : z.cells.size = s) (s0 : 0 < s) (hbytes : bytes ≤ 1000000)
    {A A' : Option Addr} {n c m c' : Nat} {L K : List (List Value)} (h : OwnC B w e s A n c L) (hr : Cs w s A' m c' K) (h1 : ∀ x ∈ K, ∀ u ∈ x, u.oneCell' = true) (hm : n + m ≤ 1000) (hB : B ≤ w.heap.size) :
    ∃ A'' c'' w', (Builtin.append_ #[t, t] ty #[.slice A n c, .slice A' m c']).run P w = .ok (.slice A'' (n + m) c'') w' ∧ OwnC B w' e s A'' (n + m) c'' (L ++ K) ∧ w.grownBy w' (Value.ownBlock (.slice A n c)) ∧ (Value.ownBlock (.slice A'' (n + m) c'') = Value.ownBlock (.slice A n c) ∨ Value.ownBlock (.slice A'' (n + m) c'') = some w.heap.size) := by
  obtain ⟨i, hi, hz0, hz1, hz2⟩ := info_parts hinfo
  have hl2 : (∀ x ∈ L ++ K, x.length = s) ∧ (L ++ K).length = n + m := ⟨fun x hx => by
    rcases List.mem_append.1 hx with q | q
    · exact h.2.1 x q
    · exact hr.1.2 x q, by rw [List.length_append, h.2.2, hr.1.1]⟩
  rcases A' with _ | a
  · have hm0 : m = 0 := by
      rcases Nat.eq_zero_or_pos m with h0 | h0
      · exact h0
      · obtain ⟨b, off, e, _⟩ := hr.2.2 h0
        cases e
    subst hm0
    have hK : K = [] := List.eq_nil_of_length_eq_zero hr.1.1
    subst hK
    refine ⟨A, c, w, ?_, by simpa using h, ⟨rfl, rfl, rfl, Nat.le_refl _, fun _ _ _ => rfl⟩, .inl rfl⟩
    rcases h.1.2 with ⟨hv, hn⟩ | ⟨g, cap, cur, hv, _, _, hnc, _⟩
    · rw [hv]
      subst hn
      injection hv with _ _ h3
      subst h3
      simp [Builtin.append_, run_underlying ht, sizeOf, typeInfo, hi, Builtin.lenOf, Builtin.firstCells]
      exact Eq.symm ‹A = none›
    · rw [hv]
      injection hv with _ _ h3
      subst h3
      simp [Builtin.append_, run_underlying ht, sizeOf, typeInfo, hi, Builtin.lenOf, Builtin.firstCells, hnc, storeCells]
      exact Eq.symm ‹A = some _›
  · obtain ⟨v', w', hrun, hown, hgr, _, how⟩ := run_append_own_at (P := P) w B t ty e i z s bytes ht hi hz0 hz1 hz2 hzs s0 (.slice A n c) n L.flatten h.1 a m c' K.flatten (by rw [flatten_len hr.1.2, hr.1.1]) (fun j u hu => by
      have h0 : 0 < m := by
        rcases Nat.eq_zero_or_pos m with q | q
        · rw [List.eq_nil_of_length_eq_zero (hr.1.1.trans q)] at hu; simp at hu
        · exact q
      obtain ⟨b, off, e1, hb, hc⟩ := hr.2.2 h0
      injection e1 with e1
      subst e1
      have hadd : (⟨b, off, none⟩ : Addr).add j = ⟨b, off + j, none⟩ := by unfold Addr.add; split <;> simp_all
      rw [hadd]
      exact hc j u hu) (fun u hu => by
      obtain ⟨x, hx, hux⟩ := List.mem_flatten.1 hu
      exact h1 x hx u hux) (by unfold maxLen; omega) (by
      have : (n + m) * bytes ≤ 1000 * 1000000 := Nat.mul_le_mul (by omega) hbytes
      omega) hB
    rw [← List.flatten_append] at hown
    have hform : ∃ A'' c'', v' = .slice A'' (n + m) c'' := by
      rcases hown.2 with ⟨hv, hn⟩ | ⟨g', cap, cur, hv, _⟩
      · exact ⟨none, 0, by rw [hv, hn]⟩
      · exact ⟨_, _, hv⟩
    obtain ⟨A'', c'', rfl⟩ := hform
    exact ⟨A'', c'', w', hrun, ⟨hown, hl2⟩, hgr, how⟩
theorem wp_append_cc {P : Program} {w : World} {o : Oper} {a : Act} {H : Act → World → Prop} {Q : Exit → Act → World → Prop} {B : Nat} {t e : TypeId} {s bytes : Nat} {z : Value} (ht : P.underlying t = some (.slice e)) (hinfo : (P.info? e).map (fun i => (i.zero, i.size, i.bytes)) = some (some z, s, bytes)) (hzs : z.cells.size = s) (s0 : 0 < s) (hbytes : bytes ≤ 1000000)
    {A A' : Option Addr} {n c m c' : Nat} {L K : List (List Value)} {x y : Operand} (ho : o.op = .call { callee := .builtin .append, args := #[x, y], argTypes := #[t, t] }) (hx : a.eval x = .slice A n c) (hy : a.eval y = .slice A' m c')
    (h : OwnC B w e s A n c L) (hr : Cs w s A' m c' K) (h1 : ∀ x ∈ K, ∀ u ∈ x, u.oneCell' = true) (hm : n + m ≤ 1000) (hB : B ≤ w.heap.size)
    (hK : ∀ A'' c'' w', OwnC B w' e s A'' (n + m) c'' (L ++ K) → w.grownBy w' (Value.ownBlock (.slice A n c)) → Below B w w' → H (a.put o.dst (.slice A'' (n + m) c'')) w') : o.wp P a w H Q := by
  obtain ⟨A'', c'', w', hrun, h2, h3, _⟩ := append_cc (ty := o.type) ht hinfo hzs s0 hbytes h hr h1 hm hB
  unfold Oper.wp execOp
  simp only [ho, resolve, invoke, builtin, Sem.run_bind, Sem.run_pure, Result.andThen_ok, List.map_toArray, List.map_cons, List.map_nil, hx, hy, hrun]
  exact hK A'' c'' w' h2 h3 ((Below.refl B w).grown h3 hB h.ge)
theorem wp_append_cc2 {P : Program} {w : World} {o : Oper} {a : Act} {H : Act → World → Prop} {Q : Exit → Act → World → Prop} {B : Nat} {t e : TypeId} {s bytes : Nat} {z : Value} (ht : P.underlying t = some (.slice e)) (hinfo : (P.info? e).map (fun i => (i.zero, i.size, i.bytes)) = some (some z, s, bytes)) (hzs : z.cells.size = s) (s0 : 0 < s) (hbytes : bytes ≤ 1000000)
    {A A' : Option Addr} {n c m c' : Nat} {L K : List (List Value)} {x y : Operand} (ho : o.op = .call { callee := .builtin .append, args := #[x, y], argTypes := #[t, t] }) (hx : a.eval x = .slice A n c) (hy : a.eval y = .slice A' m c')
    (h : OwnC B w e s A n c L) (hr : Cs w s A' m c' K) (h1 : ∀ x ∈ K, ∀ u ∈ x, u.oneCell' = true) (hm : n + m ≤ 1000) (hB : B ≤ w.heap.size)
    (hK : ∀ A'' c'' w', OwnC B w' e s A'' (n + m) c'' (L ++ K) → w.grownBy w' (Value.ownBlock (.slice A n c)) → Below B w w' → (Value.ownBlock (.slice A'' (n + m) c'') = Value.ownBlock (.slice A n c) ∨ Value.ownBlock (.slice A'' (n + m) c'') = some w.heap.size) → H (a.put o.dst (.slice A'' (n + m) c'')) w') : o.wp P a w H Q := by
  obtain ⟨A'', c'', w', hrun, h2, h3, h4⟩ := append_cc (ty := o.type) ht hinfo hzs s0 hbytes h hr h1 hm hB
  unfold Oper.wp execOp
  simp only [ho, resolve, invoke, builtin, Sem.run_bind, Sem.run_pure, Result.andThen_ok, List.map_toArray, List.map_cons, List.map_nil, hx, hy, hrun]
  exact hK A'' c'' w' h2 h3 ((Below.refl B w).grown h3 hB h.ge) h4
theorem wpList_append_cc {P : Program} {w : World} {ops : Array Oper} {rest : List Oper} {o : Oper} {a : Act} {Q : Exit → Act → World → Prop} (hgd : o.guard = none) {B : Nat} {t e : TypeId} {s bytes : Nat} {z : Value} (ht : P.underlying t = some (.slice e)) (hinfo : (P.info? e).map (fun i => (i.zero, i.size, i.bytes)) = some (some z, s, bytes)) (hzs : z.cells.size = s) (s0 : 0 < s) (hbytes : bytes ≤ 1000000)
    {A A' : Option Addr} {n c m c' : Nat} {L K : List (List Value)} {x y : Operand} (ho : o.op = .call { callee := .builtin .append, args := #[x, y], argTypes := #[t, t] }) (hx : a.eval x = .slice A n c) (hy : a.eval y = .slice A' m c')
    (h : OwnC B w e s A n c L) (hr : Cs w s A' m c' K) (h1 : ∀ x ∈ K, ∀ u ∈ x, u.oneCell' = true) (hm : n + m ≤ 1000) (hB : B ≤ w.heap.size)
    (hK : ∀ A'' c'' w', OwnC B w' e s A'' (n + m) c'' (L ++ K) → w.grownBy w' (Value.ownBlock (.slice A n c)) → Below B w w' → wpList P ops Q rest (a.put o.dst (.slice A'' (n + m) c'')) w') : wpList P ops Q (o :: rest) a w :=
  wpList_plain hgd fun _ hK' => wp_append_cc ht hinfo hzs s0 hbytes ho hx hy h hr h1 hm hB fun A'' c'' w' h2 h3 h4 => hK' _ _ (hK A'' c'' w' h2 h3 h4)
/-- A slice of one element that is laid. -/
theorem cs_one {w : World} {g : Nat} {T : TypeId} {L : List Value} (h : Cb w g T L) : Cs w L.length (some ⟨g, 0, none⟩) 1 1 [L] :=
  ⟨⟨rfl, fun x hx => by rw [List.mem_singleton.1 hx]⟩, ⟨Nat.le_refl _, by unfold maxLen; omega⟩, fun _ => ⟨g, 0, rfl, h.lt, fun q v hq => by
    rw [Nat.zero_add]
    exact h.cell (by simpa using hq)⟩⟩
theorem wp_slice_c {P : Program} {w : World} {o : Oper} {a : Act} {H : Act → World → Prop} {Q : Exit → Act → World → Prop} {t e : TypeId} {s bytes : Nat} {z : Value} (ht : P.underlying t = some (.slice e)) (hinfo : (P.info? e).map (fun i => (i.zero, i.size, i.bytes)) = some (some z, s, bytes)) (hzs : z.cells.size = s) (s0 : 0 < s) (s1 : s ≤ 1000000)
    {cs : List Value} {x : Operand} (hk : cs.length = s)
    (ho : o.op = .buildSlice t 1 #[(0, x)]) (hx : (a.eval x).cells = cs.toArray)
    (h : H (a.put o.dst (.slice (some ⟨w.heap.size, 0, none⟩) 1 1)) (w.alloc (.cells cs.toArray e))) : o.wp P a w H Q := by
  obtain ⟨i, hi, hz0, hz1, hz2⟩ := info_parts hinfo
  have hfill := Great.fill_whole (s := s) s0 [a.eval x] ((Array.range (1 * s)).map (z.cells[· % z.cells.size]!)) (fun v hv => by
    simp only [List.mem_singleton] at hv
    subst hv
    rw [hx]
    simpa using hk) (by simp)
  simp only [List.zipIdx_cons, List.zipIdx_nil, List.map_cons, List.map_nil, List.flatMap_cons, List.flatMap_nil, List.append_nil, hx] at hfill
  refine wp_buildSlice t e 1 _ ho cs.toArray i _ ht hi hz0 (by rw [hz1]; omega) (by rw [hz1]; omega) ?_ h
  rw [hz1]
  simp only [List.map_toArray, List.map_cons, List.map_nil]
  exact hfill

/-- 's[k:]', 's[:k]'. -/
theorem exec_fromC {w : World} {t e : TypeId} {s : Nat} (ht : Try.prog.underlying t = some (.slice e)) (hs : (Try.prog.info? e).map (·.size) = some s) {o : Oper} {a : Act} {x lo : Operand} {A : Option Addr} {n c k : Nat} {kd : IntKind} (ho : o.op = .slice t x (some lo) none none) (hx : a.eval x = .slice A n c) (hl : a.eval lo = .int kd (k : Int)) (hk : k ≤ n) (hnc : n ≤ c) :
    (execOp a.eval o).run Try.prog w = .ok (.value (.slice (if c = k then A else A.map (·.add (k * s))) (n - k) (c - k))) w := by
  obtain ⟨dst, op, ty, pos, af, gd⟩ := o
  simp only at ho
  subst ho
  obtain ⟨i, hi', hsz⟩ := Option.map_eq_some_iff.1 hs
  have q1 : (k : Int) ≤ (n : Int) := by omega
  simp only [execOp, hx, hl, Option.map, Instr.sliceAt]
  go_simp
  simp [Instr.slice, run_underlying ht, Instr.sliceBounds, Instr.sliceBound, asIntOf, sizeOf, typeInfo, hi', hsz]
  rw [if_pos hk]
  cases A <;> rfl
theorem exec_toC {w : World} {t e : TypeId} {s : Nat} (ht : Try.prog.underlying t = some (.slice e)) (hs : (Try.prog.info? e).map (·.size) = some s) {o : Oper} {a : Act} {x hi : Operand} {A : Option Addr} {n c k : Nat} {kd : IntKind} (ho : o.op = .slice t x none (some hi) none) (hx : a.eval x = .slice A n c) (hl : a.eval hi = .int kd (k : Int)) (hk : k ≤ c) :
    (execOp a.eval o).run Try.prog w = .ok (.value (.slice A k c)) w := by
  obtain ⟨dst, op, ty, pos, af, gd⟩ := o
  simp only at ho
  subst ho
  obtain ⟨i, hi', hsz⟩ := Option.map_eq_some_iff.1 hs
  have q1 : (k : Int) ≤ (c : Int) := by omega
  have q2 : (if c = 0 then A else A.map (·.add 0)) = A := by
    split
    · rfl
    · cases A <;> simp [Addr.add]
  simp only [execOp, hx, hl, Option.map, Instr.sliceAt]
  go_simp
  simp [Instr.slice, run_underlying ht, Instr.sliceBounds, Instr.sliceBound, asIntOf, sizeOf, typeInfo, hi', hsz]
  rw [if_pos hk, q2]
end Go.Proofs.Yteaoacinhdjkeaa
end
