import Derived.Test.YteaoacinhdjkeaaLowB
import Derived.Test.YteaoacinhdjkeaaJrAll
import Derived.Test.YteaoacinhdjkeaaJrA
section
/-
  Numbers as bytes, and back: plain mathematics.
-/
namespace Go.Proofs.Yteaoacinhdjkeaa
open Go.ChangeShapes Go.WideShapes Go.ChangeAt Go.RowKit Go.Deep

def numN (xs : List UInt8) (k : Nat) : Nat := ofLowL (xs.take k).reverse
theorem ofLowL_lowL : ∀ (m n : Nat), ofLowL (lowL n m) = n % 256 ^ m
  | 0, n => by simp [lowL, ofLowL, Nat.mod_one]
  | m + 1, n => by
    have h : lowL n (m + 1) = UInt8.ofNat n :: lowL (n / 256) m := by
      unfold lowL
      rw [List.range_succ_eq_map, List.map_cons, List.map_map]
      congr 1
      · simp
      · apply List.map_congr_left
        intro k _
        simp only [Function.comp, Nat.succ_eq_add_one]
        rw [Nat.pow_succ, Nat.mul_comm, Nat.div_div_eq_div_mul]
    have hp : 256 ^ (m + 1) = 256 * 256 ^ m := (Nat.pow_succ 256 m).trans (Nat.mul_comm _ _)
    rw [h, ofLowL, ofLowL_lowL m (n / 256), UInt8.toNat_ofNat', hp, Nat.mod_mul]
theorem lowL_ofLowL : ∀ (xs : List UInt8), lowL (ofLowL xs) xs.length = xs
  | [] => rfl
  | x :: r => by
    have h : ∀ n m, lowL n (m + 1) = UInt8.ofNat n :: lowL (n / 256) m := fun n m => by
      unfold lowL
      rw [List.range_succ_eq_map, List.map_cons, List.map_map]
      congr 1
      · simp
      · apply List.map_congr_left
        intro k _
        simp only [Function.comp, Nat.succ_eq_add_one]
        rw [Nat.pow_succ, Nat.mul_comm, Nat.div_div_eq_div_mul]
    have hx := x.toNat_lt
    rw [List.length_cons, h]
    have e1 : ofLowL (x :: r) = x.toNat + 256 * ofLowL r := rfl
    rw [e1, show (x.toNat + 256 * ofLowL r) / 256 = ofLowL r by omega, lowL_ofLowL r]
    congr 1
    apply UInt8.toNat_inj.1
    rw [UInt8.toNat_ofNat']
    omega
theorem numN_high {n m : Nat} {r : List UInt8} (hn : n < 256 ^ m) : numN ((lowL n m).reverse ++ r) m = n := by
  unfold numN
  rw [List.take_left' (by rw [List.length_reverse, lowL_len]), List.reverse_reverse, ofLowL_lowL, Nat.mod_eq_of_lt hn]
theorem high_numN {xs : List UInt8} {m : Nat} (h : m ≤ xs.length) : (lowL (numN xs m) m).reverse = xs.take m := by
  unfold numN
  have hl : (xs.take m).reverse.length = m := by rw [List.length_reverse, List.length_take]; omega
  have := lowL_ofLowL (xs.take m).reverse
  rw [hl] at this
  rw [this, List.reverse_reverse]
end Go.Proofs.Yteaoacinhdjkeaa
end

section
/-
  The journal's mathematics: what a sector of a record reads as; a disk that holds records.
-/
namespace Go.Proofs.Yteaoacinhdjkeaa
open Go.ChangeShapes Go.WideShapes Go.ChangeAt Go.RowKit Go.Deep Go.Maps
set_option maxRecDepth 100000

theorem rep_add22 {n : Nat} (h : n ≤ 59) : List.replicate 59 (0 : UInt8) = List.replicate n 0 ++ List.replicate (59 - n) 0 := by
  rw [List.replicate_append_replicate]
  congr 1
  omega
theorem secL_eq {i : Nat} {xs : List UInt8} (h : xs.length ≤ 59) : secL i xs = ((lowL (i + 1) 4).reverse ++ [UInt8.ofNat xs.length]) ++ (xs ++ List.replicate (59 - xs.length) 0) := by
  have h4 : ((lowL (i + 1) 4).reverse).length = 4 := by rw [List.length_reverse, lowL_len]
  unfold secL
  rw [show List.replicate 64 (0 : UInt8) = List.replicate 4 0 ++ ([0] ++ List.replicate 59 0) from rfl, splice_zero (by rw [h4]; rfl), splice_mid h4 (by rfl), ← List.append_assoc,
    show List.replicate 59 (0 : UInt8) = List.replicate xs.length 0 ++ List.replicate (59 - xs.length) 0 from rep_add22 h]
  exact splice_mid (by simp [h4]) (by simp)
theorem bt_app_r {xs ys : List UInt8} {j : Nat} : bt (xs ++ ys) (xs.length + j) = bt ys j := by
  unfold bt
  rw [List.getD_eq_getElem?_getD, List.getD_eq_getElem?_getD, List.getElem?_append_right (by omega)]
  congr 3
  omega
theorem recL_sec {i : Nat} {xs : List UInt8} (h : xs.length ≤ 59) (hi : i < 4294967295) : recL i (secL i xs) = some xs := by
  have h4 : ((lowL (i + 1) 4).reverse).length = 4 := by rw [List.length_reverse, lowL_len]
  have e := secL_eq (i := i) h
  have t4 : (secL i xs).take 4 = (lowL (i + 1) 4).reverse := by rw [e, List.append_assoc, List.take_left' h4]
  have d5 : (secL i xs).drop 5 = xs ++ List.replicate (59 - xs.length) 0 := by rw [e]; exact List.drop_left' (by simp [h4])
  have b4 : bt (secL i xs) 4 = xs.length := by
    rw [e, List.append_assoc]
    have := bt_app_r (xs := (lowL (i + 1) 4).reverse) (ys := [UInt8.ofNat xs.length] ++ (xs ++ List.replicate (59 - xs.length) 0)) (j := 0)
    rw [h4] at this
    rw [show (4 : Nat) = 4 + 0 from rfl, this]
    simp [bt]
    omega
  unfold recL
  rw [t4, b4, d5, List.reverse_reverse, List.take_left' rfl]
  rw [if_pos]
  refine ⟨?_, h, fun j hj => ?_⟩
  · rw [ofLowL_lowL]; exact Nat.mod_eq_of_lt (by omega)
  · have e5 : secL i xs = ((lowL (i + 1) 4).reverse ++ [UInt8.ofNat xs.length] ++ xs) ++ List.replicate (59 - xs.length) 0 := by rw [e]; simp
    have := bt_app_r (xs := ((lowL (i + 1) 4).reverse ++ [UInt8.ofNat xs.length] ++ xs)) (ys := List.replicate (59 - xs.length) 0) (j := j)
    rw [e5, show 5 + xs.length + j = ((lowL (i + 1) 4).reverse ++ [UInt8.ofNat xs.length] ++ xs).length + j by simp [h4]; omega, this]
    simp [bt, List.getD, hj]
theorem recL_nought (i : Nat) : recL i (List.replicate 64 0) = none := by
  unfold recL
  rw [if_neg]
  rintro ⟨h, _⟩
  have : ofLowL ((List.replicate 64 (0 : UInt8)).take 4).reverse = 0 := by decide
  omega

/-- A disk of m sectors that has power and no fuse, nothing pending: it holds just these records. -/
structure Hd22 (d : Ds) (m : Nat) (L : List (List UInt8)) : Prop where
  len : d.S.length = m
  hf : d.hf = false
  dd : d.dd = false
  le : L.length ≤ m
  sh : ∀ j, j < L.length → (L.getD j []).length ≤ 59
  rd : ∀ j, j < m → d.read (j : Int) = if j < L.length then secL j (L.getD j []) else List.replicate 64 0
section
variable {d : Ds} {m : Nat} {L : List (List UInt8)}
theorem Hd22.fails (h : Hd22 d m L) : d.fails = false := by unfold Ds.fails; rw [h.hf, h.dd]; rfl
theorem Hd22.burn (h : Hd22 d m L) : d.burn = d := by
  unfold Ds.burn
  rw [h.fails, if_neg (by decide), h.hf, if_neg (by decide)]
theorem Hd22.new (h : 1 ≤ m) : Hd22 (newD m) m [] := by
  refine ⟨by simp [newD], rfl, rfl, Nat.zero_le _, fun j hj => absurd hj (Nat.not_lt_zero _), fun j hj => ?_⟩
  unfold Ds.read
  rw [if_pos ⟨by omega, by simp [newD]; omega⟩, if_neg (show ¬ j < ([] : List (List UInt8)).length from Nat.not_lt_zero _), Int.toNat_natCast]
  show (none : Option (List UInt8)).getD ((List.replicate m (List.replicate 64 0)).getD j []) = _
  rw [Option.getD_none, List.getD_eq_getElem?_getD, List.getElem?_replicate, if_pos hj]
  rfl
theorem Hd22.recs (h : Hd22 d m L) (hm : m ≤ 64) : d.recs = L := by
  refine (Pre22.full ⟨by rw [h.len]; exact h.le, fun j hj => ?_⟩ ?_).symm
  · rw [h.rd j (Nat.lt_of_lt_of_le hj h.le), if_pos hj]
    exact recL_sec (h.sh j hj) (by have := h.le; omega)
  · by_cases q : L.length = m
    · left; rw [h.len]; exact q
    · right
      rw [h.rd _ (by have := h.le; omega), if_neg (Nat.lt_irrefl _)]
      exact recL_nought _
theorem Hd22.step (h : Hd22 d m L) {xs : List UInt8} (hx : xs.length ≤ 59) :
    d.jE L.length xs = (if m ≤ L.length then 8 else 0) ∧ Hd22 (d.jD L.length xs) m (d.jL L xs) ∧ d.jL L xs = (if m ≤ L.length then L else L ++ [xs]) := by
  by_cases q : m ≤ L.length
  · have e : d.jE L.length xs = 8 := by unfold Ds.jE; rw [if_neg (by omega), if_pos (by rw [h.len]; exact q)]
    have e2 : d.jD L.length xs = d := by unfold Ds.jD; rw [if_neg (by omega), if_pos (by rw [h.len]; exact q)]
    have e3 : d.jL L xs = L := by unfold Ds.jL; rw [e]; rfl
    rw [e, e2, e3, if_pos q, if_pos q]
    exact ⟨rfl, h, rfl⟩
  · have hin : 0 ≤ (L.length : Int) ∧ (L.length : Int) < (d.S.length : Int) := ⟨by omega, by rw [h.len]; omega⟩
    have hw : d.write (L.length : Int) (secL L.length xs) = d.put L.length (secL L.length xs) := by
      unfold Ds.write
      rw [if_pos hin, h.fails, if_neg (by decide), h.burn, Int.toNat_natCast]
    have hf : (d.put L.length (secL L.length xs)).fails = false := h.fails
    have hb : (d.put L.length (secL L.length xs)).burn = d.put L.length (secL L.length xs) := by
      unfold Ds.burn
      rw [hf, if_neg (by decide), show (d.put L.length (secL L.length xs)).hf = false from h.hf, if_neg (by decide)]
    have e : d.jE L.length xs = 0 := by unfold Ds.jE; rw [if_neg (by omega), if_neg (by rw [h.len]; exact q), h.fails, if_neg (by decide), hw, hf]; rfl
    have e2 : d.jD L.length xs = (d.put L.length (secL L.length xs)).flush := by unfold Ds.jD; rw [if_neg (by omega), if_neg (by rw [h.len]; exact q), h.fails, if_neg (by decide), hw, hf, if_neg (by decide), hb]
    have e3 : d.jL L xs = L ++ [xs] := by unfold Ds.jL; rw [e]; rfl
    rw [e, e2, e3, if_neg q, if_neg q]
    refine ⟨rfl, ⟨by simp [Ds.flush, Ds.put, h.len], h.hf, h.dd, by simp; omega, fun j hj => ?_, fun j hj => ?_⟩, rfl⟩
    · by_cases z : j < L.length
      · rw [List.getD_eq_getElem?_getD, List.getElem?_append_left z, ← List.getD_eq_getElem?_getD]; exact h.sh j z
      · obtain rfl : j = L.length := by simp at hj; omega
        simpa [List.getD] using hx
    · have r0 := h.rd j hj
      unfold Ds.read at r0 ⊢
      rw [if_pos ⟨by omega, by rw [h.len]; omega⟩, Int.toNat_natCast] at r0
      rw [if_pos ⟨by omega, by simp [Ds.flush, Ds.put, h.len]; omega⟩, Int.toNat_natCast]
      show (none : Option (List UInt8)).getD (((List.range d.S.length).map fun i => (if i = L.length then some (secL L.length xs) else d.N i).getD (d.S.getD i [])).getD j []) = _
      rw [Option.getD_none, List.getD_eq_getElem?_getD, List.getElem?_map, List.getElem?_range (by rw [h.len]; exact hj)]
      simp only [Option.map_some, Option.getD_some]
      by_cases z : j < L.length
      · rw [if_neg (by omega), r0, if_pos z, if_pos (by simp; omega)]
        congr 1
        rw [List.getD_eq_getElem?_getD, List.getD_eq_getElem?_getD, List.getElem?_append_left z]
      · by_cases z2 : j = L.length
        · subst z2
          rw [if_pos rfl, if_pos (by simp)]
          simp [List.getD]
        · rw [if_neg z2, r0, if_neg z, if_neg (by simp; omega)]
end
end Go.Proofs.Yteaoacinhdjkeaa
end
