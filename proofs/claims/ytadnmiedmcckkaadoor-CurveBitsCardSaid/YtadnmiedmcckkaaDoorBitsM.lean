/-
  Bits of a secret, and the highest of a public key, that do not count. Plain mathematics; no conditions.
-/
import Derived.Test.YtadnmiedmcckkaaDoorLadN
import Derived.Test.YtadnmiedmcckkaaDoorFldBack
namespace Go.Proofs.YtadnmiedmcckkaaDoor
open Go.ChangeShapes Go.WideShapes Go.ChangeAt Go.RowKit Go.Deep
set_option maxRecDepth 100000

theorem nat_u8 {a : Int} (h : (Lit.int .u8 a).wf = true) : ∃ z : Nat, a = (z : Int) ∧ z < 256 := by
  have hb : 0 ≤ a ∧ a ≤ 255 := by simpa [Lit.wf, IntKind.min, IntKind.max, IntKind.signed, IntKind.bits] using h
  exact ⟨a.toNat, by omega, by omega⟩
theorem ladN_congr {x : Nat} {f g : Nat → Bool} : ∀ m, (∀ j, j < m → f j = g j) → ladN x f m = ladN x g m
  | 0, _ => rfl
  | m + 1, h => by
    show swapN (f m) (stepN x (swapN (f m) (ladN x f m))) = swapN (g m) (stepN x (swapN (g m) (ladN x g m)))
    rw [h m (Nat.lt_succ_self m), ladN_congr m fun j hj => h j (by omega)]
theorem multN_congr {ks ls : List UInt8} (x : Nat) (h : ∀ i, i ≤ 254 → bitB ks i = bitB ls i) : multN ks x = multN ls x := by
  unfold multN
  rw [ladN_congr 255 fun j hj => h (254 - j) (by omega)]
theorem btS {xs : List UInt8} {i j x : Nat} (hi : i < xs.length) (hx : x < 256) : bt (xs.set i (UInt8.ofNat x)) j = if j = i then x else bt xs j := by
  unfold bt
  by_cases e : j = i
  · subst e; simp [List.getD, hi]; omega
  · rw [if_neg e]; simp [List.getD, List.getElem?_set, show ¬ i = j from fun q => e q.symm]
theorem mixLow (x n : Nat) {i : Nat} (h3 : 3 ≤ i) (h8 : i < 8) : ((x &&& 248) ||| (n &&& 7)) / 2 ^ i % 2 = x / 2 ^ i % 2 := by
  have e : ∀ y, y / 2 ^ i % 2 = (y.testBit i).toNat := fun y => by rw [Nat.testBit_eq_decide_div_mod_eq]; rcases Nat.mod_two_eq_zero_or_one (y / 2 ^ i) with q | q <;> simp [q]
  rw [e, e, Nat.testBit_or, Nat.testBit_and, Nat.testBit_and]
  have : i = 3 ∨ i = 4 ∨ i = 5 ∨ i = 6 ∨ i = 7 := by omega
  rcases this with rfl | rfl | rfl | rfl | rfl <;> simp [show Nat.testBit 248 3 = true from rfl, show Nat.testBit 248 4 = true from rfl, show Nat.testBit 248 5 = true from rfl, show Nat.testBit 248 6 = true from rfl, show Nat.testBit 248 7 = true from rfl, show Nat.testBit 7 3 = false from rfl, show Nat.testBit 7 4 = false from rfl, show Nat.testBit 7 5 = false from rfl, show Nat.testBit 7 6 = false from rfl, show Nat.testBit 7 7 = false from rfl]
theorem mixHigh (x n : Nat) {i : Nat} (h6 : i < 6) : ((x &&& 63) ||| (n &&& 192)) / 2 ^ i % 2 = x / 2 ^ i % 2 := by
  have e : ∀ y, y / 2 ^ i % 2 = (y.testBit i).toNat := fun y => by rw [Nat.testBit_eq_decide_div_mod_eq]; rcases Nat.mod_two_eq_zero_or_one (y / 2 ^ i) with q | q <;> simp [q]
  rw [e, e, Nat.testBit_or, Nat.testBit_and, Nat.testBit_and]
  have : i = 0 ∨ i = 1 ∨ i = 2 ∨ i = 3 ∨ i = 4 ∨ i = 5 := by omega
  rcases this with rfl | rfl | rfl | rfl | rfl | rfl <;> simp [show Nat.testBit 63 0 = true from rfl, show Nat.testBit 63 1 = true from rfl, show Nat.testBit 63 2 = true from rfl, show Nat.testBit 63 3 = true from rfl, show Nat.testBit 63 4 = true from rfl, show Nat.testBit 63 5 = true from rfl, show Nat.testBit 192 0 = false from rfl, show Nat.testBit 192 1 = false from rfl, show Nat.testBit 192 2 = false from rfl, show Nat.testBit 192 3 = false from rfl, show Nat.testBit 192 4 = false from rfl, show Nat.testBit 192 5 = false from rfl]
def lowB (x n : Nat) : Nat := (x &&& 248) ||| (n &&& 7)
def highB (x n : Nat) : Nat := (x &&& 63) ||| (n &&& 192)
theorem lowB_lt {x n : Nat} (hx : x < 256) (hn : n < 256) : lowB x n < 256 := Nat.or_lt_two_pow (n := 8) (Nat.lt_of_le_of_lt Nat.and_le_left hx) (Nat.lt_of_le_of_lt Nat.and_le_left hn)
theorem highB_lt {x n : Nat} (hx : x < 256) (hn : n < 256) : highB x n < 256 := Nat.or_lt_two_pow (n := 8) (Nat.lt_of_le_of_lt Nat.and_le_left hx) (Nat.lt_of_le_of_lt Nat.and_le_left hn)
def mixS (ks : List UInt8) (n : Nat) : List UInt8 := (ks.set 0 (UInt8.ofNat (lowB (bt ks 0) n))).set 31 (UInt8.ofNat (highB (bt ks 31) n))
theorem mixS_len {ks : List UInt8} (h : ks.length = 32) (n : Nat) : (mixS ks n).length = 32 := by simp [mixS, h]
theorem mult_mixS {ks : List UInt8} (h : ks.length = 32) {n : Nat} (hn : n < 256) (x : Nat) : multN (mixS ks n) x = multN ks x := by
  refine multN_congr x fun i hi => ?_
  unfold bitB
  by_cases a : i < 3 ∨ i = 255
  · rw [if_pos a, if_pos a]
  · rw [if_neg a, if_neg a]
    by_cases b : i = 254
    · rw [if_pos b, if_pos b]
    · rw [if_neg b, if_neg b]
      congr 2
      have hm := Nat.mod_lt i (show 0 < 8 by decide)
      have hd := Nat.div_add_mod i 8
      unfold mixS
      rw [btS (by simp [h]) (highB_lt (bt_lt ks 31) hn), btS (by simp [h]) (lowB_lt (bt_lt ks 0) hn)]
      by_cases c : i / 8 = 31
      · rw [if_pos c, c, highB, mixHigh _ _ (by omega)]
      · rw [if_neg c]
        by_cases d : i / 8 = 0
        · rw [if_pos d, d, lowB, mixLow _ _ (by omega) hm]
        · rw [if_neg d]
theorem ofV_top {ks ls : List UInt8} (h : ∀ j, j < 31 → bt ks j = bt ls j) (h31 : bt ks 31 % 128 = bt ls 31 % 128) : ofV ks = ofV ls := by
  have e : ∀ i, i ≤ 31 → ofN ks i = ofN ls i := by
    intro i
    induction i with
    | zero => intro _; rfl
    | succ i ih => intro hi; rw [ofN, ofN, ih (by omega), h i (by omega)]
  have key : ∀ xs : List UInt8, ofN xs 32 % H8 = (ofN xs 31 + bt xs 31 % 128 * 256 ^ 31) % H8 := fun xs => by
    have h8 : H8 = 128 * 256 ^ 31 := by decide +kernel
    rw [show ofN xs 32 = ofN xs 31 + bt xs 31 * 256 ^ 31 from rfl, h8]
    have hd := Nat.div_add_mod (bt xs 31) 128
    generalize bt xs 31 % 128 = r at *
    generalize bt xs 31 / 128 = q at *
    rw [← hd]
    generalize (256 : Nat) ^ 31 = M
    rw [Nat.add_mul, show 128 * q * M = 128 * M * q by rw [Nat.mul_assoc, Nat.mul_comm q, Nat.mul_assoc], show ofN xs 31 + (128 * M * q + r * M) = (ofN xs 31 + r * M) + 128 * M * q by omega, Nat.add_mul_mod_self_left]
  show ofN ks 32 % H8 % P25 = ofN ls 32 % H8 % P25
  rw [key, key, e 31 (Nat.le_refl _), h31]
def flipT (ks : List UInt8) : List UInt8 := ks.set 31 (UInt8.ofNat (bt ks 31 ^^^ 128))
theorem xor128 : ∀ x, x < 256 → x ^^^ 128 < 256 ∧ (x ^^^ 128) % 128 = x % 128 := by decide +kernel
theorem flipT_len {ks : List UInt8} (h : ks.length = 32) : (flipT ks).length = 32 := by simp [flipT, h]
theorem ofV_flipT {ks : List UInt8} (h : ks.length = 32) : ofV (flipT ks) = ofV ks := by
  obtain ⟨x1, x2⟩ := xor128 _ (bt_lt ks 31)
  refine ofV_top (fun j hj => ?_) ?_
  · unfold flipT; rw [btS (by omega) x1, if_neg (by omega)]
  · unfold flipT; rw [btS (by omega) x1, if_pos rfl]; exact x2
theorem kL_top {x : Nat} (h : x < P25) : bt (kL x) 31 < 128 := by
  rw [bt_kL_div (by decide)]
  have h2 : x < 128 * 256 ^ 31 := Nat.lt_of_lt_of_le h (by decide +kernel)
  have : x / 256 ^ 31 < 128 := (Nat.div_lt_iff_lt_mul (Nat.pow_pos (by decide))).mpr h2
  omega
theorem kL_nil : kL 0 = List.replicate 32 0 := by decide +kernel
theorem ofV_nil : ofV (List.replicate 32 0) = 0 := by decide +kernel
end Go.Proofs.YtadnmiedmcckkaaDoor
