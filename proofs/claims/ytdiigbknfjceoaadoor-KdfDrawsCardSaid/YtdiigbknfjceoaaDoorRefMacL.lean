/-
  The document's tag in closed form is that of package blake. No conditions.
-/
import Derived.Test.YtdiigbknfjceoaaDoorArrs
namespace Go.Proofs.YtdiigbknfjceoaaDoor

/-- The words behind the first i blocks. -/
def refAt (hs : List Nat) (xs : List UInt8) : Nat → List Nat
  | 0 => hs
  | i + 1 => compL (refAt hs xs i) ((xs.drop (64 * i)).take 64) (64 * (i + 1)) false
def preL (ks : List UInt8) : List UInt8 := if ks.length = 0 then [] else padL ks
def refMacL (n : Nat) (xs : List UInt8) : List UInt8 := bytesL (compL (refAt (h0L n) xs (fullB xs.length)) (padL (xs.drop (64 * fullB xs.length))) xs.length true)
theorem refAt_len {hs : List Nat} {xs : List UInt8} (h : hs.length = 8) : ∀ i, (refAt hs xs i).length = 8
  | 0 => h
  | i + 1 => compL_len _ _ _ _
theorem refAt_lt {hs : List Nat} {xs : List UInt8} (h : Lt32 hs) : ∀ i, 64 * i < 18446744073709551616 → Lt32 (refAt hs xs i)
  | 0, _ => h
  | i + 1, hi => (refAt_lt h i (by omega)).comp (by omega) _
theorem padL_full {xs : List UInt8} (h : xs.length = 64) : padL xs = xs := by unfold padL; rw [h]; simp
theorem refAt_hAt {hs : List Nat} {xs : List UInt8} : ∀ i, 64 * i ≤ xs.length → refAt hs xs i = hAt hs 0 xs i
  | 0, _ => rfl
  | i + 1, hi => by
    rw [refAt, hAt, refAt_hAt i (by omega), padL_full (by simp; omega), Nat.zero_add]
theorem refAt_two {hs : List Nat} {ps xs : List UInt8} (hp : ps.length = 64) : ∀ i, 64 * i ≤ xs.length → refAt hs (ps ++ xs) (i + 1) = hAt (compL hs ps 64 false) 64 xs i
  | 0, _ => by
    rw [refAt, refAt, hAt, Nat.mul_zero, List.drop_zero, List.take_left' hp]
  | i + 1, hi => by
    rw [refAt, refAt_two hp i (by omega), hAt, padL_full (by simp; omega)]
    congr 1
    · rw [List.drop_append, List.drop_of_length_le (by omega), List.nil_append, hp, show 64 * (i + 1) - 64 = 64 * i by omega]
    · omega
theorem ref_mac (ks bs : List UInt8) (hk : ks.length ≤ 64) : macL ks bs = refMacL ks.length (preL ks ++ bs) := by
  unfold macL preL refMacL
  by_cases h : ks.length = 0
  · simp only [if_pos h, List.nil_append]
    unfold macTail
    rw [h, refAt_hAt _ (by unfold fullB; omega), Nat.zero_add]
  · simp only [if_neg h]
    have hp := padL_len hk
    by_cases hb : bs.length = 0
    · obtain rfl := List.eq_nil_of_length_eq_zero hb
      simp only [List.length_nil, if_true, List.append_nil, hp, fullB, show (64 - 1) / 64 = 0 from rfl, Nat.mul_zero, List.drop_zero, refAt, padL_full hp]
    · rw [if_neg hb]
      have hF : fullB (padL ks ++ bs).length = fullB bs.length + 1 := by rw [List.length_append, hp]; unfold fullB; omega
      have hd : (padL ks ++ bs).drop (64 * (fullB bs.length + 1)) = bs.drop (64 * fullB bs.length) := by
        rw [List.drop_append, List.drop_of_length_le (by omega), List.nil_append, hp, show 64 * (fullB bs.length + 1) - 64 = 64 * fullB bs.length by omega]
      rw [hF, hd, refAt_two hp _ (by unfold fullB; omega), List.length_append, hp]
      rfl
end Go.Proofs.YtdiigbknfjceoaaDoor
