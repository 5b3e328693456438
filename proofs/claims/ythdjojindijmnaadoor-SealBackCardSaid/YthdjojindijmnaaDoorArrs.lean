/-
  Whole arrays, read or written within a region; results that are an array and a number.
-/
import Derived.Test.YthdjojindijmnaaDoorComp
import Derived.Test.YthdjojindijmnaaDoorCut
import Derived.Test.YthdjojindijmnaaDoorRowOps
namespace Go.Proofs.YthdjojindijmnaaDoor
open Go.ChangeShapes Go.WideShapes Go.ChangeAt Go.RowKit Go.Deep

/-! ### Words below 2^32 -/
def Lt32 (vs : List Nat) : Prop := ∀ j, wd vs j < 4294967296
theorem Lt32.set {vs : List Nat} (h : Lt32 vs) {k x : Nat} (hx : x < 4294967296) : Lt32 (vs.set k x) := fun j => by
  by_cases hk : k < vs.length
  · rw [wd_set hk]
    split
    · exact hx
    · exact h j
  · rw [List.set_eq_of_length_le (by omega)]; exact h j
theorem Lt32.mix {vs : List Nat} (h : Lt32 vs) (a b c d x y : Nat) : Lt32 (mixL vs a b c d x y) := by
  have ha : ∀ {vs : List Nat} {a b x : Nat}, Lt32 vs → Lt32 (putAdd vs a b x) := fun h => h.set (add32_lt _ _)
  have hr : ∀ {n : Nat} {vs : List Nat} {a b : Nat}, Lt32 vs → Lt32 (putRot n vs a b) := fun h => h.set (rotr_lt (xor_lt32 (h _) (h _)))
  have hs : ∀ {vs : List Nat} {a b : Nat}, Lt32 vs → Lt32 (putSum vs a b) := fun h => h.set (add32_lt _ _)
  unfold mixL
  exact hr (hs (hr (ha (hr (hs (hr (ha h)))))))
theorem Lt32.row {ms vs : List Nat} (h : Lt32 vs) (k : Nat) : Lt32 (rowV ms vs k) := by
  unfold rowV
  iterate 8 refine Lt32.mix ?_ _ _ _ _ _ _
  exact h
theorem Lt32.rounds {ms vs : List Nat} (h : Lt32 vs) : ∀ k, Lt32 (roundsV ms vs k)
  | 0 => h
  | k + 1 => by rw [roundsV_succ]; exact (Lt32.rounds h k).row k
theorem Lt32.append {hs is : List Nat} (h : Lt32 hs) (h' : Lt32 is) : Lt32 (hs ++ is) := fun j => by
  unfold wd
  rw [List.getD_eq_getElem?_getD, List.getElem?_append]
  split
  · rw [← List.getD_eq_getElem?_getD]; exact h j
  · rw [← List.getD_eq_getElem?_getD]; exact h' _
theorem init_lt : Lt32 initL := fun j => by
  by_cases hj : j < 8
  · have : ∀ j, j < 8 → wd initL j < 4294967296 := by decide
    exact this j hj
  · unfold wd; rw [List.getD_eq_getElem?_getD, List.getElem?_eq_none (by simp [initL]; omega)]; decide
theorem Lt32.start {hs : List Nat} (h : Lt32 hs) {t : Nat} (ht : t < 18446744073709551616) (last : Bool) : Lt32 (startV hs t last) := by
  have h0 := h.append init_lt
  have h1 := h0.set (k := 12) (xor_lt32 (h0 12) (Nat.mod_lt t (by decide)))
  have h2 := h1.set (k := 13) (xor_lt32 (h0 13) (show t / 4294967296 < 4294967296 by omega))
  unfold startV
  cases last
  · exact h2
  · exact h2.set (xor_lt32 (by decide) (h0 14))
theorem Lt32.fin {hs vs : List Nat} (h : Lt32 hs) (h' : Lt32 vs) : Lt32 (endV hs vs) := fun j => by
  by_cases hj : j < 8
  · have : wd (endV hs vs) j = wd hs j ^^^ (wd vs j ^^^ wd vs (j + 8)) := by simp [wd, endV, List.getD, hj]
    rw [this]
    exact xor_lt32 (h j) (xor_lt32 (h' j) (h' _))
  · unfold wd; rw [List.getD_eq_getElem?_getD, List.getElem?_eq_none (by simp [endV]; omega)]; decide
theorem Lt32.comp {hs : List Nat} (h : Lt32 hs) {xs : List UInt8} {t : Nat} (ht : t < 18446744073709551616) (last : Bool) : Lt32 (compL hs xs t last) := h.fin ((h.start ht last).rounds 10)

/-! ### Tags -/
def h0L (k : Nat) : List Nat := initL.set 0 (wd initL 0 ^^^ (16842784 ^^^ k * 256))
def hAt (hs : List Nat) (t : Nat) (bs : List UInt8) : Nat → List Nat
  | 0 => hs
  | i + 1 => compL (hAt hs t bs i) (padL ((bs.drop (64 * i)).take 64)) (t + 64 * (i + 1)) false
/-- How many blocks stand ahead of the last one. -/
def fullB (m : Nat) : Nat := (m - 1) / 64
def macTail (hs : List Nat) (t : Nat) (bs : List UInt8) : List UInt8 :=
  bytesL (compL (hAt hs t bs (fullB bs.length)) (padL (bs.drop (64 * fullB bs.length))) (t + bs.length) true)
def macL (ks bs : List UInt8) : List UInt8 :=
  if ks.length = 0 then macTail (h0L 0) 0 bs
  else if bs.length = 0 then bytesL (compL (h0L ks.length) (padL ks) 64 true)
  else macTail (compL (h0L ks.length) (padL ks) 64 false) 64 bs
theorem h0_lt {k : Nat} (h : k ≤ 32) : Lt32 (h0L k) := init_lt.set (xor_lt32 (init_lt 0) (xor_lt32 (by decide) (by omega)))
theorem h0_len (k : Nat) : (h0L k).length = 8 := by simp [h0L, initL]
theorem hAt_len {hs : List Nat} {t : Nat} {bs : List UInt8} (h : hs.length = 8) : ∀ i, (hAt hs t bs i).length = 8
  | 0 => h
  | i + 1 => compL_len _ _ _ _
theorem hAt_lt {hs : List Nat} {t : Nat} {bs : List UInt8} (h : Lt32 hs) : ∀ i, t + 64 * i < 18446744073709551616 → Lt32 (hAt hs t bs i)
  | 0, _ => h
  | i + 1, hi => (hAt_lt h i (by omega)).comp (by omega) _
theorem macTail_len (hs : List Nat) (t : Nat) (bs : List UInt8) : (macTail hs t bs).length = 32 := by
  unfold macTail; rw [bytesL_len, compL_len]
theorem macL_len (ks bs : List UInt8) : (macL ks bs).length = 32 := by
  unfold macL
  split
  · exact macTail_len _ _ _
  · split
    · rw [bytesL_len, compL_len]
    · exact macTail_len _ _ _
end Go.Proofs.YthdjojindijmnaaDoor
