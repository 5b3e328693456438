/-
  Keys of one after the other: the list that a store keeps. No conditions.
-/
import Derived.Test.YtonjialkfbbhpaaAwake11
namespace Go.Proofs.Ytonjialkfbbhpaa
open Go.ChangeShapes Go.WideShapes Go.ChangeAt Go.RowKit Go.Deep Go.Maps
set_option maxRecDepth 100000

section
variable {pk : List UInt8} {kf : Nat → List UInt8} {lo hi i : Nat} {off : Int}
/-- The keys of the numbers from lo on, below hi. -/
def segE (pk : List UInt8) (kf : Nat → List UInt8) (off : Int) (j : Nat) : Kp := ⟨pk, off + (j : Int), kf j, (j : Int)⟩
def seg (pk : List UInt8) (kf : Nat → List UInt8) (off : Int) (lo hi : Nat) : List Kp := (List.range' lo (hi - lo)).map (segE pk kf off)
theorem seg_len : (seg pk kf off lo hi).length = hi - lo := by simp [seg]
theorem seg_mem {x : Kp} : x ∈ seg pk kf off lo hi ↔ ∃ j, lo ≤ j ∧ j < hi ∧ segE pk kf off j = x := by
  unfold seg
  rw [List.mem_map]
  constructor
  · rintro ⟨j, hj, rfl⟩
    rw [List.mem_range'_1] at hj
    exact ⟨j, hj.1, by omega, rfl⟩
  · rintro ⟨j, h1, h2, rfl⟩
    exact ⟨j, by rw [List.mem_range'_1]; omega, rfl⟩
theorem seg_has {j : Nat} : hasK (seg pk kf off lo hi) pk (off + (j : Int)) = decide (lo ≤ j ∧ j < hi) := by
  rw [Bool.eq_iff_iff, decide_eq_true_iff, hasK, List.any_eq_true]
  constructor
  · rintro ⟨x, hx, hat⟩
    obtain ⟨k, h1, h2, rfl⟩ := seg_mem.1 hx
    have := (Kp.at_iff.1 hat).2
    have e : off + (k : Int) = off + (j : Int) := this
    obtain rfl : k = j := by omega
    exact ⟨h1, h2⟩
  · rintro ⟨h1, h2⟩
    exact ⟨_, seg_mem.2 ⟨j, h1, h2, rfl⟩, Kp.at_iff.2 ⟨rfl, rfl⟩⟩
theorem seg_the {j : Nat} (h1 : lo ≤ j) (h2 : j < hi) : (theK (seg pk kf off lo hi) pk (off + (j : Int))).k = kf j := by
  obtain ⟨t1, _, t3⟩ := theK_mem (L := seg pk kf off lo hi) (pk := pk) (n := off + (j : Int)) (by rw [seg_has]; exact decide_eq_true ⟨h1, h2⟩)
  obtain ⟨k, _, _, hk⟩ := seg_mem.1 t1
  rw [← hk] at t3 ⊢
  have e : off + (k : Int) = off + (j : Int) := t3
  obtain rfl : k = j := by omega
  rfl
theorem seg_nil (h : hi ≤ lo) : seg pk kf off lo hi = [] := by unfold seg; rw [show hi - lo = 0 by omega]; rfl
theorem seg_last (h : lo ≤ hi) : seg pk kf off lo (hi + 1) = seg pk kf off lo hi ++ [segE pk kf off hi] := by
  unfold seg
  rw [show hi + 1 - lo = (hi - lo) + 1 by omega, List.range'_concat, List.map_append, Nat.one_mul, show lo + (hi - lo) = hi by omega]
  rfl
theorem seg_first (h : lo < hi) : seg pk kf off lo hi = segE pk kf off lo :: seg pk kf off (lo + 1) hi := by
  unfold seg
  rw [show hi - lo = (hi - (lo + 1)) + 1 by omega, List.range'_succ]
  rfl
theorem seg_put (hi8 : lo = hi - 8) (hoff : 0 ≤ off) : putR (seg pk kf off lo hi) (segE pk kf off hi) = seg pk kf off (hi + 1 - 8) (hi + 1) ∧ putE (seg pk kf off lo hi) pk (off + (hi : Int)) = 0 := by
  have hE : hasK (seg pk kf off lo hi) pk (off + (hi : Int)) = false := by rw [seg_has]; exact decide_eq_false (by omega)
  have e1 : ∀ (h0 : ¬ off + (hi : Int) < 0), putE (seg pk kf off lo hi) pk (off + (hi : Int)) = 0 := fun h0 => by unfold putE; rw [if_neg h0, hE]; rfl
  have hp : putL (seg pk kf off lo hi) (segE pk kf off hi) = seg pk kf off (hi + 1 - 8) (hi + 1) := by
    unfold putL
    rw [seg_len]
    by_cases h8 : hi < 8
    · rw [if_pos (by omega), show hi + 1 - 8 = lo by omega, seg_last (by omega)]
    · rw [if_neg (by omega), show hi + 1 - 8 = lo + 1 by omega, seg_last (by omega), seg_first (lo := lo) (by omega), List.drop_one, List.tail_cons]
  refine ⟨?_, e1 (by omega)⟩
  unfold putR
  rw [show putE (seg pk kf off lo hi) (segE pk kf off hi).pk (segE pk kf off hi).n = 0 from e1 (by omega), if_pos rfl, hp]
theorem seg_take {j : Nat} (h : lo ≤ j) : takeL (seg pk kf off lo (j + 1)) pk (off + (j : Int)) = seg pk kf off lo j := by
  rw [seg_last h, takeL, List.filter_append, List.filter_cons_of_neg (by rw [show Kp.at pk (off + (j : Int)) (segE pk kf off j) = true from Kp.at_iff.2 ⟨rfl, rfl⟩]; decide), List.filter_nil, List.append_nil]
  refine List.filter_eq_self.2 fun x hx => ?_
  obtain ⟨k, h1, h2, rfl⟩ := seg_mem.1 hx
  cases q : Kp.at pk (off + (j : Int)) (segE pk kf off k)
  · rfl
  · have e : off + (k : Int) = off + (j : Int) := (Kp.at_iff.1 q).2
    omega
theorem seg_step (j : Nat) : takeL (seg pk kf off lo (j + 1)) pk (off + (j : Int)) = seg pk kf off lo j := by
  rcases Nat.lt_or_ge j lo with h | h
  · rw [seg_nil (by omega), seg_nil (by omega)]; rfl
  · exact seg_take h
end
theorem hasK_take_self {L : List Kp} {pk : List UInt8} {n : Int} : hasK (takeL L pk n) pk n = false := by
  rw [hasK, List.any_eq_false]
  intro x hx
  have := (List.mem_filter.1 hx).2
  simpa using this
theorem at_other {x : Kp} {pk : List UInt8} {n m : Int} (h : m ≠ n) (hx : x.at pk m = true) : x.at pk n = false := by
  cases q : x.at pk n
  · rfl
  · exact absurd ((Kp.at_iff.1 hx).2.symm.trans (Kp.at_iff.1 q).2) h
theorem hasK_take_other {L : List Kp} {pk : List UInt8} {n m : Int} (h : m ≠ n) : hasK (takeL L pk n) pk m = hasK L pk m := by
  rw [Bool.eq_iff_iff, hasK, hasK, List.any_eq_true, List.any_eq_true]
  constructor
  · rintro ⟨x, hx, hat⟩
    exact ⟨x, (List.mem_filter.1 hx).1, hat⟩
  · rintro ⟨x, hx, hat⟩
    exact ⟨x, List.mem_filter.2 ⟨hx, by rw [at_other h hat]; rfl⟩, hat⟩
theorem theK_take_other {L : List Kp} {pk : List UInt8} {n m : Int} (h : m ≠ n) : theK (takeL L pk n) pk m = theK L pk m := by
  unfold theK takeL
  congr 1
  induction L with
  | nil => rfl
  | cons x r ih =>
    by_cases q : x.at pk n = true
    · rw [List.filter_cons_of_neg (by rw [q]; decide), ih]
      have : x.at pk m = false := at_other (fun e => h e.symm) q
      rw [List.find?_cons_of_neg (by rw [this]; decide)]
    · rw [List.filter_cons_of_pos (by simpa using q), List.find?_cons, List.find?_cons, ih]
end Go.Proofs.Ytonjialkfbbhpaa
