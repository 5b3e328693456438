/-
  Rows that may be gone through are joined to few bytes. No conditions.
-/
import Derived.Test.YthdjojindijmnaaDoorJoinB
namespace Go.Proofs.YthdjojindijmnaaDoor
open Go.ChangeShapes Go.WideShapes Go.ChangeAt Go.RowKit Go.Deep

theorem lightAt_mono (l : List (List UInt8)) (k : Nat) : ∀ d, lightAt l k ≤ lightAt l (k + d)
  | 0 => Nat.le_refl _
  | d + 1 => by have := lightAt_mono l k d; rw [← Nat.add_assoc, lightAt]; omega
theorem joinAt_light {l : List (List UInt8)} (h : lightAt l l.length < 10000) : ∀ k, k ≤ l.length → (joinL (l.take k)).length = 4 * k + lightAt l k
  | 0, _ => by simp [joinL, lightAt]
  | k + 1, hk => by
    have ih := joinAt_light h k (by omega)
    have h1 : lightAt l (k + 1) ≤ lightAt l l.length := by
      have := lightAt_mono l (k + 1) (l.length - (k + 1))
      rwa [show k + 1 + (l.length - (k + 1)) = l.length by omega] at this
    rw [joinL_len_snoc (by omega), ih]
    rw [lightAt] at h1 ⊢
    omega
theorem join_light {l : List (List UInt8)} (h : lightB l = true) : (joinL l).length ≤ 100000 := by
  unfold lightB at h
  rw [Bool.and_eq_true, decide_eq_true_iff, decide_eq_true_iff] at h
  rw [show min l.length 100 = l.length by omega] at h
  have := joinAt_light h.2 l.length (Nat.le_refl _)
  rw [List.take_of_length_le (Nat.le_refl _)] at this
  omega
end Go.Proofs.YthdjojindijmnaaDoor
