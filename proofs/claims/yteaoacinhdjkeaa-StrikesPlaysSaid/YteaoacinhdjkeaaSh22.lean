/-
  A journal's records are few and short.
-/
import Derived.Test.YteaoacinhdjkeaaJrA
namespace Go.Proofs.Yteaoacinhdjkeaa
open Go.ChangeShapes Go.WideShapes Go.ChangeAt Go.RowKit Go.Deep Go.Maps
set_option maxRecDepth 100000

/-- Records are few and short. -/
def Sh22 (L : List (List UInt8)) : Prop := L.length ≤ 64 ∧ ∀ k, k < L.length → (L.getD k []).length ≤ 59
theorem recL_short {i : Nat} {s x : List UInt8} (h : recL i s = some x) : x.length ≤ 59 := by
  unfold recL at h
  split at h
  · rename_i q
    injection h with h
    rw [← h, List.length_take]
    omega
  · cases h
theorem recsF_sh {f : Nat → Option (List UInt8)} (hf : ∀ k x, f k = some x → x.length ≤ 59) : ∀ (n k : Nat), (recsF f k n).length ≤ n ∧ ∀ x ∈ recsF f k n, x.length ≤ 59
  | 0, k => ⟨Nat.le_refl _, fun x q => by cases q⟩
  | n + 1, k => by
    unfold recsF
    cases e : f k with
    | none => exact ⟨Nat.zero_le _, fun x q => by cases q⟩
    | some y =>
      obtain ⟨a, b⟩ := recsF_sh hf n (k + 1)
      refine ⟨by simpa using a, fun x q => ?_⟩
      rcases List.mem_cons.1 q with q | q
      · rw [q]; exact hf k y e
      · exact b x q
theorem sh22_of {L : List (List UInt8)} (h : L.length ≤ 64) (k : ∀ x ∈ L, x.length ≤ 59) : Sh22 L := ⟨h, fun j hj => by
  rw [List.getD_eq_getElem?_getD, List.getElem?_eq_getElem hj]
  exact k _ (List.getElem_mem hj)⟩
theorem Sh22.all {L : List (List UInt8)} (h : Sh22 L) : ∀ x ∈ L, x.length ≤ 59 := fun x q => by
  obtain ⟨j, hj, e⟩ := List.getElem_of_mem q
  have := h.2 j hj
  rw [List.getD_eq_getElem?_getD, List.getElem?_eq_getElem hj, Option.getD_some, e] at this
  exact this
theorem Sh22.recs {d : Ds} (ok : d.ok) : Sh22 d.recs := by
  obtain ⟨a, b⟩ := recsF_sh (f := fun k => recL k (d.read (k : Int))) (fun k x h => recL_short h) d.S.length 0
  exact sh22_of (Nat.le_trans a ok.most) b
theorem Sh22.jL {d : Ds} {L : List (List UInt8)} (h : Sh22 L) (ok : d.ok) (xs : List UInt8) : Sh22 (d.jL L xs) := by
  have hm := ok.most
  unfold Ds.jL
  by_cases q : d.jE L.length xs = 0
  · rw [if_pos q]
    have h1 : ¬ 59 < xs.length := fun z => by
      have : d.jE L.length xs = 1 := if_pos z
      omega
    have h2 : ¬ d.S.length ≤ L.length := fun z => by
      have : d.jE L.length xs = 8 := by unfold Ds.jE; rw [if_neg h1, if_pos z]
      omega
    refine sh22_of (by simp; omega) fun x hx => ?_
    rcases List.mem_append.1 hx with hx | hx
    · exact h.all x hx
    · rw [List.mem_singleton.1 hx]; omega
  · rw [if_neg q]; exact h
end Go.Proofs.Yteaoacinhdjkeaa
