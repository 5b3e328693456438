/-
  The document's 'filled'.
-/
import Derived.Test.YtdiigbknfjceoaaDoorAppZ
import Derived.Test.YtdiigbknfjceoaaDoorPad
namespace Go.Proofs.YtdiigbknfjceoaaDoor
open Go.ChangeShapes Go.WideShapes Go.ChangeAt Go.RowKit Go.Deep

set_option maxHeartbeats 1000000 in
theorem refFilled_calls {A : Option Addr} {n c : Nat} {xs : List UInt8} {w : World} (h : Bs w A n c xs) (hn : n ≤ 64) :
    Calls Tryd.prog 43 #[.slice A n c] w fun e w' => ∃ A' c', e = .returned (.slice A' 64 c') ∧ Own w.heap.size w' A' 64 c' (padL xs) ∧ Ext w w' := by
  have hl := h.len
  have h2 := h.cap
  have h1 := h.le
  obtain ⟨k, hk⟩ : ∃ k, k = 64 - n := ⟨_, rfl⟩
  have ik : (64 : Int) - (n : Int) = (k : Int) := by omega
  have hp : padL xs = xs ++ List.replicate k 0 := by unfold padL; rw [hl, hk]
  rw [hp]
  clear hp
  have h64 : n + k = 64 := by omega
  replace h := Lib.hid h
  clear hk hl
  go_enter Tryd.func43, Tryd.ntmps43
  go_wp2_with (first
    | (at_builtin; (with_reducible refine wpList_append_bs rfl (B := w.heap.size) (s := .tmp 3) (x := .tmp 4) rfl rfl rfl (Own.empty w _ (Nat.le_refl _)) (h.out.ext ((Ext.refl _).alloc _)) (by omega) (by simp) ?_); intro A1 c1 w1 o1 g1 b1; simp only [Nat.zero_add, List.nil_append] at o1 ⊢; replace o1 := Lib.hid o1; have e1 : Hid (Ext w w1) := Below.trans ((Ext.refl w).alloc _) b1; clear g1 b1; simp only [Act.put, List.setIfInBounds_toArray, List.set_cons_zero, List.set_cons_succ])
    | (at_builtin; (with_reducible refine wpList_append_noughts rfl Tryd.underlying3 (B := w.heap.size) (k := k) (s := .tmp 5) (x := .tmp 8) rfl rfl rfl o1.out (by omega) e1.out.size ?_); intro A2 c2 w2 o2 g2 b2; rw [h64] at o2 ⊢; replace o2 := Lib.hid o2; replace e1 : Hid (Ext w w2) := Below.trans e1.out b2; clear g2 b2; simp only [Act.put, List.setIfInBounds_toArray, List.set_cons_zero, List.set_cons_succ]))
  go_ret
  exact ⟨A2, c2, rfl, o2.out, e1.out⟩
end Go.Proofs.YtdiigbknfjceoaaDoor
