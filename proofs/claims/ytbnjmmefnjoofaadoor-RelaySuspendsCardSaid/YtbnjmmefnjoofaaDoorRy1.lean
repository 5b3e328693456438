/-
  relay.find, many.
-/
import Derived.Test.YtbnjmmefnjoofaaDoorRy
namespace Go.Proofs.YtbnjmmefnjoofaaDoor
open Go.ChangeShapes Go.WideShapes Go.ChangeAt Go.RowKit Go.Deep Go.Maps
set_option maxRecDepth 100000

/-- Which account is meant by a number. -/
def fd (f : Nat → Option Ac) (n : Int) : Option Nat := if 0 ≤ n ∧ n < 8 then (f n.toNat).map fun _ => n.toNat else none
def adV (g : Nat) : Option Nat → Value
  | none => .pointer none
  | some j => .pointer (some ⟨g, 1 + j * 134, none⟩)
theorem fd_some {f : Nat → Option Ac} {n : Int} {j : Nat} (h : fd f n = some j) : n = (j : Int) ∧ j < 8 ∧ ∃ a, f j = some a := by
  unfold fd at h
  split at h
  · rename_i q
    obtain ⟨a, h1, h2⟩ := Option.map_eq_some_iff.1 h
    subst h2
    exact ⟨by omega, by omega, a, h1⟩
  · cases h
theorem fd_at {f : Nat → Option Ac} {j : Nat} {a : Ac} (h : f j = some a) (hj : j < 8) : fd f (j : Int) = some j := by
  unfold fd
  rw [if_pos (by omega), Int.toNat_natCast, h]
  rfl
set_option maxHeartbeats 2000000 in
theorem find_calls {w : World} {g s : Nat} {f : Nat → Option Ac} {n : Int} (h : Cb w g 86 (rC s f)) (hf : FOk f) (h1 : -9223372036854775808 ≤ n) (h2 : n ≤ 9223372036854775807) :
    Calls Tryd.prog 35 #[.pointer (some ⟨g, 0, none⟩), .int .i64 n] w fun e w' => e = .returned (adV g (fd f n)) ∧ w' = w := by
  by_cases q1 : n < 0
  · have e : fd f n = none := if_neg (by omega)
    rw [e]
    have u1 : decide (n < 0) = true := decide_eq_true q1
    go_enter Tryd.func35, Tryd.ntmps35
    go_wp2_with fail
    go_ret
    exact ⟨rfl, rfl⟩
  have u1 : decide (n < 0) = false := decide_eq_false q1
  by_cases q2 : 8 ≤ n
  · have e : fd f n = none := if_neg (by omega)
    rw [e]
    have u2 : decide (8 ≤ n) = true := decide_eq_true q2
    go_enter Tryd.func35, Tryd.ntmps35
    go_wp2_with fail
    go_ret
    exact ⟨rfl, rfl⟩
  have u2 : decide (8 ≤ n) = false := decide_eq_false q2
  obtain ⟨j, rfl⟩ : ∃ j : Nat, n = (j : Int) := ⟨n.toNat, by omega⟩
  have j8 : j < 8 := by omega
  rcases q : f j with _ | a
  · have e : fd f (j : Int) = none := by unfold fd; rw [if_pos (by omega), Int.toNat_natCast, q]; rfl
    rw [e]
    have c0 : w.cell? ⟨g, 1 + j * 134 + 0, none⟩ = some (.bool false) := h.cell (rC_cell hf j8 (by rw [q]; rfl))
    rw [Nat.add_zero] at c0
    go_enter Tryd.func35, Tryd.ntmps35
    go_wp2_with fail
    go_ret
    exact ⟨rfl, rfl⟩
  · rw [fd_at q j8]
    have c0 : w.cell? ⟨g, 1 + j * 134 + 0, none⟩ = some (.bool true) := h.cell (rC_cell hf j8 (by rw [q]; rfl))
    rw [Nat.add_zero] at c0
    go_enter Tryd.func35, Tryd.ntmps35
    go_wp2_with fail
    go_ret
    exact ⟨rfl, rfl⟩
set_option maxHeartbeats 2000000 in
theorem many_calls {w : World} {B bx : Nat} {L : List Wm} {last : Int} (h : MB 126 73 B w bx L last) (hL : L.length ≤ 8) :
    Calls Tryd.prog 72 #[.func (.func 36) #[.pointer (some ⟨bx, 0, none⟩)] #[]] w fun e w' => e = .returned (.int .i64 (L.length : Int)) ∧ Ext w w' := by
  have LS := Lib.hid (list_calls h hL)
  clear h
  go_enter Tryd.func72, Tryd.ntmps72
  go_wp2_with fail
  refine LS.out.mono ?_
  rintro e w1 ⟨q, L', rfl, _, _, _, _, x1⟩
  go_wp2_with fail
  go_ret
  exact ⟨rfl, x1⟩
end Go.Proofs.YtbnjmmefnjoofaaDoor
