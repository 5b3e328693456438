/-
  Slices of slices of bytes (Rw), and Light: for seats without layer 1's laws.
-/
import Derived.Test.YthdjojindijmnaaDoorOwn
import Derived.Test.YthdjojindijmnaaDoorSeq
namespace Go.Proofs.YthdjojindijmnaaDoor
open Go.ChangeShapes Go.WideShapes Go.ChangeAt Go.RowKit Go.Deep

/-- The slice '.slice A n c' reads as the rows l. -/
def Rw (w : World) (A : Option Addr) (n c : Nat) (l : List (List UInt8)) : Prop :=
  l.length = n ∧ n ≤ c ∧ c ≤ maxLen ∧ (0 < n → ∃ b off, A = some ⟨b, off, none⟩ ∧ b < w.heap.size ∧ ∀ j, j < n → ∃ A' n' c', w.cell? ⟨b, off + j, none⟩ = some (.slice A' n' c') ∧ Bs w A' n' c' (l.getD j []))

section
variable {w w' : World} {A : Option Addr} {n c : Nat} {l : List (List UInt8)}
theorem Rw.len (h : Rw w A n c l) : l.length = n := h.1
theorem Rw.le (h : Rw w A n c l) : n ≤ c := h.2.1
theorem Rw.cap (h : Rw w A n c l) : c ≤ 9223372036854775807 := h.2.2.1
theorem Rw.nil (w : World) : Rw w none 0 0 [] := ⟨rfl, Nat.le_refl _, Nat.zero_le _, fun h => absurd h (by omega)⟩
theorem Rw.pos (h : Rw w A n c l) (hn : 0 < n) : ∃ b off, A = some ⟨b, off, none⟩ ∧ b < w.heap.size ∧ ∀ j, j < n → ∃ A' n' c', w.cell? ⟨b, off + j, none⟩ = some (.slice A' n' c') ∧ Bs w A' n' c' (l.getD j []) := h.2.2.2 hn
theorem Rw.ext (h : Rw w A n c l) (he : Ext w w') : Rw w' A n c l :=
  ⟨h.1, h.2.1, h.2.2.1, fun hn => by
    obtain ⟨b, off, e, hb, hc⟩ := h.2.2.2 hn
    refine ⟨b, off, e, Nat.lt_of_lt_of_le hb he.size, fun j hj => ?_⟩
    obtain ⟨A', n', c', h1, h2⟩ := hc j hj
    exact ⟨A', n', c', (he.cell hb).trans h1, h2.ext he⟩⟩
end

/-- What Light reckons of the first k rows. -/
def lightAt (l : List (List UInt8)) : Nat → Nat
  | 0 => 0
  | k + 1 => lightAt l k + min (l.getD k []).length 10000
theorem lightAt_le (l : List (List UInt8)) : ∀ k, lightAt l k ≤ 10000 * k
  | 0 => by simp [lightAt]
  | k + 1 => by have := lightAt_le l k; rw [lightAt]; omega
def lightB (l : List (List UInt8)) : Bool := decide (l.length ≤ 60) && decide (lightAt l (min l.length 100) < 10000)

set_option maxHeartbeats 400000 in
theorem light_calls {A : Option Addr} {n c : Nat} {l : List (List UInt8)} {w : World} (h : Rw w A n c l) :
    Calls Tryd.prog 14 #[.slice A n c] w fun e w' => e = .returned (.bool (lightB l)) ∧ w' = w := by
  have h1 := h.le
  have h2 := h.cap
  obtain ⟨m, hm, hm1, hm2, hm3⟩ : ∃ m : Nat, Hid (min l.length 100 = m) ∧ m ≤ n ∧ m ≤ 100 ∧ Hid (m = n ∨ m = 100) := by
    refine ⟨min l.length 100, rfl, ?_, ?_, ?_⟩
    · rw [h.len]; omega
    · omega
    · unfold Hid; rw [h.len]; omega
  go_enter Tryd.func14, Tryd.ntmps14
  go_wp2
  go_loop [3, 4] (fun x i => ∃ k : Nat, k ≤ m ∧ i = .int .i64 k ∧ x = .int .i64 (lightAt l k : Int)) (fun _ i => m - (intOf i).toNat)
  case atStart => exact ⟨0, Nat.zero_le _, rfl, rfl⟩
  case round =>
    obtain ⟨k, hk, rfl, rfl⟩ := hrel
    have hle := lightAt_le l k
    by_cases hlt : k < m
    · obtain ⟨b, off, rfl, hb, hc⟩ := h.pos (by omega)
      obtain ⟨A', n', c', g1, g2⟩ := hc k (by omega)
      have hs : Hid ((lightAt l k : Int) + (if (10000 : Int) < (n' : Int) then 10000 else (n' : Int)) = (lightAt l (k + 1) : Int)) := by
        unfold Hid
        rw [lightAt, g2.len]
        by_cases q : 10000 < n'
        · rw [if_pos (by omega)]; omega
        · rw [if_neg (by omega)]; omega
      have t1 : (k : Int) < 100 := by omega
      have t2 : (k : Int) < (n : Int) := by omega
      have t3 := g2.le
      have t4 := g2.cap
      obtain ⟨q, hq, hq1⟩ : ∃ q : Nat, (if (10000 : Int) < (n' : Int) then 10000 else (n' : Int)) = (q : Int) ∧ q ≤ 10000 := by
        by_cases q : 10000 < n'
        · exact ⟨10000, by rw [if_pos (by omega)]; rfl, by omega⟩
        · exact ⟨n', by rw [if_neg (by omega)], by omega⟩
      have hs' : Hid ((lightAt l k : Int) + (q : Int) = (lightAt l (k + 1) : Int)) := by unfold Hid; rw [← hs.out, hq]
      clear hc hs
      go_wp2
      go_round
      case rel => exact ⟨k + 1, by omega, by go_num, congrArg (Value.int .i64) hs'.out⟩
      case measure => simp [intOf]; omega
    · obtain rfl : k = m := by omega
      have hfin : Hid (lightB l = (decide (n ≤ 60) && decide (lightAt l k < 10000))) := by unfold Hid lightB; rw [hm.out, h.len]
      clear hlt
      have fin : ∀ b : Bool, b = (decide (n ≤ 60) && decide (lightAt l k < 10000)) → b = lightB l := fun b e => e.trans hfin.out.symm
      have FIN := Lib.hid fin
      clear fin
      by_cases q6 : n ≤ 60
      · obtain rfl : k = n := by rcases hm3.out with e | e <;> omega
        by_cases q7 : lightAt l k < 10000
        · go_wp2
          go_ret
          exact ⟨ret_bool (FIN.out _ (by simp [q6, q7]; omega)), rfl⟩
        · go_wp2
          go_ret
          exact ⟨ret_bool (FIN.out _ (by simp [q6, q7]; omega)), rfl⟩
      · by_cases q8 : k = n
        · subst q8
          go_wp2
          go_ret
          exact ⟨ret_bool (FIN.out _ (by simp [q6])), rfl⟩
        · obtain rfl : k = 100 := by rcases hm3.out with e | e <;> omega
          have q9 : 100 < n := by omega
          go_wp2
          go_ret
          exact ⟨ret_bool (FIN.out _ (by simp [q6])), rfl⟩
end Go.Proofs.YthdjojindijmnaaDoor
