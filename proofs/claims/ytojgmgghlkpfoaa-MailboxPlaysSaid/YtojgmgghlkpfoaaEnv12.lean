/-
  ReadEnvelope in one form; what envelopes' bytes are read as.
-/
import Derived.Test.YtojgmgghlkpfoaaHead12
namespace Go.Proofs.Ytojgmgghlkpfoaa
open Go.ChangeShapes Go.WideShapes Go.ChangeAt Go.RowKit Go.Deep
set_option maxRecDepth 100000

def rF (xs : List UInt8) : Int := if reE xs = 0 then (numN xs 1 : Int) else 0
def rT (xs : List UInt8) : Int := if reE xs = 0 then (numN (xs.drop 1) 1 : Int) else 0
def rC (xs : List UInt8) : List UInt8 := if reE xs = 0 then (xs.drop 2).take 32 else List.replicate 32 0
def rK (xs : List UInt8) : List UInt8 := if reE xs = 0 then (xs.drop 34).take 32 else List.replicate 32 0
def rP (xs : List UInt8) : Int := if reE xs = 0 then (numN (xs.drop 66) 4 : Int) else 0
def rN (xs : List UInt8) : Int := if reE xs = 0 then (numN (xs.drop 70) 4 : Int) else 0
def rB (xs : List UInt8) : List UInt8 := if reE xs = 0 then xs.drop 76 else []
theorem rCK_len (xs : List UInt8) : (rC xs).length = 32 ∧ (rK xs).length = 32 := by
  unfold rC rK
  split
  · rename_i h
    have := (reE_back h).2.1
    exact ⟨by rw [List.length_take, List.length_drop]; omega, by rw [List.length_take, List.length_drop]; omega⟩
  · exact ⟨rfl, rfl⟩
/-- What ReadEnvelope hands back, in one form. -/
def RvP (xs : List UInt8) (w : World) (e : Ending) (w' : World) : Prop :=
  ∃ A m c, e = .returned (.tuple #[.agg (evC (rF xs) (rT xs) (rC xs) (rK xs) (rP xs) (rN xs) A m c).toArray, .int .i64 (reE xs)]) ∧ Bs w' A m c (rB xs) ∧ Ext w w'
theorem RvP.of {xs : List UInt8} {w : World} {e : Ending} {w' : World} (h : RenvP xs w e w') : RvP xs w e w' := by
  obtain ⟨h1, ⟨h2, h3⟩ | ⟨h2, A, m, c, h3, h4⟩⟩ := h
  · refine ⟨none, 0, 0, ?_, ?_, h1⟩
    · rw [h3]
      unfold rF rT rC rK rP rN evz
      simp only [if_neg h2]
    · unfold rB
      rw [if_neg h2]
      exact Bs.nil _
  · refine ⟨A, m, c, ?_, ?_, h1⟩
    · rw [h3]
      unfold rF rT rC rK rP rN
      simp only [if_pos h2]
      rw [h2]
    · unfold rB
      rw [if_pos h2]
      exact h4
theorem hreadE_calls {w : World} {n c : Nat} {A : Option Addr} {xs : List UInt8} (hb : Bs w A n c xs) : Calls Try.prog 19 #[.slice A n c] w (RvP xs w) := (readEnv_calls hb).mono fun _ _ => RvP.of
theorem rreadE_calls {w : World} {n c : Nat} {A : Option Addr} {xs : List UInt8} (hb : Bs w A n c xs) (hn : n ≤ 1000000) : Calls Try.prog 20 #[.slice A n c] w (RvP xs w) := (rreadEnv_calls hb hn).mono fun _ _ => RvP.of
/-- A head's bytes are read as it. -/
theorem reH_head {pk : List UInt8} {p n : Nat} (hk : pk.length = 32) (hp : p ≤ 1000000) (hn : n ≤ 1000000) : reH (headL pk p n) = 0 ∧ rhC (headL pk p n) = hdC pk (p : Int) (n : Int) := by
  have l := headL_len hk p n
  have e : headL pk p n = pk ++ (high4 p ++ (high4 n ++ [])) := by simp [headL]
  have d32 : (headL pk p n).drop 32 = high4 p ++ (high4 n ++ []) := by rw [e, List.drop_left' hk]
  have d36 : (headL pk p n).drop 36 = high4 n ++ [] := by rw [show 36 = 32 + 4 from rfl, ← List.drop_drop, d32, List.drop_left' (high4_len p)]
  have b : numN ((headL pk p n).drop 32) 4 = p := by rw [d32]; exact numN_high (by omega)
  have c : numN ((headL pk p n).drop 36) 4 = n := by rw [d36]; exact numN_high (by omega)
  have d : (headL pk p n).take 32 = pk := by rw [e, List.take_left' hk]
  obtain ⟨q1, q2⟩ := reH_d l (by unfold okY okH upB; rw [b, c]; simp only [Bool.and_eq_true, decide_eq_true_eq]; omega)
  rw [b, c, d] at q2
  exact ⟨q1, q2⟩
/-- An envelope's bytes, as they are read. -/
theorem env_back {f t p n : Int} {cm pk body : List UInt8} (hc : cm.length = 32) (hk : pk.length = 32) (h : okE f t p n body.length = true) :
    reE (enX f t cm pk p n body) = 0 ∧ rF (enX f t cm pk p n body) = f ∧ rT (enX f t cm pk p n body) = t ∧ rC (enX f t cm pk p n body) = cm ∧ rK (enX f t cm pk p n body) = pk ∧ rP (enX f t cm pk p n body) = p ∧ rN (enX f t cm pk p n body) = n ∧ rB (enX f t cm pk p n body) = body ∧
    (enX f t cm pk p n body).length = 76 + body.length ∧ reH (((enX f t cm pk p n body).drop 34).take 40) = 0 ∧ rhC (((enX f t cm pk p n body).drop 34).take 40) = hdC pk p n ∧ (enX f t cm pk p n body).drop 76 = body ∧ (bt (enX f t cm pk p n body) 0 : Int) = f ∧ (bt (enX f t cm pk p n body) 1 : Int) = t ∧
    (∀ k, k < 76 + body.length → reE ((enX f t cm pk p n body).take k) = 3) ∧ reE (enX f t cm pk p n body ++ [0]) = 2 := by
  obtain ⟨x, y, a, b, h1, h2, rfl, rfl, hx, hy, ha, hb', hm', e1, e2⟩ := okE_nat h
  have e : enX f t cm pk (a : Int) (b : Int) body = envL x y cm pk a b body := by unfold enX; rw [h, ← e1, ← e2]; rfl
  rw [e, h1, h2]
  have hr := envL_reE hx hy hc hk ha hb' hm'
  obtain ⟨q0, q1, q2, q3, q4, q5, q6, q7, q8⟩ := envL_parts (x := x) (y := y) hc hk ha hb' hm'
  have l := envL_len (x := x) (y := y) hc hk a b body
  obtain ⟨g1, g2⟩ := reH_head hk ha hb'
  refine ⟨hr, ?_, ?_, ?_, ?_, ?_, ?_, ?_, l, by rw [q8]; exact g1, by rw [q8]; exact g2, q7, ?_, ?_, fun k hlt => ?_, ?_⟩
  · unfold rF; rw [if_pos hr, q0]
  · unfold rT; rw [if_pos hr, q1]
  · unfold rC; rw [if_pos hr, q2]
  · unfold rK; rw [if_pos hr, q3]
  · unfold rP; rw [if_pos hr, q4]
  · unfold rN; rw [if_pos hr, q5]
  · unfold rB; rw [if_pos hr, q7]
  · rw [← q0, numN_bt (by omega)]
  · rw [← q1, numN_bt (by rw [List.length_drop]; omega), bt_drop]
  · rcases Nat.lt_or_ge k 76 with h3 | h3
    · exact reE_a (by rw [List.length_take]; omega)
    · have : numN (((envL x y cm pk a b body).take k).drop 74) 2 = body.length := by
        rw [List.drop_take]
        unfold numN at q6 ⊢
        rw [List.take_take, Nat.min_eq_left (by omega), q6]
      exact reE_b (by rw [List.length_take]; omega) (by rw [this, List.length_take]; omega)
  · have : numN ((envL x y cm pk a b body ++ [0]).drop 74) 2 = body.length := by
      rw [List.drop_append_of_le_length (by omega)]
      unfold numN at q6 ⊢
      rw [List.take_append_of_le_length (by rw [List.length_drop]; omega), q6]
    exact reE_c (by rw [this, List.length_append, l]; simp)
/-- What is read has just these bytes. -/
theorem env_just {xs : List UInt8} (h : reE xs = 0) : okE (rF xs) (rT xs) (rP xs) (rN xs) (rB xs).length = true ∧ enX (rF xs) (rT xs) (rC xs) (rK xs) (rP xs) (rN xs) (rB xs) = xs := by
  obtain ⟨h1, h2, h3⟩ := reE_back h
  have ok : okE (rF xs) (rT xs) (rP xs) (rN xs) (rB xs).length = true := by
    unfold rF rT rP rN rB
    simp only [if_pos h]
    exact h1
  refine ⟨ok, ?_⟩
  obtain ⟨x, y, a, b, k1, k2, k3, k4, hx, hy, ha, hb', hm', e1, e2⟩ := okE_nat ok
  unfold enX
  rw [ok, ← e1, ← e2, if_pos rfl]
  have f1 : rF xs = (numN xs 1 : Int) := if_pos h
  have f2 : rT xs = (numN (xs.drop 1) 1 : Int) := if_pos h
  have f3 : rP xs = (numN (xs.drop 66) 4 : Int) := if_pos h
  have f4 : rN xs = (numN (xs.drop 70) 4 : Int) := if_pos h
  rw [f3, f4, Int.toNat_natCast, Int.toNat_natCast, show rC xs = (xs.drop 2).take 32 from if_pos h, show rK xs = (xs.drop 34).take 32 from if_pos h, show rB xs = xs.drop 76 from if_pos h]
  exact h3 x y (by omega) (by omega)
end Go.Proofs.Ytojgmgghlkpfoaa
