import Derived.Test.YtbnjmmefnjoofaaDoorPkM
import Derived.Test.YtbnjmmefnjoofaaDoorPkI
import Derived.Test.YtbnjmmefnjoofaaDoorRputP
import Derived.Test.YtbnjmmefnjoofaaDoorComp
import Derived.Test.YtbnjmmefnjoofaaDoorOwn
import Derived.Test.YtbnjmmefnjoofaaDoorWords
import Derived.Test.YtbnjmmefnjoofaaDoorMix
import Derived.Test.YtbnjmmefnjoofaaDoorLowB
section
/-
  What a Take of any time does.
-/
namespace Go.Proofs.YtbnjmmefnjoofaaDoor
open Go.ChangeShapes Go.WideShapes Go.ChangeAt Go.RowKit Go.Deep

/-- What Take answers, and the time and the number behind it. -/
def bkTake (m v t k now : Int) : Int × Int × Int :=
  if 1000000 < now then (1, t, k) else if now < t then (5, t, k) else if bkAt m v t k now = 0 then (10, now, 0) else (0, now, bkAt m v t k now - 1)
theorem bkTake_ok {m v t k now : Int} (h : BkOk m v t k) : BkOk m v (bkTake m v t k now).2.1 (bkTake m v t k now).2.2 := by
  unfold bkTake
  by_cases q1 : 1000000 < now
  · rw [if_pos q1]; exact h
  · rw [if_neg q1]
    by_cases q2 : now < t
    · rw [if_pos q2]; exact h
    · rw [if_neg q2]
      have hb := bkAt_ok h (show t ≤ now by omega)
      have tk := took_ok h (show t ≤ now by omega) (by omega)
      by_cases q3 : bkAt m v t k now = 0
      · rw [if_pos q3]; exact tk.1
      · rw [if_neg q3]; exact tk.2 (by omega)
theorem take_any {g : Nat} {m v t k now er t' k' : Int} {w : World} (h : Bk w g m v t k) (hok : BkOk m v t k) (hn1 : -9223372036854775808 ≤ now) (hn2 : now ≤ 9223372036854775807) (ht : bkTake m v t k now = (er, t', k')) :
    Calls Tryd.prog 45 #[.pointer (some ⟨g, 0, none⟩), .int .i64 now] w fun e w' => e = .returned (.int .i64 er) ∧ Bk w' g m v t' k' ∧ w.grownBy w' (some g) := by
  unfold bkTake at ht
  by_cases q1 : 1000000 < now
  · rw [if_pos q1] at ht
    injection ht with e1 e2
    injection e2 with e2 e3
    subst e1 e2 e3
    exact (take_late h hn2 q1).mono fun e w' ⟨he, hw⟩ => by subst hw; exact ⟨he, h, World.grownBy.refl _ _⟩
  · rw [if_neg q1] at ht
    by_cases q2 : now < t
    · rw [if_pos q2] at ht
      injection ht with e1 e2
      injection e2 with e2 e3
      subst e1 e2 e3
      exact (take_old h hn1 hok.2.2.2.2.2.1 q2).mono fun e w' ⟨he, hw⟩ => by subst hw; exact ⟨he, h, World.grownBy.refl _ _⟩
    · rw [if_neg q2] at ht
      refine (take_calls h hok (by omega) (by omega)).mono fun e w' ⟨hg, hh⟩ => ?_
      rcases hh with ⟨q3, he, hb⟩ | ⟨q3, he, hb⟩
      · rw [if_pos q3] at ht
        injection ht with e1 e2
        injection e2 with e2 e3
        subst e1 e2 e3
        exact ⟨he, hb, hg⟩
      · rw [if_neg (by omega)] at ht
        injection ht with e1 e2
        injection e2 with e2 e3
        subst e1 e2 e3
        exact ⟨he, hb, hg⟩
theorem bkHas_in {m v t k now : Int} (h1 : t ≤ now) (h2 : now ≤ 1000000) : bkHas m v t k now = bkAt m v t k now := by
  unfold bkHas
  rw [if_neg (by omega)]

end Go.Proofs.YtbnjmmefnjoofaaDoor
end

section
/-
  The document's bucket.
-/
namespace Go.Proofs.YtbnjmmefnjoofaaDoor
open Go.ChangeShapes Go.WideShapes Go.ChangeAt Go.RowKit Go.Deep

/-- The document's bucket lies in block g. -/
def Rk (w : World) (g : Nat) (m v t k : Int) : Prop := w.heap[g]? = some (.cells #[.int .i64 m, .int .i64 v, .int .i64 t, .int .i64 k] 157 (0, 0))
section
variable {w w' : World} {g : Nat} {m v t k : Int}
theorem Rk.lt (h : Rk w g m v t k) : g < w.heap.size := by
  rcases Nat.lt_or_ge g w.heap.size with h1 | h1
  · exact h1
  · unfold Rk at h; rw [Array.getElem?_eq_none h1] at h; cases h
theorem Rk.ext (h : Rk w g m v t k) (he : Ext w w') : Rk w' g m v t k := (he.block g h.lt).trans h
theorem Rk.grown {r : Option Nat} (h : Rk w g m v t k) (he : w.grownBy w' r) (hr : some g ≠ r) : Rk w' g m v t k := (he.block g h.lt hr).trans h
theorem Rk.cells (h : Rk w g m v t k) : w.cell? ⟨g, 0, none⟩ = some (.int .i64 m) ∧ w.cell? ⟨g, 1, none⟩ = some (.int .i64 v) ∧ w.cell? ⟨g, 2, none⟩ = some (.int .i64 t) ∧ w.cell? ⟨g, 3, none⟩ = some (.int .i64 k) := by
  unfold Rk at h
  refine ⟨?_, ?_, ?_, ?_⟩ <;> simp [World.cell?, h]
theorem Rk.frozen (h : Rk w g m v t k) (i : Nat) : w.frozen? ⟨g, i, none⟩ = false := by
  unfold Rk at h
  simp [World.frozen?, h]
theorem Rk.setTime (h : Rk w g m v t k) (x : Int) : Rk (w.setCell ⟨g, 2, none⟩ (.int .i64 x)) g m v x k := by
  unfold Rk at h ⊢
  simp [World.setCell, Array.getElem?_modify, h]
theorem Rk.setTok (h : Rk w g m v t k) (x : Int) : Rk (w.setCell ⟨g, 3, none⟩ (.int .i64 x)) g m v t x := by
  unfold Rk at h ⊢
  simp [World.setCell, Array.getElem?_modify, h]
end

theorem bkAt_ref {m v t k now : Int} : (if k + now / v - t / v < m then k + now / v - t / v else m) = bkAt m v t k now := by
  unfold bkAt
  split <;> split <;> omega

set_option maxHeartbeats 2000000 in
theorem refHas_calls {g : Nat} {m v t k now : Int} {w : World} (h : Rk w g m v t k) (hok : BkOk m v t k) (hn1 : -9223372036854775808 ≤ now) (hn2 : now ≤ 9223372036854775807) :
    Calls Tryd.prog 82 #[.pointer (some ⟨g, 0, none⟩), .int .i64 now] w fun e w' => e = .returned (.int .i64 (bkHas m v t k now)) ∧ Ext w w' := by
  obtain ⟨c0, c1, c2, c3⟩ := h.cells
  by_cases q1 : now < t
  · have d1 : decide (now < t) = true := by simp [q1]
    go_enter Tryd.func82, Tryd.ntmps82
    go_wp2_with fail
    go_ret
    exact ⟨ret_int (by unfold bkHas; rw [if_pos (.inl q1)]), Ext.refl _⟩
  · have d1 : decide (now < t) = false := by simp; omega
    by_cases q2 : 1000000 < now
    · have d2 : decide (1000000 < now) = true := by simp [q2]
      go_enter Tryd.func82, Tryd.ntmps82
      go_wp2_with fail
      go_ret
      exact ⟨ret_int (by unfold bkHas; rw [if_pos (.inr q2)]), Ext.refl _⟩
    · have d2 : decide (1000000 < now) = false := by simp; omega
      have hh : Hid (bkAt m v t k now = bkHas m v t k now) := by unfold Hid; rw [bkHas_in (by omega) (by omega)]
      obtain ⟨a1, a2, a3, a4, a5, a6, a7, a8⟩ := hok
      have v0 : ¬ v = 0 := by omega
      have r1 : IntKind.i64.wrap (now.tdiv v) = now / v := IntWalk.i64_quo now v (by omega)
      have r2 : IntKind.i64.wrap (t.tdiv v) = t / v := IntWalk.i64_quo t v (by omega)
      have s1 : 0 ≤ t / v := Int.ediv_nonneg (by omega) (by omega)
      have s2 : t / v ≤ now / v := Int.ediv_le_ediv (by omega) (by omega)
      have s3 : now / v ≤ now := (IntWalk.tdiv_le now v (by omega) a3).2
      have r3 : IntKind.i64.wrap (k + now / v) = k + now / v := IntWalk.i64_in _ (by omega)
      have r4 : IntKind.i64.wrap (k + now / v - t / v) = k + now / v - t / v := IntWalk.i64_in _ (by omega)
      have hat : (if k + now / v - t / v < m then k + now / v - t / v else m) = bkAt m v t k now := bkAt_ref
      have KEEP : Hid (∀ w', Ext w w' → w'.cell? ⟨g, 0, none⟩ = some (.int .i64 m) ∧ w'.cell? ⟨g, 1, none⟩ = some (.int .i64 v) ∧ w'.cell? ⟨g, 2, none⟩ = some (.int .i64 t) ∧ w'.cell? ⟨g, 3, none⟩ = some (.int .i64 k)) := fun w' e => (h.ext e).cells
      go_enter Tryd.func82, Tryd.ntmps82
      go_wp2_with fail
      refine qgE [0, 1, 2, 3, 4, 5, 6, 7, 8, 9, 10, 11, 12, 13, 14, 15, 16, 17, 18, 19, 20, 21, 22, 23, 24, 25, 26] [] ?_
      repeat ((first | refine qR _ (fun w' e => KEEP.out w' ((Ext.refl _).drew.trans e)) ?_ | refine qS ?_); go_frame)
      refine seq_done ?_
      go_wp2_with fail
      go_ret
      exact ⟨ret_int hh.out, (Ext.refl _).drew⟩

set_option maxHeartbeats 2000000 in
theorem refTake_late {g : Nat} {m v t k now : Int} {w : World} (h : Rk w g m v t k) (hn2 : now ≤ 9223372036854775807) (q : 1000000 < now) :
    Calls Tryd.prog 59 #[.pointer (some ⟨g, 0, none⟩), .int .i64 now] w fun e w' => e = .returned (.int .i64 1) ∧ w' = w := by
  go_enter Tryd.func59, Tryd.ntmps59
  go_wp2_with fail
  go_ret
  exact ⟨rfl, rfl⟩
set_option maxHeartbeats 2000000 in
theorem refTake_old {g : Nat} {m v t k now : Int} {w : World} (h : Rk w g m v t k) (hn1 : -9223372036854775808 ≤ now) (ht : t ≤ 1000000) (q : now < t) :
    Calls Tryd.prog 59 #[.pointer (some ⟨g, 0, none⟩), .int .i64 now] w fun e w' => e = .returned (.int .i64 5) ∧ w' = w := by
  obtain ⟨c0, c1, c2, c3⟩ := h.cells
  have q1 : ¬ 1000000 < now := by omega
  go_enter Tryd.func59, Tryd.ntmps59
  go_wp2_with fail
  go_ret
  exact ⟨rfl, rfl⟩

/-- The document's Take at a time that is not past. -/
def RTook (m v t k now : Int) (g : Nat) (w : World) (e : Ending) (w' : World) : Prop :=
  w.grownBy w' (some g) ∧ ((bkAt m v t k now = 0 ∧ e = .returned (.int .i64 10) ∧ Rk w' g m v now 0) ∨ (0 < bkAt m v t k now ∧ e = .returned (.int .i64 0) ∧ Rk w' g m v now (bkAt m v t k now - 1)))

set_option maxHeartbeats 4000000 in
theorem refTake_calls {g : Nat} {m v t k now : Int} {w : World} (h : Rk w g m v t k) (hok : BkOk m v t k) (h1 : t ≤ now) (h2 : now ≤ 1000000) :
    Calls Tryd.prog 59 #[.pointer (some ⟨g, 0, none⟩), .int .i64 now] w (RTook m v t k now g w) := by
  obtain ⟨c0, c1, c2, c3⟩ := h.cells
  have hb := bkAt_ok hok h1
  have ha5 : 0 ≤ now := by have := hok.2.2.2.2.1; omega
  have p1 : decide (now < t) = false := by simp; omega
  have p2 : decide (1000000 < now) = false := by simp; omega
  have hm := hok.2.1
  have hhas := refHas_calls h hok (now := now) (by omega) (by omega)
  rw [bkHas_in h1 h2] at hhas
  generalize hx : bkAt m v t k now = x at *
  have HX := Lib.hid hx
  have HH := Lib.hid hhas
  clear hx hhas
  obtain ⟨x0, x1⟩ := hb
  go_enter Tryd.func59, Tryd.ntmps59
  go_wp2_with fail
  refine HH.out.mono ?_
  rintro e w1 ⟨rfl, e1⟩
  have r1 := h.ext e1
  obtain ⟨d0, d1, d2, d3⟩ := r1.cells
  have f2 := r1.frozen 2
  have f3 := r1.frozen 3
  clear c0 c1 c2 c3
  by_cases hx0 : x = 0
  · subst hx0
    go_wp2_with fail
    go_ret
    exact ⟨((bk_ext e1 _).set 2 _).set 3 _, .inl ⟨HX.out, rfl, (r1.setTime _).setTok _⟩⟩
  · have hx' : (x == 0) = false := by simp [hx0]
    go_wp2_with fail
    go_ret
    refine ⟨(((bk_ext e1 _).set 2 _).set 3 _).set 3 _, .inr ?_⟩
    rw [HX.out]
    exact ⟨by omega, rfl, ((r1.setTime _).setTok _).setTok _⟩

set_option maxHeartbeats 1000000 in
theorem refNew_good {m v : Int} {w : World} (q : bkSet m v) :
    Calls Tryd.prog 54 #[.int .i64 m, .int .i64 v] w fun e w' => e = .returned (.tuple #[.pointer (some ⟨w.heap.size, 0, none⟩), .int .i64 0]) ∧ Rk w' w.heap.size m v 0 m ∧ Ext w w' := by
  obtain ⟨a1, a2, a3, a4⟩ := q
  have d1 : decide (m < 1) = false := by simp; omega
  have d2 : decide (1000 < m) = false := by simp; omega
  have d3 : decide (v < 1) = false := by simp; omega
  have d4 : decide (1000 < v) = false := by simp; omega
  go_enter Tryd.func54, Tryd.ntmps54
  go_wp2_with fail
  go_ret2
  exact ⟨rfl, heap_alloc_new _ _, (Ext.refl _).alloc _⟩
set_option maxHeartbeats 1000000 in
theorem refNew_bad {m v : Int} {w : World} (q : ¬ bkSet m v) :
    Calls Tryd.prog 54 #[.int .i64 m, .int .i64 v] w fun e w' => e = .returned (.tuple #[.pointer none, .int .i64 1]) ∧ w' = w := by
  unfold bkSet at q
  by_cases q1 : m < 1
  · have d1 : decide (m < 1) = true := by simp [q1]
    clear q
    go_enter Tryd.func54, Tryd.ntmps54
    go_wp2_with fail
    go_ret2
    exact ⟨rfl, rfl⟩
  have d1 : decide (m < 1) = false := by simp; omega
  by_cases q2 : 1000 < m
  · have d2 : decide (1000 < m) = true := by simp [q2]
    clear q
    go_enter Tryd.func54, Tryd.ntmps54
    go_wp2_with fail
    go_ret2
    exact ⟨rfl, rfl⟩
  have d2 : decide (1000 < m) = false := by simp; omega
  by_cases q3 : v < 1
  · have d3 : decide (v < 1) = true := by simp [q3]
    clear q
    go_enter Tryd.func54, Tryd.ntmps54
    go_wp2_with fail
    go_ret2
    exact ⟨rfl, rfl⟩
  have d3 : decide (v < 1) = false := by simp; omega
  have d4 : decide (1000 < v) = true := by simp; omega
  clear q
  go_enter Tryd.func54, Tryd.ntmps54
  go_wp2_with fail
  go_ret2
  exact ⟨rfl, rfl⟩

theorem refTake_any {g : Nat} {m v t k now er t' k' : Int} {w : World} (h : Rk w g m v t k) (hok : BkOk m v t k) (hn1 : -9223372036854775808 ≤ now) (hn2 : now ≤ 9223372036854775807) (ht : bkTake m v t k now = (er, t', k')) :
    Calls Tryd.prog 59 #[.pointer (some ⟨g, 0, none⟩), .int .i64 now] w fun e w' => e = .returned (.int .i64 er) ∧ Rk w' g m v t' k' ∧ w.grownBy w' (some g) := by
  unfold bkTake at ht
  by_cases q1 : 1000000 < now
  · rw [if_pos q1] at ht
    injection ht with e1 e2
    injection e2 with e2 e3
    subst e1 e2 e3
    exact (refTake_late h hn2 q1).mono fun e w' ⟨he, hw⟩ => by subst hw; exact ⟨he, h, World.grownBy.refl _ _⟩
  · rw [if_neg q1] at ht
    by_cases q2 : now < t
    · rw [if_pos q2] at ht
      injection ht with e1 e2
      injection e2 with e2 e3
      subst e1 e2 e3
      exact (refTake_old h hn1 hok.2.2.2.2.2.1 q2).mono fun e w' ⟨he, hw⟩ => by subst hw; exact ⟨he, h, World.grownBy.refl _ _⟩
    · rw [if_neg q2] at ht
      refine (refTake_calls h hok (by omega) (by omega)).mono fun e w' ⟨hg, hh⟩ => ?_
      rcases hh with ⟨q3, he, hb⟩ | ⟨q3, he, hb⟩
      · rw [if_pos q3] at ht
        injection ht with e1 e2
        injection e2 with e2 e3
        subst e1 e2 e3
        exact ⟨he, hb, hg⟩
      · rw [if_neg (by omega)] at ht
        injection ht with e1 e2
        injection e2 with e2 e3
        subst e1 e2 e3
        exact ⟨he, hb, hg⟩

end Go.Proofs.YtbnjmmefnjoofaaDoor
end

section
/-
  The document's relay in memory; of, New, Suspend, Ack, Mails.
-/
namespace Go.Proofs.YtbnjmmefnjoofaaDoor
open Go.ChangeShapes Go.WideShapes Go.ChangeAt Go.RowKit Go.Deep Go.Maps
set_option maxRecDepth 100000

/-- What the document's relay has of one; its block. -/
structure Ra where
  bk : Nat
  lk : List UInt8
  ib : List UInt8
  sb : List UInt8
  ob : List UInt8
  ho : Bool
  A : Option Addr
  n : Nat
  c : Nat
  K : List (List UInt8)
  bx : Nat
  tk : Nat
  out : Bool
  L : List Wm
  last : Int
  t : Int
  k : Int
def raL (lk bb : List UInt8) (h : Bool) (o x y : Value) (out : Bool) : List Value := cellsOf lk ++ (bbC bb h ++ [o, x, y, .bool out])
theorem raL_len {lk bb : List UInt8} {h : Bool} {o x y : Value} {out : Bool} (h1 : lk.length = 32) (h2 : bb.length = 96) : (raL lk bb h o x y out).length = 133 := by
  simp [raL, cellsOf_len, bbC_len, h1, h2]
theorem raL_q {lk bb : List UInt8} {h : Bool} {o x y : Value} {out : Bool} (h1 : lk.length = 32) (h2 : bb.length = 96) (i : Nat) : (raL lk bb h o x y out)[129 + i]? = [o, x, y, Value.bool out][i]? := by
  unfold raL
  rw [List.getElem?_append_right (by simp [cellsOf_len, h1]; omega), List.getElem?_append_right (by simp [cellsOf_len, bbC_len, h1, h2]; omega)]
  congr 1
  simp [cellsOf_len, bbC_len, h1, h2]
  omega
theorem raL_at {lk bb : List UInt8} {h : Bool} {o x y : Value} {out : Bool} (h1 : lk.length = 32) (h2 : bb.length = 96) :
    (raL lk bb h o x y out)[129]? = some o ∧ (raL lk bb h o x y out)[130]? = some x ∧ (raL lk bb h o x y out)[131]? = some y ∧ (raL lk bb h o x y out)[132]? = some (.bool out) := ⟨raL_q h1 h2 0, raL_q h1 h2 1, raL_q h1 h2 2, raL_q h1 h2 3⟩
theorem raL_set {lk bb : List UInt8} {h : Bool} {o x y o' : Value} {out out' : Bool} (h1 : lk.length = 32) (h2 : bb.length = 96) :
    (raL lk bb h o x y out).set 129 o' = raL lk bb h o' x y out ∧ (raL lk bb h o x y out).set 132 (.bool out') = raL lk bb h o x y out' := by
  have q : ∀ i v, i < 4 → (raL lk bb h o x y out).set (129 + i) v = cellsOf lk ++ (bbC bb h ++ ([o, x, y, Value.bool out].set i v)) := fun i v hi => by
    unfold raL
    rw [List.set_append_right _ _ (by simp [cellsOf_len, h1]; omega), List.set_append_right _ _ (by simp [cellsOf_len, bbC_len, h1, h2]; omega)]
    have e : 129 + i - (cellsOf lk).length - (bbC bb h).length = i := by simp [cellsOf_len, bbC_len, h1, h2]; omega
    rw [e]
  exact ⟨q 0 o' (by omega), q 3 (.bool out') (by omega)⟩
def Ra.bb (a : Ra) : List UInt8 := a.ib ++ (a.sb ++ a.ob)
def Ra.C (a : Ra) : List Value := raL a.lk a.bb a.ho (.slice a.A a.n a.c) (.pointer (some ⟨a.bx, 0, none⟩)) (.pointer (some ⟨a.tk, 0, none⟩)) a.out
def Ra.lens (a : Ra) : Prop := a.lk.length = 32 ∧ a.ib.length = 32 ∧ a.sb.length = 32 ∧ a.ob.length = 32
theorem Ra.bb_len {a : Ra} (h : a.lens) : a.bb.length = 96 := by simp [Ra.bb, h.2.1, h.2.2.1, h.2.2.2]
theorem Ra.C_len {a : Ra} (h : a.lens) : a.C.length = 133 := raL_len h.1 (a.bb_len h)
theorem Ra.a0 {a : Ra} (h : a.lens) : a.C[129]? = some (.slice a.A a.n a.c) ∧ a.C[130]? = some (.pointer (some ⟨a.bx, 0, none⟩)) ∧ a.C[131]? = some (.pointer (some ⟨a.tk, 0, none⟩)) ∧ a.C[132]? = some (.bool a.out) := raL_at h.1 (a.bb_len h)
def rp (h : Nat → Option Ra) (j : Nat) : Value := .pointer ((h j).map fun a => ⟨a.bk, 0, none⟩)
def rwC (root : List UInt8) (ticks : Nat) (h : Nat → Option Ra) : List Value := cellsOf root ++ ([.int .i64 (ticks : Int)] ++ (List.range 8).map fun j => rp h j)
theorem rwC_at {root : List UInt8} (lr : root.length = 32) (ticks : Nat) (h : Nat → Option Ra) {j : Nat} (hj : j < 8) : (rwC root ticks h)[33 + j]? = some (rp h j) := by
  unfold rwC
  rw [List.getElem?_append_right (by rw [cellsOf_len, lr]; omega), List.getElem?_append_right (by rw [cellsOf_len, lr]; simp; omega), cellsOf_len, lr]
  have e : 33 + j - 32 - ([Value.int .i64 (ticks : Int)] : List Value).length = j := by simp; omega
  rw [e, List.getElem?_map, List.getElem?_range hj]
  rfl
def updR (f : Nat → Option Ra) (j : Nat) (x : Option Ra) : Nat → Option Ra := fun i => if i = j then x else f i
theorem updR_same (f : Nat → Option Ra) (j : Nat) (x : Option Ra) : updR f j x j = x := if_pos rfl
theorem updR_other (f : Nat → Option Ra) {i j : Nat} (x : Option Ra) (h : i ≠ j) : updR f j x i = f i := if_neg h
theorem rwC_set {root : List UInt8} (lr : root.length = 32) (ticks : Nat) (h : Nat → Option Ra) {j : Nat} (hj : j < 8) (a : Ra) : (rwC root ticks h).set (33 + j) (.pointer (some ⟨a.bk, 0, none⟩)) = rwC root ticks (updR h j (some a)) := by
  unfold rwC
  rw [List.set_append_right _ _ (by rw [cellsOf_len, lr]; omega), List.set_append_right _ _ (by rw [cellsOf_len, lr]; simp; omega), cellsOf_len, lr]
  have e : 33 + j - 32 - ([Value.int .i64 (ticks : Int)] : List Value).length = j := by simp; omega
  rw [e]
  congr 2
  refine List.ext_getElem? fun i => ?_
  rw [List.getElem?_set]
  by_cases hi : i < 8
  · by_cases e2 : j = i
    · subst e2
      rw [if_pos rfl, List.getElem?_map, List.getElem?_range hi]
      simp [hi, rp, updR_same]
    · rw [if_neg e2, List.getElem?_map, List.getElem?_map, List.getElem?_range hi]
      simp [rp, updR_other _ _ (Ne.symm e2)]
  · have e2 : ¬ j = i := by omega
    rw [if_neg e2, List.getElem?_eq_none (by simp; omega), List.getElem?_eq_none (by simp; omega)]
theorem rwC_same {root : List UInt8} {ticks : Nat} {h h' : Nat → Option Ra} (e : ∀ j, rp h j = rp h' j) : rwC root ticks h = rwC root ticks h' := by
  unfold rwC
  congr 2
  exact List.map_congr_left fun j _ => e j

def tagB20 (t : TypeId) : Bool := t == 96 || t == 101 || t == 157 || t == 100
def tagX (t : TypeId) : Bool := t == 90 || tagB20 t
structure Ra.at (own : Nat → Option Nat) (j : Nat) (N : Nat) (w : World) (a : Ra) : Prop where
  ln : a.lens
  cb : Cb w a.bk 100 a.C
  oa : own a.bk = some j
  ks : Kc w a.A a.n a.c a.K
  mb : MBP 96 101 (fun i => own i = some j) w a.bx a.L a.last
  ob : own a.bx = some j
  bu : Rk w a.tk 5 10 a.t a.k
  ok : BkOk 5 10 a.t a.k
  ot : own a.tk = some j
  le : a.L.length ≤ 8 ∧ 0 ≤ a.last ∧ a.last ≤ N
theorem Ra.at.keep {own own' : Nat → Option Nat} {j N N' : Nat} {w w' : World} {a : Ra} (h : a.at own j N w) (ho : ∀ i, i < w.heap.size → own i = some j → own' i = some j) (hN : N ≤ N') (K : ∀ (i : Nat) (cs : Array Value) (t : TypeId), w.heap[i]? = some (Obj.cells cs t (0, 0)) → (own i = some j ∧ tagB20 t = true ∨ t = 5 ∨ t = 23) → w'.heap[i]? = some (Obj.cells cs t (0, 0))) : a.at own' j N' w' where
  ln := h.ln
  cb := K _ _ _ h.cb (.inl ⟨h.oa, rfl⟩)
  oa := ho _ h.cb.lt h.oa
  ks := h.ks.keep fun i cs q => K i cs _ q (.inr (.inr rfl))
  mb := h.mb.keep ho fun i cs t q z => K i cs t q (by
    rcases z with ⟨rfl, rfl⟩ | ⟨z, rfl⟩ | rfl
    · exact .inl ⟨h.ob, rfl⟩
    · exact .inl ⟨z, rfl⟩
    · exact .inr (.inl rfl))
  ob := ho _ h.mb.lt h.ob
  bu := K _ _ _ h.bu (.inl ⟨h.ot, rfl⟩)
  ok := h.ok
  ot := ho _ h.bu.lt h.ot
  le := ⟨h.le.1, h.le.2.1, by have := h.le.2.2; omega⟩
/-- The document's relay at block g. -/
structure RWx (B : Nat) (w : World) (g : Nat) (root : List UInt8) (ticks : Nat) (own : Nat → Option Nat) (h : Nat → Option Ra) (N : Nat) : Prop where
  cb : Cb w g 90 (rwC root ticks h)
  lr : root.length = 32
  ti : 1 ≤ ticks ∧ ticks ≤ 1000000
  ac : ∀ j a, h j = some a → a.at own j N w
  lo : B ≤ g
  ow : ∀ i j, own i = some j → B ≤ i
def RW (B : Nat) (w : World) (g : Nat) (root : List UInt8) (ticks : Nat) (h : Nat → Option Ra) (N : Nat) : Prop := ∃ own, RWx B w g root ticks own h N
section
variable {B g ticks N : Nat} {w w' : World} {root : List UInt8} {own : Nat → Option Nat} {h : Nat → Option Ra}
theorem RWx.keep (k : RWx B w g root ticks own h N) {N' : Nat} (hN : N ≤ N') (K : ∀ (i : Nat) (cs : Array Value) (t : TypeId), w.heap[i]? = some (Obj.cells cs t (0, 0)) → (tagX t = true ∨ t = 5 ∨ t = 23) → w'.heap[i]? = some (Obj.cells cs t (0, 0))) : RWx B w' g root ticks own h N' :=
  ⟨K _ _ _ k.cb (.inl rfl), k.lr, k.ti, fun j a hj => (k.ac j a hj).keep (fun _ _ z => z) hN fun i cs t q z => K i cs t q (by
    rcases z with ⟨_, z⟩ | z | z
    · exact .inl (by unfold tagX; rw [z]; simp)
    · exact .inr (.inl z)
    · exact .inr (.inr z)), k.lo, k.ow⟩
theorem RW.ext (k : RW B w g root ticks h N) (e : Ext w w') : RW B w' g root ticks h N := by
  obtain ⟨own, k⟩ := k
  exact ⟨own, k.keep (Nat.le_refl _) fun i cs t q _ => (e.block _ (heap_lt q)).trans q⟩
theorem RW.more (k : RW B w g root ticks h N) {N' : Nat} (hN : N ≤ N') : RW B w g root ticks h N' := by
  obtain ⟨own, k⟩ := k
  exact ⟨own, k.keep hN fun i cs t q _ => q⟩
/-- The program's relay goes on: the document's stays. -/
theorem RW.tm {B' : Nat} (k : RW B w g root ticks h N) (t : Tm B' tagY w w') : RW B w' g root ticks h N := by
  obtain ⟨own, k⟩ := k
  refine ⟨own, k.keep (Nat.le_refl _) fun i cs t' q z => t.2.2.2.2 _ _ q (.inr ?_)⟩
  show tagY t' = false
  rcases z with z | rfl | rfl
  · unfold tagX tagB20 at z
    simp only [Bool.or_eq_true, beq_iff_eq] at z
    rcases z with rfl | ((rfl | rfl) | rfl) | rfl <;> decide
  · decide
  · decide
/-- The document's relay goes on: the program's stays. -/
theorem RY.tb {B' : Nat} {f : Nat → Option Ac} (k : RY B w g root ticks f N) (t : Tb B' tagX w w') : RY B w' g root ticks f N := by
  obtain ⟨s, mb, q, own, EE, hh⟩ := k
  have KK : ∀ (i : Nat) (cs : Array Value) (t' : TypeId), w.heap[i]? = some (Obj.cells cs t' (0, 0)) → tagX t' = false → w'.heap[i]? = some (Obj.cells cs t' (0, 0)) := fun i cs t' y z => t.2.2.2.2 _ _ y (.inr z)
  refine ⟨s, mb, q, own, EE, KK _ _ _ hh.cb (by decide), hh.sr.stay ((KK _ _ _ hh.sr.cb (by decide)).trans hh.sr.cb.symm) ((KK _ _ _ hh.sr.kr.1 (by decide)).trans hh.sr.kr.1.symm) ?_, hh.en, hh.ti, fun l b' hl => (hh.ac l b' hl).keep (fun _ _ z => z) (Nat.le_refl _) fun i cs t y z => KK i cs t y ?_, hh.lo, hh.ow⟩
  · obtain ⟨es, c, z⟩ := hh.sr.mp.obj
    rw [z]
    exact t.2.2.2.2 _ _ z (.inr rfl)
  · rcases z with ⟨_, z⟩ | rfl | rfl
    · unfold tagA at z
      simp only [Bool.or_eq_true, beq_iff_eq] at z
      rcases z with (rfl | rfl) | rfl <;> decide
    · decide
    · decide
theorem RW.cells (k : RW B w g root ticks h N) : Cb w g 90 (rwC root ticks h) ∧ root.length = 32 := by
  obtain ⟨own, k⟩ := k
  exact ⟨k.cb, k.lr⟩
theorem RW.acc (k : RW B w g root ticks h N) {j : Nat} {a : Ra} (hj : h j = some a) : a.lens ∧ Cb w a.bk 100 a.C ∧ Kc w a.A a.n a.c a.K ∧ MB 96 101 0 w a.bx a.L a.last ∧ (a.L.length ≤ 8 ∧ 0 ≤ a.last ∧ a.last ≤ N) := by
  obtain ⟨own, k⟩ := k
  have hA := k.ac j a hj
  exact ⟨hA.ln, hA.cb, hA.ks, hA.mb.mb, hA.le⟩
theorem RWx.own_ne (k : RWx B w g root ticks own h N) {i j : Nat} {a b : Ra} (hi : h i = some a) (hj : h j = some b) (e : i ≠ j) {x : Nat} (hx : own x = some i) : own x ≠ some j := fun z => e (Option.some.inj (hx.symm.trans z))
/-- Just one block of account j's turns; what it then has is given. -/
theorem RWx.one (k : RWx B w g root ticks own h N) {j : Nat} {a a' : Ra} (hj : h j = some a) (hk : a'.bk = a.bk) {r : Nat} {T : TypeId} {C : List Value} (hr : Cb w r T C) (ho : own r = some j) (ht : T ≠ 90 ∧ T ≠ 5 ∧ T ≠ 23 ∧ tagX T = true) (x : w.grownBy w' (some r)) (ha : a'.at own j N w') : RWx B w' g root ticks own (updR h j (some a')) N ∧ Tb B tagX w w' := by
  have K : ∀ (i : Nat) (cs : Array Value) (t : TypeId), w.heap[i]? = some (Obj.cells cs t (0, 0)) → i ≠ r → w'.heap[i]? = some (Obj.cells cs t (0, 0)) := fun i cs t y z => (x.block i (heap_lt y) fun q => z (Option.some.inj q)).trans y
  refine ⟨⟨?_, k.lr, k.ti, fun l b hl => ?_, k.lo, k.ow⟩, Tb.grown x fun q hq => ?_⟩
  · have e : rwC root ticks (updR h j (some a')) = rwC root ticks h := rwC_same fun i => by
      unfold rp
      by_cases e : i = j
      · subst e; rw [updR_same, hj]; simp [hk]
      · rw [updR_other _ _ e]
    rw [e]
    exact K _ _ _ k.cb (cells_ne k.cb hr ht.1.symm)
  · by_cases e : l = j
    · subst e
      rw [updR_same] at hl
      injection hl with hl
      subst hl
      exact ha
    · rw [updR_other _ _ e] at hl
      refine (k.ac l b hl).keep (fun _ _ z => z) (Nat.le_refl _) fun i cs t y z => K i cs t y fun q => ?_
      subst q
      rcases z with ⟨z, _⟩ | rfl | rfl
      · exact e (Option.some.inj (z.symm.trans ho))
      · exact cells_ne y hr ht.2.1.symm rfl
      · exact cells_ne y hr ht.2.2.1.symm rfl
  · obtain rfl := Option.some.inj hq
    refine ⟨k.ow _ _ ho, fun o ho' => ?_⟩
    have hr' : w.heap[r]? = _ := hr
    rw [hr'] at ho'
    injection ho' with ho'
    subst ho'
    exact ht.2.2.2
set_option maxHeartbeats 2000000 in
theorem of_calls (k : RW B w g root ticks h N) {n : Int} (h1 : -9223372036854775808 ≤ n) (h2 : n ≤ 9223372036854775807) : Calls Tryd.prog 37 #[.pointer (some ⟨g, 0, none⟩), .int .i64 n] w fun e w' => e = .returned (if 0 ≤ n ∧ n < 8 then rp h n.toNat else .pointer none) ∧ w' = w := by
  by_cases q1 : n < 0
  · rw [if_neg (by omega)]
    have u1 : decide (n < 0) = true := decide_eq_true q1
    go_enter Tryd.func37, Tryd.ntmps37
    go_wp2_with fail
    go_ret
    exact ⟨rfl, rfl⟩
  have u1 : decide (n < 0) = false := decide_eq_false q1
  by_cases q2 : 7 < n
  · rw [if_neg (by omega)]
    have u2 : decide (7 < n) = true := decide_eq_true q2
    go_enter Tryd.func37, Tryd.ntmps37
    go_wp2_with fail
    go_ret
    exact ⟨rfl, rfl⟩
  have u2 : decide (7 < n) = false := decide_eq_false q2
  rw [if_pos (by omega)]
  obtain ⟨j, rfl⟩ : ∃ j : Nat, n = (j : Int) := ⟨n.toNat, by omega⟩
  have j8 : j < 8 := by omega
  rw [Int.toNat_natCast]
  have c0 : w.cell? ⟨g, 33 + j, none⟩ = some (rp h j) := k.cells.1.cell (rwC_at k.cells.2 ticks h j8)
  generalize rp h j = v at *
  go_enter Tryd.func37, Tryd.ntmps37
  go_wp2_with fail
  go_ret
  exact ⟨rfl, rfl⟩
def fdR (h : Nat → Option Ra) (n : Int) : Option Nat := if 0 ≤ n ∧ n < 8 then (h n.toNat).map fun _ => n.toNat else none
theorem of_no (k : RW B w g root ticks h N) {n : Int} (h1 : -9223372036854775808 ≤ n) (h2 : n ≤ 9223372036854775807) (hn : fdR h n = none) : Calls Tryd.prog 37 #[.pointer (some ⟨g, 0, none⟩), .int .i64 n] w fun e w' => e = .returned (.pointer none) ∧ w' = w := by
  have := of_calls k h1 h2
  unfold fdR at hn
  split at hn
  · rename_i q
    rw [if_pos q] at this
    have e : h n.toNat = none := Option.map_eq_none_iff.1 hn
    unfold rp at this
    rw [e] at this
    exact this
  · rename_i q
    rw [if_neg q] at this
    exact this
theorem of_ok (k : RW B w g root ticks h N) {j : Nat} {a : Ra} (hj : h j = some a) (j8 : j < 8) : Calls Tryd.prog 37 #[.pointer (some ⟨g, 0, none⟩), .int .i64 (j : Int)] w fun e w' => e = .returned (.pointer (some ⟨a.bk, 0, none⟩)) ∧ w' = w := by
  have := of_calls k (n := (j : Int)) (by omega) (by omega)
  rw [if_pos (by omega), Int.toNat_natCast] at this
  unfold rp at this
  rw [hj] at this
  exact this
theorem rsuspend_no (k : RW B w g root ticks h N) {n : Int} (h1 : -9223372036854775808 ≤ n) (h2 : n ≤ 9223372036854775807) (hn : fdR h n = none) (b : Bool) : Calls Tryd.prog 32 #[.pointer (some ⟨g, 0, none⟩), .int .i64 n, .bool b] w fun e w' => e = .returned (.int .i64 7) ∧ w' = w := by
  have FN := Lib.hid (of_no k h1 h2 hn)
  clear k h1 h2 hn
  go_enter Tryd.func32, Tryd.ntmps32
  go_wp2_with fail
  refine FN.out.mono ?_
  rintro e w1 ⟨rfl, rfl⟩
  go_wp2_with fail
  go_ret
  exact ⟨rfl, rfl⟩
theorem rsuspend_ok (k : RW B w g root ticks h N) {j : Nat} {a : Ra} (hj : h j = some a) (j8 : j < 8) (b : Bool) : Calls Tryd.prog 32 #[.pointer (some ⟨g, 0, none⟩), .int .i64 (j : Int), .bool b] w fun e w' => e = .returned (.int .i64 0) ∧ RW B w' g root ticks (updR h j (some { a with out := b })) N ∧ Tb B tagX w w' := by
  have FN := Lib.hid (of_ok k hj j8)
  have hA := k.acc hj
  have c5 := hA.2.1.cell (a.a0 hA.1).2.2.2
  have f5 := hA.2.1.frozen 132
  have FIN : Hid (RW B (w.setCell ⟨a.bk, 132, none⟩ (.bool b)) g root ticks (updR h j (some { a with out := b })) N ∧ Tb B tagX w (w.setCell ⟨a.bk, 132, none⟩ (.bool b))) := by
    obtain ⟨own, k⟩ := k
    have kA := k.ac j a hj
    have hx : w.grownBy (w.setCell ⟨a.bk, 132, none⟩ (.bool b)) (some a.bk) := (World.grownBy.refl w _).set _ _
    have KT : ∀ (i : Nat) (cs : Array Value) (t : TypeId), w.heap[i]? = some (Obj.cells cs t (0, 0)) → t ≠ 100 → (w.setCell ⟨a.bk, 132, none⟩ (.bool b)).heap[i]? = some (Obj.cells cs t (0, 0)) := fun i cs t y z => (hx.block i (heap_lt y) fun q => cells_ne y kA.cb z (Option.some.inj q)).trans y
    have hc := kA.cb.setCell (o := 132) (v := .bool b)
    rw [show a.C.set 132 (.bool b) = ({ a with out := b } : Ra).C from (raL_set kA.ln.1 (a.bb_len kA.ln) (o' := .bool true)).2] at hc
    have := k.one (a' := { a with out := b }) hj rfl kA.cb kA.oa (by decide) hx ⟨kA.ln, hc, kA.oa, kA.ks.keep fun i cs y => KT i cs _ y (by decide), kA.mb.keep (fun _ _ z => z) fun i cs t y z => KT i cs t y (by rcases z with ⟨_, rfl⟩ | ⟨_, rfl⟩ | rfl <;> decide), kA.ob, KT _ _ _ kA.bu (by decide), kA.ok, kA.ot, kA.le⟩
    exact ⟨⟨own, this.1⟩, this.2⟩
  clear k hA
  generalize a.bk = bk at *
  go_enter Tryd.func32, Tryd.ntmps32
  go_wp2_with fail
  refine FN.out.mono ?_
  rintro e w1 ⟨rfl, rfl⟩
  go_wp2_with fail
  go_ret
  exact ⟨rfl, FIN.out⟩
end
end Go.Proofs.YtbnjmmefnjoofaaDoor
end

section
/-
  The document's rows of the order (layer 2).
-/
namespace Go.Proofs.YtbnjmmefnjoofaaDoor
open Go.ChangeShapes Go.WideShapes Go.ChangeAt Go.RowKit Go.Deep

def allocs (w : World) (l : List Obj) : World := l.foldl World.alloc w
theorem allocs_ext : ∀ (l : List Obj) (w : World), Ext w (allocs w l)
  | [], w => Ext.refl w
  | o :: l, w => ((Ext.refl w).alloc o).trans (allocs_ext l (w.alloc o))
theorem allocs_at : ∀ (l : List Obj) (w : World) (j : Nat) (o : Obj), l[j]? = some o → (allocs w l).heap[w.heap.size + j]? = some o
  | [], w, j, o, h => by simp at h
  | p :: l, w, 0, o, h => by
    simp at h
    subst h
    exact ((allocs_ext l (w.alloc p)).block w.heap.size (by rw [size_alloc]; omega)).trans (heap_alloc_new w p)
  | p :: l, w, j + 1, o, h => by
    have := allocs_at l (w.alloc p) j o (by simpa using h)
    rw [size_alloc] at this
    rw [show w.heap.size + (j + 1) = w.heap.size + 1 + j by omega]
    exact this
def rowI (k : Nat) : Array Value := ((List.range 16).map fun j => Value.int .i64 (pm k j : Int)).toArray
def rowsI (s : Nat) : Array Value := ((List.range 10).map fun k => Value.slice (some ⟨s + k, 0, none⟩) 16 16).toArray
/-- The order's rows, in blocks from s on, and the block that lists them. -/
def Rws (w : World) (s : Nat) : Prop := s + 10 < w.heap.size ∧ ∀ k, k < 10 → w.cell? ⟨s + 10, k, none⟩ = some (.slice (some ⟨s + k, 0, none⟩) 16 16) ∧ ∀ j, j < 16 → w.cell? ⟨s + k, j, none⟩ = some (.int .i64 (pm k j : Int))
def rowsO (s : Nat) : List Obj := ((List.range 10).map fun k => Obj.cells (rowI k) 3) ++ [Obj.cells (rowsI s) 182]
theorem rows_of (w : World) : Rws (allocs w (rowsO w.heap.size)) w.heap.size := by
  have hl : ∀ k, k < 10 → (rowsO w.heap.size)[k]? = some (Obj.cells (rowI k) 3) := fun k hk => by
    unfold rowsO
    rw [List.getElem?_append_left (by simp; omega)]
    simp [hk]
  have h10 : (rowsO w.heap.size)[10]? = some (Obj.cells (rowsI w.heap.size) 182) := by
    unfold rowsO
    rw [List.getElem?_append_right (by simp)]
    simp
  have hb := allocs_at _ w 10 _ h10
  refine ⟨heap_lt hb, fun k hk => ⟨?_, fun j hj => ?_⟩⟩
  · rw [cell_of_row _ _ _ _ _ (0, 0) hb]
    simp [rowsI, hk]
  · rw [cell_of_row _ _ _ _ _ (0, 0) (allocs_at _ w k _ (hl k hk))]
    simp [rowI, hj]
theorem Rws.ext {w w' : World} {s : Nat} (h : Rws w s) (e : Ext w w') : Rws w' s :=
  ⟨Nat.lt_of_lt_of_le h.1 e.size, fun k hk => ⟨(e.cell (p := ⟨s + 10, k, none⟩) h.1).trans (h.2 k hk).1, fun j hj => (e.cell (p := ⟨s + k, j, none⟩) (show s + k < _ by have := h.1; omega)).trans ((h.2 k hk).2 j hj)⟩⟩

set_option maxRecDepth 100000 in
set_option maxHeartbeats 1000000 in
theorem refRows_calls {w : World} :
    Calls Tryd.prog 103 #[] w fun e w' => ∃ s, e = .returned (.slice (some ⟨s + 10, 0, none⟩) 10 10) ∧ w.heap.size ≤ s ∧ Rws w' s ∧ Ext w w' := by
  go_enter Tryd.func103, Tryd.ntmps103
  go_wp2_with fail
  go_ret
  exact ⟨w.heap.size, rfl, Nat.le_refl _, rows_of w, allocs_ext (rowsO w.heap.size) w⟩
end Go.Proofs.YtbnjmmefnjoofaaDoor
end

section
/-
  The document's TURN.
-/
namespace Go.Proofs.YtbnjmmefnjoofaaDoor
open Go.ChangeShapes Go.WideShapes Go.ChangeAt Go.RowKit Go.Deep

set_option maxHeartbeats 1000000 in
theorem refTurn_calls {n x : Nat} {w : World} (hx : x < 4294967296) (h1 : 1 ≤ n) (h2 : n ≤ 31) :
    Calls Tryd.prog 105 #[.int .u32 (x : Int), .int .i64 (n : Int)] w fun e w' => e = .returned (.int .u32 (rotr n x : Int)) ∧ ∃ k, w' = w.drewN k := by
  have hs : ∃ s : Nat, 32 - n = s ∧ s ≤ 31 ∧ n = 32 - s ∧ 1 ≤ s := ⟨32 - n, rfl, by omega, by omega, by omega⟩
  obtain ⟨s, e1, e2, e3, e4⟩ := hs
  have hf := Lib.hid (rotr_int (n := n) (by omega) hx)
  rw [e1] at hf
  have hd : IntKind.i64.wrap (32 - (n : Int)) = (s : Int) := by rw [IntWalk.i64_in _ (by omega)]; omega
  have hor : ∀ a b, a < 4294967296 → b < 4294967296 → bits .or .u32 ((b : Nat) : Int) ((a : Nat) : Int) = bits .or .u32 ((a : Nat) : Int) ((b : Nat) : Int) := fun a b ha hb => by
    rw [u32_or_nat _ _ hb ha, u32_or_nat _ _ ha hb, Nat.or_comm]
  have HO := Lib.hid hor
  clear hor
  have q1 : Op.shift .shr .u32 (x : Int) .i64 (n : Int) = pure (.int .u32 ((x : Int) / 2 ^ n)) := by
    have := shift_shr .u32 .i64 (x : Int) (n : Int) (by omega) (by show (n : Int) ≤ 32; omega)
    rw [this]
    simp
  have q2 : Op.shift .shl .u32 (x : Int) .i64 (s : Int) = pure (.int .u32 ((x : Int) * 2 ^ s % 4294967296)) := by
    have := shift_shl .u32 .i64 (x : Int) (s : Int) (by omega) (by show (s : Int) ≤ 32; omega)
    rw [this, IntKind.wrap_u32]
    simp
  clear e1 e3
  go_enter Tryd.func105, Tryd.ntmps105
  go_wp2_with fail
  refine qgE [0, 1, 2, 3, 4, 5, 6, 7, 8] [] ?_
  repeat ((first | refine qR0 ?_ | refine qS ?_); go_frame)
  refine seq_done ?_
  go_wp2_with fail
  go_ret
  refine ⟨congrArg (fun v => Ending.returned (Value.int .u32 v)) (Eq.trans ?_ hf.out), 1, rfl⟩
  have p1 : (x : Int) / 2 ^ n = ((x / 2 ^ n : Nat) : Int) := by simp
  have p2 : (x : Int) * 2 ^ s % 4294967296 = ((x * 2 ^ s % 4294967296 : Nat) : Int) := by simp
  rw [p1, p2]
  exact HO.out (x * 2 ^ s % 4294967296) (x / 2 ^ n) (Nat.mod_lt _ (by decide)) (Nat.lt_of_le_of_lt (Nat.div_le_self _ _) hx)
end Go.Proofs.YtbnjmmefnjoofaaDoor
end

section
/-
  The document's MIX.
-/
namespace Go.Proofs.YtbnjmmefnjoofaaDoor
open Go.ChangeShapes Go.WideShapes Go.ChangeAt Go.RowKit Go.Deep

theorem putAdd_left (vs : List Nat) (a b x : Nat) : putAdd vs a b x = vs.set a (add32 (add32 (wd vs a) (wd vs b)) x) := by
  unfold putAdd add32
  congr 1
  omega

set_option maxRecDepth 100000 in
set_option maxHeartbeats 4000000 in
theorem refMix_calls {cap g a b c d x y : Nat} {vs : List Nat} {w : World} (h : Arr w g vs) (hl : vs.length = 16) (ha : a < 16) (hb : b < 16) (hc : c < 16) (hd : d < 16) (hx : x < 4294967296) (hy : y < 4294967296) :
    Calls Tryd.prog 104 #[.slice (some ⟨g, 0, none⟩) 16 cap, .int .i64 (a : Int), .int .i64 (b : Int), .int .i64 (c : Int), .int .i64 (d : Int), .int .u32 (x : Int), .int .u32 (y : Int)] w
      fun e w' => e = .returned (.tuple #[]) ∧ Arr w' g (mixL vs a b c d x y) ∧ w.grownBy w' (some g) := by
  have ha' : (a : Int) < 16 := by omega
  have hb' : (b : Int) < 16 := by omega
  have hc' : (c : Int) < 16 := by omega
  have hd' : (d : Int) < 16 := by omega
  go_enter Tryd.func104, Tryd.ntmps104
  go_wp2_with fail
  refine wp_gen (fun w1 => Arr w1 g vs ∧ w.grownBy w1 (some g)) ⟨h, gr_ext (Ext.refl _) _⟩ ?_
  rintro w0 ⟨A0, G0⟩
  have L0 := hl
  clear h
  obtain ⟨cp, fp, lp⟩ := A0.fct (i := a) (by omega)
  obtain ⟨cq, fq, lq⟩ := A0.fct (i := b) (by omega)
  have KEEP : Hid (∀ w', Ext w0 w' → w'.cell? ⟨g, a, none⟩ = some (.int .u32 (wd vs a : Int)) ∧ w'.cell? ⟨g, b, none⟩ = some (.int .u32 (wd vs b : Int))) := fun w' e => ⟨((A0.ext e).fct (by omega)).1, ((A0.ext e).fct (by omega)).1⟩
  have u1 : IntKind.u32.wrap ((wd vs a : Int) + (wd vs b : Int)) = (add32 (wd vs a) (wd vs b) : Int) := u32_add
  have u2 : IntKind.u32.wrap ((add32 (wd vs a) (wd vs b) : Int) + (x : Int)) = (add32 (add32 (wd vs a) (wd vs b)) x : Int) := u32_add
  refine qgZE 14 [0, 1, 2, 3, 4, 5, 6, 7, 8, 9, 10, 11, 12, 13, 14] [14] ?_
  repeat (refine qzR _ (fun w' e => KEEP.out w' ((Ext.refl _).drew.trans e)) ?_; go_frame)
  refine qzD fun K1 hK1 => ?_
  go_simp
  refine hK1.out _ _ (.inl rfl) ?_
  clear hK1 K1
  refine seqZ_done ?_
  go_wp2_with fail
  refine wp_gen (fun w1 => Arr w1 g (putAdd vs a b x) ∧ w.grownBy w1 (some g)) ⟨putAdd_left vs a b x ▸ (A0.set (by omega) (add32_lt _ _)).ext (Ext.refl _).drew, grown_set G0⟩ ?_
  rintro w1 ⟨A1, G1⟩
  have L1 : (putAdd vs a b x).length = 16 := (putAdd_len ..).trans L0
  clear A0 G0 L0 cp fp lp cq fq lq KEEP u1 u2
  generalize HV0 : putAdd vs a b x = v1 at A1 L1
  replace HV0 := Lib.hid HV0
  obtain ⟨cp, fp, lp⟩ := A1.fct (i := d) (by omega)
  obtain ⟨cq, fq, lq⟩ := A1.fct (i := a) (by omega)
  have KEEP : Hid (∀ w', Ext w1 w' → w'.cell? ⟨g, d, none⟩ = some (.int .u32 (wd v1 d : Int)) ∧ w'.cell? ⟨g, a, none⟩ = some (.int .u32 (wd v1 a : Int))) := fun w' e => ⟨((A1.ext e).fct (by omega)).1, ((A1.ext e).fct (by omega)).1⟩
  have u1 : bits .xor .u32 (wd v1 d : Int) (wd v1 a : Int) = ((wd v1 d ^^^ wd v1 a : Nat) : Int) := u32_xor_nat _ _ lp lq
  have HR := Lib.hid (fun w0 : World => @refTurn_calls 16 (wd v1 d ^^^ wd v1 a) w0 (xor_lt32 lp lq) (by omega) (by omega))
  refine qgZE 13 [0, 1, 2, 3, 4, 5, 6, 7, 8, 9, 10, 11, 12, 13] [11, 13] ?_
  repeat (refine qzR _ (fun w' e => KEEP.out w' ((Ext.refl _).drew.trans e)) ?_; go_frame)
  refine qzD fun K1 hK1 => ?_
  go_simp
  refine (HR.out _).mono ?_
  rintro e w1 ⟨rfl, k1, rfl⟩
  refine hK1.out _ _ (.inr ((Ext.refl _).drewN k1)) ?_
  clear hK1 K1
  try go_frame
  repeat (refine qzR _ (fun w' e => KEEP.out w' (((Ext.refl _).drew.drewN k1).trans e)) ?_; go_frame)
  refine qzD fun K1 hK1 => ?_
  go_simp
  refine hK1.out _ _ (.inl rfl) ?_
  clear hK1 K1
  refine seqZ_done ?_
  go_wp2_with fail
  refine wp_gen (fun w1 => Arr w1 g (putRot 16 v1 d a) ∧ w.grownBy w1 (some g)) ⟨(A1.ext ((Ext.refl _).drewN (1 + k1))).set (by omega) (rotr_lt (xor_lt32 lp lq)), gr_set (gr_trans G1 (gr_ext ((Ext.refl _).drewN (1 + k1)) _)) _ _⟩ ?_
  rintro w2 ⟨A2, G2⟩
  have L2 : (putRot 16 v1 d a).length = 16 := (putRot_len ..).trans L1
  clear A1 G1 L1 cp fp lp cq fq lq KEEP u1 HR
  generalize HV1 : putRot 16 v1 d a = v2 at A2 L2
  replace HV1 := Lib.hid HV1
  obtain ⟨cp, fp, lp⟩ := A2.fct (i := c) (by omega)
  obtain ⟨cq, fq, lq⟩ := A2.fct (i := d) (by omega)
  have KEEP : Hid (∀ w', Ext w2 w' → w'.cell? ⟨g, c, none⟩ = some (.int .u32 (wd v2 c : Int)) ∧ w'.cell? ⟨g, d, none⟩ = some (.int .u32 (wd v2 d : Int))) := fun w' e => ⟨((A2.ext e).fct (by omega)).1, ((A2.ext e).fct (by omega)).1⟩
  have u1 : IntKind.u32.wrap ((wd v2 c : Int) + (wd v2 d : Int)) = (add32 (wd v2 c) (wd v2 d) : Int) := u32_add
  refine qgZE 12 [0, 1, 2, 3, 4, 5, 6, 7, 8, 9, 10, 11, 12] [12] ?_
  repeat (refine qzR _ (fun w' e => KEEP.out w' ((Ext.refl _).drew.trans e)) ?_; go_frame)
  refine qzD fun K1 hK1 => ?_
  go_simp
  refine hK1.out _ _ (.inl rfl) ?_
  clear hK1 K1
  refine seqZ_done ?_
  go_wp2_with fail
  refine wp_gen (fun w1 => Arr w1 g (putSum v2 c d) ∧ w.grownBy w1 (some g)) ⟨(A2.set (by omega) (add32_lt _ _)).ext (Ext.refl _).drew, grown_set G2⟩ ?_
  rintro w3 ⟨A3, G3⟩
  have L3 : (putSum v2 c d).length = 16 := (putSum_len ..).trans L2
  clear A2 G2 L2 cp fp lp cq fq lq KEEP u1
  generalize HV2 : putSum v2 c d = v3 at A3 L3
  replace HV2 := Lib.hid HV2
  obtain ⟨cp, fp, lp⟩ := A3.fct (i := b) (by omega)
  obtain ⟨cq, fq, lq⟩ := A3.fct (i := c) (by omega)
  have KEEP : Hid (∀ w', Ext w3 w' → w'.cell? ⟨g, b, none⟩ = some (.int .u32 (wd v3 b : Int)) ∧ w'.cell? ⟨g, c, none⟩ = some (.int .u32 (wd v3 c : Int))) := fun w' e => ⟨((A3.ext e).fct (by omega)).1, ((A3.ext e).fct (by omega)).1⟩
  have u1 : bits .xor .u32 (wd v3 b : Int) (wd v3 c : Int) = ((wd v3 b ^^^ wd v3 c : Nat) : Int) := u32_xor_nat _ _ lp lq
  have HR := Lib.hid (fun w0 : World => @refTurn_calls 12 (wd v3 b ^^^ wd v3 c) w0 (xor_lt32 lp lq) (by omega) (by omega))
  refine qgZE 13 [0, 1, 2, 3, 4, 5, 6, 7, 8, 9, 10, 11, 12, 13] [11, 13] ?_
  repeat (refine qzR _ (fun w' e => KEEP.out w' ((Ext.refl _).drew.trans e)) ?_; go_frame)
  refine qzD fun K1 hK1 => ?_
  go_simp
  refine (HR.out _).mono ?_
  rintro e w1 ⟨rfl, k1, rfl⟩
  refine hK1.out _ _ (.inr ((Ext.refl _).drewN k1)) ?_
  clear hK1 K1
  try go_frame
  repeat (refine qzR _ (fun w' e => KEEP.out w' (((Ext.refl _).drew.drewN k1).trans e)) ?_; go_frame)
  refine qzD fun K1 hK1 => ?_
  go_simp
  refine hK1.out _ _ (.inl rfl) ?_
  clear hK1 K1
  refine seqZ_done ?_
  go_wp2_with fail
  refine wp_gen (fun w1 => Arr w1 g (putRot 12 v3 b c) ∧ w.grownBy w1 (some g)) ⟨(A3.ext ((Ext.refl _).drewN (1 + k1))).set (by omega) (rotr_lt (xor_lt32 lp lq)), gr_set (gr_trans G3 (gr_ext ((Ext.refl _).drewN (1 + k1)) _)) _ _⟩ ?_
  rintro w4 ⟨A4, G4⟩
  have L4 : (putRot 12 v3 b c).length = 16 := (putRot_len ..).trans L3
  clear A3 G3 L3 cp fp lp cq fq lq KEEP u1 HR
  generalize HV3 : putRot 12 v3 b c = v4 at A4 L4
  replace HV3 := Lib.hid HV3
  obtain ⟨cp, fp, lp⟩ := A4.fct (i := a) (by omega)
  obtain ⟨cq, fq, lq⟩ := A4.fct (i := b) (by omega)
  have KEEP : Hid (∀ w', Ext w4 w' → w'.cell? ⟨g, a, none⟩ = some (.int .u32 (wd v4 a : Int)) ∧ w'.cell? ⟨g, b, none⟩ = some (.int .u32 (wd v4 b : Int))) := fun w' e => ⟨((A4.ext e).fct (by omega)).1, ((A4.ext e).fct (by omega)).1⟩
  have u1 : IntKind.u32.wrap ((wd v4 a : Int) + (wd v4 b : Int)) = (add32 (wd v4 a) (wd v4 b) : Int) := u32_add
  have u2 : IntKind.u32.wrap ((add32 (wd v4 a) (wd v4 b) : Int) + (y : Int)) = (add32 (add32 (wd v4 a) (wd v4 b)) y : Int) := u32_add
  refine qgZE 14 [0, 1, 2, 3, 4, 5, 6, 7, 8, 9, 10, 11, 12, 13, 14] [14] ?_
  repeat (refine qzR _ (fun w' e => KEEP.out w' ((Ext.refl _).drew.trans e)) ?_; go_frame)
  refine qzD fun K1 hK1 => ?_
  go_simp
  refine hK1.out _ _ (.inl rfl) ?_
  clear hK1 K1
  refine seqZ_done ?_
  go_wp2_with fail
  refine wp_gen (fun w1 => Arr w1 g (putAdd v4 a b y) ∧ w.grownBy w1 (some g)) ⟨putAdd_left v4 a b y ▸ (A4.set (by omega) (add32_lt _ _)).ext (Ext.refl _).drew, grown_set G4⟩ ?_
  rintro w5 ⟨A5, G5⟩
  have L5 : (putAdd v4 a b y).length = 16 := (putAdd_len ..).trans L4
  clear A4 G4 L4 cp fp lp cq fq lq KEEP u1 u2
  generalize HV4 : putAdd v4 a b y = v5 at A5 L5
  replace HV4 := Lib.hid HV4
  obtain ⟨cp, fp, lp⟩ := A5.fct (i := d) (by omega)
  obtain ⟨cq, fq, lq⟩ := A5.fct (i := a) (by omega)
  have KEEP : Hid (∀ w', Ext w5 w' → w'.cell? ⟨g, d, none⟩ = some (.int .u32 (wd v5 d : Int)) ∧ w'.cell? ⟨g, a, none⟩ = some (.int .u32 (wd v5 a : Int))) := fun w' e => ⟨((A5.ext e).fct (by omega)).1, ((A5.ext e).fct (by omega)).1⟩
  have u1 : bits .xor .u32 (wd v5 d : Int) (wd v5 a : Int) = ((wd v5 d ^^^ wd v5 a : Nat) : Int) := u32_xor_nat _ _ lp lq
  have HR := Lib.hid (fun w0 : World => @refTurn_calls 8 (wd v5 d ^^^ wd v5 a) w0 (xor_lt32 lp lq) (by omega) (by omega))
  refine qgZE 13 [0, 1, 2, 3, 4, 5, 6, 7, 8, 9, 10, 11, 12, 13] [11, 13] ?_
  repeat (refine qzR _ (fun w' e => KEEP.out w' ((Ext.refl _).drew.trans e)) ?_; go_frame)
  refine qzD fun K1 hK1 => ?_
  go_simp
  refine (HR.out _).mono ?_
  rintro e w1 ⟨rfl, k1, rfl⟩
  refine hK1.out _ _ (.inr ((Ext.refl _).drewN k1)) ?_
  clear hK1 K1
  try go_frame
  repeat (refine qzR _ (fun w' e => KEEP.out w' (((Ext.refl _).drew.drewN k1).trans e)) ?_; go_frame)
  refine qzD fun K1 hK1 => ?_
  go_simp
  refine hK1.out _ _ (.inl rfl) ?_
  clear hK1 K1
  refine seqZ_done ?_
  go_wp2_with fail
  refine wp_gen (fun w1 => Arr w1 g (putRot 8 v5 d a) ∧ w.grownBy w1 (some g)) ⟨(A5.ext ((Ext.refl _).drewN (1 + k1))).set (by omega) (rotr_lt (xor_lt32 lp lq)), gr_set (gr_trans G5 (gr_ext ((Ext.refl _).drewN (1 + k1)) _)) _ _⟩ ?_
  rintro w6 ⟨A6, G6⟩
  have L6 : (putRot 8 v5 d a).length = 16 := (putRot_len ..).trans L5
  clear A5 G5 L5 cp fp lp cq fq lq KEEP u1 HR
  generalize HV5 : putRot 8 v5 d a = v6 at A6 L6
  replace HV5 := Lib.hid HV5
  obtain ⟨cp, fp, lp⟩ := A6.fct (i := c) (by omega)
  obtain ⟨cq, fq, lq⟩ := A6.fct (i := d) (by omega)
  have KEEP : Hid (∀ w', Ext w6 w' → w'.cell? ⟨g, c, none⟩ = some (.int .u32 (wd v6 c : Int)) ∧ w'.cell? ⟨g, d, none⟩ = some (.int .u32 (wd v6 d : Int))) := fun w' e => ⟨((A6.ext e).fct (by omega)).1, ((A6.ext e).fct (by omega)).1⟩
  have u1 : IntKind.u32.wrap ((wd v6 c : Int) + (wd v6 d : Int)) = (add32 (wd v6 c) (wd v6 d) : Int) := u32_add
  refine qgZE 12 [0, 1, 2, 3, 4, 5, 6, 7, 8, 9, 10, 11, 12] [12] ?_
  repeat (refine qzR _ (fun w' e => KEEP.out w' ((Ext.refl _).drew.trans e)) ?_; go_frame)
  refine qzD fun K1 hK1 => ?_
  go_simp
  refine hK1.out _ _ (.inl rfl) ?_
  clear hK1 K1
  refine seqZ_done ?_
  go_wp2_with fail
  refine wp_gen (fun w1 => Arr w1 g (putSum v6 c d) ∧ w.grownBy w1 (some g)) ⟨(A6.set (by omega) (add32_lt _ _)).ext (Ext.refl _).drew, grown_set G6⟩ ?_
  rintro w7 ⟨A7, G7⟩
  have L7 : (putSum v6 c d).length = 16 := (putSum_len ..).trans L6
  clear A6 G6 L6 cp fp lp cq fq lq KEEP u1
  generalize HV6 : putSum v6 c d = v7 at A7 L7
  replace HV6 := Lib.hid HV6
  obtain ⟨cp, fp, lp⟩ := A7.fct (i := b) (by omega)
  obtain ⟨cq, fq, lq⟩ := A7.fct (i := c) (by omega)
  have KEEP : Hid (∀ w', Ext w7 w' → w'.cell? ⟨g, b, none⟩ = some (.int .u32 (wd v7 b : Int)) ∧ w'.cell? ⟨g, c, none⟩ = some (.int .u32 (wd v7 c : Int))) := fun w' e => ⟨((A7.ext e).fct (by omega)).1, ((A7.ext e).fct (by omega)).1⟩
  have u1 : bits .xor .u32 (wd v7 b : Int) (wd v7 c : Int) = ((wd v7 b ^^^ wd v7 c : Nat) : Int) := u32_xor_nat _ _ lp lq
  have HR := Lib.hid (fun w0 : World => @refTurn_calls 7 (wd v7 b ^^^ wd v7 c) w0 (xor_lt32 lp lq) (by omega) (by omega))
  refine qgZE 13 [0, 1, 2, 3, 4, 5, 6, 7, 8, 9, 10, 11, 12, 13] [11, 13] ?_
  repeat (refine qzR _ (fun w' e => KEEP.out w' ((Ext.refl _).drew.trans e)) ?_; go_frame)
  refine qzD fun K1 hK1 => ?_
  go_simp
  refine (HR.out _).mono ?_
  rintro e w1 ⟨rfl, k1, rfl⟩
  refine hK1.out _ _ (.inr ((Ext.refl _).drewN k1)) ?_
  clear hK1 K1
  try go_frame
  repeat (refine qzR _ (fun w' e => KEEP.out w' (((Ext.refl _).drew.drewN k1).trans e)) ?_; go_frame)
  refine qzD fun K1 hK1 => ?_
  go_simp
  refine hK1.out _ _ (.inl rfl) ?_
  clear hK1 K1
  refine seqZ_done ?_
  go_wp2_with fail
  have HM : mixL vs a b c d x y = putRot 7 v7 b c := by
    unfold mixL
    rw [HV0.out, HV1.out, HV2.out, HV3.out, HV4.out, HV5.out, HV6.out]
  rw [HM]
  go_end0
  exact ⟨rfl, (A7.ext ((Ext.refl _).drewN (1 + k1))).set (by omega) (rotr_lt (xor_lt32 lp lq)), gr_set (gr_trans G7 (gr_ext ((Ext.refl _).drewN (1 + k1)) _)) _ _⟩
end Go.Proofs.YtbnjmmefnjoofaaDoor
end

section
/-
  The document's I: the first words.
-/
namespace Go.Proofs.YtbnjmmefnjoofaaDoor
open Go.ChangeShapes Go.WideShapes Go.ChangeAt Go.RowKit Go.Deep

set_option maxHeartbeats 1000000 in
theorem refFirst_calls {w : World} :
    Calls Tryd.prog 95 #[] w fun e w' => e = .returned (.slice (some ⟨w.heap.size, 0, none⟩) 8 8) ∧ Wr w' w.heap.size 134 initL ∧ Ext w w' := by
  go_enter Tryd.func95, Tryd.ntmps95
  go_wp2_with fail
  go_ret
  exact ⟨rfl, heap_alloc_new _ _, (Ext.refl _).alloc _⟩
end Go.Proofs.YtbnjmmefnjoofaaDoor
end

section
/-
  append on a row of the call's own, elements of one cell.
-/
namespace Go.Proofs.YtbnjmmefnjoofaaDoor
open Go.ChangeShapes Go.WideShapes Go.ChangeAt Go.RowKit Go.Deep

/-- 'append(v, s...)' on a row of the call's own, elements of one cell, the source nil or not. -/
theorem append_any {P : Program} {w : World} {B : Nat} {t e : TypeId} {z : Value} {bytes : Nat} (ht : P.underlying t = some (.slice e)) (hinfo : (P.info? e).map (fun i => (i.zero, i.size, i.bytes)) = some (some z, 1, bytes)) (hzs : z.cells.size = 1)
    {A A' : Option Addr} {n c m c' : Nat} {xs news : List Value} (ty : TypeId) (h : w.ownsRow B e 1 (.slice A n c) n xs) (hl : news.length = m) (hsrc : 0 < m → ∃ ad, A' = some ad ∧ ∀ j u, news[j]? = some u → w.cell? (ad.add j) = some u)
    (h1 : ∀ u ∈ news, u.oneCell' = true) (hm : (n + m) * bytes ≤ 140737488355328) (hn : n + m ≤ 140737488355328) (hB : B ≤ w.heap.size) :
    ∃ A'' c'' w', (Builtin.append_ #[t, t] ty #[.slice A n c, .slice A' m c']).run P w = .ok (.slice A'' (n + m) c'') w' ∧ w'.ownsRow B e 1 (.slice A'' (n + m) c'') (n + m) (xs ++ news) ∧ w.grownBy w' (Value.ownBlock (.slice A n c)) ∧
      (Value.ownBlock (.slice A'' (n + m) c'') = Value.ownBlock (.slice A n c) ∨ Value.ownBlock (.slice A'' (n + m) c'') = some w.heap.size) := by
  obtain ⟨i, hi, hz0, hz1, hz2⟩ := info_parts hinfo
  rcases A' with _ | a
  · have hm0 : m = 0 := by
      rcases Nat.eq_zero_or_pos m with h0 | h0
      · exact h0
      · obtain ⟨ad, e, _⟩ := hsrc h0
        cases e
    subst hm0
    have hy := List.eq_nil_of_length_eq_zero hl
    subst hy
    refine ⟨A, c, w, ?_, by simpa using h, ⟨rfl, rfl, rfl, Nat.le_refl _, fun _ _ _ => rfl⟩, .inl rfl⟩
    rcases h.2 with ⟨hv, hn⟩ | ⟨g, cap, cur, hv, _, _, hnc, _⟩
    · rw [hv]
      subst hn
      injection hv with q1 _ q3
      subst q1 q3
      simp [Builtin.append_, run_underlying ht, sizeOf, typeInfo, hi, Builtin.lenOf, Builtin.firstCells]
    · rw [hv]
      injection hv with q1 _ q3
      subst q1 q3
      simp [Builtin.append_, run_underlying ht, sizeOf, typeInfo, hi, Builtin.lenOf, Builtin.firstCells, hnc, storeCells]
  · have hsrc' : ∀ j u, news[j]? = some u → w.cell? (a.add j) = some u := fun j u hu => by
      have hj : j < news.length := (List.getElem?_eq_some_iff.1 hu).1
      obtain ⟨ad, e, hc⟩ := hsrc (by omega)
      injection e with e
      subst e
      exact hc j u hu
    obtain ⟨v', w', hrun, ho, hg, _, hown⟩ := run_append_own_at (P := P) w B t ty e i z 1 bytes ht hi hz0 hz1 hz2 hzs (by decide) (.slice A n c) n xs h a m c' news (by rw [hl, Nat.mul_one]) hsrc' h1 (by unfold maxLen; omega) hm hB
    rcases ho.2 with ⟨hv, hn0⟩ | ⟨g, cap, cur, hv, _⟩
    · subst hv
      refine ⟨none, 0, w', by rw [hrun, hn0], by rw [hn0] at ho ⊢; exact ho, hg, ?_⟩
      rcases hown with q | q
      · exact .inl q
      · exact .inr q
    · subst hv
      exact ⟨_, _, w', hrun, ho, hg, hown⟩
end Go.Proofs.YtbnjmmefnjoofaaDoor
end

section
/-
  A row of words of the call's own that is appended to.
-/
namespace Go.Proofs.YtbnjmmefnjoofaaDoor
open Go.ChangeShapes Go.WideShapes Go.ChangeAt Go.RowKit Go.Deep

theorem info32 : (Tryd.prog.info? 134).map (fun i => (i.zero, i.size, i.bytes)) = some (some (.int .u32 0), 1, 4) := by kernel_rfl
/-- The slice '.slice A n c' reads as the words vs (each cell; nil let in). -/
def Ws (w : World) (A : Option Addr) (n : Nat) (vs : List Nat) : Prop := vs.length = n ∧ (0 < n → ∃ b off, A = some ⟨b, off, none⟩ ∧ b < w.heap.size ∧ ∀ j, j < n → w.cell? ⟨b, off + j, none⟩ = some (.int .u32 (wd vs j : Int)))
theorem Ws.ext {w w' : World} {A : Option Addr} {n : Nat} {vs : List Nat} (h : Ws w A n vs) (e : Ext w w') : Ws w' A n vs := ⟨h.1, fun h0 => by
  obtain ⟨b, off, q, hb, hc⟩ := h.2 h0
  exact ⟨b, off, q, Nat.lt_of_lt_of_le hb e.size, fun j hj => (e.cell hb).trans (hc j hj)⟩⟩
/-- The slice is the call's own row of words. -/
def OwnW (B : Nat) (w : World) (A : Option Addr) (n c : Nat) (vs : List Nat) : Prop := w.ownsRow B 134 1 (.slice A n c) n (wcells vs)
section
variable {w w' : World} {B : Nat} {A : Option Addr} {n c : Nat} {vs : List Nat}
theorem OwnW.nil (B : Nat) (w : World) : OwnW B w none 0 0 [] := World.ownsRow_nil w B _ 1
theorem OwnW.empty (w : World) (B : Nat) (hB : B ≤ w.heap.size) : OwnW B (w.alloc (.cells #[] 134)) (some ⟨w.heap.size, 0, none⟩) 0 0 [] := World.ownsRow_lit (e := 134) (size := 1) w #[] 0 hB (Nat.zero_le _) rfl
theorem OwnW.len (h : OwnW B w A n c vs) : vs.length = n := by simpa [wcells] using h.1
theorem OwnW.ge (h : OwnW B w A n c vs) : ∀ g, Value.ownBlock (.slice A n c) = some g → B ≤ g := fun g hg => (World.ownsRow.lt h g hg).1
theorem OwnW.ext (h : OwnW B w A n c vs) (he : Ext w w') : OwnW B w' A n c vs := by
  refine ⟨h.1, ?_⟩
  rcases h.2 with h | ⟨g, cap, cur, hv, hb, hg, r⟩
  · exact .inl h
  · exact .inr ⟨g, cap, cur, hv, hb, (he.block g (heap_lt hg)).trans hg, r⟩
theorem OwnW.ws (h : OwnW B w A n c vs) : Ws w A n vs := by
  have hl := h.len
  refine ⟨hl, fun h0 => ?_⟩
  rcases h.2 with ⟨hv, hn⟩ | ⟨g, cap, cur, hv, hb, hg, hnc, hcm, hcs, htk⟩
  · omega
  · injection hv with h1 h2 h3
    subst h1 h3
    refine ⟨g, 0, rfl, heap_lt hg, fun j hj => ?_⟩
    rw [Nat.zero_add]
    have e : (wcells vs)[j]? = cur[j]? := by
      rw [← htk, List.getElem?_take, if_pos (by omega), Array.getElem?_toList]
    have e2 : (wcells vs)[j]? = some (.int .u32 (wd vs j : Int)) := by simp [wcells, wd, List.getD, show j < vs.length by omega]
    rw [e2] at e
    simp [World.cell?, hg, ← e]
end
theorem wp_append_ws {w : World} {o : Oper} {a : Act} {K : Act → World → Prop} {Q : Exit → Act → World → Prop} {B : Nat} {A A' : Option Addr} {n c m c' : Nat} {us vs : List Nat} {s x : Operand}
    (ho : o.op = .call { callee := .builtin .append, args := #[s, x], argTypes := #[163, 163] }) (hs : a.eval s = .slice A n c) (hx : a.eval x = .slice A' m c')
    (h : OwnW B w A n c us) (hr : Ws w A' m vs) (hm : n + m ≤ 1000000) (hB : B ≤ w.heap.size)
    (hK : ∀ A'' c'' w', OwnW B w' A'' (n + m) c'' (us ++ vs) → w.grownBy w' (Value.ownBlock (.slice A n c)) → Below B w w' → K (a.put o.dst (.slice A'' (n + m) c'')) w') : o.wp Tryd.prog a w K Q := by
  obtain ⟨A'', c'', w', hrun, h2, h3, h4⟩ := append_any (c' := c') Tryd.underlying163 info32 rfl o.type h (news := wcells vs) (m := m) (A' := A') (by rw [← hr.1]; simp [wcells]) (fun h0 => by
    obtain ⟨b, off, q, hb, hc⟩ := hr.2 h0
    refine ⟨⟨b, off, none⟩, q, fun j u hu => ?_⟩
    have hj : j < vs.length := by
      have := (List.getElem?_eq_some_iff.1 hu).1
      simpa [wcells] using this
    have e2 : (wcells vs)[j]? = some (.int .u32 (wd vs j : Int)) := by simp [wcells, wd, List.getD, hj]
    have hplain : (⟨b, off, none⟩ : Addr).add j = ⟨b, off + j, none⟩ := by unfold Addr.add; split <;> simp_all
    rw [hplain, hc j (by rw [← hr.1]; exact hj), ← e2, hu]) (fun u hu => by
    obtain ⟨x, _, rfl⟩ := List.mem_map.1 hu
    rfl) (by omega) (by omega) hB
  unfold Oper.wp execOp
  simp only [ho, resolve, invoke, builtin, Sem.run_bind, Sem.run_pure, Result.andThen_ok, List.map_toArray, List.map_cons, List.map_nil, hs, hx, hrun]
  refine hK A'' c'' w' ?_ h3 ((Below.refl B w).grown h3 hB h.ge)
  unfold OwnW
  have : wcells (us ++ vs) = wcells us ++ wcells vs := by simp [wcells]
  rw [this]
  exact h2
theorem wpList_append_ws {w : World} {ops : Array Oper} {rest : List Oper} {o : Oper} {a : Act} {Q : Exit → Act → World → Prop} (hgd : o.guard = none) {B : Nat} {A A' : Option Addr} {n c m c' : Nat} {us vs : List Nat} {s x : Operand}
    (ho : o.op = .call { callee := .builtin .append, args := #[s, x], argTypes := #[163, 163] }) (hs : a.eval s = .slice A n c) (hx : a.eval x = .slice A' m c')
    (h : OwnW B w A n c us) (hr : Ws w A' m vs) (hm : n + m ≤ 1000000) (hB : B ≤ w.heap.size)
    (hK : ∀ A'' c'' w', OwnW B w' A'' (n + m) c'' (us ++ vs) → w.grownBy w' (Value.ownBlock (.slice A n c)) → Below B w w' → wpList Tryd.prog ops Q rest (a.put o.dst (.slice A'' (n + m) c'')) w') : wpList Tryd.prog ops Q (o :: rest) a w :=
  wpList_plain hgd fun _ hK' => wp_append_ws ho hs hx h hr hm hB fun A'' c'' w' h2 h3 h4 => hK' _ _ (hK A'' c'' w' h2 h3 h4)
end Go.Proofs.YtbnjmmefnjoofaaDoor
end

section
/-
  More on rows of words of the call's own.
-/
namespace Go.Proofs.YtbnjmmefnjoofaaDoor
open Go.ChangeShapes Go.WideShapes Go.ChangeAt Go.RowKit Go.Deep

theorem Ws.one (w : World) (t : TypeId) (x : Nat) : Ws (w.alloc (.cells #[.int .u32 (x : Int)] t)) (some ⟨w.heap.size, 0, none⟩) 1 [x] := by
  refine ⟨rfl, fun _ => ⟨w.heap.size, 0, rfl, by rw [size_alloc]; omega, fun j hj => ?_⟩⟩
  obtain rfl : j = 0 := by omega
  rw [cell_of_row _ _ _ _ _ (0, 0) (heap_alloc_new _ _)]
  rfl
theorem OwnW.arr {B : Nat} {w : World} {A : Option Addr} {n c : Nat} {vs : List Nat} (h : OwnW B w A n c vs) (h0 : 0 < n) (hlt : ∀ i, i < n → wd vs i < 4294967296) : ∃ g, A = some ⟨g, 0, none⟩ ∧ B ≤ g ∧ Arr w g vs := by
  have hl := h.len
  rcases h.2 with ⟨hv, hn⟩ | ⟨g, cap, cur, hv, hb, hg, hnc, hcm, hcs, htk⟩
  · omega
  · injection hv with h1 h2 h3
    subst h1 h3
    refine ⟨g, rfl, hb, heap_lt hg, fun j hj => ⟨?_, frozen_of_row w g j cur _ hg, hlt j (by omega)⟩⟩
    have e : (wcells vs)[j]? = cur[j]? := by
      rw [← htk, List.getElem?_take, if_pos (by omega), Array.getElem?_toList]
    have e2 : (wcells vs)[j]? = some (.int .u32 (wd vs j : Int)) := by simp [wcells, wd, List.getD, hj]
    rw [e2] at e
    simp [World.cell?, hg, ← e]
theorem take_wd {vs : List Nat} {k : Nat} (h : k < vs.length) : vs.take k ++ [wd vs k] = vs.take (k + 1) := by
  rw [List.take_succ_eq_append_getElem h]
  simp [wd, List.getD, h]
theorem Ws.of_wr {w : World} {g n : Nat} {t : TypeId} {vs : List Nat} (h : Wr w g t vs) (hn : vs.length = n) : Ws w (some ⟨g, 0, none⟩) n vs :=
  ⟨hn, fun _ => ⟨g, 0, rfl, h.lt, fun j hj => by rw [Nat.zero_add]; exact h.cell (by omega)⟩⟩
end Go.Proofs.YtbnjmmefnjoofaaDoor
end

section
/-
  The document's OfLow.
-/
namespace Go.Proofs.YtbnjmmefnjoofaaDoor
open Go.ChangeShapes Go.WideShapes Go.ChangeAt Go.RowKit Go.Deep

theorem ofLowL_drop {xs : List UInt8} {k : Nat} (h : k < xs.length) : ofLowL (xs.drop k) = bt xs k + 256 * ofLowL (xs.drop (k + 1)) := by
  rw [List.drop_eq_getElem_cons h, ofLowL]
  simp [bt, List.getD, h]
def ofLowFrom (xs : List UInt8) (m k : Nat) : Nat := ofLowL ((xs.take m).drop k)
theorem ofLowFrom_step {xs : List UInt8} {m k : Nat} (hk : k < m) (hm : m ≤ xs.length) : ofLowFrom xs m k = bt xs k + 256 * ofLowFrom xs m (k + 1) := by
  unfold ofLowFrom
  rw [ofLowL_drop (by rw [List.length_take]; omega), bt_take hk]
theorem ofLowFrom_lt {xs : List UInt8} {m k : Nat} (hm : m ≤ xs.length) (h8 : m ≤ 8) (hk : 1 ≤ k) : ofLowFrom xs m k < 72057594037927936 := by
  unfold ofLowFrom
  refine Nat.lt_of_lt_of_le (ofLowL_lt _) (Nat.pow_le_pow_right (by omega) (show _ ≤ 7 from ?_))
  rw [List.length_drop, List.length_take]
  omega

set_option maxHeartbeats 400000 in
theorem refOfLow_calls {A : Option Addr} {n c : Nat} {m : Nat} {xs : List UInt8} {w : World} (h : Bs w A n c xs) (hm8 : m ≤ 8) (hmn : m ≤ n) (hM : (if (8 : Int) < (n : Int) then 8 else (n : Int)) = (m : Int)) :
    Calls Tryd.prog 102 #[.slice A n c] w fun e w' => e = .returned (.int .u64 (ofLowL (xs.take m) : Int)) ∧ w' = w := by
  have h1 := h.le
  have h2 := h.cap
  have hz : ofLowFrom xs m m = 0 := by unfold ofLowFrom; rw [List.drop_of_length_le (by rw [List.length_take]; omega)]; rfl
  have hz' := Lib.hid hz
  clear hz
  go_enter Tryd.func102, Tryd.ntmps102
  go_wp2
  clear hM
  go_loop [3, 4] (fun x i => ∃ k : Nat, k ≤ m ∧ i = .int .i64 ((k : Int) - 1) ∧ x = .int .u64 (ofLowFrom xs m k : Int)) (fun _ i => (intOf i + 1).toNat)
  case atStart => exact ⟨m, Nat.le_refl _, rfl, by rw [hz'.out]; rfl⟩
  case round =>
    obtain ⟨k, hk, rfl, rfl⟩ := hrel
    rcases Nat.eq_zero_or_pos k with rfl | hpos
    · go_wp2
      go_ret
      exact ⟨ret_int (by unfold ofLowFrom; rw [List.drop_zero]), rfl⟩
    · obtain ⟨j, rfl⟩ : ∃ j, k = j + 1 := ⟨k - 1, by omega⟩
      obtain ⟨b, off, rfl, hb, hc⟩ := h.pos (by omega)
      have g1 := hc j (by omega)
      have hbt := bt_lt xs j
      have hlt2 := ofLowFrom_lt (xs := xs) (m := m) (k := j + 1) (by rw [h.len]; omega) hm8 (by omega)
      have hst : Hid ((ofLowFrom xs m (j + 1) : Int) * 256 + (bt xs j : Int) = (ofLowFrom xs m j : Int)) := by
        unfold Hid
        rw [ofLowFrom_step (show j < m by omega) (by rw [h.len]; omega)]
        omega
      clear hc
      go_wp2
      exact ⟨⟨j, by omega, rfl, congrArg (Value.int .u64) hst.out⟩, by simp [intOf]⟩
end Go.Proofs.YtbnjmmefnjoofaaDoor
end
