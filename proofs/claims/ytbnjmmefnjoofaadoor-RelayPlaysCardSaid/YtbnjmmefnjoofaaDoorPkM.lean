import Derived.Test.YtbnjmmefnjoofaaDoorSeq
import Derived.Laws.LoneSync
import Derived.Laws.ResultCell
import Derived.WalkLawsBesides
import Derived.Test.YtbnjmmefnjoofaaDoorFillS
import Derived.Test.YtbnjmmefnjoofaaDoorLowB
import Derived.Test.YtbnjmmefnjoofaaDoorPkP
import Derived.Test.YtbnjmmefnjoofaaDoorEvC
import Derived.Test.YtbnjmmefnjoofaaDoorWords
import Derived.Test.YtbnjmmefnjoofaaDoorMix
import Derived.Test.YtbnjmmefnjoofaaDoorCells
section
/-
  package bucket: what New, Has and Take do.
-/
namespace Go.Proofs.YtbnjmmefnjoofaaDoor
open Go.ChangeShapes Go.WideShapes Go.ChangeAt Go.RowKit Go.Deep

/-- A bucket lies in block g: how many it holds at most, how often one comes, its time, how many there are. -/
def Bk (w : World) (g : Nat) (m v t k : Int) : Prop := w.heap[g]? = some (.cells #[.int .i64 m, .int .i64 v, .int .i64 t, .int .i64 k] 148 (0, 0))
/-- .. and its numbers are as they must be. -/
def BkOk (m v t k : Int) : Prop := 1 ≤ m ∧ m ≤ 1000 ∧ 1 ≤ v ∧ v ≤ 1000 ∧ 0 ≤ t ∧ t ≤ 1000000 ∧ 0 ≤ k ∧ k ≤ m

section
variable {w w' : World} {g : Nat} {m v t k : Int}
theorem Bk.lt (h : Bk w g m v t k) : g < w.heap.size := by
  rcases Nat.lt_or_ge g w.heap.size with h1 | h1
  · exact h1
  · unfold Bk at h; rw [Array.getElem?_eq_none h1] at h; cases h
theorem Bk.ext (h : Bk w g m v t k) (he : Ext w w') : Bk w' g m v t k := (he.block g h.lt).trans h
theorem Bk.grown {r : Option Nat} (h : Bk w g m v t k) (he : w.grownBy w' r) (hr : some g ≠ r) : Bk w' g m v t k := (he.block g h.lt hr).trans h
theorem Bk.cells (h : Bk w g m v t k) : w.cell? ⟨g, 0, none⟩ = some (.int .i64 m) ∧ w.cell? ⟨g, 1, none⟩ = some (.int .i64 v) ∧ w.cell? ⟨g, 2, none⟩ = some (.int .i64 t) ∧ w.cell? ⟨g, 3, none⟩ = some (.int .i64 k) := by
  unfold Bk at h
  refine ⟨?_, ?_, ?_, ?_⟩ <;> simp [World.cell?, h]
theorem Bk.frozen (h : Bk w g m v t k) (i : Nat) : w.frozen? ⟨g, i, none⟩ = false := by
  unfold Bk at h
  simp [World.frozen?, h]
theorem Bk.setTime (h : Bk w g m v t k) (x : Int) : Bk (w.setCell ⟨g, 2, none⟩ (.int .i64 x)) g m v x k := by
  unfold Bk at h ⊢
  simp [World.setCell, Array.getElem?_modify, h]
theorem Bk.setTok (h : Bk w g m v t k) (x : Int) : Bk (w.setCell ⟨g, 3, none⟩ (.int .i64 x)) g m v t x := by
  unfold Bk at h ⊢
  simp [World.setCell, Array.getElem?_modify, h]
end

theorem Ext.below {w a b : World} (ha : Ext w a) (hb : Ext w b) (hs : a.heap.size ≤ b.heap.size) : Below w.heap.size a b :=
  ⟨hb.os.trans ha.os.symm, hb.tape.trans ha.tape.symm, hb.output.trans ha.output.symm, hs, fun i hi => (hb.block i hi).trans (ha.block i hi).symm⟩

theorem grown_trans {a b c : World} {r : Option Nat} (h : a.grownBy b r) (k : b.grownBy c r) : a.grownBy c r :=
  ⟨k.os.trans h.os, k.tape.trans h.tape, k.output.trans h.output, Nat.le_trans h.size k.size, fun i hi hne => (k.block i (Nat.lt_of_lt_of_le hi h.size) hne).trans (h.block i hi hne)⟩
theorem bk_ext {a b : World} (h : Ext a b) (r : Option Nat) : a.grownBy b r := ⟨h.os, h.tape, h.output, h.size, fun i hi _ => h.block i hi⟩
theorem _root_.Go.World.grownBy.set {a b : World} {g : Nat} (h : a.grownBy b (some g)) (i : Nat) (u : Value) : a.grownBy (b.setCell ⟨g, i, none⟩ u) (some g) :=
  ⟨h.os, h.tape, h.output, by simpa [World.setCell] using h.size, fun j hj hne => (Below.heap_setCell b ⟨g, i, none⟩ u j (fun e => hne (by rw [e]))).trans (h.block j hj hne)⟩
theorem _root_.Go.World.grownBy.alloc' {a b : World} {r : Option Nat} (h : a.grownBy b r) (o : Obj) : a.grownBy (b.alloc o) r :=
  ⟨h.os, h.tape, h.output, Nat.le_trans h.size (by simp), fun j hj hne => (Below.heap_alloc b o j (Nat.lt_of_lt_of_le hj h.size)).trans (h.block j hj hne)⟩

/-- How many there are at a time that is not past. -/
def bkAt (m v t k now : Int) : Int := if m < k + (now / v - t / v) then m else k + (now / v - t / v)
theorem bkAt_ok {m v t k now : Int} (h : BkOk m v t k) (h1 : t ≤ now) : 0 ≤ bkAt m v t k now ∧ bkAt m v t k now ≤ m := by
  obtain ⟨a1, a2, a3, a4, a5, a6, a7, a8⟩ := h
  have hd : t / v ≤ now / v := Int.ediv_le_ediv (by omega) h1
  unfold bkAt
  split <;> omega

set_option maxHeartbeats 1000000 in
theorem load_calls {g : Nat} {m v t k : Int} {w : World} (h : Bk w g m v t k) :
    Calls Tryd.prog 91 #[.pointer (some ⟨g, 3, none⟩)] w fun e w' => e = .returned (.int .i64 k) ∧ w' = w := by
  obtain ⟨_, _, _, c3⟩ := h.cells
  have hl := run_call_load (P := Tryd.prog) Tryd.func101 (by kernel_rfl) (by kernel_rfl) (by kernel_rfl) .i64 (by kernel_rfl) c3
  go_enter Tryd.func91, Tryd.ntmps91
  go_wp2
  go_ret
  exact ⟨rfl, rfl⟩

set_option maxHeartbeats 1000000 in
theorem store_calls {g : Nat} {m v t k x : Int} {w : World} (h : Bk w g m v t k) :
    Calls Tryd.prog 74 #[.pointer (some ⟨g, 3, none⟩), .int .i64 x] w fun e w' => e = .returned (.tuple #[]) ∧ w' = w.setCell ⟨g, 3, none⟩ (.int .i64 x) := by
  obtain ⟨_, _, _, c3⟩ := h.cells
  have hf := h.frozen 3
  have hl := run_call_store (P := Tryd.prog) Tryd.func92 (by kernel_rfl) (by kernel_rfl) (by kernel_rfl) (by kernel_rfl) (k := .i64) (y := x) c3 hf
  go_enter Tryd.func74, Tryd.ntmps74
  go_wp2
  go_end0
  exact ⟨rfl, rfl⟩

set_option maxHeartbeats 1000000 in
theorem add_calls {g : Nat} {m v t k x s : Int} {w : World} (h : Bk w g m v t k) (hs : k + x = s) (hb : -9223372036854775808 ≤ s ∧ s ≤ 9223372036854775807) :
    Calls Tryd.prog 75 #[.pointer (some ⟨g, 3, none⟩), .int .i64 x] w fun e w' => e = .returned (.int .i64 s) ∧ w' = w.setCell ⟨g, 3, none⟩ (.int .i64 s) := by
  obtain ⟨_, _, _, c3⟩ := h.cells
  have hf := h.frozen 3
  have ha : (Op.intArith .add .i64 k x).run Tryd.prog w = .ok (.int .i64 s) w := by
    simp [go_sem, IntKind.wrap_i64, hs]
    omega
  have hl := run_call_add (P := Tryd.prog) Tryd.func93 (by kernel_rfl) (by kernel_rfl) (by kernel_rfl) .i64 (by kernel_rfl) c3 hf ha
  clear hs ha
  go_enter Tryd.func75, Tryd.ntmps75
  go_wp2
  go_ret
  exact ⟨rfl, rfl⟩

set_option maxHeartbeats 2000000 in
theorem at_calls {g : Nat} {m v t k now : Int} {w : World} (h : Bk w g m v t k) (hok : BkOk m v t k) (h1 : t ≤ now) (h2 : now ≤ 1000000) :
    Calls Tryd.prog 73 #[.pointer (some ⟨g, 0, none⟩), .int .i64 now] w fun e w' => e = .returned (.agg #[.int .i64 now, .int .i64 (bkAt m v t k now)]) ∧ Ext w w' := by
  obtain ⟨a1, a2, a3, a4, a5, a6, a7, a8⟩ := hok
  have KEEP : Hid (∀ w', Ext w w' → w'.cell? ⟨g, 0, none⟩ = some (.int .i64 m) ∧ w'.cell? ⟨g, 1, none⟩ = some (.int .i64 v) ∧ w'.cell? ⟨g, 2, none⟩ = some (.int .i64 t) ∧ w'.cell? ⟨g, 3, none⟩ = some (.int .i64 k)) := fun w' e => (h.ext e).cells
  have v0 : ¬ v = 0 := by omega
  have q1 : IntKind.i64.wrap (now.tdiv v) = now / v := IntWalk.i64_quo now v (by omega)
  have q2 : IntKind.i64.wrap (t.tdiv v) = t / v := IntWalk.i64_quo t v (by omega)
  have d1 : 0 ≤ t / v := Int.ediv_nonneg (by omega) (by omega)
  have d2 : t / v ≤ now / v := Int.ediv_le_ediv (by omega) h1
  have d3 : now / v ≤ now := (IntWalk.tdiv_le now v (by omega) a3).2
  have q3 : IntKind.i64.wrap (now / v - t / v) = now / v - t / v := IntWalk.i64_in _ (by omega)
  have q4 : IntKind.i64.wrap (k + (now / v - t / v)) = k + (now / v - t / v) := IntWalk.i64_in _ (by omega)
  have hat : (if m < k + (now / v - t / v) then m else k + (now / v - t / v)) = bkAt m v t k now := rfl
  go_enter Tryd.func73, Tryd.ntmps73
  go_wp2
  refine qgE [0, 1, 2, 3, 4, 5, 6, 7, 8, 9, 10, 11, 12, 13, 14, 15, 16] [] ?_
  repeat ((first | refine qR _ (fun w' e => KEEP.out w' (((Ext.refl _).alloc _).drew.trans e)) ?_ | refine qS ?_); go_frame)
  refine seq_done ?_
  go_wp2
  refine qgB w.heap.size [0, 1, 2, 3, 5, 7, 8, 9, 10, 4, 6, 11, 12, 13] [4, 13] ?_
  repeat ((first | refine qR _ (fun w' e => KEEP.out w' (((Ext.refl _).alloc _).drew.drew.trans' e)) ?_ | refine qS ?_); go_frame)
  refine qD fun K hK => ?_
  go_simp
  refine (load_calls (h.ext ((Ext.refl _).alloc _).drew.drew)).mono ?_
  rintro e w1 ⟨rfl, rfl⟩
  refine hK.out _ _ (Below.refl _ _) ?_
  clear hK K
  try go_frame
  repeat ((first | refine qR _ (fun w' e => KEEP.out w' (((Ext.refl _).alloc _).drew.drew.trans' e)) ?_ | refine qS ?_); go_frame)
  refine qD fun K hK => ?_
  go_simp
  refine hK.out _ _ (((Ext.refl w).alloc _).drew.drew.below ((Ext.refl w).alloc _).drew.drew (by simp)) ?_
  clear hK K
  try go_frame
  refine seq_done ?_
  go_wp2
  refine bodyPost_ret (v := .agg #[.int .i64 now, .int .i64 (bkAt m v t k now)]) ?_ rfl ⟨rfl, ((Ext.refl w).alloc _).drew.drew⟩
  simp [results, Tryd.results73, go_sem]

theorem field1 (w : World) (x y : Value) : (Instr.field 150 (.agg #[x, y]) 1).run Tryd.prog w = .ok y w := by kernel_rfl

/-- What Has tells. -/
def bkHas (m v t k now : Int) : Int := if now < t ∨ 1000000 < now then 0 else bkAt m v t k now

set_option maxHeartbeats 2000000 in
theorem take_late {g : Nat} {m v t k now : Int} {w : World} (h : Bk w g m v t k) (hn2 : now ≤ 9223372036854775807) (q : 1000000 < now) :
    Calls Tryd.prog 45 #[.pointer (some ⟨g, 0, none⟩), .int .i64 now] w fun e w' => e = .returned (.int .i64 1) ∧ w' = w := by
  go_enter Tryd.func45, Tryd.ntmps45
  go_wp2_with fail
  go_ret
  exact ⟨rfl, rfl⟩
set_option maxHeartbeats 2000000 in
theorem take_old {g : Nat} {m v t k now : Int} {w : World} (h : Bk w g m v t k) (hn1 : -9223372036854775808 ≤ now) (ht : t ≤ 1000000) (q : now < t) :
    Calls Tryd.prog 45 #[.pointer (some ⟨g, 0, none⟩), .int .i64 now] w fun e w' => e = .returned (.int .i64 5) ∧ w' = w := by
  obtain ⟨c0, c1, c2, c3⟩ := h.cells
  have q1 : ¬ 1000000 < now := by omega
  go_enter Tryd.func45, Tryd.ntmps45
  go_wp2_with fail
  go_ret
  exact ⟨rfl, rfl⟩

/-- Take at a time that is not past. -/
def Took (m v t k now : Int) (g : Nat) (w : World) (e : Ending) (w' : World) : Prop :=
  w.grownBy w' (some g) ∧ ((bkAt m v t k now = 0 ∧ e = .returned (.int .i64 10) ∧ Bk w' g m v now 0) ∨ (0 < bkAt m v t k now ∧ e = .returned (.int .i64 0) ∧ Bk w' g m v now (bkAt m v t k now - 1)))

set_option maxHeartbeats 4000000 in
theorem take_calls {g : Nat} {m v t k now : Int} {w : World} (h : Bk w g m v t k) (hok : BkOk m v t k) (h1 : t ≤ now) (h2 : now ≤ 1000000) :
    Calls Tryd.prog 45 #[.pointer (some ⟨g, 0, none⟩), .int .i64 now] w (Took m v t k now g w) := by
  obtain ⟨c0, c1, c2, c3⟩ := h.cells
  have hb := bkAt_ok hok h1
  have hlt := h.lt
  have ha5 : 0 ≤ now := by have := hok.2.2.2.2.1; omega
  have p1 : decide (now < t) = false := by simp; omega
  have p2 : decide (1000000 < now) = false := by simp; omega
  go_enter Tryd.func45, Tryd.ntmps45
  go_wp2_with fail
  refine (at_calls h hok h1 h2).mono ?_
  rintro e w1 ⟨rfl, e1⟩
  have hB1 := h.ext e1
  obtain ⟨d0, d1, d2, d3⟩ := hB1.cells
  have f2 := hB1.frozen 2
  have f3 := hB1.frozen 3
  have hlt1 := hB1.lt
  have hne : ¬ g = w1.heap.size := by omega
  go_wp2_with fail
  have BW : Bk ((w1.setCell ⟨g, 2, none⟩ (.int .i64 now)).alloc (.cells #[.int .i64 now, .int .i64 (bkAt m v t k now)] 150)) g m v now k := (hB1.setTime now).ext ((Ext.refl _).alloc _)
  have GW : w.grownBy ((w1.setCell ⟨g, 2, none⟩ (.int .i64 now)).alloc (.cells #[.int .i64 now, .int .i64 (bkAt m v t k now)] 150)) (some g) := ((bk_ext e1 (some g)).set 2 _).alloc' _
  have RW : ((w1.setCell ⟨g, 2, none⟩ (.int .i64 now)).alloc (.cells #[.int .i64 now, .int .i64 (bkAt m v t k now)] 150)).heap[w1.heap.size]? = some (.cells #[.int .i64 now, .int .i64 (bkAt m v t k now)] 150 (0, 0)) := by
    have := heap_alloc_new (w1.setCell ⟨g, 2, none⟩ (.int .i64 now)) (.cells #[.int .i64 now, .int .i64 (bkAt m v t k now)] 150)
    simpa [World.setCell] using this
  generalize ((w1.setCell ⟨g, 2, none⟩ (.int .i64 now)).alloc (.cells #[.int .i64 now, .int .i64 (bkAt m v t k now)] 150)) = W at *
  generalize hs : w1.heap.size = s at *
  have HS := Lib.hid hs
  have HR := Lib.hid RW
  clear hs RW c0 c1 c2 c3 d0 d1 d2 d3 f2 f3 hB1 e1
  have KEEP : Hid (∀ w', W.grownBy w' (some g) → w'.cell? ⟨s, 0, none⟩ = some (.int .i64 now) ∧ w'.cell? ⟨s, 1, none⟩ = some (.int .i64 (bkAt m v t k now))) := fun w' e => by
    have hsz : s < W.heap.size := by
      rcases Nat.lt_or_ge s W.heap.size with q | q
      · exact q
      · rw [Array.getElem?_eq_none q] at HR; cases HR.out
    have := (e.block s hsz (by intro q; injection q with q; omega)).trans HR.out
    constructor <;> simp [World.cell?, this]
  refine qgW g [0, 1, 2, 3, 4, 5] [5] ?_
  repeat ((first | refine qR _ (fun w' e => KEEP.out w' (grown_trans (bk_ext (Ext.refl _).drew _) e)) ?_ | refine qS ?_); go_frame)
  refine qD fun K hK => ?_
  go_simp
  refine (store_calls (BW.ext (Ext.refl _).drew)).mono ?_
  rintro e w2 ⟨rfl, rfl⟩
  refine hK.out _ _ ((World.grownBy.refl _ _).set 3 _) ?_
  clear hK K
  try go_frame
  refine seq_done ?_
  have BW2 := (BW.ext (Ext.refl _).drew).setTok (bkAt m v t k now)
  have GW2 := (grown_trans GW (bk_ext (Ext.refl _).drew _)).set 3 (Value.int .i64 (bkAt m v t k now))
  obtain ⟨r0, r1⟩ := KEEP.out _ ((bk_ext (Ext.refl W).drew (some g)).set 3 (Value.int .i64 (bkAt m v t k now)))
  generalize W.drew.setCell ⟨g, 3, none⟩ (Value.int .i64 (bkAt m v t k now)) = V at *
  generalize hxx : bkAt m v t k now = x at *
  have HX := Lib.hid hxx
  clear hxx
  rcases hb with ⟨hb1, hb2⟩
  have hm := hok.2.1
  by_cases hx : x = 0
  · subst hx
    go_wp2_with fail
    go_ret
    exact ⟨GW2, .inl ⟨HX.out, rfl, BW2⟩⟩
  · have hx' : (x == 0) = false := by simp [hx]
    go_wp2_with fail
    refine (add_calls BW2 (s := x - 1) (by omega) (by omega)).mono ?_
    rintro e w2 ⟨rfl, rfl⟩
    go_wp2_with fail
    go_ret
    refine ⟨GW2.set 3 _, .inr ?_⟩
    rw [HX.out]
    exact ⟨by omega, rfl, BW2.setTok _⟩

/-- The numbers behind a Take. -/
theorem took_ok {m v t k now : Int} (h : BkOk m v t k) (h1 : t ≤ now) (h2 : now ≤ 1000000) : BkOk m v now 0 ∧ (0 < bkAt m v t k now → BkOk m v now (bkAt m v t k now - 1)) := by
  have hb := bkAt_ok h h1
  obtain ⟨a1, a2, a3, a4, a5, a6, a7, a8⟩ := h
  exact ⟨⟨a1, a2, a3, a4, by omega, h2, by omega, by omega⟩, fun hx => ⟨a1, a2, a3, a4, by omega, h2, by omega, by omega⟩⟩

/-- May a bucket have these numbers? -/
def bkSet (m v : Int) : Prop := 1 ≤ m ∧ m ≤ 1000 ∧ 1 ≤ v ∧ v ≤ 1000
instance (m v : Int) : Decidable (bkSet m v) := by unfold bkSet; infer_instance

set_option maxHeartbeats 1000000 in
theorem set_yes {n : Int} {w : World} (h1 : 1 ≤ n) (h2 : n ≤ 1000) : Calls Tryd.prog 85 #[.int .i64 n] w fun e w' => e = .returned (.bool true) ∧ w' = w := by
  have p1 : decide (1 ≤ n) = true := by simp [h1]
  have p2 : decide (n ≤ 1000) = true := by simp [h2]
  go_enter Tryd.func85, Tryd.ntmps85
  go_wp2_with fail
  go_ret
  exact ⟨rfl, rfl⟩
set_option maxHeartbeats 1000000 in
theorem set_no {n : Int} {w : World} (h : ¬ (1 ≤ n ∧ n ≤ 1000)) : Calls Tryd.prog 85 #[.int .i64 n] w fun e w' => e = .returned (.bool false) ∧ w' = w := by
  by_cases h1 : 1 ≤ n
  · have p1 : decide (1 ≤ n) = true := by simp [h1]
    have p2 : decide (n ≤ 1000) = false := by simp; omega
    go_enter Tryd.func85, Tryd.ntmps85
    go_wp2_with fail
    go_ret
    exact ⟨rfl, rfl⟩
  · have p1 : decide (1 ≤ n) = false := by simp; omega
    go_enter Tryd.func85, Tryd.ntmps85
    go_wp2_with fail
    go_ret
    exact ⟨rfl, rfl⟩

set_option maxHeartbeats 1000000 in
theorem new_bad {m v : Int} {w : World} (q : ¬ bkSet m v) :
    Calls Tryd.prog 63 #[.int .i64 m, .int .i64 v] w fun e w' => e = .returned (.tuple #[.pointer none, .int .i64 1]) ∧ w' = w := by
  by_cases qm : 1 ≤ m ∧ m ≤ 1000
  · have qv : ¬ (1 ≤ v ∧ v ≤ 1000) := fun h => q ⟨qm.1, qm.2, h.1, h.2⟩
    clear q
    go_enter Tryd.func63, Tryd.ntmps63
    go_wp2_with fail
    refine (set_yes qm.1 qm.2).mono ?_
    rintro e w1 ⟨rfl, rfl⟩
    go_wp2_with fail
    refine (set_no qv).mono ?_
    rintro e w1 ⟨rfl, rfl⟩
    go_wp2_with fail
    go_ret2
    exact ⟨rfl, rfl⟩
  · clear q
    go_enter Tryd.func63, Tryd.ntmps63
    go_wp2_with fail
    refine (set_no qm).mono ?_
    rintro e w1 ⟨rfl, rfl⟩
    go_wp2_with fail
    go_ret2
    exact ⟨rfl, rfl⟩

set_option maxHeartbeats 1000000 in
theorem new_good {m v : Int} {w : World} (q : bkSet m v) :
    Calls Tryd.prog 63 #[.int .i64 m, .int .i64 v] w fun e w' => e = .returned (.tuple #[.pointer (some ⟨w.heap.size, 0, none⟩), .int .i64 0]) ∧ Bk w' w.heap.size m v 0 m ∧ Ext w w' := by
  obtain ⟨a1, a2, a3, a4⟩ := q
  go_enter Tryd.func63, Tryd.ntmps63
  go_wp2_with fail
  refine (set_yes a1 a2).mono ?_
  rintro e w1 ⟨rfl, rfl⟩
  go_wp2_with fail
  refine (set_yes a3 a4).mono ?_
  rintro e w2 ⟨rfl, rfl⟩
  go_wp2_with fail
  have hB : Bk (w2.alloc (.cells #[.int .i64 m, .int .i64 v, .int .i64 0, .int .i64 0] 148)) w2.heap.size m v 0 0 := heap_alloc_new w2 _
  refine (store_calls hB).mono ?_
  rintro e w3 ⟨rfl, rfl⟩
  go_wp2_with fail
  go_ret2
  exact ⟨rfl, heap_alloc_new w2 _, (Ext.refl _).alloc _⟩

theorem take_yes {g : Nat} {m v t k now x : Int} {w : World} (h : Bk w g m v t k) (hok : BkOk m v t k) (h1 : t ≤ now) (h2 : now ≤ 1000000) (hx : bkAt m v t k now = x) (hp : 0 < x) :
    Calls Tryd.prog 45 #[.pointer (some ⟨g, 0, none⟩), .int .i64 now] w fun e w' => e = .returned (.int .i64 0) ∧ Bk w' g m v now (x - 1) ∧ w.grownBy w' (some g) :=
  (take_calls h hok h1 h2).mono fun e w' ⟨hg, hh⟩ => by
    rw [hx] at hh
    rcases hh with ⟨q, _⟩ | ⟨_, he, hb⟩
    · omega
    · exact ⟨he, hb, hg⟩
theorem take_rate {g : Nat} {m v t k now : Int} {w : World} (h : Bk w g m v t k) (hok : BkOk m v t k) (h1 : t ≤ now) (h2 : now ≤ 1000000) (hx : bkAt m v t k now = 0) :
    Calls Tryd.prog 45 #[.pointer (some ⟨g, 0, none⟩), .int .i64 now] w fun e w' => e = .returned (.int .i64 10) ∧ Bk w' g m v now 0 ∧ w.grownBy w' (some g) :=
  (take_calls h hok h1 h2).mono fun e w' ⟨hg, hh⟩ => by
    rw [hx] at hh
    rcases hh with ⟨_, he, hb⟩ | ⟨q, _⟩
    · exact ⟨he, hb, hg⟩
    · omega
/-- Only a block that is new to w has turned. -/
theorem ext_of_grown {w a b : World} {g : Nat} (h : Ext w a) (hg : w.heap.size ≤ g) (hb : a.grownBy b (some g)) : Ext w b :=
  h.trans' ⟨hb.os, hb.tape, hb.output, hb.size, fun i hi => hb.block i (Nat.lt_of_lt_of_le hi h.size) (fun e => by injection e with e; omega)⟩

end Go.Proofs.YtbnjmmefnjoofaaDoor
end

section
/-
  Bytes and a bool behind them; bundles. No conditions.
-/
namespace Go.Proofs.YtbnjmmefnjoofaaDoor
open Go.ChangeShapes Go.WideShapes Go.ChangeAt Go.RowKit Go.Deep
set_option maxRecDepth 100000

/-- Bytes, and a bool behind them. -/
def bbC (xs : List UInt8) (b : Bool) : List Value := cellsOf xs ++ [.bool b]
theorem bbC_len (xs : List UInt8) (b : Bool) : (bbC xs b).length = xs.length + 1 := by simp [bbC, cellsOf_len]
theorem bbC_one (xs : List UInt8) (b : Bool) : (bbC xs b).toArray.all (·.oneCell') = true := one_cells fun v hv => by
  rcases List.mem_append.1 hv with h | h
  · exact one_mem xs v h
  · simp at h; subst h; rfl
/-- a bundle -/
def zb97 : List Value := bbC (List.replicate 96 0) false
theorem bundle_alloc (w : World) : (zeroValue 53).run Tryd.prog w = .ok (.agg (bbC (List.replicate 96 0) false).toArray) w := by kernel_rfl
theorem zb_split : bbC (List.replicate 96 0) false = cellsOf (List.replicate 32 0) ++ (cellsOf (List.replicate 32 0) ++ (cellsOf (List.replicate 32 0) ++ [.bool false])) := by
  rw [bbC, show List.replicate 96 (0 : UInt8) = List.replicate 32 0 ++ (List.replicate 32 0 ++ List.replicate 32 0) by decide, cellsOf_app, cellsOf_app, List.append_assoc, List.append_assoc]
theorem bundle_fill : ∃ pl : Nat → Option (Nat × Nat), (pl 0 = some (0, 32) ∧ pl 1 = some (32, 32) ∧ pl 2 = some (64, 32) ∧ pl 3 = some (96, 1)) ∧ ∀ ps, Tryd.prog.built 53 ps = Instr.fill pl (bbC (List.replicate 96 0) false).toArray ps :=
  ⟨(#[(0, 32), (32, 32), (64, 32), (96, 1)][·]?), ⟨rfl, rfl, rfl, rfl⟩, fun ps => by kernel_rfl⟩
theorem cl32 {x : List UInt8} (h : x.length = 32) : (cellsOf (List.replicate 32 0)).length = (cellsOf x).length := by rw [cellsOf_len, cellsOf_len, h]; rfl
theorem sz32 {x : List UInt8} (h : x.length = 32) : (Value.agg (cellsOf x).toArray).cells.size = 32 := by rw [cells_agg, List.size_toArray, cellsOf_len, h]
theorem bundle2 {i s : List UInt8} (hi : i.length = 32) (hs : s.length = 32) : Tryd.prog.built 53 [(0, .agg (cellsOf i).toArray), (1, .agg (cellsOf s).toArray)] = some (bbC (i ++ (s ++ List.replicate 32 0)) false).toArray := by
  obtain ⟨pl, ⟨q0, q1, q2, q3⟩, hp⟩ := bundle_fill
  have lz : (cellsOf (List.replicate 32 0)).length = 32 := by rw [cellsOf_len]; rfl
  rw [hp, zb_split, fill_step q0 (sz32 hi) (by simp [cellsOf_len]), cells_agg, splice_zero (by simpa using cl32 hi), fill_step q1 (sz32 hs) (by simp [cellsOf_len, hi]), cells_agg,
    splice_mid (by simp [cellsOf_len, hi]) (by simpa using cl32 hs)]
  simp [Instr.fill, bbC, cellsOf_app]
theorem bundle3 {i s : List UInt8} {h : Bool} (hi : i.length = 32) (hs : s.length = 32) : Tryd.prog.built 53 [(0, .agg (cellsOf i).toArray), (1, .agg (cellsOf s).toArray), (3, .bool h)] = some (bbC (i ++ (s ++ List.replicate 32 0)) h).toArray := by
  obtain ⟨pl, ⟨q0, q1, q2, q3⟩, hp⟩ := bundle_fill
  rw [hp, zb_split, fill_step q0 (sz32 hi) (by simp [cellsOf_len]), cells_agg, splice_zero (by simpa using cl32 hi), fill_step q1 (sz32 hs) (by simp [cellsOf_len, hi]), cells_agg,
    splice_mid (by simp [cellsOf_len, hi]) (by simpa using cl32 hs)]
  have e : cellsOf i ++ (cellsOf s ++ (cellsOf (List.replicate 32 0) ++ [Value.bool false])) = (cellsOf i ++ (cellsOf s ++ cellsOf (List.replicate 32 0))) ++ ([Value.bool false] ++ []) := by simp
  simp only [List.toList_toArray]
  rw [e, fill_step q3 rfl (by simp [cellsOf_len, hi, hs]), cells_bool, splice_mid (by simp [cellsOf_len, hi, hs]) (by simp)]
  simp [Instr.fill, bbC, cellsOf_app]
end Go.Proofs.YtbnjmmefnjoofaaDoor
end

section
/-
  Numbers as bytes, and back: plain mathematics.
-/
namespace Go.Proofs.YtbnjmmefnjoofaaDoor
open Go.ChangeShapes Go.WideShapes Go.ChangeAt Go.RowKit Go.Deep

def numN (xs : List UInt8) (k : Nat) : Nat := ofLowL (xs.take k).reverse
theorem ofLowL_lowL : ∀ (m n : Nat), ofLowL (lowL n m) = n % 256 ^ m
  | 0, n => by simp [lowL, ofLowL, Nat.mod_one]
  | m + 1, n => by
    have h : lowL n (m + 1) = UInt8.ofNat n :: lowL (n / 256) m := by
      unfold lowL
      rw [List.range_succ_eq_map, List.map_cons, List.map_map]
      congr 1
      · simp
      · apply List.map_congr_left
        intro k _
        simp only [Function.comp, Nat.succ_eq_add_one]
        rw [Nat.pow_succ, Nat.mul_comm, Nat.div_div_eq_div_mul]
    have hp : 256 ^ (m + 1) = 256 * 256 ^ m := (Nat.pow_succ 256 m).trans (Nat.mul_comm _ _)
    rw [h, ofLowL, ofLowL_lowL m (n / 256), UInt8.toNat_ofNat', hp, Nat.mod_mul]
theorem lowL_ofLowL : ∀ (xs : List UInt8), lowL (ofLowL xs) xs.length = xs
  | [] => rfl
  | x :: r => by
    have h : ∀ n m, lowL n (m + 1) = UInt8.ofNat n :: lowL (n / 256) m := fun n m => by
      unfold lowL
      rw [List.range_succ_eq_map, List.map_cons, List.map_map]
      congr 1
      · simp
      · apply List.map_congr_left
        intro k _
        simp only [Function.comp, Nat.succ_eq_add_one]
        rw [Nat.pow_succ, Nat.mul_comm, Nat.div_div_eq_div_mul]
    have hx := x.toNat_lt
    rw [List.length_cons, h]
    have e1 : ofLowL (x :: r) = x.toNat + 256 * ofLowL r := rfl
    rw [e1, show (x.toNat + 256 * ofLowL r) / 256 = ofLowL r by omega, lowL_ofLowL r]
    congr 1
    apply UInt8.toNat_inj.1
    rw [UInt8.toNat_ofNat']
    omega
theorem numN_high {n m : Nat} {r : List UInt8} (hn : n < 256 ^ m) : numN ((lowL n m).reverse ++ r) m = n := by
  unfold numN
  rw [List.take_left' (by rw [List.length_reverse, lowL_len]), List.reverse_reverse, ofLowL_lowL, Nat.mod_eq_of_lt hn]
theorem high_numN {xs : List UInt8} {m : Nat} (h : m ≤ xs.length) : (lowL (numN xs m) m).reverse = xs.take m := by
  unfold numN
  have hl : (xs.take m).reverse.length = m := by rw [List.length_reverse, List.length_take]; omega
  have := lowL_ofLowL (xs.take m).reverse
  rw [hl] at this
  rw [this, List.reverse_reverse]
end Go.Proofs.YtbnjmmefnjoofaaDoor
end

section
/-
  Layer 16: the tests of numbers and of stamps, the program's and the document's.
-/
namespace Go.Proofs.YtbnjmmefnjoofaaDoor
open Go.ChangeShapes Go.WideShapes Go.ChangeAt Go.RowKit Go.Deep
set_option maxRecDepth 100000

/-- May a stamp be? -/
def okS (ep f t tm : Int) : Bool := ((upB ep 1000000 && upB tm 1000000) && upB f 7) && upB t 7
theorem isTime_calls {w : World} {z : Int} : Calls Tryd.prog 49 #[.int .i64 z] w fun e w' => e = .returned (.bool (upB z 1000000)) ∧ Ext w w' := by
  by_cases h1 : 0 ≤ z
  · have d1 : decide (0 ≤ z) = true := decide_eq_true h1
    by_cases h2 : z ≤ 1000000
    · have d2 : decide (z ≤ 1000000) = true := decide_eq_true h2
      have d3 : decide (z < 1000001) = true := decide_eq_true (by omega)
      have hb : Hid (upB z 1000000 = true) := by unfold Hid upB; rw [decide_eq_true h1, d2]; rfl
      go_enter Tryd.func49, Tryd.ntmps49
      go_wp2_with fail
      go_ret
      exact ⟨by rw [hb.out]; rfl, Ext.refl _⟩
    · have d2 : decide (z ≤ 1000000) = false := decide_eq_false h2
      have d3 : decide (z < 1000001) = false := decide_eq_false (by omega)
      have hb : Hid (upB z 1000000 = false) := by unfold Hid upB; rw [decide_eq_true h1, d2]; rfl
      go_enter Tryd.func49, Tryd.ntmps49
      go_wp2_with fail
      go_ret
      exact ⟨by rw [hb.out]; rfl, Ext.refl _⟩
  · have d1 : decide (0 ≤ z) = false := decide_eq_false h1
    have hb : Hid (upB z 1000000 = false) := by unfold Hid upB; rw [decide_eq_false h1]; rfl
    go_enter Tryd.func49, Tryd.ntmps49
    go_wp2_with fail
    go_ret
    exact ⟨by rw [hb.out]; rfl, Ext.refl _⟩
theorem isAccount_calls {w : World} {z : Int} : Calls Tryd.prog 76 #[.int .i64 z] w fun e w' => e = .returned (.bool (upB z 7)) ∧ Ext w w' := by
  by_cases h1 : 0 ≤ z
  · have d1 : decide (0 ≤ z) = true := decide_eq_true h1
    by_cases h2 : z ≤ 7
    · have d2 : decide (z ≤ 7) = true := decide_eq_true h2
      have d3 : decide (z < 8) = true := decide_eq_true (by omega)
      have hb : Hid (upB z 7 = true) := by unfold Hid upB; rw [decide_eq_true h1, d2]; rfl
      go_enter Tryd.func76, Tryd.ntmps76
      go_wp2_with fail
      go_ret
      exact ⟨by rw [hb.out]; rfl, Ext.refl _⟩
    · have d2 : decide (z ≤ 7) = false := decide_eq_false h2
      have d3 : decide (z < 8) = false := decide_eq_false (by omega)
      have hb : Hid (upB z 7 = false) := by unfold Hid upB; rw [decide_eq_true h1, d2]; rfl
      go_enter Tryd.func76, Tryd.ntmps76
      go_wp2_with fail
      go_ret
      exact ⟨by rw [hb.out]; rfl, Ext.refl _⟩
  · have d1 : decide (0 ≤ z) = false := decide_eq_false h1
    have hb : Hid (upB z 7 = false) := by unfold Hid upB; rw [decide_eq_false h1]; rfl
    go_enter Tryd.func76, Tryd.ntmps76
    go_wp2_with fail
    go_ret
    exact ⟨by rw [hb.out]; rfl, Ext.refl _⟩
theorem rTime_calls {w : World} {z : Int} : Calls Tryd.prog 58 #[.int .i64 z] w fun e w' => e = .returned (.bool (upB z 1000000)) ∧ Ext w w' := by
  by_cases h1 : 0 ≤ z
  · have d1 : decide (0 ≤ z) = true := decide_eq_true h1
    by_cases h2 : z ≤ 1000000
    · have d2 : decide (z ≤ 1000000) = true := decide_eq_true h2
      have d3 : decide (z < 1000001) = true := decide_eq_true (by omega)
      have hb : Hid (upB z 1000000 = true) := by unfold Hid upB; rw [decide_eq_true h1, d2]; rfl
      go_enter Tryd.func58, Tryd.ntmps58
      go_wp2_with fail
      go_ret
      exact ⟨by rw [hb.out]; rfl, Ext.refl _⟩
    · have d2 : decide (z ≤ 1000000) = false := decide_eq_false h2
      have d3 : decide (z < 1000001) = false := decide_eq_false (by omega)
      have hb : Hid (upB z 1000000 = false) := by unfold Hid upB; rw [decide_eq_true h1, d2]; rfl
      go_enter Tryd.func58, Tryd.ntmps58
      go_wp2_with fail
      go_ret
      exact ⟨by rw [hb.out]; rfl, Ext.refl _⟩
  · have d1 : decide (0 ≤ z) = false := decide_eq_false h1
    have hb : Hid (upB z 1000000 = false) := by unfold Hid upB; rw [decide_eq_false h1]; rfl
    go_enter Tryd.func58, Tryd.ntmps58
    go_wp2_with fail
    go_ret
    exact ⟨by rw [hb.out]; rfl, Ext.refl _⟩
theorem raccount_calls {w : World} {z : Int} : Calls Tryd.prog 83 #[.int .i64 z] w fun e w' => e = .returned (.bool (upB z 7)) ∧ Ext w w' := by
  by_cases h1 : 0 ≤ z
  · have d1 : decide (0 ≤ z) = true := decide_eq_true h1
    by_cases h2 : z ≤ 7
    · have d2 : decide (z ≤ 7) = true := decide_eq_true h2
      have d3 : decide (z < 8) = true := decide_eq_true (by omega)
      have hb : Hid (upB z 7 = true) := by unfold Hid upB; rw [decide_eq_true h1, d2]; rfl
      go_enter Tryd.func83, Tryd.ntmps83
      go_wp2_with fail
      go_ret
      exact ⟨by rw [hb.out]; rfl, Ext.refl _⟩
    · have d2 : decide (z ≤ 7) = false := decide_eq_false h2
      have d3 : decide (z < 8) = false := decide_eq_false (by omega)
      have hb : Hid (upB z 7 = false) := by unfold Hid upB; rw [decide_eq_true h1, d2]; rfl
      go_enter Tryd.func83, Tryd.ntmps83
      go_wp2_with fail
      go_ret
      exact ⟨by rw [hb.out]; rfl, Ext.refl _⟩
  · have d1 : decide (0 ≤ z) = false := decide_eq_false h1
    have hb : Hid (upB z 7 = false) := by unfold Hid upB; rw [decide_eq_false h1]; rfl
    go_enter Tryd.func83, Tryd.ntmps83
    go_wp2_with fail
    go_ret
    exact ⟨by rw [hb.out]; rfl, Ext.refl _⟩
set_option maxHeartbeats 2000000 in
theorem valid16_calls {w : World} {ep f t tm : Int} {cm tg : List UInt8} : Calls Tryd.prog 48 #[.agg (stC ep f t tm cm tg).toArray] w fun e w' => e = .returned (.bool (okS ep f t tm)) ∧ Ext w w' := by
  have TI : Hid (∀ (W : World) (z : Int), Calls Tryd.prog 49 #[.int .i64 z] W fun e w' => e = .returned (.bool (upB z 1000000)) ∧ Ext W w') := fun W z => isTime_calls
  have AC : Hid (∀ (W : World) (z : Int), Calls Tryd.prog 76 #[.int .i64 z] W fun e w' => e = .returned (.bool (upB z 7)) ∧ Ext W w') := fun W z => isAccount_calls
  have c0 : Hid ((stC ep f t tm cm tg)[0]? = some (.int .i64 ep)) := rfl
  have c1 : Hid ((stC ep f t tm cm tg)[1]? = some (.int .i64 f)) := rfl
  have c2 : Hid ((stC ep f t tm cm tg)[2]? = some (.int .i64 t)) := rfl
  have c3 : Hid ((stC ep f t tm cm tg)[3]? = some (.int .i64 tm)) := rfl
  have hR : Hid (okS ep f t tm = (((upB ep 1000000 && upB tm 1000000) && upB f 7) && upB t 7)) := rfl
  generalize okS ep f t tm = ok at *
  generalize stC ep f t tm cm tg = st at *
  have B0 : Hid (Cb (w.alloc (Obj.cells st.toArray 67)) w.heap.size 67 st ∧ Ext w (w.alloc (Obj.cells st.toArray 67))) := ⟨Cb.new _ _ _, (Ext.refl w).alloc _⟩
  go_enter Tryd.func48, Tryd.ntmps48
  go_upto_region 1 with fail
  refine wp_gen (fun W => Cb W w.heap.size 67 st ∧ Ext w W) B0.out ?_
  clear B0
  rintro w0 ⟨k0, x0⟩
  have b0 := k0.cell c0.out
  replace k0 := Lib.hid k0
  replace x0 := Lib.hid x0
  go_wp2_with fail
  refine (TI.out _ _).mono ?_
  rintro e w1 ⟨rfl, e1⟩
  have k1 := Lib.hid (k0.out.ext e1)
  have b1 := k1.out.cell c3.out
  have x1 := Lib.hid (x0.out.trans e1)
  clear b0 k0 x0 e1
  rcases h1 : upB ep 1000000 with _ | _
  · have hR2 : Hid (ok = false) := by unfold Hid; rw [hR.out, h1]; rfl
    clear b1 hR h1
    go_wp2_with fail
    go_ret
    exact ⟨by rw [hR2.out]; rfl, x1.out⟩
  replace h1 := Lib.hid h1
  go_wp2_with fail
  refine (TI.out _ _).mono ?_
  rintro e w2 ⟨rfl, e2⟩
  have k2 := Lib.hid (k1.out.ext e2)
  have b2 := k2.out.cell c1.out
  have x2 := Lib.hid (x1.out.trans e2)
  clear b1 k1 x1 e2
  rcases h2 : upB tm 1000000 with _ | _
  · have hR2 : Hid (ok = false) := by unfold Hid; rw [hR.out, h1.out, h2]; rfl
    clear b2 hR h1 h2
    go_wp2_with fail
    go_ret
    exact ⟨by rw [hR2.out]; rfl, x2.out⟩
  replace h2 := Lib.hid h2
  go_wp2_with fail
  refine (AC.out _ _).mono ?_
  rintro e w3 ⟨rfl, e3⟩
  have k3 := Lib.hid (k2.out.ext e3)
  have b3 := k3.out.cell c2.out
  have x3 := Lib.hid (x2.out.trans e3)
  clear b2 k2 x2 e3
  rcases h3 : upB f 7 with _ | _
  · have hR2 : Hid (ok = false) := by unfold Hid; rw [hR.out, h1.out, h2.out, h3]; rfl
    clear b3 hR h1 h2 h3
    go_wp2_with fail
    go_ret
    exact ⟨by rw [hR2.out]; rfl, x3.out⟩
  have hR2 : Hid (upB t 7 = ok) := by unfold Hid; rw [hR.out, h1.out, h2.out, h3]; rfl
  clear hR h1 h2 h3
  go_wp2_with fail
  refine (AC.out _ _).mono ?_
  rintro e w4 ⟨rfl, e4⟩
  have x4 := Lib.hid (x3.out.trans e4)
  rw [hR2.out]
  clear b3 k3 x3 e4 hR2
  go_wp2_with fail
  go_ret
  exact ⟨rfl, x4.out⟩
end Go.Proofs.YtbnjmmefnjoofaaDoor
end

section
/-
  Words are copied.
-/
namespace Go.Proofs.YtbnjmmefnjoofaaDoor
open Go.ChangeShapes Go.WideShapes Go.ChangeAt Go.RowKit Go.Deep
set_option maxRecDepth 100000

theorem wcells_len (vs : List Nat) : (wcells vs).length = vs.length := by simp [wcells]
theorem wcells_get {vs : List Nat} {j : Nat} (h : j < vs.length) : (wcells vs)[j]? = some (.int .u32 (wd vs j : Int)) := by simp [wcells, wd, List.getD, h]
theorem wcells_splice (xs ys : List Nat) (o : Nat) : splice (wcells xs) o (wcells ys) = wcells (splice xs o ys) := by simp [wcells, splice]

/-- All words of block b are copied into block g. -/
theorem upon_copyW {o : Oper} {a : Act} {K : Act → World → Prop} {Q : Exit → Act → World → Prop} {W : World} {b g off dLen dCap : Nat} {us vs : List Nat} {t t' dT sT ty : TypeId} {n c : Nat} (hu : Tryd.prog.underlying dT = some (.slice 134)) (hg : Wr W g t us) (hb : Wr W b t' vs) (hn : vs.length = n) (hd : n ≤ dLen) (hfit : off + n ≤ us.length)
    (H : ∀ W', Hid (Wr W' g t (splice us off vs)) → Hid (∀ B, B ≤ g → Below B W W') → Oper.upon Tryd.prog o a K Q (.ok (Next.value (goInt n)) W')) :
    Oper.upon Tryd.prog o a K Q (((Builtin.copy_ #[dT, sT] ty #[.slice (some ⟨g, off, none⟩) dLen dCap, .slice (some ⟨b, 0, none⟩) n c]).run Tryd.prog W).andThen fun a w' => .ok (Next.value a) w') := by
  have hsz : (Tryd.prog.info? 134).map (·.size) = some 1 := rfl
  have hr := run_copy_row Tryd.prog W dT sT ty _ g off dLen dCap ⟨b, 0, none⟩ n c (wcells us).toArray t (wcells vs) hu hsz hg (by rw [wcells_len, hn]; exact (Nat.min_eq_left hd).symm) (fun j v hv => by
    have hj : j < vs.length := by
      rcases Nat.lt_or_ge j vs.length with q | q
      · exact q
      · rw [List.getElem?_eq_none (by rw [wcells_len]; exact q)] at hv; cases hv
    rw [wcells_get hj] at hv
    injection hv with hv
    subst hv
    have : (⟨b, 0, none⟩ : Addr).add j = ⟨b, j, none⟩ := by unfold Addr.add; split <;> simp_all
    rw [this]
    exact hb.cell hj) (by rw [wcells_len]; simp [wcells]; omega) (fun v hv => by
    obtain ⟨j, _, rfl⟩ := List.mem_map.1 hv
    rfl)
  rw [wcells_len, hn] at hr
  rw [hr]
  refine H _ ?_ (fun B hB => below_setRow (Below.refl _ _) hB _)
  have := setRow_heap W g _ (((wcells us).take off ++ wcells vs ++ (wcells us).drop (off + n)).toArray) t _ hg
  show _ = _
  rw [← wcells_splice]
  simpa [splice, wcells_len, hn, List.append_assoc] using this
end Go.Proofs.YtbnjmmefnjoofaaDoor
end

section
/-
  bits.RotateLeft32 by -16, -12, -8, -7.
-/
namespace Go.Proofs.YtbnjmmefnjoofaaDoor
open Go.ChangeShapes Go.WideShapes Go.ChangeAt Go.RowKit Go.Deep

theorem rotr_int {n x : Nat} (hn : n ≤ 32) (hx : x < 4294967296) : bits .or .u32 ((x : Int) * 2 ^ (32 - n) % 4294967296) ((x : Int) / 2 ^ n) = (rotr n x : Int) := by
  have h1 : (x : Int) * 2 ^ (32 - n) % 4294967296 = ((x * 2 ^ (32 - n) % 4294967296 : Nat) : Int) := by simp
  have h2 : (x : Int) / 2 ^ n = ((x / 2 ^ n : Nat) : Int) := by simp
  rw [h1, h2, u32_or_nat _ _ (Nat.mod_lt _ (by omega)) (Nat.lt_of_le_of_lt (Nat.div_le_self _ _) hx)]
  rfl

set_option maxHeartbeats 1000000 in
theorem rot_calls {n x : Nat} {k : Int} {w : World} (hx : x < 4294967296) (hk : bits .and .u64 (IntKind.u64.wrap k) 31 = ((32 - n : Nat) : Int)) (h1 : 1 ≤ n) (h2 : n ≤ 31) :
    Calls Tryd.prog 100 #[.int .u32 (x : Int), .int .i64 k] w fun e w' => e = .returned (.int .u32 (rotr n x : Int)) ∧ w' = w := by
  have hs : ∃ s : Nat, 32 - n = s ∧ s ≤ 31 ∧ n = 32 - s := ⟨32 - n, rfl, by omega, by omega⟩
  obtain ⟨s, e1, e2, e3⟩ := hs
  have hf := Lib.hid (rotr_int (n := n) (by omega) hx)
  rw [e1] at hk hf
  have hd : IntKind.u64.wrap (32 - (s : Int)) = (n : Int) := by rw [IntWalk.u64_in _ (by omega)]; omega
  go_enter Tryd.func100, Tryd.ntmps100
  go_wp2_with fail
  go_ret
  refine ⟨congrArg (fun v => Ending.returned (Value.int .u32 v)) (Eq.trans ?_ hf.out), rfl⟩
  rw [e3]
theorem rot16 {x : Nat} {w : World} (hx : x < 4294967296) :
    Calls Tryd.prog 100 #[.int .u32 (x : Int), .int .i64 (-16)] w fun e w' => e = .returned (.int .u32 (rotr 16 x : Int)) ∧ w' = w := rot_calls hx (by decide) (by omega) (by omega)
theorem rot12 {x : Nat} {w : World} (hx : x < 4294967296) :
    Calls Tryd.prog 100 #[.int .u32 (x : Int), .int .i64 (-12)] w fun e w' => e = .returned (.int .u32 (rotr 12 x : Int)) ∧ w' = w := rot_calls hx (by decide) (by omega) (by omega)
theorem rot8 {x : Nat} {w : World} (hx : x < 4294967296) :
    Calls Tryd.prog 100 #[.int .u32 (x : Int), .int .i64 (-8)] w fun e w' => e = .returned (.int .u32 (rotr 8 x : Int)) ∧ w' = w := rot_calls hx (by decide) (by omega) (by omega)
theorem rot7 {x : Nat} {w : World} (hx : x < 4294967296) :
    Calls Tryd.prog 100 #[.int .u32 (x : Int), .int .i64 (-7)] w fun e w' => e = .returned (.int .u32 (rotr 7 x : Int)) ∧ w' = w := rot_calls hx (by decide) (by omega) (by omega)
theorem rotl16 {x : Nat} {w : World} (hx : x < 4294967296) :
    Calls Tryd.prog 100 #[.int .u32 (x : Int), .int .i64 16] w fun e w' => e = .returned (.int .u32 (rotr 16 x : Int)) ∧ w' = w := rot_calls hx (by decide) (by omega) (by omega)
theorem rotl12 {x : Nat} {w : World} (hx : x < 4294967296) :
    Calls Tryd.prog 100 #[.int .u32 (x : Int), .int .i64 12] w fun e w' => e = .returned (.int .u32 (rotr 20 x : Int)) ∧ w' = w := rot_calls hx (by decide) (by omega) (by omega)
theorem rotl8 {x : Nat} {w : World} (hx : x < 4294967296) :
    Calls Tryd.prog 100 #[.int .u32 (x : Int), .int .i64 8] w fun e w' => e = .returned (.int .u32 (rotr 24 x : Int)) ∧ w' = w := rot_calls hx (by decide) (by omega) (by omega)
theorem rotl7 {x : Nat} {w : World} (hx : x < 4294967296) :
    Calls Tryd.prog 100 #[.int .u32 (x : Int), .int .i64 7] w fun e w' => e = .returned (.int .u32 (rotr 25 x : Int)) ∧ w' = w := rot_calls hx (by decide) (by omega) (by omega)
end Go.Proofs.YtbnjmmefnjoofaaDoor
end

section
/-
  blake.mix.
-/
namespace Go.Proofs.YtbnjmmefnjoofaaDoor
open Go.ChangeShapes Go.WideShapes Go.ChangeAt Go.RowKit Go.Deep

def putAdd (vs : List Nat) (a b x : Nat) : List Nat := vs.set a (add32 (wd vs a) (add32 (wd vs b) x))
def mixL (vs : List Nat) (a b c d x y : Nat) : List Nat :=
  putRot 7 (putSum (putRot 8 (putAdd (putRot 12 (putSum (putRot 16 (putAdd vs a b x) d a) c d) b c) a b y) d a) c d) b c
theorem putAdd_len (vs : List Nat) (a b x : Nat) : (putAdd vs a b x).length = vs.length := by simp [putAdd]
theorem mixL_len (vs : List Nat) (a b c d x y : Nat) : (mixL vs a b c d x y).length = vs.length := by simp [mixL, putAdd, putRot, putSum]

set_option maxRecDepth 100000 in
set_option maxHeartbeats 4000000 in
theorem mix_calls {g a b c d x y : Nat} {vs : List Nat} {w : World} (h : Arr w g vs) (hl : vs.length = 16) (ha : a < 16) (hb : b < 16) (hc : c < 16) (hd : d < 16) (hx : x < 4294967296) (hy : y < 4294967296) :
    Calls Tryd.prog 90 #[.pointer (some ⟨g, 0, none⟩), .int .i64 (a : Int), .int .i64 (b : Int), .int .i64 (c : Int), .int .i64 (d : Int), .int .u32 (x : Int), .int .u32 (y : Int)] w
      fun e w' => e = .returned (.tuple #[]) ∧ Arr w' g (mixL vs a b c d x y) ∧ w.grownBy w' (some g) := by
  have ha' : (a : Int) < 16 := by omega
  have hb' : (b : Int) < 16 := by omega
  have hc' : (c : Int) < 16 := by omega
  have hd' : (d : Int) < 16 := by omega
  go_enter Tryd.func90, Tryd.ntmps90
  go_wp2_with fail
  refine wp_gen (fun w1 => Arr w1 g vs ∧ w.grownBy w1 (some g)) ⟨h, gr_ext (Ext.refl _) _⟩ ?_
  rintro w0 ⟨A0, G0⟩
  have L0 := hl
  clear h
  obtain ⟨cp, fp, lp⟩ := A0.fct (i := a) (by omega)
  obtain ⟨cq, fq, lq⟩ := A0.fct (i := b) (by omega)
  have KEEP : Hid (∀ w', Ext w0 w' → w'.cell? ⟨g, a, none⟩ = some (.int .u32 (wd vs a : Int)) ∧ w'.cell? ⟨g, b, none⟩ = some (.int .u32 (wd vs b : Int))) := fun w' e => ⟨((A0.ext e).fct (by omega)).1, ((A0.ext e).fct (by omega)).1⟩
  have u1 : IntKind.u32.wrap ((wd vs b : Int) + (x : Int)) = (add32 (wd vs b) x : Int) := u32_add
  have u2 : IntKind.u32.wrap ((wd vs a : Int) + (add32 (wd vs b) x : Int)) = (add32 (wd vs a) (add32 (wd vs b) x) : Int) := u32_add
  refine qgZE 15 [0, 1, 2, 3, 4, 5, 6, 7, 8, 9, 10, 11, 12, 13, 14, 15] [15] ?_
  repeat (refine qzR _ (fun w' e => KEEP.out w' ((Ext.refl _).drew.trans e)) ?_; go_frame)
  refine qzD fun K1 hK1 => ?_
  go_simp
  refine hK1.out _ _ (.inl rfl) ?_
  clear hK1 K1
  refine seqZ_done ?_
  go_wp2_with fail
  refine wp_gen (fun w1 => Arr w1 g (putAdd vs a b x) ∧ w.grownBy w1 (some g)) ⟨(A0.set (by omega) (add32_lt _ _)).ext (Ext.refl _).drew, grown_set G0⟩ ?_
  rintro w1 ⟨A1, G1⟩
  have L1 : (putAdd vs a b x).length = 16 := (putAdd_len ..).trans L0
  clear A0 G0 L0 cp fp lp cq fq lq KEEP u1 u2
  generalize HV0 : putAdd vs a b x = v1 at A1 L1
  replace HV0 := Lib.hid HV0
  obtain ⟨cp, fp, lp⟩ := A1.fct (i := d) (by omega)
  obtain ⟨cq, fq, lq⟩ := A1.fct (i := a) (by omega)
  have KEEP : Hid (∀ w', Ext w1 w' → w'.cell? ⟨g, d, none⟩ = some (.int .u32 (wd v1 d : Int)) ∧ w'.cell? ⟨g, a, none⟩ = some (.int .u32 (wd v1 a : Int))) := fun w' e => ⟨((A1.ext e).fct (by omega)).1, ((A1.ext e).fct (by omega)).1⟩
  have u1 : bits .xor .u32 (wd v1 d : Int) (wd v1 a : Int) = ((wd v1 d ^^^ wd v1 a : Nat) : Int) := u32_xor_nat _ _ lp lq
  have HR := Lib.hid (fun w0 : World => @rot16 (wd v1 d ^^^ wd v1 a) w0 (xor_lt32 lp lq))
  refine qgZE 16 [0, 1, 2, 3, 4, 5, 6, 7, 8, 9, 10, 11, 12, 14, 13, 15, 16] [13, 16] ?_
  repeat (refine qzR _ (fun w' e => KEEP.out w' ((Ext.refl _).drew.trans e)) ?_; go_frame)
  refine qzD fun K1 hK1 => ?_
  go_simp
  refine (HR.out _).mono ?_
  rintro e w1 ⟨rfl, rfl⟩
  refine hK1.out _ _ (.inr (Ext.refl _)) ?_
  clear hK1 K1
  try go_frame
  repeat (refine qzR _ (fun w' e => KEEP.out w' ((Ext.refl _).drew.trans e)) ?_; go_frame)
  refine qzD fun K1 hK1 => ?_
  go_simp
  refine hK1.out _ _ (.inl rfl) ?_
  clear hK1 K1
  refine seqZ_done ?_
  go_wp2_with fail
  refine wp_gen (fun w1 => Arr w1 g (putRot 16 v1 d a) ∧ w.grownBy w1 (some g)) ⟨(A1.set (by omega) (rotr_lt (xor_lt32 lp lq))).ext (Ext.refl _).drew, grown_set G1⟩ ?_
  rintro w2 ⟨A2, G2⟩
  have L2 : (putRot 16 v1 d a).length = 16 := (putRot_len ..).trans L1
  clear A1 G1 L1 cp fp lp cq fq lq KEEP u1 HR
  generalize HV1 : putRot 16 v1 d a = v2 at A2 L2
  replace HV1 := Lib.hid HV1
  obtain ⟨cp, fp, lp⟩ := A2.fct (i := c) (by omega)
  obtain ⟨cq, fq, lq⟩ := A2.fct (i := d) (by omega)
  have KEEP : Hid (∀ w', Ext w2 w' → w'.cell? ⟨g, c, none⟩ = some (.int .u32 (wd v2 c : Int)) ∧ w'.cell? ⟨g, d, none⟩ = some (.int .u32 (wd v2 d : Int))) := fun w' e => ⟨((A2.ext e).fct (by omega)).1, ((A2.ext e).fct (by omega)).1⟩
  have u1 : IntKind.u32.wrap ((wd v2 c : Int) + (wd v2 d : Int)) = (add32 (wd v2 c) (wd v2 d) : Int) := u32_add
  refine qgZE 13 [0, 1, 2, 3, 4, 5, 6, 7, 8, 9, 10, 11, 12, 13] [13] ?_
  repeat (refine qzR _ (fun w' e => KEEP.out w' ((Ext.refl _).drew.trans e)) ?_; go_frame)
  refine qzD fun K1 hK1 => ?_
  go_simp
  refine hK1.out _ _ (.inl rfl) ?_
  clear hK1 K1
  refine seqZ_done ?_
  go_wp2_with fail
  refine wp_gen (fun w1 => Arr w1 g (putSum v2 c d) ∧ w.grownBy w1 (some g)) ⟨(A2.set (by omega) (add32_lt _ _)).ext (Ext.refl _).drew, grown_set G2⟩ ?_
  rintro w3 ⟨A3, G3⟩
  have L3 : (putSum v2 c d).length = 16 := (putSum_len ..).trans L2
  clear A2 G2 L2 cp fp lp cq fq lq KEEP u1
  generalize HV2 : putSum v2 c d = v3 at A3 L3
  replace HV2 := Lib.hid HV2
  obtain ⟨cp, fp, lp⟩ := A3.fct (i := b) (by omega)
  obtain ⟨cq, fq, lq⟩ := A3.fct (i := c) (by omega)
  have KEEP : Hid (∀ w', Ext w3 w' → w'.cell? ⟨g, b, none⟩ = some (.int .u32 (wd v3 b : Int)) ∧ w'.cell? ⟨g, c, none⟩ = some (.int .u32 (wd v3 c : Int))) := fun w' e => ⟨((A3.ext e).fct (by omega)).1, ((A3.ext e).fct (by omega)).1⟩
  have u1 : bits .xor .u32 (wd v3 b : Int) (wd v3 c : Int) = ((wd v3 b ^^^ wd v3 c : Nat) : Int) := u32_xor_nat _ _ lp lq
  have HR := Lib.hid (fun w0 : World => @rot12 (wd v3 b ^^^ wd v3 c) w0 (xor_lt32 lp lq))
  refine qgZE 16 [0, 1, 2, 3, 4, 5, 6, 7, 8, 9, 10, 11, 12, 14, 13, 15, 16] [13, 16] ?_
  repeat (refine qzR _ (fun w' e => KEEP.out w' ((Ext.refl _).drew.trans e)) ?_; go_frame)
  refine qzD fun K1 hK1 => ?_
  go_simp
  refine (HR.out _).mono ?_
  rintro e w1 ⟨rfl, rfl⟩
  refine hK1.out _ _ (.inr (Ext.refl _)) ?_
  clear hK1 K1
  try go_frame
  repeat (refine qzR _ (fun w' e => KEEP.out w' ((Ext.refl _).drew.trans e)) ?_; go_frame)
  refine qzD fun K1 hK1 => ?_
  go_simp
  refine hK1.out _ _ (.inl rfl) ?_
  clear hK1 K1
  refine seqZ_done ?_
  go_wp2_with fail
  refine wp_gen (fun w1 => Arr w1 g (putRot 12 v3 b c) ∧ w.grownBy w1 (some g)) ⟨(A3.set (by omega) (rotr_lt (xor_lt32 lp lq))).ext (Ext.refl _).drew, grown_set G3⟩ ?_
  rintro w4 ⟨A4, G4⟩
  have L4 : (putRot 12 v3 b c).length = 16 := (putRot_len ..).trans L3
  clear A3 G3 L3 cp fp lp cq fq lq KEEP u1 HR
  generalize HV3 : putRot 12 v3 b c = v4 at A4 L4
  replace HV3 := Lib.hid HV3
  obtain ⟨cp, fp, lp⟩ := A4.fct (i := a) (by omega)
  obtain ⟨cq, fq, lq⟩ := A4.fct (i := b) (by omega)
  have KEEP : Hid (∀ w', Ext w4 w' → w'.cell? ⟨g, a, none⟩ = some (.int .u32 (wd v4 a : Int)) ∧ w'.cell? ⟨g, b, none⟩ = some (.int .u32 (wd v4 b : Int))) := fun w' e => ⟨((A4.ext e).fct (by omega)).1, ((A4.ext e).fct (by omega)).1⟩
  have u1 : IntKind.u32.wrap ((wd v4 b : Int) + (y : Int)) = (add32 (wd v4 b) y : Int) := u32_add
  have u2 : IntKind.u32.wrap ((wd v4 a : Int) + (add32 (wd v4 b) y : Int)) = (add32 (wd v4 a) (add32 (wd v4 b) y) : Int) := u32_add
  refine qgZE 15 [0, 1, 2, 3, 4, 5, 6, 7, 8, 9, 10, 11, 12, 13, 14, 15] [15] ?_
  repeat (refine qzR _ (fun w' e => KEEP.out w' ((Ext.refl _).drew.trans e)) ?_; go_frame)
  refine qzD fun K1 hK1 => ?_
  go_simp
  refine hK1.out _ _ (.inl rfl) ?_
  clear hK1 K1
  refine seqZ_done ?_
  go_wp2_with fail
  refine wp_gen (fun w1 => Arr w1 g (putAdd v4 a b y) ∧ w.grownBy w1 (some g)) ⟨(A4.set (by omega) (add32_lt _ _)).ext (Ext.refl _).drew, grown_set G4⟩ ?_
  rintro w5 ⟨A5, G5⟩
  have L5 : (putAdd v4 a b y).length = 16 := (putAdd_len ..).trans L4
  clear A4 G4 L4 cp fp lp cq fq lq KEEP u1 u2
  generalize HV4 : putAdd v4 a b y = v5 at A5 L5
  replace HV4 := Lib.hid HV4
  obtain ⟨cp, fp, lp⟩ := A5.fct (i := d) (by omega)
  obtain ⟨cq, fq, lq⟩ := A5.fct (i := a) (by omega)
  have KEEP : Hid (∀ w', Ext w5 w' → w'.cell? ⟨g, d, none⟩ = some (.int .u32 (wd v5 d : Int)) ∧ w'.cell? ⟨g, a, none⟩ = some (.int .u32 (wd v5 a : Int))) := fun w' e => ⟨((A5.ext e).fct (by omega)).1, ((A5.ext e).fct (by omega)).1⟩
  have u1 : bits .xor .u32 (wd v5 d : Int) (wd v5 a : Int) = ((wd v5 d ^^^ wd v5 a : Nat) : Int) := u32_xor_nat _ _ lp lq
  have HR := Lib.hid (fun w0 : World => @rot8 (wd v5 d ^^^ wd v5 a) w0 (xor_lt32 lp lq))
  refine qgZE 16 [0, 1, 2, 3, 4, 5, 6, 7, 8, 9, 10, 11, 12, 14, 13, 15, 16] [13, 16] ?_
  repeat (refine qzR _ (fun w' e => KEEP.out w' ((Ext.refl _).drew.trans e)) ?_; go_frame)
  refine qzD fun K1 hK1 => ?_
  go_simp
  refine (HR.out _).mono ?_
  rintro e w1 ⟨rfl, rfl⟩
  refine hK1.out _ _ (.inr (Ext.refl _)) ?_
  clear hK1 K1
  try go_frame
  repeat (refine qzR _ (fun w' e => KEEP.out w' ((Ext.refl _).drew.trans e)) ?_; go_frame)
  refine qzD fun K1 hK1 => ?_
  go_simp
  refine hK1.out _ _ (.inl rfl) ?_
  clear hK1 K1
  refine seqZ_done ?_
  go_wp2_with fail
  refine wp_gen (fun w1 => Arr w1 g (putRot 8 v5 d a) ∧ w.grownBy w1 (some g)) ⟨(A5.set (by omega) (rotr_lt (xor_lt32 lp lq))).ext (Ext.refl _).drew, grown_set G5⟩ ?_
  rintro w6 ⟨A6, G6⟩
  have L6 : (putRot 8 v5 d a).length = 16 := (putRot_len ..).trans L5
  clear A5 G5 L5 cp fp lp cq fq lq KEEP u1 HR
  generalize HV5 : putRot 8 v5 d a = v6 at A6 L6
  replace HV5 := Lib.hid HV5
  obtain ⟨cp, fp, lp⟩ := A6.fct (i := c) (by omega)
  obtain ⟨cq, fq, lq⟩ := A6.fct (i := d) (by omega)
  have KEEP : Hid (∀ w', Ext w6 w' → w'.cell? ⟨g, c, none⟩ = some (.int .u32 (wd v6 c : Int)) ∧ w'.cell? ⟨g, d, none⟩ = some (.int .u32 (wd v6 d : Int))) := fun w' e => ⟨((A6.ext e).fct (by omega)).1, ((A6.ext e).fct (by omega)).1⟩
  have u1 : IntKind.u32.wrap ((wd v6 c : Int) + (wd v6 d : Int)) = (add32 (wd v6 c) (wd v6 d) : Int) := u32_add
  refine qgZE 13 [0, 1, 2, 3, 4, 5, 6, 7, 8, 9, 10, 11, 12, 13] [13] ?_
  repeat (refine qzR _ (fun w' e => KEEP.out w' ((Ext.refl _).drew.trans e)) ?_; go_frame)
  refine qzD fun K1 hK1 => ?_
  go_simp
  refine hK1.out _ _ (.inl rfl) ?_
  clear hK1 K1
  refine seqZ_done ?_
  go_wp2_with fail
  refine wp_gen (fun w1 => Arr w1 g (putSum v6 c d) ∧ w.grownBy w1 (some g)) ⟨(A6.set (by omega) (add32_lt _ _)).ext (Ext.refl _).drew, grown_set G6⟩ ?_
  rintro w7 ⟨A7, G7⟩
  have L7 : (putSum v6 c d).length = 16 := (putSum_len ..).trans L6
  clear A6 G6 L6 cp fp lp cq fq lq KEEP u1
  generalize HV6 : putSum v6 c d = v7 at A7 L7
  replace HV6 := Lib.hid HV6
  obtain ⟨cp, fp, lp⟩ := A7.fct (i := b) (by omega)
  obtain ⟨cq, fq, lq⟩ := A7.fct (i := c) (by omega)
  have KEEP : Hid (∀ w', Ext w7 w' → w'.cell? ⟨g, b, none⟩ = some (.int .u32 (wd v7 b : Int)) ∧ w'.cell? ⟨g, c, none⟩ = some (.int .u32 (wd v7 c : Int))) := fun w' e => ⟨((A7.ext e).fct (by omega)).1, ((A7.ext e).fct (by omega)).1⟩
  have u1 : bits .xor .u32 (wd v7 b : Int) (wd v7 c : Int) = ((wd v7 b ^^^ wd v7 c : Nat) : Int) := u32_xor_nat _ _ lp lq
  have HR := Lib.hid (fun w0 : World => @rot7 (wd v7 b ^^^ wd v7 c) w0 (xor_lt32 lp lq))
  refine qgZE 16 [0, 1, 2, 3, 4, 5, 6, 7, 8, 9, 10, 11, 12, 14, 13, 15, 16] [13, 16] ?_
  repeat (refine qzR _ (fun w' e => KEEP.out w' ((Ext.refl _).drew.trans e)) ?_; go_frame)
  refine qzD fun K1 hK1 => ?_
  go_simp
  refine (HR.out _).mono ?_
  rintro e w1 ⟨rfl, rfl⟩
  refine hK1.out _ _ (.inr (Ext.refl _)) ?_
  clear hK1 K1
  try go_frame
  repeat (refine qzR _ (fun w' e => KEEP.out w' ((Ext.refl _).drew.trans e)) ?_; go_frame)
  refine qzD fun K1 hK1 => ?_
  go_simp
  refine hK1.out _ _ (.inl rfl) ?_
  clear hK1 K1
  refine seqZ_done ?_
  go_wp2_with fail
  have HM : mixL vs a b c d x y = putRot 7 v7 b c := by
    unfold mixL
    rw [HV0.out, HV1.out, HV2.out, HV3.out, HV4.out, HV5.out, HV6.out]
  rw [HM]
  go_end0
  exact ⟨rfl, (A7.set (by omega) (rotr_lt (xor_lt32 lp lq))).ext (Ext.refl _).drew, grown_set G7⟩
end Go.Proofs.YtbnjmmefnjoofaaDoor
end

section
/-
  blake.padded.
-/
namespace Go.Proofs.YtbnjmmefnjoofaaDoor
open Go.ChangeShapes Go.WideShapes Go.ChangeAt Go.RowKit Go.Deep

def padL (xs : List UInt8) : List UInt8 := xs ++ List.replicate (64 - xs.length) 0
theorem padL_len {xs : List UInt8} (h : xs.length ≤ 64) : (padL xs).length = 64 := by simp [padL]; omega
theorem splice_pad {xs : List UInt8} : splice (List.replicate 64 (Value.int .u8 0)) 0 (cellsOf xs) = cellsOf (padL xs) := by
  have hb : ∀ j, (if j < xs.length then Value.int .u8 (bt xs j : Int) else .int .u8 0) = .int .u8 (bt (padL xs) j : Int) := fun j => by
    by_cases q : j < xs.length
    · simp [q, bt, padL, List.getD, List.getElem?_append]
    · rw [if_neg q]
      unfold bt padL
      simp only [List.getD, List.getElem?_append, if_neg q, List.getElem?_replicate]
      split <;> rfl
  unfold splice
  simp only [List.take_zero, List.nil_append, Nat.zero_add, List.drop_replicate, cellsOf_len]
  apply List.ext_getElem?
  intro j
  rw [List.getElem?_append, cellsOf_len]
  by_cases q : j < xs.length
  · rw [if_pos q, cellsOf_get q, cellsOf_get (by simp [padL]; omega)]
    have := hb j
    rw [if_pos q] at this
    rw [this]
  · rw [if_neg q, List.getElem?_replicate]
    by_cases q2 : j - xs.length < 64 - xs.length
    · have := hb j
      rw [if_neg q] at this
      rw [if_pos q2, cellsOf_get (by simp [padL]; omega), this]
    · rw [if_neg q2, List.getElem?_eq_none (by rw [cellsOf_len]; simp [padL]; omega)]
set_option maxRecDepth 100000 in
set_option maxHeartbeats 1000000 in
theorem padded_calls {A : Option Addr} {n c : Nat} {xs : List UInt8} {w : World} (h : Bs w A n c xs) (hn : n ≤ 64) :
    Calls Tryd.prog 70 #[.slice A n c] w fun e w' => e = .returned (.agg (cellsOf (padL xs)).toArray) ∧ Ext w w' := by
  go_enter Tryd.func70, Tryd.ntmps70
  go_wp2_with fail
  refine upon_copy (cur := List.replicate 64 (Value.int .u8 0)) rfl (heap_alloc2 _ _ _) (h.ext (((Ext.refl _).alloc _).alloc _)) hn (by simp; omega) ?_
  intro W' h1 h2
  have hE : Hid (Ext w W') := Below.trans (((Ext.refl _).alloc _).alloc _) (h2.out w.heap.size (by omega))
  have h0 : Hid (W'.heap[w.heap.size]? = some (.cells (List.replicate 64 (Value.int .u8 0)).toArray 138 (0, 0))) := ((h2.out (w.heap.size + 1) (Nat.le_refl _)).block w.heap.size (by omega)).trans (heap_alloc1 _ _ _)
  clear h2
  rw [splice_pad] at h1
  have hlen : (cellsOf (padL xs)).toArray.size = 64 := by simp [cellsOf_len, padL_len (xs := xs) (by rw [h.len]; exact hn)]
  have hone : (cellsOf (padL xs)).toArray.all (·.oneCell') = true := cellsOf_one _
  generalize hC : (cellsOf (padL xs)).toArray = C at h1 hlen hone
  replace hC := Lib.hid hC
  go_wp2_with (first
    | refine wpList_load_row rfl 138 _ rfl (w.heap.size + 1) rfl 138 C (0, 0) _ h1.out rfl rfl (by rw [hlen]; rfl) ?_
    | refine wpList_store_row rfl 138 _ _ rfl w.heap.size C rfl rfl 138 _ h0.out (by rw [hlen]; rfl) (by rw [hlen]; rfl) hone ?_)
  (try simp only [Exit.inBlock, Exit.then])
  refine bodyPost_ret (results_cell_row rfl _ _ w.heap.size 138 C (0, 0) _ rfl (setRow_heap W' _ _ _ _ _ h0.out) rfl rfl (by rw [hlen]; rfl)) rfl ?_
  exact ⟨by rw [hC.out], below_setRow hE.out (Nat.le_refl _) _⟩
end Go.Proofs.YtbnjmmefnjoofaaDoor
end

section
/-
  blake.wordsOf.
-/
namespace Go.Proofs.YtbnjmmefnjoofaaDoor
open Go.ChangeShapes Go.WideShapes Go.ChangeAt Go.RowKit Go.Deep
set_option maxRecDepth 100000

/-- The words of bytes. -/
def wordAt (xs : List UInt8) (i : Nat) : Nat := ofLowL ((xs.drop (4 * i)).take 4)
theorem wordAt_lt (xs : List UInt8) (i : Nat) : wordAt xs i < 4294967296 := by
  have h := ofLowL_lt ((xs.drop (4 * i)).take 4)
  have hl : ((xs.drop (4 * i)).take 4).length ≤ 4 := by simp; omega
  exact Nat.lt_of_lt_of_le h (Nat.le_trans (Nat.pow_le_pow_right (by omega) hl) (by decide))
def wordsL (xs : List UInt8) (n : Nat) : List Nat := (List.range n).map (wordAt xs)
theorem slice4 {w : World} {g k : Nat} (hk : k < 16) : (Instr.sliceAt 138 (.pointer (some ⟨g, 0, none⟩)) (some (.int .i64 (4 * (k : Int)))) (some (.int .i64 (4 * (k : Int) + 4))) none).run Tryd.prog w = .ok (.slice (some ⟨g, 4 * k, none⟩) 4 (64 - 4 * k)) w := by
  have hn : Tryd.prog.arrayLen 138 = 64 := rfl
  rw [run_sliceAt_array_lh w 138 _ rfl .i64 .i64 _ _ (by omega) (by omega) (by rw [hn]; omega)]
  have hs : (sizeOf (Tryd.prog.elem 138)).run Tryd.prog w = .ok 1 w := rfl
  rw [hs]
  have h1 : (4 * (k : Int)).toNat = 4 * k := by omega
  have h2 : (4 * (k : Int) + 4).toNat = 4 * k + 4 := by omega
  have h3 : (⟨g, 0, none⟩ : Addr).add (4 * k * 1) = ⟨g, 4 * k, none⟩ := by unfold Addr.add; split <;> simp_all
  show Result.ok (slicedAt _ _ _ _ _) w = _
  rw [hn, h1, h2]
  unfold slicedAt
  rw [if_neg (by omega), h3, show 4 * k + 4 - 4 * k = 4 by omega]
theorem words_all {vs : List Nat} {xs : List UInt8} {n : Nat} (hl : vs.length = n) (h : ∀ j, j < n → wd vs j = wordAt xs j) : wordsL xs n = vs := by
  refine List.ext_getElem (by simp [wordsL, hl]) fun j h1 h2 => ?_
  have := h j (by omega)
  unfold wd at this
  simp only [wordsL, List.getElem_map, List.getElem_range]
  rw [← this]
  simp [List.getD, h2]

set_option maxRecDepth 100000 in
set_option maxHeartbeats 1000000 in
theorem wordsOf_calls {xs : List UInt8} {w : World} (h : xs.length = 64) :
    Calls Tryd.prog 88 #[.agg (cellsOf xs).toArray] w fun e w' => e = .returned (.agg (wcells (wordsL xs 16)).toArray) ∧ Ext w w' := by
  go_enter Tryd.func88, Tryd.ntmps88
  go_wp2_with fail
  go_loopw [5] (fun i wr => ∃ (k : Nat) (vs : List Nat), k ≤ 16 ∧ i = .int .i64 k ∧ vs.length = 16 ∧ (∀ j, j < k → wd vs j = wordAt xs j) ∧ Ext w wr ∧ wr.heap[w.heap.size]? = some (.cells (cellsOf xs).toArray 138 (0, 0)) ∧ Wr wr (w.heap.size + 1) 162 (List.replicate 16 0) ∧ Wr wr (w.heap.size + 1 + 1) 162 vs) (fun i _ => 16 - (intOf i).toNat)
  case atStart =>
    exact ⟨0, List.replicate 16 0, Nat.zero_le _, rfl, rfl, fun j hj => absurd hj (by omega), (((Ext.refl _).alloc _).alloc _).alloc _, heap_alloc30 _ _ _ _, heap_alloc31 _ _ _ _, heap_alloc32 _ _ _ _⟩
  case round =>
    obtain ⟨k, vs, hk, rfl, hl, hv, he, h0, h1, h2⟩ := hrel
    by_cases hlt : k < 16
    · have g3 := h2.cell (i := k) (by omega)
      have g4 := h2.frozen k
      have hsl : (Instr.sliceAt 138 (.pointer (some ⟨w.heap.size, 0, none⟩)) (some (.int .i64 (4 * (k : Int)))) (some (.int .i64 (4 * (k : Int) + 4))) none).run Tryd.prog wr = .ok (.slice (some ⟨w.heap.size, 4 * k, none⟩) 4 (64 - 4 * k)) wr := slice4 hlt
      have HC := Lib.hid (ofLow_calls (m := 4) (Bs.part h0 (o := 4 * k) (n := 4) (c := 64 - 4 * k) (by omega) (by omega) (by omega)) (by omega) (by omega) (by decide))
      have hcv : IntKind.u32.wrap (ofLowL (((xs.drop (4 * k)).take 4).take 4) : Int) = (wordAt xs k : Int) := by
        rw [List.take_take, IntKind.wrap_u32]
        have := wordAt_lt xs k
        show (wordAt xs k : Int) % 4294967296 = _
        omega
      go_wp2_with fail
      refine HC.out.mono ?_
      rintro e w1 ⟨rfl, rfl⟩
      go_wp2_with fail
      refine ⟨⟨k + 1, vs.set k (wordAt xs k), by omega, by go_num, by rw [List.length_set]; exact hl, fun j hj => ?_, he.setCell (by show w.heap.size ≤ w.heap.size + 1 + 1; omega) _, ?_, ?_, h2.set⟩, by simp [intOf]; omega⟩
      · rw [wd_set (by omega)]
        by_cases q : j = k
        · rw [if_pos q, q]
        · rw [if_neg q]; exact hv j (by omega)
      · exact (Below.heap_setCell _ _ _ _ (by show w.heap.size ≠ w.heap.size + 1 + 1; omega)).trans h0
      · exact (Below.heap_setCell _ _ _ _ (by show w.heap.size + 1 ≠ w.heap.size + 1 + 1; omega)).trans h1
    · obtain rfl : k = 16 := by omega
      have hvs := Lib.hid (words_all hl hv)
      have HL := wcells_size hl
      have hone := wcells_one vs
      unfold Wr at h1 h2
      generalize hC : (wcells vs).toArray = C at h2 HL hone
      replace h1 := Lib.hid h1
      replace h2 := Lib.hid h2
      go_wp2_with (first
        | refine wpList_load_row rfl 162 _ rfl (w.heap.size + 1 + 1) rfl 162 C (0, 0) _ h2.out rfl rfl (by rw [HL]; rfl) ?_
        | refine wpList_store_row rfl 162 _ _ rfl (w.heap.size + 1) C rfl rfl 162 _ h1.out (by rw [HL]; rfl) (by rw [HL]; rfl) hone ?_)
      (try simp only [Exit.inBlock, Exit.then])
      refine bodyPost_ret (results_cell_row rfl _ _ (w.heap.size + 1) 162 C (0, 0) _ rfl (setRow_heap _ _ _ _ _ _ h1.out) rfl rfl (by rw [HL]; rfl)) rfl ?_
      exact ⟨by rw [hvs.out, hC], below_setRow he (by omega) _⟩
end Go.Proofs.YtbnjmmefnjoofaaDoor
end

section
/-
  blake.permutations.
-/
namespace Go.Proofs.YtbnjmmefnjoofaaDoor
open Go.ChangeShapes Go.WideShapes Go.ChangeAt Go.RowKit Go.Deep

def permL : List (List Nat) := [
  [0, 1, 2, 3, 4, 5, 6, 7, 8, 9, 10, 11, 12, 13, 14, 15],
  [14, 10, 4, 8, 9, 15, 13, 6, 1, 12, 0, 2, 11, 7, 5, 3],
  [11, 8, 12, 0, 5, 2, 15, 13, 10, 14, 3, 6, 7, 1, 9, 4],
  [7, 9, 3, 1, 13, 12, 11, 14, 2, 6, 5, 10, 4, 0, 15, 8],
  [9, 0, 5, 7, 2, 4, 10, 15, 14, 1, 11, 12, 6, 8, 3, 13],
  [2, 12, 6, 10, 0, 11, 8, 3, 4, 13, 7, 5, 15, 14, 1, 9],
  [12, 5, 1, 15, 14, 13, 4, 10, 0, 7, 6, 3, 9, 2, 8, 11],
  [13, 11, 7, 14, 12, 1, 3, 9, 5, 0, 15, 4, 8, 6, 2, 10],
  [6, 15, 14, 9, 11, 3, 0, 8, 12, 2, 13, 7, 1, 4, 10, 5],
  [10, 2, 8, 4, 7, 6, 1, 5, 15, 11, 9, 14, 3, 12, 13, 0]]
def permC : Array Value := ((permL.flatten).map fun x : Nat => Value.int .u8 (x : Int)).toArray

set_option maxRecDepth 100000 in
set_option maxHeartbeats 1000000 in
theorem perm_calls {w : World} :
    Calls Tryd.prog 89 #[] w fun e w' => e = .returned (.agg permC) ∧ Ext w w' := by
  have hz : ∀ w, (zeroValue 166).run Tryd.prog w = .ok (.agg (Array.replicate 160 (.int .u8 0))) w := fun _ => by kernel_rfl
  have hg := Lib.hid (heap_alloc_new w (Obj.cells (Array.replicate 160 (.int .u8 0)) 166))
  have he : Hid (Ext w (w.alloc (Obj.cells (Array.replicate 160 (.int .u8 0)) 166))) := (Ext.refl _).alloc _
  have hZ : (Array.replicate 160 (Value.int .u8 0)).size = 160 := by simp
  have hp : permC.size = 160 := by kernel_rfl
  have hone : permC.all (·.oneCell') = true := by kernel_rfl
  generalize Array.replicate 160 (Value.int .u8 0) = Z at hz hg he hZ
  go_enter Tryd.func89, Tryd.ntmps89
  go_wp2_with (refine wpList_build rfl _ _ rfl (by kernel_rfl) ?_)
  rename_i hyp
  clear hyp
  generalize hB : Option.getD (Program.built Tryd.prog 166 _) #[] = B
  have hBp : B = permC := hB.symm.trans (by kernel_rfl)
  clear hB
  subst hBp
  have hst := run_storeCells_from (P := Tryd.prog) w.heap.size 166 permC.toList 0 Z _ hg.out (by rw [Array.length_toList, hp, hZ]) (fun v hv => (Array.all_eq_true_iff_forall_mem.1 hone) v (by simpa using hv))
  rw [hst]
  simp only [List.take_zero, List.nil_append, Array.toArray_toList]
  iterate 10 (generalize Option.getD (Program.built Tryd.prog 165 _) #[] = B)
  go_wp2_with fail
  (try simp only [Exit.inBlock, Exit.then])
  refine bodyPost_ret (results_cell_row rfl _ _ w.heap.size 166 permC (0, 0) _ rfl (setRow_heap _ _ _ _ _ _ hg.out) rfl rfl (by rw [hp]; rfl)) rfl ?_
  exact ⟨rfl, below_setRow he.out (Nat.le_refl _) _⟩
end Go.Proofs.YtbnjmmefnjoofaaDoor
end

section
/-
  blake's first words, and the variable that holds them.
-/
namespace Go.Proofs.YtbnjmmefnjoofaaDoor
open Go.ChangeShapes Go.WideShapes Go.ChangeAt Go.RowKit Go.Deep

def initL : List Nat := [0x6a09e667, 0xbb67ae85, 0x3c6ef372, 0xa54ff53a, 0x510e527f, 0x9b05688c, 0x1f83d9ab, 0x5be0cd19]
/-- The variable blake.initial holds the first words. -/
def Gl (w : World) (tg : TypeId × Nat × Nat) : Prop := w.heap[0]? = some (.cells (wcells initL).toArray tg.1 tg.2)
section
variable {w w' : World} {tg : TypeId × Nat × Nat}
theorem Gl.lt (h : Gl w tg) : 0 < w.heap.size := by
  rcases Nat.lt_or_ge 0 w.heap.size with h1 | h1
  · exact h1
  · unfold Gl at h; rw [Array.getElem?_eq_none h1] at h; cases h
theorem Gl.cell (h : Gl w tg) {i : Nat} (hi : i < initL.length) : w.cell? ⟨0, i, none⟩ = some (.int .u32 (wd initL i : Int)) := by
  rw [cell_of_row w 0 i _ tg.1 tg.2 h]
  simp [wcells, wd, List.getD, hi]
theorem Gl.kept {B : Nat} (h : Gl w tg) (he : Below B w w') (hB : 0 < B) : Gl w' tg := (he.block 0 hB).trans h
theorem Gl.ext (h : Gl w tg) (he : Ext w w') : Gl w' tg := h.kept he h.lt
end
end Go.Proofs.YtbnjmmefnjoofaaDoor
end
