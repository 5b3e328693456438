/-
  package bucket: what New, Has and Take do.
-/
import Derived.Test.YtbnjmmefnjoofaaDoorSeq
import Derived.Laws.LoneSync
import Derived.Laws.ResultCell
import Derived.WalkLawsBesides
namespace Go.Proofs.YtbnjmmefnjoofaaDoor
open Go.ChangeShapes Go.WideShapes Go.ChangeAt Go.RowKit Go.Deep

/-- A bucket lies in block g: how many it holds at most, how often one comes, its time, how many there are. -/
def Bk (w : World) (g : Nat) (m v t k : Int) : Prop := w.heap[g]? = some (.cells #[.int .i64 m, .int .i64 v, .int .i64 t, .int .i64 k] 148 (0, 0))
/-- .. and its numbers are as they must be. -/
def BkOk (m v t k : Int) : Prop := 1 ≤ m ∧ m ≤ 1000 ∧ 1 ≤ v ∧ v ≤ 1000 ∧ 0 ≤ t ∧ t ≤ 1000000 ∧ 0 ≤ k ∧ k ≤ m

section
variable {w w' : World} {g : Nat} {m v t k : Int}
theorem Bk.lt (h : Bk w g m v t k) : g < w.heap.size := by
  rcases Nat.lt_or_ge g w.heap.size with h1 | h1
  · exact h1
  · unfold Bk at h; rw [Array.getElem?_eq_none h1] at h; cases h
theorem Bk.ext (h : Bk w g m v t k) (he : Ext w w') : Bk w' g m v t k := (he.block g h.lt).trans h
theorem Bk.grown {r : Option Nat} (h : Bk w g m v t k) (he : w.grownBy w' r) (hr : some g ≠ r) : Bk w' g m v t k := (he.block g h.lt hr).trans h
theorem Bk.cells (h : Bk w g m v t k) : w.cell? ⟨g, 0, none⟩ = some (.int .i64 m) ∧ w.cell? ⟨g, 1, none⟩ = some (.int .i64 v) ∧ w.cell? ⟨g, 2, none⟩ = some (.int .i64 t) ∧ w.cell? ⟨g, 3, none⟩ = some (.int .i64 k) := by
  unfold Bk at h
  refine ⟨?_, ?_, ?_, ?_⟩ <;> simp [World.cell?, h]
theorem Bk.frozen (h : Bk w g m v t k) (i : Nat) : w.frozen? ⟨g, i, none⟩ = false := by
  unfold Bk at h
  simp [World.frozen?, h]
theorem Bk.setTime (h : Bk w g m v t k) (x : Int) : Bk (w.setCell ⟨g, 2, none⟩ (.int .i64 x)) g m v x k := by
  unfold Bk at h ⊢
  simp [World.setCell, Array.getElem?_modify, h]
theorem Bk.setTok (h : Bk w g m v t k) (x : Int) : Bk (w.setCell ⟨g, 3, none⟩ (.int .i64 x)) g m v t x := by
  unfold Bk at h ⊢
  simp [World.setCell, Array.getElem?_modify, h]
end

theorem Ext.below {w a b : World} (ha : Ext w a) (hb : Ext w b) (hs : a.heap.size ≤ b.heap.size) : Below w.heap.size a b :=
  ⟨hb.os.trans ha.os.symm, hb.tape.trans ha.tape.symm, hb.output.trans ha.output.symm, hs, fun i hi => (hb.block i hi).trans (ha.block i hi).symm⟩

theorem grown_trans {a b c : World} {r : Option Nat} (h : a.grownBy b r) (k : b.grownBy c r) : a.grownBy c r :=
  ⟨k.os.trans h.os, k.tape.trans h.tape, k.output.trans h.output, Nat.le_trans h.size k.size, fun i hi hne => (k.block i (Nat.lt_of_lt_of_le hi h.size) hne).trans (h.block i hi hne)⟩
theorem bk_ext {a b : World} (h : Ext a b) (r : Option Nat) : a.grownBy b r := ⟨h.os, h.tape, h.output, h.size, fun i hi _ => h.block i hi⟩
theorem _root_.Go.World.grownBy.set {a b : World} {g : Nat} (h : a.grownBy b (some g)) (i : Nat) (u : Value) : a.grownBy (b.setCell ⟨g, i, none⟩ u) (some g) :=
  ⟨h.os, h.tape, h.output, by simpa [World.setCell] using h.size, fun j hj hne => (Below.heap_setCell b ⟨g, i, none⟩ u j (fun e => hne (by rw [e]))).trans (h.block j hj hne)⟩
theorem _root_.Go.World.grownBy.alloc' {a b : World} {r : Option Nat} (h : a.grownBy b r) (o : Obj) : a.grownBy (b.alloc o) r :=
  ⟨h.os, h.tape, h.output, Nat.le_trans h.size (by simp), fun j hj hne => (Below.heap_alloc b o j (Nat.lt_of_lt_of_le hj h.size)).trans (h.block j hj hne)⟩

/-- How many there are at a time that is not past. -/
def bkAt (m v t k now : Int) : Int := if m < k + (now / v - t / v) then m else k + (now / v - t / v)
theorem bkAt_ok {m v t k now : Int} (h : BkOk m v t k) (h1 : t ≤ now) : 0 ≤ bkAt m v t k now ∧ bkAt m v t k now ≤ m := by
  obtain ⟨a1, a2, a3, a4, a5, a6, a7, a8⟩ := h
  have hd : t / v ≤ now / v := Int.ediv_le_ediv (by omega) h1
  unfold bkAt
  split <;> omega

set_option maxHeartbeats 1000000 in
theorem load_calls {g : Nat} {m v t k : Int} {w : World} (h : Bk w g m v t k) :
    Calls Tryd.prog 91 #[.pointer (some ⟨g, 3, none⟩)] w fun e w' => e = .returned (.int .i64 k) ∧ w' = w := by
  obtain ⟨_, _, _, c3⟩ := h.cells
  have hl := run_call_load (P := Tryd.prog) Tryd.func101 (by kernel_rfl) (by kernel_rfl) (by kernel_rfl) .i64 (by kernel_rfl) c3
  go_enter Tryd.func91, Tryd.ntmps91
  go_wp2
  go_ret
  exact ⟨rfl, rfl⟩

set_option maxHeartbeats 1000000 in
theorem store_calls {g : Nat} {m v t k x : Int} {w : World} (h : Bk w g m v t k) :
    Calls Tryd.prog 74 #[.pointer (some ⟨g, 3, none⟩), .int .i64 x] w fun e w' => e = .returned (.tuple #[]) ∧ w' = w.setCell ⟨g, 3, none⟩ (.int .i64 x) := by
  obtain ⟨_, _, _, c3⟩ := h.cells
  have hf := h.frozen 3
  have hl := run_call_store (P := Tryd.prog) Tryd.func92 (by kernel_rfl) (by kernel_rfl) (by kernel_rfl) (by kernel_rfl) (k := .i64) (y := x) c3 hf
  go_enter Tryd.func74, Tryd.ntmps74
  go_wp2
  go_end0
  exact ⟨rfl, rfl⟩

set_option maxHeartbeats 1000000 in
theorem add_calls {g : Nat} {m v t k x s : Int} {w : World} (h : Bk w g m v t k) (hs : k + x = s) (hb : -9223372036854775808 ≤ s ∧ s ≤ 9223372036854775807) :
    Calls Tryd.prog 75 #[.pointer (some ⟨g, 3, none⟩), .int .i64 x] w fun e w' => e = .returned (.int .i64 s) ∧ w' = w.setCell ⟨g, 3, none⟩ (.int .i64 s) := by
  obtain ⟨_, _, _, c3⟩ := h.cells
  have hf := h.frozen 3
  have ha : (Op.intArith .add .i64 k x).run Tryd.prog w = .ok (.int .i64 s) w := by
    simp [go_sem, IntKind.wrap_i64, hs]
    omega
  have hl := run_call_add (P := Tryd.prog) Tryd.func93 (by kernel_rfl) (by kernel_rfl) (by kernel_rfl) .i64 (by kernel_rfl) c3 hf ha
  clear hs ha
  go_enter Tryd.func75, Tryd.ntmps75
  go_wp2
  go_ret
  exact ⟨rfl, rfl⟩

set_option maxHeartbeats 2000000 in
theorem at_calls {g : Nat} {m v t k now : Int} {w : World} (h : Bk w g m v t k) (hok : BkOk m v t k) (h1 : t ≤ now) (h2 : now ≤ 1000000) :
    Calls Tryd.prog 73 #[.pointer (some ⟨g, 0, none⟩), .int .i64 now] w fun e w' => e = .returned (.agg #[.int .i64 now, .int .i64 (bkAt m v t k now)]) ∧ Ext w w' := by
  obtain ⟨a1, a2, a3, a4, a5, a6, a7, a8⟩ := hok
  have KEEP : Hid (∀ w', Ext w w' → w'.cell? ⟨g, 0, none⟩ = some (.int .i64 m) ∧ w'.cell? ⟨g, 1, none⟩ = some (.int .i64 v) ∧ w'.cell? ⟨g, 2, none⟩ = some (.int .i64 t) ∧ w'.cell? ⟨g, 3, none⟩ = some (.int .i64 k)) := fun w' e => (h.ext e).cells
  have v0 : ¬ v = 0 := by omega
  have q1 : IntKind.i64.wrap (now.tdiv v) = now / v := IntWalk.i64_quo now v (by omega)
  have q2 : IntKind.i64.wrap (t.tdiv v) = t / v := IntWalk.i64_quo t v (by omega)
  have d1 : 0 ≤ t / v := Int.ediv_nonneg (by omega) (by omega)
  have d2 : t / v ≤ now / v := Int.ediv_le_ediv (by omega) h1
  have d3 : now / v ≤ now := (IntWalk.tdiv_le now v (by omega) a3).2
  have q3 : IntKind.i64.wrap (now / v - t / v) = now / v - t / v := IntWalk.i64_in _ (by omega)
  have q4 : IntKind.i64.wrap (k + (now / v - t / v)) = k + (now / v - t / v) := IntWalk.i64_in _ (by omega)
  have hat : (if m < k + (now / v - t / v) then m else k + (now / v - t / v)) = bkAt m v t k now := rfl
  go_enter Tryd.func73, Tryd.ntmps73
  go_wp2
  refine qgE [0, 1, 2, 3, 4, 5, 6, 7, 8, 9, 10, 11, 12, 13, 14, 15, 16] [] ?_
  repeat ((first | refine qR _ (fun w' e => KEEP.out w' (((Ext.refl _).alloc _).drew.trans e)) ?_ | refine qS ?_); go_frame)
  refine seq_done ?_
  go_wp2
  refine qgB w.heap.size [0, 1, 2, 3, 5, 7, 8, 9, 10, 4, 6, 11, 12, 13] [4, 13] ?_
  repeat ((first | refine qR _ (fun w' e => KEEP.out w' (((Ext.refl _).alloc _).drew.drew.trans' e)) ?_ | refine qS ?_); go_frame)
  refine qD fun K hK => ?_
  go_simp
  refine (load_calls (h.ext ((Ext.refl _).alloc _).drew.drew)).mono ?_
  rintro e w1 ⟨rfl, rfl⟩
  refine hK.out _ _ (Below.refl _ _) ?_
  clear hK K
  try go_frame
  repeat ((first | refine qR _ (fun w' e => KEEP.out w' (((Ext.refl _).alloc _).drew.drew.trans' e)) ?_ | refine qS ?_); go_frame)
  refine qD fun K hK => ?_
  go_simp
  refine hK.out _ _ (((Ext.refl w).alloc _).drew.drew.below ((Ext.refl w).alloc _).drew.drew (by simp)) ?_
  clear hK K
  try go_frame
  refine seq_done ?_
  go_wp2
  refine bodyPost_ret (v := .agg #[.int .i64 now, .int .i64 (bkAt m v t k now)]) ?_ rfl ⟨rfl, ((Ext.refl w).alloc _).drew.drew⟩
  simp [results, Tryd.results73, go_sem]

theorem field1 (w : World) (x y : Value) : (Instr.field 150 (.agg #[x, y]) 1).run Tryd.prog w = .ok y w := by kernel_rfl

/-- What Has tells. -/
def bkHas (m v t k now : Int) : Int := if now < t ∨ 1000000 < now then 0 else bkAt m v t k now

set_option maxHeartbeats 2000000 in
theorem take_late {g : Nat} {m v t k now : Int} {w : World} (h : Bk w g m v t k) (hn2 : now ≤ 9223372036854775807) (q : 1000000 < now) :
    Calls Tryd.prog 45 #[.pointer (some ⟨g, 0, none⟩), .int .i64 now] w fun e w' => e = .returned (.int .i64 1) ∧ w' = w := by
  go_enter Tryd.func45, Tryd.ntmps45
  go_wp2_with fail
  go_ret
  exact ⟨rfl, rfl⟩
set_option maxHeartbeats 2000000 in
theorem take_old {g : Nat} {m v t k now : Int} {w : World} (h : Bk w g m v t k) (hn1 : -9223372036854775808 ≤ now) (ht : t ≤ 1000000) (q : now < t) :
    Calls Tryd.prog 45 #[.pointer (some ⟨g, 0, none⟩), .int .i64 now] w fun e w' => e = .returned (.int .i64 5) ∧ w' = w := by
  obtain ⟨c0, c1, c2, c3⟩ := h.cells
  have q1 : ¬ 1000000 < now := by omega
  go_enter Tryd.func45, Tryd.ntmps45
  go_wp2_with fail
  go_ret
  exact ⟨rfl, rfl⟩

/-- Take at a time that is not past. -/
def Took (m v t k now : Int) (g : Nat) (w : World) (e : Ending) (w' : World) : Prop :=
  w.grownBy w' (some g) ∧ ((bkAt m v t k now = 0 ∧ e = .returned (.int .i64 10) ∧ Bk w' g m v now 0) ∨ (0 < bkAt m v t k now ∧ e = .returned (.int .i64 0) ∧ Bk w' g m v now (bkAt m v t k now - 1)))

set_option maxHeartbeats 4000000 in
theorem take_calls {g : Nat} {m v t k now : Int} {w : World} (h : Bk w g m v t k) (hok : BkOk m v t k) (h1 : t ≤ now) (h2 : now ≤ 1000000) :
    Calls Tryd.prog 45 #[.pointer (some ⟨g, 0, none⟩), .int .i64 now] w (Took m v t k now g w) := by
  obtain ⟨c0, c1, c2, c3⟩ := h.cells
  have hb := bkAt_ok hok h1
  have hlt := h.lt
  have ha5 : 0 ≤ now := by have := hok.2.2.2.2.1; omega
  have p1 : decide (now < t) = false := by simp; omega
  have p2 : decide (1000000 < now) = false := by simp; omega
  go_enter Tryd.func45, Tryd.ntmps45
  go_wp2_with fail
  refine (at_calls h hok h1 h2).mono ?_
  rintro e w1 ⟨rfl, e1⟩
  have hB1 := h.ext e1
  obtain ⟨d0, d1, d2, d3⟩ := hB1.cells
  have f2 := hB1.frozen 2
  have f3 := hB1.frozen 3
  have hlt1 := hB1.lt
  have hne : ¬ g = w1.heap.size := by omega
  go_wp2_with fail
  have BW : Bk ((w1.setCell ⟨g, 2, none⟩ (.int .i64 now)).alloc (.cells #[.int .i64 now, .int .i64 (bkAt m v t k now)] 150)) g m v now k := (hB1.setTime now).ext ((Ext.refl _).alloc _)
  have GW : w.grownBy ((w1.setCell ⟨g, 2, none⟩ (.int .i64 now)).alloc (.cells #[.int .i64 now, .int .i64 (bkAt m v t k now)] 150)) (some g) := ((bk_ext e1 (some g)).set 2 _).alloc' _
  have RW : ((w1.setCell ⟨g, 2, none⟩ (.int .i64 now)).alloc (.cells #[.int .i64 now, .int .i64 (bkAt m v t k now)] 150)).heap[w1.heap.size]? = some (.cells #[.int .i64 now, .int .i64 (bkAt m v t k now)] 150 (0, 0)) := by
    have := heap_alloc_new (w1.setCell ⟨g, 2, none⟩ (.int .i64 now)) (.cells #[.int .i64 now, .int .i64 (bkAt m v t k now)] 150)
    simpa [World.setCell] using this
  generalize ((w1.setCell ⟨g, 2, none⟩ (.int .i64 now)).alloc (.cells #[.int .i64 now, .int .i64 (bkAt m v t k now)] 150)) = W at *
  generalize hs : w1.heap.size = s at *
  have HS := Lib.hid hs
  have HR := Lib.hid RW
  clear hs RW c0 c1 c2 c3 d0 d1 d2 d3 f2 f3 hB1 e1
  have KEEP : Hid (∀ w', W.grownBy w' (some g) → w'.cell? ⟨s, 0, none⟩ = some (.int .i64 now) ∧ w'.cell? ⟨s, 1, none⟩ = some (.int .i64 (bkAt m v t k now))) := fun w' e => by
    have hsz : s < W.heap.size := by
      rcases Nat.lt_or_ge s W.heap.size with q | q
      · exact q
      · rw [Array.getElem?_eq_none q] at HR; cases HR.out
    have := (e.block s hsz (by intro q; injection q with q; omega)).trans HR.out
    constructor <;> simp [World.cell?, this]
  refine qgW g [0, 1, 2, 3, 4, 5] [5] ?_
  repeat ((first | refine qR _ (fun w' e => KEEP.out w' (grown_trans (bk_ext (Ext.refl _).drew _) e)) ?_ | refine qS ?_); go_frame)
  refine qD fun K hK => ?_
  go_simp
  refine (store_calls (BW.ext (Ext.refl _).drew)).mono ?_
  rintro e w2 ⟨rfl, rfl⟩
  refine hK.out _ _ ((World.grownBy.refl _ _).set 3 _) ?_
  clear hK K
  try go_frame
  refine seq_done ?_
  have BW2 := (BW.ext (Ext.refl _).drew).setTok (bkAt m v t k now)
  have GW2 := (grown_trans GW (bk_ext (Ext.refl _).drew _)).set 3 (Value.int .i64 (bkAt m v t k now))
  obtain ⟨r0, r1⟩ := KEEP.out _ ((bk_ext (Ext.refl W).drew (some g)).set 3 (Value.int .i64 (bkAt m v t k now)))
  generalize W.drew.setCell ⟨g, 3, none⟩ (Value.int .i64 (bkAt m v t k now)) = V at *
  generalize hxx : bkAt m v t k now = x at *
  have HX := Lib.hid hxx
  clear hxx
  rcases hb with ⟨hb1, hb2⟩
  have hm := hok.2.1
  by_cases hx : x = 0
  · subst hx
    go_wp2_with fail
    go_ret
    exact ⟨GW2, .inl ⟨HX.out, rfl, BW2⟩⟩
  · have hx' : (x == 0) = false := by simp [hx]
    go_wp2_with fail
    refine (add_calls BW2 (s := x - 1) (by omega) (by omega)).mono ?_
    rintro e w2 ⟨rfl, rfl⟩
    go_wp2_with fail
    go_ret
    refine ⟨GW2.set 3 _, .inr ?_⟩
    rw [HX.out]
    exact ⟨by omega, rfl, BW2.setTok _⟩

/-- The numbers behind a Take. -/
theorem took_ok {m v t k now : Int} (h : BkOk m v t k) (h1 : t ≤ now) (h2 : now ≤ 1000000) : BkOk m v now 0 ∧ (0 < bkAt m v t k now → BkOk m v now (bkAt m v t k now - 1)) := by
  have hb := bkAt_ok h h1
  obtain ⟨a1, a2, a3, a4, a5, a6, a7, a8⟩ := h
  exact ⟨⟨a1, a2, a3, a4, by omega, h2, by omega, by omega⟩, fun hx => ⟨a1, a2, a3, a4, by omega, h2, by omega, by omega⟩⟩

/-- May a bucket have these numbers? -/
def bkSet (m v : Int) : Prop := 1 ≤ m ∧ m ≤ 1000 ∧ 1 ≤ v ∧ v ≤ 1000
instance (m v : Int) : Decidable (bkSet m v) := by unfold bkSet; infer_instance

set_option maxHeartbeats 1000000 in
theorem set_yes {n : Int} {w : World} (h1 : 1 ≤ n) (h2 : n ≤ 1000) : Calls Tryd.prog 85 #[.int .i64 n] w fun e w' => e = .returned (.bool true) ∧ w' = w := by
  have p1 : decide (1 ≤ n) = true := by simp [h1]
  have p2 : decide (n ≤ 1000) = true := by simp [h2]
  go_enter Tryd.func85, Tryd.ntmps85
  go_wp2_with fail
  go_ret
  exact ⟨rfl, rfl⟩
set_option maxHeartbeats 1000000 in
theorem set_no {n : Int} {w : World} (h : ¬ (1 ≤ n ∧ n ≤ 1000)) : Calls Tryd.prog 85 #[.int .i64 n] w fun e w' => e = .returned (.bool false) ∧ w' = w := by
  by_cases h1 : 1 ≤ n
  · have p1 : decide (1 ≤ n) = true := by simp [h1]
    have p2 : decide (n ≤ 1000) = false := by simp; omega
    go_enter Tryd.func85, Tryd.ntmps85
    go_wp2_with fail
    go_ret
    exact ⟨rfl, rfl⟩
  · have p1 : decide (1 ≤ n) = false := by simp; omega
    go_enter Tryd.func85, Tryd.ntmps85
    go_wp2_with fail
    go_ret
    exact ⟨rfl, rfl⟩

set_option maxHeartbeats 1000000 in
theorem new_bad {m v : Int} {w : World} (q : ¬ bkSet m v) :
    Calls Tryd.prog 63 #[.int .i64 m, .int .i64 v] w fun e w' => e = .returned (.tuple #[.pointer none, .int .i64 1]) ∧ w' = w := by
  by_cases qm : 1 ≤ m ∧ m ≤ 1000
  · have qv : ¬ (1 ≤ v ∧ v ≤ 1000) := fun h => q ⟨qm.1, qm.2, h.1, h.2⟩
    clear q
    go_enter Tryd.func63, Tryd.ntmps63
    go_wp2_with fail
    refine (set_yes qm.1 qm.2).mono ?_
    rintro e w1 ⟨rfl, rfl⟩
    go_wp2_with fail
    refine (set_no qv).mono ?_
    rintro e w1 ⟨rfl, rfl⟩
    go_wp2_with fail
    go_ret2
    exact ⟨rfl, rfl⟩
  · clear q
    go_enter Tryd.func63, Tryd.ntmps63
    go_wp2_with fail
    refine (set_no qm).mono ?_
    rintro e w1 ⟨rfl, rfl⟩
    go_wp2_with fail
    go_ret2
    exact ⟨rfl, rfl⟩

set_option maxHeartbeats 1000000 in
theorem new_good {m v : Int} {w : World} (q : bkSet m v) :
    Calls Tryd.prog 63 #[.int .i64 m, .int .i64 v] w fun e w' => e = .returned (.tuple #[.pointer (some ⟨w.heap.size, 0, none⟩), .int .i64 0]) ∧ Bk w' w.heap.size m v 0 m ∧ Ext w w' := by
  obtain ⟨a1, a2, a3, a4⟩ := q
  go_enter Tryd.func63, Tryd.ntmps63
  go_wp2_with fail
  refine (set_yes a1 a2).mono ?_
  rintro e w1 ⟨rfl, rfl⟩
  go_wp2_with fail
  refine (set_yes a3 a4).mono ?_
  rintro e w2 ⟨rfl, rfl⟩
  go_wp2_with fail
  have hB : Bk (w2.alloc (.cells #[.int .i64 m, .int .i64 v, .int .i64 0, .int .i64 0] 148)) w2.heap.size m v 0 0 := heap_alloc_new w2 _
  refine (store_calls hB).mono ?_
  rintro e w3 ⟨rfl, rfl⟩
  go_wp2_with fail
  go_ret2
  exact ⟨rfl, heap_alloc_new w2 _, (Ext.refl _).alloc _⟩

theorem take_yes {g : Nat} {m v t k now x : Int} {w : World} (h : Bk w g m v t k) (hok : BkOk m v t k) (h1 : t ≤ now) (h2 : now ≤ 1000000) (hx : bkAt m v t k now = x) (hp : 0 < x) :
    Calls Tryd.prog 45 #[.pointer (some ⟨g, 0, none⟩), .int .i64 now] w fun e w' => e = .returned (.int .i64 0) ∧ Bk w' g m v now (x - 1) ∧ w.grownBy w' (some g) :=
  (take_calls h hok h1 h2).mono fun e w' ⟨hg, hh⟩ => by
    rw [hx] at hh
    rcases hh with ⟨q, _⟩ | ⟨_, he, hb⟩
    · omega
    · exact ⟨he, hb, hg⟩
theorem take_rate {g : Nat} {m v t k now : Int} {w : World} (h : Bk w g m v t k) (hok : BkOk m v t k) (h1 : t ≤ now) (h2 : now ≤ 1000000) (hx : bkAt m v t k now = 0) :
    Calls Tryd.prog 45 #[.pointer (some ⟨g, 0, none⟩), .int .i64 now] w fun e w' => e = .returned (.int .i64 10) ∧ Bk w' g m v now 0 ∧ w.grownBy w' (some g) :=
  (take_calls h hok h1 h2).mono fun e w' ⟨hg, hh⟩ => by
    rw [hx] at hh
    rcases hh with ⟨_, he, hb⟩ | ⟨q, _⟩
    · exact ⟨he, hb, hg⟩
    · omega
/-- Only a block that is new to w has turned. -/
theorem ext_of_grown {w a b : World} {g : Nat} (h : Ext w a) (hg : w.heap.size ≤ g) (hb : a.grownBy b (some g)) : Ext w b :=
  h.trans' ⟨hb.os, hb.tape, hb.output, hb.size, fun i hi => hb.block i (Nat.lt_of_lt_of_le hi h.size) (fun e => by injection e with e; omega)⟩

end Go.Proofs.YtbnjmmefnjoofaaDoor
