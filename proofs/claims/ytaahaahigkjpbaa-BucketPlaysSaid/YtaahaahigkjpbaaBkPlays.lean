/-
  BucketPlays: any times at which one is taken, or asked for, one by one, as the document says.
-/
import Derived.Test.YtaahaahigkjpbaaBkSame
import Derived.Test.YtaahaahigkjpbaaInts
namespace Go.Proofs.Ytaahaahigkjpbaa
open Go.ChangeShapes Go.WideShapes Go.ChangeAt Go.RowKit Go.Deep

/-- The document's bucket lies in block g. -/
def Rk (w : World) (g : Nat) (m v t k : Int) : Prop := w.heap[g]? = some (.cells #[.int .i64 m, .int .i64 v, .int .i64 t, .int .i64 k] 47 (0, 0))
section
variable {w w' : World} {g : Nat} {m v t k : Int}
theorem Rk.lt (h : Rk w g m v t k) : g < w.heap.size := by
  rcases Nat.lt_or_ge g w.heap.size with h1 | h1
  · exact h1
  · unfold Rk at h; rw [Array.getElem?_eq_none h1] at h; cases h
theorem Rk.ext (h : Rk w g m v t k) (he : Ext w w') : Rk w' g m v t k := (he.block g h.lt).trans h
theorem Rk.grown {r : Option Nat} (h : Rk w g m v t k) (he : w.grownBy w' r) (hr : some g ≠ r) : Rk w' g m v t k := (he.block g h.lt hr).trans h
theorem Rk.cells (h : Rk w g m v t k) : w.cell? ⟨g, 0, none⟩ = some (.int .i64 m) ∧ w.cell? ⟨g, 1, none⟩ = some (.int .i64 v) ∧ w.cell? ⟨g, 2, none⟩ = some (.int .i64 t) ∧ w.cell? ⟨g, 3, none⟩ = some (.int .i64 k) := by
  unfold Rk at h
  refine ⟨?_, ?_, ?_, ?_⟩ <;> simp [World.cell?, h]
theorem Rk.frozen (h : Rk w g m v t k) (i : Nat) : w.frozen? ⟨g, i, none⟩ = false := by
  unfold Rk at h
  simp [World.frozen?, h]
theorem Rk.setTime (h : Rk w g m v t k) (x : Int) : Rk (w.setCell ⟨g, 2, none⟩ (.int .i64 x)) g m v x k := by
  unfold Rk at h ⊢
  simp [World.setCell, Array.getElem?_modify, h]
theorem Rk.setTok (h : Rk w g m v t k) (x : Int) : Rk (w.setCell ⟨g, 3, none⟩ (.int .i64 x)) g m v t x := by
  unfold Rk at h ⊢
  simp [World.setCell, Array.getElem?_modify, h]
end

theorem bkAt_ref {m v t k now : Int} : (if k + now / v - t / v < m then k + now / v - t / v else m) = bkAt m v t k now := by
  unfold bkAt
  split <;> split <;> omega

set_option maxHeartbeats 2000000 in
theorem refHas_calls {g : Nat} {m v t k now : Int} {w : World} (h : Rk w g m v t k) (hok : BkOk m v t k) (hn1 : -9223372036854775808 ≤ now) (hn2 : now ≤ 9223372036854775807) :
    Calls Try.prog 12 #[.pointer (some ⟨g, 0, none⟩), .int .i64 now] w fun e w' => e = .returned (.int .i64 (bkHas m v t k now)) ∧ Ext w w' := by
  obtain ⟨c0, c1, c2, c3⟩ := h.cells
  by_cases q1 : now < t
  · have d1 : decide (now < t) = true := by simp [q1]
    go_enter Try.func12, Try.ntmps12
    go_wp2_with fail
    go_ret
    exact ⟨ret_int (by unfold bkHas; rw [if_pos (.inl q1)]), Ext.refl _⟩
  · have d1 : decide (now < t) = false := by simp; omega
    by_cases q2 : 1000000 < now
    · have d2 : decide (1000000 < now) = true := by simp [q2]
      go_enter Try.func12, Try.ntmps12
      go_wp2_with fail
      go_ret
      exact ⟨ret_int (by unfold bkHas; rw [if_pos (.inr q2)]), Ext.refl _⟩
    · have d2 : decide (1000000 < now) = false := by simp; omega
      have hh : Hid (bkAt m v t k now = bkHas m v t k now) := by unfold Hid; rw [bkHas_in (by omega) (by omega)]
      obtain ⟨a1, a2, a3, a4, a5, a6, a7, a8⟩ := hok
      have v0 : ¬ v = 0 := by omega
      have r1 : IntKind.i64.wrap (now.tdiv v) = now / v := IntWalk.i64_quo now v (by omega)
      have r2 : IntKind.i64.wrap (t.tdiv v) = t / v := IntWalk.i64_quo t v (by omega)
      have s1 : 0 ≤ t / v := Int.ediv_nonneg (by omega) (by omega)
      have s2 : t / v ≤ now / v := Int.ediv_le_ediv (by omega) (by omega)
      have s3 : now / v ≤ now := (IntWalk.tdiv_le now v (by omega) a3).2
      have r3 : IntKind.i64.wrap (k + now / v) = k + now / v := IntWalk.i64_in _ (by omega)
      have r4 : IntKind.i64.wrap (k + now / v - t / v) = k + now / v - t / v := IntWalk.i64_in _ (by omega)
      have hat : (if k + now / v - t / v < m then k + now / v - t / v else m) = bkAt m v t k now := bkAt_ref
      have KEEP : Hid (∀ w', Ext w w' → w'.cell? ⟨g, 0, none⟩ = some (.int .i64 m) ∧ w'.cell? ⟨g, 1, none⟩ = some (.int .i64 v) ∧ w'.cell? ⟨g, 2, none⟩ = some (.int .i64 t) ∧ w'.cell? ⟨g, 3, none⟩ = some (.int .i64 k)) := fun w' e => (h.ext e).cells
      go_enter Try.func12, Try.ntmps12
      go_wp2_with fail
      refine wp_region_seq (R := Ext) Ext.refl (fun _ _ _ => Ext.trans) [0, 1, 2, 3, 4, 5, 6, 7, 8, 9, 10, 11, 12, 13, 14, 15, 16, 17, 18, 19, 20, 21, 22, 23, 24, 25, 26] [] [(0, 16, 2), (1, 17, 65536), (2, 18, 131072), (4, 19, 262144), (0, 20, 2), (16, 21, 1048576), (32, 22, 2097152), (64, 23, 4194304), (0, 24, 4), (0, 25, 2), (512, 26, 33554432), (1024, 27, 67108864), (2048, 28, 134217728), (4352, 29, 285212672), (8320, 30, 545259520), (0, 31, 2), (32768, 32, 2147483648), (65536, 33, 4294967296), (131072, 34, 8589934592), (0, 35, 2), (524288, 36, 34359738368), (1048576, 37, 68719476736), (2097152, 38, 137438953472), (4456448, 39, 292057776128), (8404992, 40, 550829555712), (16777224, 41, 1099512152064), (67108863, 5, 2199023255552)] (by kernel_rfl) (by kernel_rfl) (by kernel_rfl) rfl (by kernel_rfl) (by kernel_rfl) (fun _ _ d _ _ h => by cases d <;> exact h) ?_
      repeat (first | (refine seq_read _ (fun w' e => KEEP.out w' ((Ext.refl _).drew.trans e)) _ (v := ?_) rfl rfl (by rfl) ?_ ?_; rotate_left; (· intro w' hF; go_simp; (try with_reducible rfl)); simp only [Act.put, List.setIfInBounds_toArray, List.set_cons_zero, List.set_cons_succ]) | (refine seq_skip _ rfl rfl (by rfl) ?_; simp only [Act.put, List.setIfInBounds_toArray, List.set_cons_zero, List.set_cons_succ]))
      refine seq_done ?_
      go_wp2_with fail
      go_ret
      exact ⟨ret_int hh.out, (Ext.refl _).drew⟩

set_option maxHeartbeats 2000000 in
theorem refTake_late {g : Nat} {m v t k now : Int} {w : World} (h : Rk w g m v t k) (hn2 : now ≤ 9223372036854775807) (q : 1000000 < now) :
    Calls Try.prog 14 #[.pointer (some ⟨g, 0, none⟩), .int .i64 now] w fun e w' => e = .returned (.int .i64 1) ∧ w' = w := by
  go_enter Try.func14, Try.ntmps14
  go_wp2_with fail
  go_ret
  exact ⟨rfl, rfl⟩
set_option maxHeartbeats 2000000 in
theorem refTake_old {g : Nat} {m v t k now : Int} {w : World} (h : Rk w g m v t k) (hn1 : -9223372036854775808 ≤ now) (ht : t ≤ 1000000) (q : now < t) :
    Calls Try.prog 14 #[.pointer (some ⟨g, 0, none⟩), .int .i64 now] w fun e w' => e = .returned (.int .i64 5) ∧ w' = w := by
  obtain ⟨c0, c1, c2, c3⟩ := h.cells
  have q1 : ¬ 1000000 < now := by omega
  go_enter Try.func14, Try.ntmps14
  go_wp2_with fail
  go_ret
  exact ⟨rfl, rfl⟩

/-- The document's Take at a time that is not past. -/
def RTook (m v t k now : Int) (g : Nat) (w : World) (e : Ending) (w' : World) : Prop :=
  w.grownBy w' (some g) ∧ ((bkAt m v t k now = 0 ∧ e = .returned (.int .i64 10) ∧ Rk w' g m v now 0) ∨ (0 < bkAt m v t k now ∧ e = .returned (.int .i64 0) ∧ Rk w' g m v now (bkAt m v t k now - 1)))

set_option maxHeartbeats 4000000 in
theorem refTake_calls {g : Nat} {m v t k now : Int} {w : World} (h : Rk w g m v t k) (hok : BkOk m v t k) (h1 : t ≤ now) (h2 : now ≤ 1000000) :
    Calls Try.prog 14 #[.pointer (some ⟨g, 0, none⟩), .int .i64 now] w (RTook m v t k now g w) := by
  obtain ⟨c0, c1, c2, c3⟩ := h.cells
  have hb := bkAt_ok hok h1
  have ha5 : 0 ≤ now := by have := hok.2.2.2.2.1; omega
  have p1 : decide (now < t) = false := by simp; omega
  have p2 : decide (1000000 < now) = false := by simp; omega
  have hm := hok.2.1
  have hhas := refHas_calls h hok (now := now) (by omega) (by omega)
  rw [bkHas_in h1 h2] at hhas
  generalize hx : bkAt m v t k now = x at *
  have HX := Lib.hid hx
  have HH := Lib.hid hhas
  clear hx hhas
  obtain ⟨x0, x1⟩ := hb
  go_enter Try.func14, Try.ntmps14
  go_wp2_with fail
  refine HH.out.mono ?_
  rintro e w1 ⟨rfl, e1⟩
  have r1 := h.ext e1
  obtain ⟨d0, d1, d2, d3⟩ := r1.cells
  have f2 := r1.frozen 2
  have f3 := r1.frozen 3
  clear c0 c1 c2 c3
  by_cases hx0 : x = 0
  · subst hx0
    go_wp2_with fail
    go_ret
    exact ⟨((grown_ext e1 _).set 2 _).set 3 _, .inl ⟨HX.out, rfl, (r1.setTime _).setTok _⟩⟩
  · have hx' : (x == 0) = false := by simp [hx0]
    go_wp2_with fail
    go_ret
    refine ⟨(((grown_ext e1 _).set 2 _).set 3 _).set 3 _, .inr ?_⟩
    rw [HX.out]
    exact ⟨by omega, rfl, ((r1.setTime _).setTok _).setTok _⟩

set_option maxHeartbeats 1000000 in
theorem refNew_good {m v : Int} {w : World} (q : bkSet m v) :
    Calls Try.prog 10 #[.int .i64 m, .int .i64 v] w fun e w' => e = .returned (.tuple #[.pointer (some ⟨w.heap.size, 0, none⟩), .int .i64 0]) ∧ Rk w' w.heap.size m v 0 m ∧ Ext w w' := by
  obtain ⟨a1, a2, a3, a4⟩ := q
  have d1 : decide (m < 1) = false := by simp; omega
  have d2 : decide (1000 < m) = false := by simp; omega
  have d3 : decide (v < 1) = false := by simp; omega
  have d4 : decide (1000 < v) = false := by simp; omega
  go_enter Try.func10, Try.ntmps10
  go_wp2_with fail
  go_ret2
  exact ⟨rfl, heap_alloc_new _ _, (Ext.refl _).alloc _⟩
set_option maxHeartbeats 1000000 in
theorem refNew_bad {m v : Int} {w : World} (q : ¬ bkSet m v) :
    Calls Try.prog 10 #[.int .i64 m, .int .i64 v] w fun e w' => e = .returned (.tuple #[.pointer none, .int .i64 1]) ∧ w' = w := by
  unfold bkSet at q
  by_cases q1 : m < 1
  · have d1 : decide (m < 1) = true := by simp [q1]
    clear q
    go_enter Try.func10, Try.ntmps10
    go_wp2_with fail
    go_ret2
    exact ⟨rfl, rfl⟩
  have d1 : decide (m < 1) = false := by simp; omega
  by_cases q2 : 1000 < m
  · have d2 : decide (1000 < m) = true := by simp [q2]
    clear q
    go_enter Try.func10, Try.ntmps10
    go_wp2_with fail
    go_ret2
    exact ⟨rfl, rfl⟩
  have d2 : decide (1000 < m) = false := by simp; omega
  by_cases q3 : v < 1
  · have d3 : decide (v < 1) = true := by simp [q3]
    clear q
    go_enter Try.func10, Try.ntmps10
    go_wp2_with fail
    go_ret2
    exact ⟨rfl, rfl⟩
  have d3 : decide (v < 1) = false := by simp; omega
  have d4 : decide (1000 < v) = true := by simp; omega
  clear q
  go_enter Try.func10, Try.ntmps10
  go_wp2_with fail
  go_ret2
  exact ⟨rfl, rfl⟩

/-- What Take answers, and the time and the number behind it. -/
def bkTake (m v t k now : Int) : Int × Int × Int :=
  if 1000000 < now then (1, t, k) else if now < t then (5, t, k) else if bkAt m v t k now = 0 then (10, now, 0) else (0, now, bkAt m v t k now - 1)
theorem bkTake_ok {m v t k now : Int} (h : BkOk m v t k) : BkOk m v (bkTake m v t k now).2.1 (bkTake m v t k now).2.2 := by
  unfold bkTake
  by_cases q1 : 1000000 < now
  · rw [if_pos q1]; exact h
  · rw [if_neg q1]
    by_cases q2 : now < t
    · rw [if_pos q2]; exact h
    · rw [if_neg q2]
      have hb := bkAt_ok h (show t ≤ now by omega)
      have tk := took_ok h (show t ≤ now by omega) (by omega)
      by_cases q3 : bkAt m v t k now = 0
      · rw [if_pos q3]; exact tk.1
      · rw [if_neg q3]; exact tk.2 (by omega)
theorem take_any {g : Nat} {m v t k now er t' k' : Int} {w : World} (h : Bk w g m v t k) (hok : BkOk m v t k) (hn1 : -9223372036854775808 ≤ now) (hn2 : now ≤ 9223372036854775807) (ht : bkTake m v t k now = (er, t', k')) :
    Calls Try.prog 13 #[.pointer (some ⟨g, 0, none⟩), .int .i64 now] w fun e w' => e = .returned (.int .i64 er) ∧ Bk w' g m v t' k' ∧ w.grownBy w' (some g) := by
  unfold bkTake at ht
  by_cases q1 : 1000000 < now
  · rw [if_pos q1] at ht
    injection ht with e1 e2
    injection e2 with e2 e3
    subst e1 e2 e3
    exact (take_late h hn2 q1).mono fun e w' ⟨he, hw⟩ => by subst hw; exact ⟨he, h, World.grownBy.refl _ _⟩
  · rw [if_neg q1] at ht
    by_cases q2 : now < t
    · rw [if_pos q2] at ht
      injection ht with e1 e2
      injection e2 with e2 e3
      subst e1 e2 e3
      exact (take_old h hn1 hok.2.2.2.2.2.1 q2).mono fun e w' ⟨he, hw⟩ => by subst hw; exact ⟨he, h, World.grownBy.refl _ _⟩
    · rw [if_neg q2] at ht
      refine (take_calls h hok (by omega) (by omega)).mono fun e w' ⟨hg, hh⟩ => ?_
      rcases hh with ⟨q3, he, hb⟩ | ⟨q3, he, hb⟩
      · rw [if_pos q3] at ht
        injection ht with e1 e2
        injection e2 with e2 e3
        subst e1 e2 e3
        exact ⟨he, hb, hg⟩
      · rw [if_neg (by omega)] at ht
        injection ht with e1 e2
        injection e2 with e2 e3
        subst e1 e2 e3
        exact ⟨he, hb, hg⟩
theorem refTake_any {g : Nat} {m v t k now er t' k' : Int} {w : World} (h : Rk w g m v t k) (hok : BkOk m v t k) (hn1 : -9223372036854775808 ≤ now) (hn2 : now ≤ 9223372036854775807) (ht : bkTake m v t k now = (er, t', k')) :
    Calls Try.prog 14 #[.pointer (some ⟨g, 0, none⟩), .int .i64 now] w fun e w' => e = .returned (.int .i64 er) ∧ Rk w' g m v t' k' ∧ w.grownBy w' (some g) := by
  unfold bkTake at ht
  by_cases q1 : 1000000 < now
  · rw [if_pos q1] at ht
    injection ht with e1 e2
    injection e2 with e2 e3
    subst e1 e2 e3
    exact (refTake_late h hn2 q1).mono fun e w' ⟨he, hw⟩ => by subst hw; exact ⟨he, h, World.grownBy.refl _ _⟩
  · rw [if_neg q1] at ht
    by_cases q2 : now < t
    · rw [if_pos q2] at ht
      injection ht with e1 e2
      injection e2 with e2 e3
      subst e1 e2 e3
      exact (refTake_old h hn1 hok.2.2.2.2.2.1 q2).mono fun e w' ⟨he, hw⟩ => by subst hw; exact ⟨he, h, World.grownBy.refl _ _⟩
    · rw [if_neg q2] at ht
      refine (refTake_calls h hok (by omega) (by omega)).mono fun e w' ⟨hg, hh⟩ => ?_
      rcases hh with ⟨q3, he, hb⟩ | ⟨q3, he, hb⟩
      · rw [if_pos q3] at ht
        injection ht with e1 e2
        injection e2 with e2 e3
        subst e1 e2 e3
        exact ⟨he, hb, hg⟩
      · rw [if_neg (by omega)] at ht
        injection ht with e1 e2
        injection e2 with e2 e3
        subst e1 e2 e3
        exact ⟨he, hb, hg⟩

/-- A block from B on has turned: below B nothing has. -/
theorem below_of_grown {a b : World} {g B : Nat} (hB : B ≤ a.heap.size) (hg : B ≤ g) (hb : a.grownBy b (some g)) : Below B a b :=
  ⟨hb.os, hb.tape, hb.output, hb.size, fun i hi => hb.block i (by omega) (fun e => by injection e with e; omega)⟩

set_option maxRecDepth 100000 in
set_option maxHeartbeats 8000000 in
theorem plays_calls {m v : Int} {A : Option Addr} {n c : Nat} {zs : List Int} {w : World} (hm : -9223372036854775808 ≤ m ∧ m ≤ 9223372036854775807) (hv : -9223372036854775808 ≤ v ∧ v ≤ 9223372036854775807) (h : Is w A n c zs) :
    Calls Try.prog 3 #[.int .i64 m, .int .i64 v, .slice A n c] w fun e w' => e = .returned (.bool true) ∧ Ext w w' := by
  have h1 := h.le
  have h2 := h.cap
  by_cases hs : bkSet m v
  · have hset := hs
    obtain ⟨a1, a2, a3, a4⟩ := hs
    go_enter Try.func3, Try.ntmps3
    go_wp2_with fail
    refine (awake_calls _).mono ?_
    rintro e w1 ⟨rfl, e1⟩
    go_wp2_with fail
    refine (new_good hset).mono ?_
    rintro e w2 ⟨rfl, b2, e2⟩
    go_wp2_with fail
    refine (refNew_good hset).mono ?_
    rintro e w3 ⟨rfl, b3, e3⟩
    have hge := e1.size
    have hlt2 := b2.lt
    have b2' := b2.ext e3
    have E3 := (e1.trans e2).trans e3
    clear b2
    generalize hg : w1.heap.size = g at *
    generalize hg' : w2.heap.size = g' at *
    clear hg hg'
    have hge' : w.heap.size ≤ g' := by omega
    go_wp2_with fail
    go_loopw [12] (fun i wr => ∃ (j : Nat) (t k : Int), j ≤ n ∧ i = .int .i64 j ∧ Bk wr g m v t k ∧ Rk wr g' m v t k ∧ BkOk m v t k ∧ Ext w wr) (fun i _ => n - (intOf i).toNat)
    case atStart => exact ⟨0, 0, m, by omega, rfl, b2', b3, ⟨a1, a2, a3, a4, by omega, by omega, by omega, by omega⟩, E3⟩
    case round =>
      obtain ⟨j, t, k, hj, rfl, hb, hb', hok, hE⟩ := hrel
      have hEs := hE.size
      by_cases hlt : j < n
      · have d0 : decide (j < n) = true := by simp [hlt]
        by_cases h200 : j < 200
        · have d200 : decide ((j : Int) < 200) = true := by simp; omega
          obtain ⟨b, off, rfl, hbl, hc⟩ := h.pos (by omega)
          obtain ⟨g0, u0, u1⟩ := hc j hlt
          have g1 := (hE.cell (p := ⟨b, off + j, none⟩) hbl).trans g0
          have q1 : (0 : Int) ≤ (j : Int) := by omega
          have q2 : (j : Int) < (n : Int) := by omega
          clear hc
          generalize nat_at zs j = u at *
          have KEEP : Hid (∀ w', Ext w w' → w'.cell? ⟨b, off + j, none⟩ = some (.int .i64 u)) := fun w' e => (e.cell hbl).trans g0
          clear g0
          by_cases hneg : u < 0 ∧ -2000000 < u
          · obtain ⟨n1, n2⟩ := hneg
            have d1 : decide (u < 0) = true := by simp [n1]
            have d2 : decide (-2000000 < u) = true := by simp [n2]
            have wn : IntKind.i64.wrap (-u) = -u := IntWalk.i64_in _ (by omega)
            go_wp2_with fail
            clear g1
            refine wp_region_seq (R := Below w.heap.size) (Below.refl _) (fun _ _ _ => Below.trans) [0, 1, 2, 3, 4, 5, 7, 8, 9, 10, 11, 12, 6, 13, 14] [6, 13] [(0, 63, 512), (0, 64, 8), (0, 65, 8192), (6, 66, 55340232221128654848), (8, 67, 73786976294838206464), (16, 68, 147573952589676412928), (33, 69, 304371277216207601664), (0, 70, 2048), (0, 71, 8), (0, 72, 8192), (768, 73, 7083549724304467820544), (1024, 74, 9444732965739290427392), (2048, 75, 18889465931478580854784), (4288, 76, 38959523483674573012992), (8256, 77, 76148159536273029070848)] (by kernel_rfl) (by kernel_rfl) (by kernel_rfl) rfl (by kernel_rfl) (by kernel_rfl) (fun _ _ d _ _ h => by cases d <;> exact h) ?_
            repeat (first | (refine seq_read _ (fun w' e => KEEP.out w' (hE.drew.trans' e)) _ (v := ?_) rfl rfl (by rfl) ?_ ?_; rotate_left; (· intro w' hF; go_simp; (try with_reducible rfl)); simp only [Act.put, List.setIfInBounds_toArray, List.set_cons_zero, List.set_cons_succ]) | (refine seq_skip _ rfl rfl (by rfl) ?_; simp only [Act.put, List.setIfInBounds_toArray, List.set_cons_zero, List.set_cons_succ]))
            refine seq_do _ rfl rfl (by rfl) (fun K hK => ?_)
            go_simp
            refine (has_calls (hb.ext (Ext.refl _).drew) hok (by omega) (by omega)).mono ?_
            rintro e w4 ⟨rfl, e4⟩
            refine hK.out _ _ (e4.mono hE.drew.size) ?_
            clear hK K
            try simp only [Act.put, List.setIfInBounds_toArray, List.set_cons_zero, List.set_cons_succ]
            have E4 := hE.drew.trans e4
            repeat (first | (refine seq_read _ (fun w' e => KEEP.out w' (E4.trans' e)) _ (v := ?_) rfl rfl (by rfl) ?_ ?_; rotate_left; (· intro w' hF; go_simp; (try with_reducible rfl)); simp only [Act.put, List.setIfInBounds_toArray, List.set_cons_zero, List.set_cons_succ]) | (refine seq_skip _ rfl rfl (by rfl) ?_; simp only [Act.put, List.setIfInBounds_toArray, List.set_cons_zero, List.set_cons_succ]))
            refine seq_do _ rfl rfl (by rfl) (fun K hK => ?_)
            go_simp
            refine (refHas_calls (hb'.ext ((Ext.refl _).drew.trans e4)) hok (by omega) (by omega)).mono ?_
            rintro e w5 ⟨rfl, e5⟩
            refine hK.out _ _ (e5.mono E4.size) ?_
            clear hK K
            try simp only [Act.put, List.setIfInBounds_toArray, List.set_cons_zero, List.set_cons_succ]
            have E5 := E4.trans e5
            repeat (first | (refine seq_read _ (fun w' e => KEEP.out w' (E5.trans' e)) _ (v := ?_) rfl rfl (by rfl) ?_ ?_; rotate_left; (· intro w' hF; go_simp; (try with_reducible rfl)); simp only [Act.put, List.setIfInBounds_toArray, List.set_cons_zero, List.set_cons_succ]) | (refine seq_skip _ rfl rfl (by rfl) ?_; simp only [Act.put, List.setIfInBounds_toArray, List.set_cons_zero, List.set_cons_succ]))
            refine seq_done ?_
            have e45 := (((Ext.refl wr).drew.trans e4).trans e5)
            go_wp2_with fail
            go_roundw
            case rel => exact ⟨j + 1, t, k, by omega, by go_num, hb.ext e45, hb'.ext e45, hok, E5⟩
            case measure => simp [intOf]; omega
          · have dn : (decide (u < 0) && decide (-2000000 < u)) = false := by
              rw [Bool.and_eq_false_iff]
              by_cases s : u < 0
              · right; simp; omega
              · left; simp; omega
            obtain ⟨er, t', k', hT⟩ : ∃ er t' k', Hid (bkTake m v t k u = (er, t', k')) := ⟨_, _, _, rfl⟩
            have hok' := bkTake_ok (now := u) hok
            rw [hT.out] at hok'
            by_cases s : u < 0
            all_goals
              first
              | have d1 : decide (u < 0) = true := by simp [s]
                have d2 : decide (-2000000 < u) = false := by simp; omega
              | have d1 : decide (u < 0) = false := by simp; omega
              go_wp2_with fail
              clear g1
              refine wp_region_seq (R := Below w.heap.size) (Below.refl _) (fun _ _ _ => Below.trans) [0, 1, 2, 3, 4, 6, 7, 8, 9, 10, 5, 11, 12, 13, 14, 15, 16, 17, 18, 20, 21, 22, 23, 24, 19, 25, 26, 27] [5, 11, 19, 25] [(0, 78, 512), (0, 79, 8), (0, 80, 8192), (6, 81, 1813388729421943762059264), (8, 82, 2417851639229258349412352), (17, 83, 5137934733362173992501248), (0, 84, 2048), (0, 85, 8), (0, 86, 8192), (384, 87, 116056878683004400771792896), (512, 88, 154742504910672534362390528), (1120, 89, 328827822935179135520079872), (2080, 90, 628641426199607170847211520), (6144, 91, 1237940039285380274899124224), (8192, 92, 2475880078570760549798248960), (8192, 93, 2475880078570760549798248456), (8192, 94, 2475880078570760549798256640), (106496, 95, 32186441021419887147377229824), (139264, 96, 42089961335702929346570223616), (286720, 97, 86655802749976619242938695680), (8192, 98, 2475880078570760549798250496), (8192, 99, 2475880078570760549798248456), (8192, 100, 2475880078570760549798256640), (6299648, 101, 1903951780420914862794853056512), (8396800, 102, 2537777080535029563543204659200), (18358272, 103, 5389990931048545716910786871296), (34086912, 104, 10302137006932934647710511792128), (67117056, 105, 20284885483730241184497049534464)] (by kernel_rfl) (by kernel_rfl) (by kernel_rfl) rfl (by kernel_rfl) (by kernel_rfl) (fun _ _ d _ _ h => by cases d <;> exact h) ?_
              repeat (first | (refine seq_read _ (fun w' e => KEEP.out w' (hE.drew.trans' e)) _ (v := ?_) rfl rfl (by rfl) ?_ ?_; rotate_left; (· intro w' hF; go_simp; (try with_reducible rfl)); simp only [Act.put, List.setIfInBounds_toArray, List.set_cons_zero, List.set_cons_succ]) | (refine seq_skip _ rfl rfl (by rfl) ?_; simp only [Act.put, List.setIfInBounds_toArray, List.set_cons_zero, List.set_cons_succ]))
              refine seq_do _ rfl rfl (by rfl) (fun K hK => ?_)
              go_simp
              refine (take_any (hb.ext (Ext.refl _).drew) hok u0 u1 hT.out).mono ?_
              rintro e w4 ⟨rfl, c4, g4⟩
              refine hK.out _ _ (below_of_grown hE.drew.size hge g4) ?_
              clear hK K
              try simp only [Act.put, List.setIfInBounds_toArray, List.set_cons_zero, List.set_cons_succ]
              have E4 := ext_of_grown hE.drew hge g4
              have r4 := (hb'.ext (Ext.refl _).drew).grown g4 (by intro q; injection q with q; omega)
              repeat (first | (refine seq_read _ (fun w' e => KEEP.out w' (E4.trans' e)) _ (v := ?_) rfl rfl (by rfl) ?_ ?_; rotate_left; (· intro w' hF; go_simp; (try with_reducible rfl)); simp only [Act.put, List.setIfInBounds_toArray, List.set_cons_zero, List.set_cons_succ]) | (refine seq_skip _ rfl rfl (by rfl) ?_; simp only [Act.put, List.setIfInBounds_toArray, List.set_cons_zero, List.set_cons_succ]))
              refine seq_do _ rfl rfl (by rfl) (fun K hK => ?_)
              go_simp
              refine (refTake_any r4 hok u0 u1 hT.out).mono ?_
              rintro e w5 ⟨rfl, c5, g5⟩
              refine hK.out _ _ (below_of_grown E4.size hge' g5) ?_
              clear hK K
              try simp only [Act.put, List.setIfInBounds_toArray, List.set_cons_zero, List.set_cons_succ]
              have E5 := ext_of_grown E4 hge' g5
              have c4' := c4.grown g5 (by intro q; injection q with q; omega)
              repeat (first | (refine seq_read _ (fun w' e => KEEP.out w' (E5.trans' e)) _ (v := ?_) rfl rfl (by rfl) ?_ ?_; rotate_left; (· intro w' hF; go_simp; (try with_reducible rfl)); simp only [Act.put, List.setIfInBounds_toArray, List.set_cons_zero, List.set_cons_succ]) | (refine seq_skip _ rfl rfl (by rfl) ?_; simp only [Act.put, List.setIfInBounds_toArray, List.set_cons_zero, List.set_cons_succ]))
              refine seq_do _ rfl rfl (by rfl) (fun K hK => ?_)
              go_simp
              refine (has_calls c4' hok' u0 u1).mono ?_
              rintro e w6 ⟨rfl, e6⟩
              refine hK.out _ _ (e6.mono E5.size) ?_
              clear hK K
              try simp only [Act.put, List.setIfInBounds_toArray, List.set_cons_zero, List.set_cons_succ]
              have E6 := E5.trans e6
              repeat (first | (refine seq_read _ (fun w' e => KEEP.out w' (E6.trans' e)) _ (v := ?_) rfl rfl (by rfl) ?_ ?_; rotate_left; (· intro w' hF; go_simp; (try with_reducible rfl)); simp only [Act.put, List.setIfInBounds_toArray, List.set_cons_zero, List.set_cons_succ]) | (refine seq_skip _ rfl rfl (by rfl) ?_; simp only [Act.put, List.setIfInBounds_toArray, List.set_cons_zero, List.set_cons_succ]))
              refine seq_do _ rfl rfl (by rfl) (fun K hK => ?_)
              go_simp
              refine (refHas_calls (c5.ext e6) hok' u0 u1).mono ?_
              rintro e w7 ⟨rfl, e7⟩
              refine hK.out _ _ (e7.mono E6.size) ?_
              clear hK K
              try simp only [Act.put, List.setIfInBounds_toArray, List.set_cons_zero, List.set_cons_succ]
              have E7 := E6.trans e7
              have e67 := e6.trans e7
              repeat (first | (refine seq_read _ (fun w' e => KEEP.out w' (E7.trans' e)) _ (v := ?_) rfl rfl (by rfl) ?_ ?_; rotate_left; (· intro w' hF; go_simp; (try with_reducible rfl)); simp only [Act.put, List.setIfInBounds_toArray, List.set_cons_zero, List.set_cons_succ]) | (refine seq_skip _ rfl rfl (by rfl) ?_; simp only [Act.put, List.setIfInBounds_toArray, List.set_cons_zero, List.set_cons_succ]))
              refine seq_done ?_
              go_wp2_with fail
              go_roundw
              case rel => exact ⟨j + 1, t', k', by omega, by go_num, c4'.ext e67, c5.ext e67, hok', E7⟩
              case measure => simp [intOf]; omega
        · have d200 : decide ((j : Int) < 200) = false := by simp; omega
          go_wp2_with fail
          go_ret
          exact ⟨rfl, hE⟩
      · have d0 : decide (j < n) = false := by simp; omega
        go_wp2_with fail
        go_ret
        exact ⟨rfl, hE⟩
  · go_enter Try.func3, Try.ntmps3
    go_wp2_with fail
    refine (awake_calls _).mono ?_
    rintro e w1 ⟨rfl, e1⟩
    go_wp2_with fail
    refine (new_bad hs).mono ?_
    rintro e w2 ⟨rfl, rfl⟩
    go_wp2_with fail
    refine (refNew_bad hs).mono ?_
    rintro e w2 ⟨rfl, rfl⟩
    go_wp2_with fail
    go_loopw [12] (fun i wr => i = .int .i64 0 ∧ wr = w2) (fun _ _ => 0)
    case atStart => exact ⟨rfl, rfl⟩
    case round =>
      obtain ⟨rfl, rfl⟩ := hrel
      by_cases hn : 0 < n
      · have d0 : decide (0 < n) = true := by simp [hn]
        go_wp2_with fail
        go_ret
        exact ⟨rfl, e1⟩
      · obtain rfl : n = 0 := by omega
        go_wp2_with fail
        go_ret
        exact ⟨rfl, e1⟩
end Go.Proofs.Ytaahaahigkjpbaa
