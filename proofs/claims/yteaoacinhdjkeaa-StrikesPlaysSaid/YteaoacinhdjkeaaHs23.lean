import Derived.Test.YteaoacinhdjkeaaPkC
import Derived.Test.YteaoacinhdjkeaaSt23o
import Derived.Test.YteaoacinhdjkeaaSh22
/-
  Strikes: a ledger of a healthy disk; begun, awake.
-/
namespace Go.Proofs.Yteaoacinhdjkeaa
open Go.ChangeShapes Go.WideShapes Go.ChangeAt Go.RowKit Go.Deep Go.Maps
set_option maxRecDepth 100000

set_option maxHeartbeats 4000000 in
theorem begun_calls {w W : World} {dg r mb : Nat} {d : Ds} (h : DK W dg r mb d) (x : Ext w W) (wd : w.heap.size ≤ dg) (wr : w.heap.size ≤ r) (wm : w.heap.size ≤ mb) :
    Calls Try.prog 28 #[.pointer (some ⟨dg, 0, none⟩)] W fun e W' => ∃ g lg lb R D c, e = .returned (.tuple #[.pointer (some ⟨g, 0, none⟩), .pointer (some ⟨lg, 0, none⟩)]) ∧ SN w W' lg g dg r mb lb d W.heap.size R D c d.recs (kOf d.recs) ∧ (W.heap.size ≤ lg ∧ W.heap.size ≤ lb) ∧ Ext W W' := by
  have OP := Lib.hid (JN.opened h x wd wr wm)
  have SH := Lib.hid (Sh22.recs h.ok)
  have mlt := h.mp.lt
  clear h x
  go_enter Try.func28, Try.ntmps28
  go_wp2_with fail
  refine OP.out.mono ?_
  rintro e w1 ⟨g, D, c, rfl, j1, x1⟩
  have SO := Lib.hid (sopen_calls j1.jk (by have := SH.out.1; omega) (fun k hk => Nat.le_trans (SH.out.2 k hk) (by decide)))
  have s1 := x1.size
  have s2 := j1.ex.size
  replace j1 := Lib.hid j1
  replace x1 := Lib.hid x1
  clear OP SH
  go_wp2_with fail
  refine SO.out.mono ?_
  rintro e w2 ⟨lg, lb, rfl, l2, q1, q2, x2⟩
  have F : Hid (∃ R, SN w w2 lg g dg r mb lb d W.heap.size R D c d.recs (kOf d.recs) ∧ (W.heap.size ≤ lg ∧ W.heap.size ≤ lb) ∧ Ext W w2) := ⟨_, ⟨j1.out.ext x2, l2, by omega, by omega, by omega⟩, ⟨by omega, by omega⟩, x1.out.trans x2⟩
  clear SO l2 q1 q2 x2 j1 x1
  go_wp2_with fail
  go_ret2
  obtain ⟨R, F1, F2⟩ := F.out
  exact ⟨g, lg, lb, R, D, c, rfl, F1, F2⟩
/-- A ledger of a journal of n records on a healthy disk of m sectors. -/
def HS (w W : World) (lg : Nat) (K : List Sk) (m n : Nat) : Prop := ∃ g dg r mb lb d B R D c L, SN w W lg g dg r mb lb d B R D c L K ∧ Hd22 d m L ∧ L.length = n
section
variable {w W W' : World} {lg : Nat} {K : List Sk} {m n : Nat}
theorem HS.ext (h : HS w W lg K m n) (x : Ext W W') : HS w W' lg K m n := by
  obtain ⟨a1, a2, a3, a4, a5, a6, a7, a8, a9, a10, a11, h1, h2⟩ := h
  exact ⟨a1, a2, a3, a4, a5, a6, a7, a8, a9, a10, a11, h1.ext x, h2⟩
theorem HS.ex (h : HS w W lg K m n) : Ext w W := by
  obtain ⟨a1, a2, a3, a4, a5, a6, a7, a8, a9, a10, a11, h1, h2⟩ := h
  exact h1.jn.ex
theorem HS.ok (h : HS w W lg K m n) : OkS K := by
  obtain ⟨a1, a2, a3, a4, a5, a6, a7, a8, a9, a10, a11, h1, h2⟩ := h
  exact h1.le.ok
theorem HS.led (h : HS w W lg K m n) : ∃ g lb, LG W lg g lb K := by
  obtain ⟨a1, a2, a3, a4, a5, a6, a7, a8, a9, a10, a11, h1, h2⟩ := h
  exact ⟨_, _, h1.le⟩
theorem HS.kept {W1 : World} {g dg r mb lb : Nat} {d : Ds} {B : Nat} {R : Nat → Prop} {D : Option Addr} {c : Nat} {L : List (List UInt8)} {x : Rk} (h2 : Hd22 d m L) (hn : L.length < m) (k : Kept w W1 W' lg g dg r mb lb d B R D c L K x) : HS w W' lg (followL K x) m (L.length + 1) := by
  obtain ⟨s1, s2, s3⟩ := h2.step (xs := bytesR x) (by rw [bytesR_len]; omega)
  rw [if_neg (by omega)] at s1 s3
  obtain ⟨mb', D', c', k1, _⟩ := k
  rw [s1, if_pos rfl] at k1
  rw [s3] at k1 s2
  exact ⟨g, dg, r, mb', lb, _, B, R, D', c', _, k1, s2, by simp⟩
theorem HS.add (h : HS w W lg K m n) (hn : n < m) (hm : m ≤ 64) {a i t : Nat} (ha : a < 8) (hi : i ≤ 1000000) (ht : t ≤ 1000000) (hs : findS K (i : Int) = none) :
    Calls Try.prog 30 #[.pointer (some ⟨lg, 0, none⟩), .int .i64 (a : Int), .int .i64 (i : Int), .int .i64 (t : Int)] W fun e W' => e = .returned (.int .i64 0) ∧ HS w W' lg (K ++ [⟨i, a, t, false⟩]) m (n + 1) := by
  obtain ⟨g, dg, r, mb, lb, d, B, R, D, c, L, h1, h2, rfl⟩ := h
  obtain ⟨s1, _, _⟩ := h2.step (xs := bytesR ⟨1, a, i, t⟩) (by rw [bytesR_len]; omega)
  rw [if_neg (by omega)] at s1
  refine (sadd_ok h1 (by omega) ha hi ht hs).mono ?_
  rintro e W' ⟨he, W1, x1, k⟩
  rw [s1] at he
  have := HS.kept h2 hn k
  unfold followL at this
  dsimp only at this
  rw [if_pos rfl, hs] at this
  exact ⟨he, this⟩
theorem HS.twice (h : HS w W lg K m n) {a i t : Nat} (ha : a < 8) (hi : i ≤ 1000000) (ht : t ≤ 1000000) {s : Sk} (hs : findS K (i : Int) = some s) :
    Calls Try.prog 30 #[.pointer (some ⟨lg, 0, none⟩), .int .i64 (a : Int), .int .i64 (i : Int), .int .i64 (t : Int)] W fun e W' => e = .returned (.int .i64 9) ∧ HS w W' lg K m n := by
  obtain ⟨g, lb, l⟩ := h.led
  exact (sadd_twice l ha hi ht hs).mono fun e W' q => ⟨q.1, h.ext q.2⟩
theorem HS.clear (h : HS w W lg K m n) (hn : n < m) (hm : m ≤ 64) {i t : Nat} (hi : i ≤ 1000000) (ht : t ≤ 1000000) {s : Sk} (hs : findS K (i : Int) = some s) (hrev : s.rev = false) :
    Calls Try.prog 32 #[.pointer (some ⟨lg, 0, none⟩), .int .i64 (i : Int), .int .i64 (t : Int)] W fun e W' => e = .returned (.int .i64 0) ∧ HS w W' lg (revS K i) m (n + 1) := by
  obtain ⟨g, dg, r, mb, lb, d, B, R, D, c, L, h1, h2, rfl⟩ := h
  obtain ⟨s1, _, _⟩ := h2.step (xs := bytesR ⟨2, s.acc, i, t⟩) (by rw [bytesR_len]; omega)
  rw [if_neg (by omega)] at s1
  refine (sclear_ok h1 (by omega) hi ht hs hrev).mono ?_
  rintro e W' ⟨he, W1, x1, k⟩
  rw [s1] at he
  have := HS.kept h2 hn k
  unfold followL at this
  dsimp only at this
  rw [if_neg (by omega), if_pos rfl, hs] at this
  exact ⟨he, this⟩
theorem HS.clearno (h : HS w W lg K m n) {i t : Nat} (hi : i ≤ 1000000) (ht : t ≤ 1000000) (hs : ∀ s, findS K (i : Int) = some s → s.rev = true) :
    Calls Try.prog 32 #[.pointer (some ⟨lg, 0, none⟩), .int .i64 (i : Int), .int .i64 (t : Int)] W fun e W' => e = .returned (.int .i64 (if (findS K (i : Int)).isSome then 5 else 7)) ∧ HS w W' lg K m n := by
  obtain ⟨g, lb, l⟩ := h.led
  exact (sclear_no l hi ht hs).mono fun e W' q => ⟨q.1, h.ext q.2⟩
theorem HS.count (h : HS w W lg K m n) {a now : Int} : Calls Try.prog 36 #[.pointer (some ⟨lg, 0, none⟩), .int .i64 a, .int .i64 now] W fun e W' => e = .returned (.int .i64 (cntS K a now : Int)) ∧ HS w W' lg K m n := by
  obtain ⟨g, lb, l⟩ := h.led
  exact (scount_calls l).mono fun e W' q => ⟨q.1, h.ext q.2⟩
theorem HS.susp (h : HS w W lg K m n) {a now : Int} : Calls Try.prog 38 #[.pointer (some ⟨lg, 0, none⟩), .int .i64 a, .int .i64 now] W fun e W' => e = .returned (.bool (decide (3 ≤ cntS K a now))) ∧ HS w W' lg K m n := by
  obtain ⟨g, lb, l⟩ := h.led
  exact (ssusp_calls l).mono fun e W' q => ⟨q.1, h.ext q.2⟩
theorem HS.of (h : HS w W lg K m n) {id : Int} (hi : -9223372036854775808 ≤ id ∧ id ≤ 9223372036854775807) : Calls Try.prog 34 #[.pointer (some ⟨lg, 0, none⟩), .int .i64 id] W fun e W' => e = .returned (.tuple #[.int .i64 (ofA (findS K id)), .bool (ofR (findS K id)), .bool (findS K id).isSome]) ∧ HS w W' lg K m n := by
  obtain ⟨g, lb, l⟩ := h.led
  exact (sof_calls l hi).mono fun e W' q => ⟨q.1, h.ext q.2⟩
/-- A new one. -/
theorem HS.new {W : World} {dg r mb : Nat} {m : Nat} (h : DK W dg r mb (newD m)) (x : Ext w W) (h1 : 1 ≤ m) (h64 : m ≤ 64) (wd : w.heap.size ≤ dg) (wr : w.heap.size ≤ r) (wm : w.heap.size ≤ mb) :
    Calls Try.prog 28 #[.pointer (some ⟨dg, 0, none⟩)] W fun e W' => ∃ g lg, e = .returned (.tuple #[.pointer (some ⟨g, 0, none⟩), .pointer (some ⟨lg, 0, none⟩)]) ∧ HS w W' lg [] m 0 := by
  have H := Hd22.new h1
  refine (begun_calls h x wd wr wm).mono ?_
  rintro e W' ⟨g, lg, lb, R, D, c, he, s, _⟩
  rw [H.recs h64] at s
  exact ⟨g, lg, he, g, dg, r, mb, lb, _, _, R, D, c, _, s, H, rfl⟩
end
set_option maxHeartbeats 4000000 in
theorem awake23_calls {w : World} : Calls Try.prog 27 #[] w fun e w' => e = .returned (.bool true) ∧ Ext w w' := by
  have ND := Lib.hid (dnew_ok (w := w) (n := 8) (by omega) (by omega))
  have E1 : cntS [(⟨7, 2, 0, false⟩ : Sk)] 2 100 = 1 := by decide +kernel
  have E2 : cntS [(⟨7, 2, 0, false⟩ : Sk)] 2 101 = 0 := by decide +kernel
  go_enter Try.func27, Try.ntmps27
  go_wp2_with fail
  refine ND.out.mono ?_
  rintro e w1 ⟨dg, r, mb, rfl, q1, q2, q3, dk1, x1⟩
  have BE := Lib.hid (HS.new (w := w) dk1 x1 (by omega) (by omega) q1 q2 q3)
  clear ND dk1 x1 q1 q2 q3
  go_wp2_with fail
  refine BE.out.mono ?_
  rintro e w2 ⟨g, lg, rfl, h2⟩
  have AD := Lib.hid (h2.add (a := 2) (i := 7) (t := 0) (by omega) (by omega) (by omega) (by omega) (by omega) rfl)
  clear BE h2
  go_wp2_with fail
  refine AD.out.mono ?_
  rintro e w3 ⟨rfl, h3⟩
  have AD2 := Lib.hid (h3.twice (a := 2) (i := 7) (t := 0) (s := ⟨7, 2, 0, false⟩) (by omega) (by omega) (by omega) rfl)
  clear AD h3
  go_wp2_with fail
  refine AD2.out.mono ?_
  rintro e w4 ⟨rfl, h4⟩
  replace h4 := Lib.hid h4
  clear AD2
  go_wp2_with fail
  refine (sopen_none (w := w4)).mono ?_
  rintro e w5 ⟨rfl, rfl⟩
  have C1 := h4.out.count (a := 2) (now := 100)
  have EL : ([] : List Sk) ++ [(⟨7, 2, 0, false⟩ : Sk)] = [⟨7, 2, 0, false⟩] := rfl
  rw [EL, E1] at C1
  replace C1 := Lib.hid C1
  clear h4
  go_wp2_with fail
  refine C1.out.mono ?_
  rintro e w6 ⟨rfl, h6⟩
  have C2 := h6.count (a := 2) (now := 101)
  rw [E2] at C2
  replace C2 := Lib.hid C2
  clear C1 h6
  go_wp2_with fail
  refine C2.out.mono ?_
  rintro e w7 ⟨rfl, h7⟩
  have F := Lib.hid h7.ex
  clear C2 h7
  go_wp2_with fail
  go_ret
  exact ⟨rfl, F.out⟩
end Go.Proofs.Yteaoacinhdjkeaa
