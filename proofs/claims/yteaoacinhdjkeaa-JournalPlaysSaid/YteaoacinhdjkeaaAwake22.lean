import Derived.Test.YteaoacinhdjkeaaPkD
/-
  palfreylaw22.awake.
-/
namespace Go.Proofs.Yteaoacinhdjkeaa
open Go.ChangeShapes Go.WideShapes Go.ChangeAt Go.RowKit Go.Deep Go.Maps
set_option maxRecDepth 100000

theorem Bs.ot22 {p : Nat → Prop} {w s : World} {A : Option Addr} {n c : Nat} {xs : List UInt8} (h : Bs w A n c xs) (k : Ot p w s) (hp : ∀ a, A = some a → 0 < n → ¬ p a.block) : Bs s A n c xs :=
  ⟨h.1, h.2.1, h.2.2.1, fun h0 => by
    obtain ⟨b, off, rfl, hb, hc⟩ := h.2.2.2 h0
    exact ⟨b, off, rfl, Nat.lt_of_lt_of_le hb k.size, fun j hj => (World.cell?_of_block (k.same hb (show ¬ p b from hp _ rfl h0))).trans (hc j hj)⟩⟩
theorem Bs.nil22 (w : World) : Bs w none 0 0 [] := ⟨rfl, Nat.le_refl _, Nat.zero_le _, fun h => absurd h (Nat.lt_irrefl _)⟩
/-- A new disk's blocks lie below what is made behind it. -/
theorem pd_lt {w : World} {dg r mb : Nat} {d : Ds} (h : DK w dg r mb d) : ∀ i, Pd22 dg r mb i → i < w.heap.size := fun i q => by
  rcases q with q | q | q
  · rw [q]; exact h.cb.lt
  · rw [q]; exact h.row.lt
  · rw [q]; exact h.mp.lt
/-- A journal and its disk, all made since w. -/
structure JN (w W : World) (g dg r mb : Nat) (d : Ds) (B : Nat) (R : Nat → Prop) (D : Option Addr) (c : Nat) (L : List (List UInt8)) : Prop where
  jk : JS B R W g dg D c L
  dk : DK W dg r mb d
  rR : R r
  rw : ∀ i, R i → i < W.heap.size
  wB : w.heap.size ≤ B
  wd : w.heap.size ≤ dg
  wr : w.heap.size ≤ r
  wm : w.heap.size ≤ mb
  ex : Ext w W
theorem JN.ext {w W W' : World} {g dg r mb : Nat} {d : Ds} {B : Nat} {R : Nat → Prop} {D : Option Addr} {c : Nat} {L : List (List UInt8)} (h : JN w W g dg r mb d B R D c L) (x : Ext W W') : JN w W' g dg r mb d B R D c L := ⟨h.jk.ext x, h.dk.ext x, h.rR, fun i q => Nat.lt_of_lt_of_le (h.rw i q) x.size, h.wB, h.wd, h.wr, h.wm, h.ex.trans x⟩
theorem JN.append {w W : World} {g dg r mb : Nat} {d : Ds} {B : Nat} {R : Nat → Prop} {D : Option Addr} {c : Nat} {L : List (List UInt8)} (h : JN w W g dg r mb d B R D c L) {A : Option Addr} {n c' : Nat} {xs : List UInt8} (hL : L.length ≤ 64) (hM : ∀ s, Ot (Pd22 dg r mb) W s → Bs s A n c' xs) (hn : n ≤ 1000000) :
    Calls Try.prog 16 #[.pointer (some ⟨g, 0, none⟩), .slice A n c'] W fun e W' => e = .returned (.int .i64 (d.jE L.length xs)) ∧ ∃ mb' D' c2, JN w W' g dg r mb' (d.jD L.length xs) B R D' c2 (d.jL L xs) ∧ Ot (Pj22 g dg r mb (Value.ownBlock (.slice D L.length c))) W W' ∧
      (Value.ownBlock (.slice D' (d.jL L xs).length c2) = Value.ownBlock (.slice D L.length c) ∨ ∃ i, Value.ownBlock (.slice D' (d.jL L xs).length c2) = some i ∧ W.heap.size ≤ i) := by
  refine (jappend_calls h.jk h.dk h.rR h.rw (Nat.le_of_lt (Nat.lt_of_le_of_lt h.jk.2.2 h.jk.1.lt)) hL hM hn).mono ?_
  rintro e W' ⟨he, mb', D', c2, dk, jk, ot, hmb, ho⟩
  have hwm : w.heap.size ≤ mb' := by
    rcases hmb with q | q
    · rw [q]; exact h.wm
    · exact Nat.le_trans h.ex.size q
  refine ⟨he, mb', D', c2, ⟨jk, dk, h.rR, fun i q => Nat.lt_of_lt_of_le (h.rw i q) ot.size, h.wB, h.wd, h.wr, hwm, Ot.ext h.ex ot fun i q => ?_⟩, ot, ho⟩
  have h1 := h.wd
  have h2 := h.wr
  have h3 := h.wm
  have h4 := h.wB
  have h5 := h.jk.2.2
  rcases q with q | q | q | q | q
  · omega
  · omega
  · omega
  · omega
  · have := (h.jk.2.1.ge _ q).1; omega
/-- What Open hands back. -/
theorem JN.opened {w w1 : World} {dg r mb : Nat} {d : Ds} (h : DK w1 dg r mb d) (x : Ext w w1) (wd : w.heap.size ≤ dg) (wr : w.heap.size ≤ r) (wm : w.heap.size ≤ mb) :
    Calls Try.prog 14 #[.pointer (some ⟨dg, 0, none⟩)] w1 fun e w' => ∃ g D c, e = .returned (.tuple #[.pointer (some ⟨g, 0, none⟩), .int .i64 0]) ∧ JN w w' g dg r mb d w1.heap.size (fun i => i < w1.heap.size) D c d.recs ∧ Ext w1 w' := by
  refine (jopen_calls h h.ok.most (read_len22 h.ok)).mono ?_
  rintro e w' ⟨g, D, c, he, jk, x'⟩
  exact ⟨g, D, c, he, ⟨jk.toS (fun _ q => q), h.ext x', h.row.lt, fun i q => Nat.lt_of_lt_of_le q x'.size, x.size, wd, wr, wm, x.trans x'⟩, x'⟩
set_option maxHeartbeats 4000000 in
theorem awake22_calls {w : World} : Calls Try.prog 11 #[] w fun e w' => e = .returned (.bool true) ∧ Ext w w' := by
  have hcv := conv_const
  have ND := Lib.hid (dnew_ok (w := w) (n := 1) (by omega) (by omega))
  go_enter Try.func11, Try.ntmps11
  go_wp2_with fail
  refine ND.out.mono ?_
  rintro e w1 ⟨dg, r, mb, rfl, q1, q2, q3, dk1, x1⟩
  have H0 : Hd22 (newD 1) 1 [] := Hd22.new (by omega)
  have OP := Lib.hid (JN.opened dk1 x1 q1 q2 q3)
  rw [H0.recs (by omega)] at OP
  replace H0 := Lib.hid H0
  clear ND dk1 x1 q1 q2 q3
  go_wp2_with fail
  refine OP.out.mono ?_
  rintro e w2 ⟨g, D, c, rfl, j2, _⟩
  have x2a : Ext w2 (w2.alloc (.cells #[.int .u8 97, .int .u8 98] 5 (2, 3))) := (Ext.refl w2).alloc _
  obtain ⟨s1, s2, s3⟩ := H0.out.step (xs := [97, 98]) (by decide)
  rw [if_neg (by decide)] at s1 s3
  have AP := JN.append (xs := [97, 98]) (A := some ⟨w2.heap.size, 0, none⟩) (n := 2) (c' := 2) (j2.ext x2a) (by simp) (fun s k => (Bs.of_list (xs := [97, 98]) rfl (heap_alloc_new w2 (.cells #[.int .u8 97, .int .u8 98] 5 (2, 3))) ⟨rfl, by decide⟩).ot22 k (fun a ha _ q => by
    injection ha with ha
    subst ha
    have := pd_lt j2.dk _ q
    simp only at this
    omega)) (by omega)
  rw [s1] at AP
  rw [s3] at AP s2
  replace AP := Lib.hid AP
  replace s2 := Lib.hid s2
  generalize (newD 1).jD ([] : List (List UInt8)).length [97, 98] = d1 at *
  clear OP s1 s3 x2a j2 H0
  go_wp2_with fail
  refine AP.out.mono ?_
  rintro e w3 ⟨rfl, mb3, D3, c3, j3, _⟩
  obtain ⟨s1, s4, s3⟩ := s2.out.step (xs := []) (by decide)
  rw [if_pos (by decide)] at s1 s3
  have AP2 := JN.append (xs := []) (A := none) (n := 0) (c' := 0) j3 (by simp) (fun s k => Bs.nil22 s) (by omega)
  rw [s1] at AP2
  rw [s3] at AP2 s4
  replace AP2 := Lib.hid AP2
  replace s4 := Lib.hid s4
  generalize d1.jD (([] : List (List UInt8)) ++ [[97, 98]]).length [] = d2 at *
  clear AP s1 s3 j3 s2 hcv
  go_wp2_with fail
  refine AP2.out.mono ?_
  rintro e w4 ⟨rfl, mb4, D4, c4, j4, _⟩
  have OP := Lib.hid (JN.opened j4.dk j4.ex j4.wd j4.wr j4.wm)
  rw [s4.out.recs (by omega)] at OP
  clear AP2 s4 j4
  go_wp2_with fail
  refine OP.out.mono ?_
  rintro e w5 ⟨k, D5, c5, rfl, j5, _⟩
  replace j5 := Lib.hid j5
  clear OP
  go_wp2_with fail
  refine (jopen_none (w := w5)).mono ?_
  rintro e w6 ⟨rfl, rfl⟩
  have AL := Lib.hid (lall_calls j5.out.jk (by decide) (by decide))
  have x5 := Lib.hid j5.out.ex
  clear j5
  go_wp2_with fail
  refine AL.out.mono ?_
  rintro e w7 ⟨D7, c7, rfl, o7, x7⟩
  have x07 := Lib.hid (x5.out.trans x7)
  obtain ⟨b, off, rfl, hb, hcell⟩ := o7.rw.pos (by decide)
  obtain ⟨A1, n1, c1, hc1, hb1⟩ := hcell 0 (by decide)
  have hcv : (convert 37 9 (.slice A1 n1 c1)).run Try.prog w7 = .ok (.string ⟨#[97, 98]⟩) w7 := conv_bs hb1
  rw [Nat.add_zero] at hc1
  clear AL o7 x7 x5 hcell hb1
  go_wp2_with fail
  go_ret
  exact ⟨rfl, x07.out⟩
end Go.Proofs.Yteaoacinhdjkeaa
