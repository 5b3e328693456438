import Derived.Test.YtbnjmmefnjoofaaDoorRy
import Derived.Test.YtbnjmmefnjoofaaDoorRowOps
section
/-
  relay.find, many.
-/
namespace Go.Proofs.YtbnjmmefnjoofaaDoor
open Go.ChangeShapes Go.WideShapes Go.ChangeAt Go.RowKit Go.Deep Go.Maps
set_option maxRecDepth 100000

/-- Which account is meant by a number. -/
def fd (f : Nat → Option Ac) (n : Int) : Option Nat := if 0 ≤ n ∧ n < 8 then (f n.toNat).map fun _ => n.toNat else none
def adV (g : Nat) : Option Nat → Value
  | none => .pointer none
  | some j => .pointer (some ⟨g, 1 + j * 134, none⟩)
theorem fd_some {f : Nat → Option Ac} {n : Int} {j : Nat} (h : fd f n = some j) : n = (j : Int) ∧ j < 8 ∧ ∃ a, f j = some a := by
  unfold fd at h
  split at h
  · rename_i q
    obtain ⟨a, h1, h2⟩ := Option.map_eq_some_iff.1 h
    subst h2
    exact ⟨by omega, by omega, a, h1⟩
  · cases h
theorem fd_at {f : Nat → Option Ac} {j : Nat} {a : Ac} (h : f j = some a) (hj : j < 8) : fd f (j : Int) = some j := by
  unfold fd
  rw [if_pos (by omega), Int.toNat_natCast, h]
  rfl
set_option maxHeartbeats 2000000 in
theorem find_calls {w : World} {g s : Nat} {f : Nat → Option Ac} {n : Int} (h : Cb w g 86 (rC s f)) (hf : FOk f) (h1 : -9223372036854775808 ≤ n) (h2 : n ≤ 9223372036854775807) :
    Calls Tryd.prog 35 #[.pointer (some ⟨g, 0, none⟩), .int .i64 n] w fun e w' => e = .returned (adV g (fd f n)) ∧ w' = w := by
  by_cases q1 : n < 0
  · have e : fd f n = none := if_neg (by omega)
    rw [e]
    have u1 : decide (n < 0) = true := decide_eq_true q1
    go_enter Tryd.func35, Tryd.ntmps35
    go_wp2_with fail
    go_ret
    exact ⟨rfl, rfl⟩
  have u1 : decide (n < 0) = false := decide_eq_false q1
  by_cases q2 : 8 ≤ n
  · have e : fd f n = none := if_neg (by omega)
    rw [e]
    have u2 : decide (8 ≤ n) = true := decide_eq_true q2
    go_enter Tryd.func35, Tryd.ntmps35
    go_wp2_with fail
    go_ret
    exact ⟨rfl, rfl⟩
  have u2 : decide (8 ≤ n) = false := decide_eq_false q2
  obtain ⟨j, rfl⟩ : ∃ j : Nat, n = (j : Int) := ⟨n.toNat, by omega⟩
  have j8 : j < 8 := by omega
  rcases q : f j with _ | a
  · have e : fd f (j : Int) = none := by unfold fd; rw [if_pos (by omega), Int.toNat_natCast, q]; rfl
    rw [e]
    have c0 : w.cell? ⟨g, 1 + j * 134 + 0, none⟩ = some (.bool false) := h.cell (rC_cell hf j8 (by rw [q]; rfl))
    rw [Nat.add_zero] at c0
    go_enter Tryd.func35, Tryd.ntmps35
    go_wp2_with fail
    go_ret
    exact ⟨rfl, rfl⟩
  · rw [fd_at q j8]
    have c0 : w.cell? ⟨g, 1 + j * 134 + 0, none⟩ = some (.bool true) := h.cell (rC_cell hf j8 (by rw [q]; rfl))
    rw [Nat.add_zero] at c0
    go_enter Tryd.func35, Tryd.ntmps35
    go_wp2_with fail
    go_ret
    exact ⟨rfl, rfl⟩
set_option maxHeartbeats 2000000 in
theorem many_calls {w : World} {B bx : Nat} {L : List Wm} {last : Int} (h : MB 126 73 B w bx L last) (hL : L.length ≤ 8) :
    Calls Tryd.prog 72 #[.func (.func 36) #[.pointer (some ⟨bx, 0, none⟩)] #[]] w fun e w' => e = .returned (.int .i64 (L.length : Int)) ∧ Ext w w' := by
  have LS := Lib.hid (list_calls h hL)
  clear h
  go_enter Tryd.func72, Tryd.ntmps72
  go_wp2_with fail
  refine LS.out.mono ?_
  rintro e w1 ⟨q, L', rfl, _, _, _, _, x1⟩
  go_wp2_with fail
  go_ret
  exact ⟨rfl, x1⟩
end Go.Proofs.YtbnjmmefnjoofaaDoor
end

section
/-
  relay.New, Suspend, Ack, Mails.
-/
namespace Go.Proofs.YtbnjmmefnjoofaaDoor
open Go.ChangeShapes Go.WideShapes Go.ChangeAt Go.RowKit Go.Deep Go.Maps
set_option maxRecDepth 100000

theorem rnew_bad {w : World} {root : List UInt8} {z : Int} (lr : root.length = 32) (h : z < 1 ∨ 1000000 < z) : Calls Tryd.prog 11 #[.agg (cellsOf root).toArray, .int .i64 z] w fun e w' => e = .returned (.tuple #[.pointer none, .int .i64 1]) ∧ Ext w w' := by
  have SN := Lib.hid (fun W : World => snew16_bad (w := W) (root := root) h)
  clear h
  have S_r : (cellsOf root).toArray.size = 32 := by simp [cellsOf_len, lr]
  have B0 : Hid ((w.alloc (.cells (cellsOf root).toArray 23)).heap[w.heap.size]? = some (.cells (cellsOf root).toArray 23 (0, 0)) ∧ Ext w (w.alloc (.cells (cellsOf root).toArray 23))) := ⟨heap_alloc_new _ _, (Ext.refl w).alloc _⟩
  go_enter Tryd.func11, Tryd.ntmps11
  go_upto_region 1 with fail
  refine wp_gen (fun W => W.heap[w.heap.size]? = some (.cells (cellsOf root).toArray 23 (0, 0)) ∧ Ext w W) B0.out ?_
  clear B0
  rintro w0 ⟨k0, x0⟩
  replace x0 := Lib.hid x0
  go_wp2_with (first | ((with_reducible refine wpList_load_rowW (o := ⟨some 9, _, _, _, _, _⟩) ?_ 23 _ rfl w.heap.size ?_ 23 (cellsOf root).toArray (0, 0) _ ?_ Tryd.underlying23 ?_ ?_ ?_); (· rfl); (· rfl); (· exact k0); (· rfl); (· rw [S_r]; rfl); go_frame))
  refine (SN.out w0).mono ?_
  rintro e w1 ⟨rfl, x1⟩
  have x2 : Hid (Ext w w1) := x0.out.trans x1
  clear x0 x1 k0
  go_wp2_with fail
  go_ret2
  exact ⟨rfl, x2.out⟩
theorem rnew_built (s : Nat) : Tryd.prog.built 86 [(0, .pointer (some ⟨s, 0, none⟩))] = some (rC s (fun _ => none)).toArray := by kernel_rfl
theorem rnew_ok {w : World} {root : List UInt8} {n : Nat} (lr : root.length = 32) (n1 : 1 ≤ n) (n6 : n ≤ 1000000) :
    Calls Tryd.prog 11 #[.agg (cellsOf root).toArray, .int .i64 (n : Int)] w fun e w' => ∃ g, e = .returned (.tuple #[.pointer (some ⟨g, 0, none⟩), .int .i64 0]) ∧ w.heap.size ≤ g ∧ RY w.heap.size w' g root n (fun _ => none) 0 ∧ Ext w w' := by
  have SN := Lib.hid (fun W : World => snew16_ok (w := W) lr n1 n6)
  have S_r : (cellsOf root).toArray.size = 32 := by simp [cellsOf_len, lr]
  have B0 : Hid ((w.alloc (.cells (cellsOf root).toArray 23)).heap[w.heap.size]? = some (.cells (cellsOf root).toArray 23 (0, 0)) ∧ Ext w (w.alloc (.cells (cellsOf root).toArray 23))) := ⟨heap_alloc_new _ _, (Ext.refl w).alloc _⟩
  go_enter Tryd.func11, Tryd.ntmps11
  go_upto_region 1 with fail
  refine wp_gen (fun W => W.heap[w.heap.size]? = some (.cells (cellsOf root).toArray 23 (0, 0)) ∧ Ext w W) B0.out ?_
  clear B0
  rintro w0 ⟨k0, x0⟩
  replace x0 := Lib.hid x0
  go_wp2_with (first | ((with_reducible refine wpList_load_rowW (o := ⟨some 9, _, _, _, _, _⟩) ?_ 23 _ rfl w.heap.size ?_ 23 (cellsOf root).toArray (0, 0) _ ?_ Tryd.underlying23 ?_ ?_ ?_); (· rfl); (· rfl); (· exact k0); (· rfl); (· rw [S_r]; rfl); go_frame))
  refine (SN.out w0).mono ?_
  rintro e w1 ⟨s, mb, q, rfl, ⟨h1, h2, h3⟩, sr, x1⟩
  have x2 : Hid (Ext w w1) := x0.out.trans x1
  have z1 := x2.out.size
  have z0 := x0.out.size
  have hb := rnew_built s
  obtain ⟨C, hC⟩ : ∃ C, C = rC s (fun _ => none) := ⟨_, rfl⟩
  rw [← hC] at hb
  have FIN : Hid (RY w.heap.size (w1.alloc (.cells C.toArray 86)) w1.heap.size root n (fun _ => none) 0 ∧ Ext w (w1.alloc (.cells C.toArray 86))) := by
    refine ⟨⟨s, mb, q, fun _ => none, [], ⟨?_, sr.ext ((Ext.refl _).alloc _), Nat.le_refl _, ⟨n1, n6⟩, (fun j a hj => by cases hj), ⟨z1, by omega⟩, (fun i j hi => by cases hi)⟩⟩, x2.out.alloc _⟩
    rw [hC]
    exact Cb.new _ _ _
  clear x0 x1 x2 k0 sr hC SN
  go_wp2_with (first | (refine wpList_build_as rfl _ _ rfl C.toArray (by simp only [List.map_toArray, List.map_cons, List.map_nil]; exact hb) ?_; go_frame))
  go_ret2
  exact ⟨_, rfl, z1, FIN.out⟩

section
variable {B g ticks N : Nat} {w : World} {root : List UInt8} {f : Nat → Option Ac}
theorem RY.fok (h : RY B w g root ticks f N) : FOk f := by
  obtain ⟨s, mb, q, own, EE, h⟩ := h
  exact h.fok
/-- The row of an account, as the cells that are read. -/
theorem RY.cells (h : RY B w g root ticks f N) : ∃ s, Cb w g 86 (rC s f) := by
  obtain ⟨s, mb, q, own, EE, h⟩ := h
  exact ⟨s, h.cb⟩
theorem Ac.a0 {a : Ac} (h : a.lens) : a.C[0]? = some (.bool true) ∧ a.C[130]? = some (.slice a.A a.n a.c) ∧ a.C[131]? = some (.pointer (some ⟨a.bx, 0, none⟩)) ∧ a.C[132]? = some (.pointer (some ⟨a.tk, 0, none⟩)) ∧ a.C[133]? = some (.bool a.out) := acL_at h.1 (a.bb_len h)
theorem RY.at (h : RY B w g root ticks f N) {j : Nat} {a : Ac} (hj : f j = some a) (j8 : j < 8) {i : Nat} {v : Value} (hv : a.C[i]? = some v) : w.cell? ⟨g, 1 + j * 134 + i, none⟩ = some v := by
  obtain ⟨s, hc⟩ := h.cells
  exact hc.cell (rC_cell h.fok j8 (by rw [hj]; exact hv))
theorem RY.fz (h : RY B w g root ticks f N) (i : Nat) : w.frozen? ⟨g, i, none⟩ = false := by
  obtain ⟨s, hc⟩ := h.cells
  exact hc.frozen i
theorem RY.lens (h : RY B w g root ticks f N) {j : Nat} {a : Ac} (hj : f j = some a) : a.lens := h.fok j a hj
theorem RY.mb (h : RY B w g root ticks f N) {j : Nat} {a : Ac} (hj : f j = some a) : MB 126 73 0 w a.bx a.L a.last ∧ a.L.length ≤ 8 ∧ 0 ≤ a.last ∧ a.last ≤ N := by
  obtain ⟨s, mb, q, own, EE, h⟩ := h
  exact ⟨(h.ac j a hj).mb.mb, (h.ac j a hj).le⟩
theorem find_no (h : RY B w g root ticks f N) {n : Int} (h1 : -9223372036854775808 ≤ n) (h2 : n ≤ 9223372036854775807) (hn : fd f n = none) : Calls Tryd.prog 35 #[.pointer (some ⟨g, 0, none⟩), .int .i64 n] w fun e w' => e = .returned (.pointer none) ∧ w' = w := by
  obtain ⟨s, hc⟩ := h.cells
  have := find_calls hc h.fok h1 h2
  rw [hn] at this
  exact this
theorem find_ok (h : RY B w g root ticks f N) {j : Nat} {a : Ac} (hj : f j = some a) (j8 : j < 8) : Calls Tryd.prog 35 #[.pointer (some ⟨g, 0, none⟩), .int .i64 (j : Int)] w fun e w' => e = .returned (.pointer (some ⟨g, 1 + j * 134, none⟩)) ∧ w' = w := by
  obtain ⟨s, hc⟩ := h.cells
  have := find_calls hc h.fok (n := (j : Int)) (by omega) (by omega)
  rw [fd_at hj j8] at this
  exact this

theorem suspend_no (h : RY B w g root ticks f N) {n : Int} (h1 : -9223372036854775808 ≤ n) (h2 : n ≤ 9223372036854775807) (hn : fd f n = none) (b : Bool) : Calls Tryd.prog 24 #[.pointer (some ⟨g, 0, none⟩), .int .i64 n, .bool b] w fun e w' => e = .returned (.int .i64 7) ∧ w' = w := by
  have FN := Lib.hid (find_no h h1 h2 hn)
  clear h h1 h2 hn
  go_enter Tryd.func24, Tryd.ntmps24
  go_wp2_with fail
  refine FN.out.mono ?_
  rintro e w1 ⟨rfl, rfl⟩
  go_wp2_with fail
  go_ret
  exact ⟨rfl, rfl⟩
theorem suspend_ok (h : RY B w g root ticks f N) {j : Nat} {a : Ac} (hj : f j = some a) (j8 : j < 8) (b : Bool) : Calls Tryd.prog 24 #[.pointer (some ⟨g, 0, none⟩), .int .i64 (j : Int), .bool b] w fun e w' => e = .returned (.int .i64 0) ∧ RY B w' g root ticks (upd f j (some { a with out := b })) N ∧ Tm B tagY w w' := by
  have FN := Lib.hid (find_ok h hj j8)
  have ln := h.lens hj
  have c5 := h.at hj j8 (a.a0 ln).2.2.2.2
  have f5 := h.fz (1 + j * 134 + 133)
  have FIN : Hid (RY B (w.setCell ⟨g, 1 + j * 134 + 133, none⟩ (.bool b)) g root ticks (upd f j (some { a with out := b })) N ∧ Tm B tagY w (w.setCell ⟨g, 1 + j * 134 + 133, none⟩ (.bool b))) := by
    obtain ⟨s, mb, q, own, EE, h⟩ := h
    have hx : w.grownBy (w.setCell ⟨g, 1 + j * 134 + 133, none⟩ (.bool b)) (some g) := (World.grownBy.refl w _).set _ _
    have := h.row (f' := upd f j (some { a with out := b })) (Nat.le_refl N) (w' := w.setCell ⟨g, 1 + j * 134 + 133, none⟩ (.bool b)) (own' := own) (by
      have := h.cb.setCell (o := 1 + j * 134 + 133) (v := .bool b)
      rw [rC_set h.fok j8 (by omega) (x := some { a with out := b }) (by rw [hj]; exact (acL_set ln.1 (a.bb_len ln) (o' := .bool true)).2)] at this
      exact this) hx (fun l b' hl => by
      by_cases e : l = j
      · subst e
        rw [upd_same] at hl
        injection hl with hl
        subst hl
        have z := (h.ac l a hj).row h.cb hx
        exact ⟨z.ln, z.ks, z.mb, z.ob, z.bk, z.ok, z.ot, z.le⟩
      · rw [upd_other _ _ e] at hl
        exact (h.ac l b' hl).row h.cb hx) h.ow
    exact ⟨⟨s, mb, q, own, EE, this.1⟩, this.2⟩
  clear h ln hj
  go_enter Tryd.func24, Tryd.ntmps24
  go_wp2_with fail
  refine FN.out.mono ?_
  rintro e w1 ⟨rfl, rfl⟩
  go_wp2_with fail
  go_ret
  exact ⟨rfl, FIN.out⟩
theorem mails_no (h : RY B w g root ticks f N) {n : Int} (h1 : -9223372036854775808 ≤ n) (h2 : n ≤ 9223372036854775807) (hn : fd f n = none) : Calls Tryd.prog 14 #[.pointer (some ⟨g, 0, none⟩), .int .i64 n] w fun e w' => e = .returned (.tuple #[.slice none 0 0, .int .i64 7]) ∧ w' = w := by
  have FN := Lib.hid (find_no h h1 h2 hn)
  clear h h1 h2 hn
  go_enter Tryd.func14, Tryd.ntmps14
  go_wp2_with fail
  refine FN.out.mono ?_
  rintro e w1 ⟨rfl, rfl⟩
  go_wp2_with fail
  go_ret2
  exact ⟨rfl, rfl⟩
theorem mails_ok (h : RY B w g root ticks f N) {j : Nat} {a : Ac} (hj : f j = some a) (j8 : j < 8) : Calls Tryd.prog 14 #[.pointer (some ⟨g, 0, none⟩), .int .i64 (j : Int)] w fun e w' => ∃ (q : Nat) (L' : List Wm), e = .returned (.tuple #[.slice (some ⟨q, 0, none⟩) a.L.length a.L.length, .int .i64 0]) ∧ w.heap.size ≤ q ∧ Cb w' q 73 (L'.map Wm.C).flatten ∧ L'.map (·.d) = a.L.map (·.d) ∧ (∀ y ∈ L', y.d.ok ∧ BsF w.heap.size w' y.A y.d.body.length y.c y.d.body) ∧ Ext w w' := by
  have FN := Lib.hid (find_ok h hj j8)
  have c3 := h.at hj j8 (a.a0 (h.lens hj)).2.2.1
  have LS := Lib.hid (list_calls (h.mb hj).1 (h.mb hj).2.1)
  have hmf : ∀ (fn : Fn) (first cap : Array Value) (w : World), (Instr.makeFunc fn first cap).run Tryd.prog w = .ok (.func fn first cap) w := fun _ _ _ _ => rfl
  clear h hj
  go_enter Tryd.func14, Tryd.ntmps14
  go_wp2_with fail
  refine FN.out.mono ?_
  rintro e w1 ⟨rfl, rfl⟩
  go_wp2_with fail
  refine LS.out.mono ?_
  rintro e w2 ⟨q, L', rfl, h1, h2, h3, h4, x2⟩
  replace h1 := Lib.hid h1
  replace h2 := Lib.hid h2
  replace h3 := Lib.hid h3
  replace h4 := Lib.hid h4
  replace x2 := Lib.hid x2
  go_wp2_with fail
  go_ret2
  exact ⟨q, L', rfl, h1.out, h2.out, h3.out, h4.out, x2.out⟩
theorem dropI_le (id : Int) : ∀ L : List Wm, (dropI id L).length ≤ L.length
  | [] => Nat.le_refl _
  | x :: r => by
    rw [dropI]
    split
    · simp
    · have := dropI_le id r
      simp only [List.length_cons]
      omega
theorem akL_le (L : List Wm) (last id : Int) : (akL L last id).length ≤ L.length := by
  unfold akL
  split
  · exact Nat.le_refl _
  · exact dropI_le _ _
theorem ryack_no (h : RY B w g root ticks f N) {n id : Int} (h1 : -9223372036854775808 ≤ n) (h2 : n ≤ 9223372036854775807) (hn : fd f n = none) : Calls Tryd.prog 28 #[.pointer (some ⟨g, 0, none⟩), .int .i64 n, .int .i64 id] w fun e w' => e = .returned (.int .i64 7) ∧ w' = w := by
  have FN := Lib.hid (find_no h h1 h2 hn)
  clear h h1 h2 hn
  go_enter Tryd.func28, Tryd.ntmps28
  go_wp2_with fail
  refine FN.out.mono ?_
  rintro e w1 ⟨rfl, rfl⟩
  go_wp2_with fail
  go_ret
  exact ⟨rfl, rfl⟩
theorem ryack_ok (h : RY B w g root ticks f N) (hB : B ≤ w.heap.size) {j : Nat} {a : Ac} (hj : f j = some a) (j8 : j < 8) (id : Int) : Calls Tryd.prog 28 #[.pointer (some ⟨g, 0, none⟩), .int .i64 (j : Int), .int .i64 id] w fun e w' => e = .returned (.int .i64 (akE a.L a.last id)) ∧ RY B w' g root ticks (upd f j (some { a with L := akL a.L a.last id })) N ∧ Tm B tagY w w' := by
  have FN := Lib.hid (find_ok h hj j8)
  have c3 := h.at hj j8 (a.a0 (h.lens hj)).2.2.1
  have AK : Hid (Calls Tryd.prog 53 #[.pointer (some ⟨a.bx, 0, none⟩), .int .i64 id] w fun e w' => e = .returned (.int .i64 (akE a.L a.last id)) ∧ RY B w' g root ticks (upd f j (some { a with L := akL a.L a.last id })) N ∧ Tm B tagY w w') := by
    obtain ⟨s, mb, q, own, EE, h⟩ := h
    have hA := h.ac j a hj
    have hm : MBP 126 73 (fun i => fresh own w j i = some j) w a.bx a.L a.last := hA.mb.mono fun i hi z => (fresh_old hi).trans z
    have hg : fresh own w j a.bx = some j := (fresh_old hA.mb.lt).trans hA.ob
    refine (ackP_calls (id := id) hm hA.le.1 (fun i hi => fresh_new hi) hg).mono ?_
    rintro e w' ⟨rfl, m', x⟩
    have := h.boxed hj j8 hB (Nat.le_refl N) m' ⟨Nat.le_trans (akL_le _ _ _) hA.le.1, hA.le.2⟩ (TbP.grown x fun k hk => by
      injection hk with hk
      subst hk
      refine ⟨hg, fun o ho => ?_⟩
      obtain ⟨A0, n0, c0, z, _⟩ := hA.mb
      unfold Cb at z
      rw [z] at ho
      injection ho with ho
      subst ho
      rfl)
    exact ⟨rfl, ⟨s, mb, q, _, EE, this.1⟩, this.2⟩
  clear h hj hB
  go_enter Tryd.func28, Tryd.ntmps28
  go_wp2_with fail
  refine FN.out.mono ?_
  rintro e w1 ⟨rfl, rfl⟩
  go_wp2_with fail
  refine AK.out.mono ?_
  rintro e w2 ⟨rfl, r2, t2⟩
  replace r2 := Lib.hid r2
  replace t2 := Lib.hid t2
  clear AK FN
  go_wp2_with fail
  go_ret
  exact ⟨rfl, r2.out, t2.out⟩
end
end Go.Proofs.YtbnjmmefnjoofaaDoor
end

section
/-
  What is known of the type of keys. No conditions.
-/
namespace Go.Proofs.YtbnjmmefnjoofaaDoor
open Go.ChangeShapes Go.WideShapes Go.ChangeAt Go.RowKit Go.Deep

theorem infoK : (Tryd.prog.info? 23).map (fun i => (i.zero, i.size, i.bytes)) = some (some (.agg zeros32), 32, 32) := by kernel_rfl
end Go.Proofs.YtbnjmmefnjoofaaDoor
end
