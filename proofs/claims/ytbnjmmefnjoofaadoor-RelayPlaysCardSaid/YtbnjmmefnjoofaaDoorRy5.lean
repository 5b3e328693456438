import Derived.Test.YtbnjmmefnjoofaaDoorPkI
/-
  (*relay.Relay).Fetch.
-/
namespace Go.Proofs.YtbnjmmefnjoofaaDoor
open Go.ChangeShapes Go.WideShapes Go.ChangeAt Go.RowKit Go.Deep Go.Maps
set_option maxRecDepth 100000

section
variable {B g ticks N : Nat} {w : World} {root : List UInt8} {f : Nat → Option Ac}
/-- An account, as its cells are read. -/
theorem RY.bun (h : RY B w g root ticks f N) {j : Nat} {a : Ac} (hj : f j = some a) (j8 : j < 8) : ∀ i v, (bbC a.bb false)[i]? = some v → w.cell? ⟨g, 1 + j * 134 + 33 + i, none⟩ = some v := fun i v hv => by
  rw [Nat.add_assoc]
  exact h.at hj j8 (acL_bun (h.lens hj).1 i v hv)
theorem RY.link (h : RY B w g root ticks f N) {j : Nat} {a : Ac} (hj : f j = some a) (j8 : j < 8) : ∀ i v, (cellsOf a.lk)[i]? = some v → w.cell? ⟨g, 1 + j * 134 + 1 + i, none⟩ = some v := fun i v hv => by
  rw [Nat.add_assoc]
  exact h.at hj j8 (acL_link i v hv)
theorem RY.kc (h : RY B w g root ticks f N) {j : Nat} {a : Ac} (hj : f j = some a) : Kc w a.A a.n a.c a.K := by
  obtain ⟨s, mb, q, own, EE, h⟩ := h
  exact (h.ac j a hj).ks
theorem RY.glt (h : RY B w g root ticks f N) : g < w.heap.size := by
  obtain ⟨s, hc⟩ := h.cells
  exact hc.lt
set_option maxHeartbeats 4000000 in
theorem fetch_no (h : RY B w g root ticks f N) {n : Int} (h1 : -9223372036854775808 ≤ n) (h2 : n ≤ 9223372036854775807) (hn : fd f n = none) : Calls Tryd.prog 20 #[.pointer (some ⟨g, 0, none⟩), .int .i64 n] w fun e w' => e = .returned (.tuple #[.agg (bbC (List.replicate 96 0) false).toArray, .int .i64 7]) ∧ Ext w w' := by
  have hal := bundle_alloc
  have BZ : Hid (Tryd.prog.built 53 [] = some (bbC (List.replicate 96 0) false).toArray) := by unfold Hid; kernel_rfl
  have L_z : (bbC (List.replicate 96 0) false).length = 97 := rfl
  have O_z : (bbC (List.replicate 96 0) false).toArray.all (·.oneCell') = true := bbC_one _ _
  generalize bbC (List.replicate 96 0) false = Z at *
  have S_z : Z.toArray.size = 97 := by rw [List.size_toArray, L_z]
  have FN := Lib.hid (find_no (h.ext ((Ext.refl w).alloc (.cells Z.toArray 53))) h1 h2 hn)
  have k0 : (w.alloc (.cells Z.toArray 53)).heap[w.heap.size]? = some (.cells Z.toArray 53 (0, 0)) := heap_alloc_new _ _
  have FIN : Hid (Ext w ((w.alloc (.cells Z.toArray 53)).setRow w.heap.size Z.toArray)) := below_setRow ((Ext.refl w).alloc _) (Nat.le_refl _) _
  clear h h1 h2 hn
  go_enter Tryd.func20, Tryd.ntmps20
  go_wp2_with fail
  refine FN.out.mono ?_
  rintro e w1 ⟨rfl, hw1⟩
  subst hw1
  go_wp2_with (first
    | (refine wpList_build_as rfl _ _ rfl Z.toArray (by simp only [List.map_toArray, List.map_nil]; exact BZ.out) ?_; go_frame)
    | (refine wpList_store_row rfl 53 _ _ rfl w.heap.size Z.toArray rfl rfl 53 Z.toArray k0 (by rw [S_z]; rfl) rfl O_z ?_; simp only [Act.put]))
  (try simp only [Exit.inBlock, Exit.then])
  refine bodyPost_ret (results_row_tmp rfl _ _ w.heap.size 53 Z.toArray (0, 0) _ _ rfl rfl (setRow_heap _ _ _ _ _ _ k0) rfl rfl (by rw [S_z]; rfl)) rfl ?_
  exact ⟨rfl, FIN.out⟩
/-- Fetch of an account that has none left. -/
theorem RY.fet (h : RY B w g root ticks f N) {j : Nat} {a : Ac} (hj : f j = some a) (j8 : j < 8) {k0 : List UInt8} {ks : List (List UInt8)} (hk : a.K = k0 :: ks) :
    RY B (w.setCell ⟨g, 1 + j * 134 + 130, none⟩ (.slice (if a.c = 1 then a.A else a.A.map (·.add (1 * 32))) (a.n - 1) (a.c - 1))) g root ticks (upd f j (some { a with A := (if a.c = 1 then a.A else a.A.map (·.add (1 * 32))), n := a.n - 1, c := a.c - 1, K := ks })) N ∧ Tm B tagY w (w.setCell ⟨g, 1 + j * 134 + 130, none⟩ (.slice (if a.c = 1 then a.A else a.A.map (·.add (1 * 32))) (a.n - 1) (a.c - 1))) := by
  have ln := h.lens hj
  have hkc := h.kc hj
  have n1 : 1 ≤ a.n := by
    have := hkc.1.1.1
    rw [hk] at this
    simp at this
    omega
  have hkc' : Kc w (if a.c = 1 then a.A else a.A.map (·.add (1 * 32))) (a.n - 1) (a.c - 1) ks := by
    refine ⟨by have := hkc.1.cut n1; rw [hk] at this; exact this, fun h0 q hq => ?_⟩
    have hcn : ¬ a.c = 1 := by have := hkc.1.2.1.1; omega
    rw [if_neg hcn] at hq
    obtain ⟨p, hp, rfl⟩ := Option.map_eq_some_iff.1 hq
    obtain ⟨cs, hcs⟩ := hkc.2 (by omega) p hp
    exact ⟨cs, by rw [show (p.add (1 * 32)).block = p.block by unfold Addr.add; split <;> rfl]; exact hcs⟩
  obtain ⟨s, mb, q, own, EE, h⟩ := h
  generalize (if a.c = 1 then a.A else a.A.map (·.add (1 * 32))) = A' at *
  have hx : w.grownBy (w.setCell ⟨g, 1 + j * 134 + 130, none⟩ (.slice A' (a.n - 1) (a.c - 1))) (some g) := (World.grownBy.refl w _).set _ _
  have := h.row (f' := upd f j (some { a with A := A', n := a.n - 1, c := a.c - 1, K := ks })) (Nat.le_refl N) (w' := w.setCell ⟨g, 1 + j * 134 + 130, none⟩ (.slice A' (a.n - 1) (a.c - 1))) (own' := own) (by
    have := h.cb.setCell (o := 1 + j * 134 + 130) (v := .slice A' (a.n - 1) (a.c - 1))
    rw [rC_set h.fok j8 (by omega) (x := some { a with A := A', n := a.n - 1, c := a.c - 1, K := ks }) (by rw [hj]; exact (acL_set ln.1 (a.bb_len ln) (out' := true)).1)] at this
    exact this) hx (fun l b' hl => by
    by_cases e : l = j
    · subst e
      rw [upd_same] at hl
      injection hl with hl
      subst hl
      have z := (h.ac l a hj).row h.cb hx
      refine ⟨z.ln, ?_, z.mb, z.ob, z.bk, z.ok, z.ot, z.le⟩
      exact hkc'.keep fun i cs y => (hx.block _ (heap_lt y) (fun e => cells_ne y h.cb (by decide) (Option.some.inj e))).trans y
    · rw [upd_other _ _ e] at hl
      exact (h.ac l b' hl).row h.cb hx) h.ow
  exact ⟨⟨s, mb, q, own, EE, this.1⟩, this.2⟩
/-- What Fetch does. -/
def FetP (B : Nat) (w : World) (g : Nat) (root : List UInt8) (ticks : Nat) (f : Nat → Option Ac) (N j : Nat) (a : Ac) (e : Ending) (w' : World) : Prop :=
  (a.K = [] → e = .returned (.tuple #[.agg (bbC a.bb false).toArray, .int .i64 0]) ∧ Ext w w') ∧ (∀ k0 ks, a.K = k0 :: ks → e = .returned (.tuple #[.agg (bbC (a.ib ++ (a.sb ++ k0)) true).toArray, .int .i64 0]) ∧ (∃ A' n' c', RY B w' g root ticks (upd f j (some { a with A := A', n := n', c := c', K := ks })) N) ∧ Tm B tagY w w')
theorem FetP.nil {j : Nat} {a : Ac} {w' : World} (hk : a.K = []) (x : Ext w w') {BC : List Value} (hb : BC = bbC a.bb false) {e : Ending} (he : e = .returned (.tuple #[.agg BC.toArray, .int .i64 0])) : FetP B w g root ticks f N j a e w' := ⟨fun _ => ⟨by rw [he, hb], x⟩, fun k0 ks z => by rw [hk] at z; cases z⟩
theorem FetP.one {j : Nat} {a : Ac} {w' : World} {k0 : List UInt8} {ks : List (List UInt8)} (hk : a.K = k0 :: ks) {A' : Option Addr} {n' c' : Nat} (h : RY B w' g root ticks (upd f j (some { a with A := A', n := n', c := c', K := ks })) N) (t : Tm B tagY w w') {BC : List Value} (hb : BC = bbC (a.ib ++ (a.sb ++ k0)) true) {e : Ending} (he : e = .returned (.tuple #[.agg BC.toArray, .int .i64 0])) : FetP B w g root ticks f N j a e w' := ⟨fun z => by rw [hk] at z; (cases z), fun k1 ks1 z => by
  rw [hk] at z
  injection z with z1 z2
  subst z1 z2
  exact ⟨by rw [he, hb], ⟨A', n', c', h⟩, t⟩⟩
set_option maxHeartbeats 8000000 in
theorem fetch_ok (h : RY B w g root ticks f N) {j : Nat} {a : Ac} (hj : f j = some a) (j8 : j < 8) (hB : B ≤ w.heap.size) :
    Calls Tryd.prog 20 #[.pointer (some ⟨g, 0, none⟩), .int .i64 (j : Int)] w (FetP B w g root ticks f N j a) := by
  have hal := bundle_alloc
  have L_z : (bbC (List.replicate 96 0) false).length = 97 := rfl
  generalize bbC (List.replicate 96 0) false = Z at *
  have S_z : Z.toArray.size = 97 := by rw [List.size_toArray, L_z]
  have FN := Lib.hid (find_ok (h.ext ((Ext.refl w).alloc (.cells Z.toArray 53))) hj j8)
  have ln := h.lens hj
  have L_b : (bbC a.bb false).length = 97 := by rw [bbC_len, a.bb_len ln]
  have O_b : (bbC a.bb false).toArray.all (·.oneCell') = true := bbC_one _ _
  have hbun := (h.ext ((Ext.refl w).alloc (.cells Z.toArray 53))).bun hj j8
  have S_b : (bbC a.bb false).toArray.size = 97 := by rw [List.size_toArray, L_b]
  have E_b : Hid (bbC a.bb false = (cellsOf a.ib ++ cellsOf a.sb) ++ (cellsOf zk ++ [.bool false])) := by unfold Hid Ac.bb; simp [bbC, cellsOf_app]
  obtain ⟨BC, hBC⟩ : ∃ BC, BC = bbC a.bb false := ⟨_, rfl⟩
  rw [← hBC] at L_b O_b hbun S_b E_b
  obtain ⟨r, hr⟩ : ∃ x, x = w.heap.size := ⟨_, rfl⟩
  have k0 : (w.alloc (.cells Z.toArray 53)).heap[w.heap.size]? = some (.cells Z.toArray 53 (0, 0)) := heap_alloc_new _ _
  have x0 : Hid (Ext w (w.alloc (.cells Z.toArray 53))) := (Ext.refl w).alloc _
  have s0 : (w.alloc (.cells Z.toArray 53)).heap.size = r + 1 := by rw [hr]; simp
  replace h := Lib.hid h
  replace hj := Lib.hid hj
  replace hBC := Lib.hid (fun _ : Unit => hBC)
  rw [← hr] at k0
  have wr : w.heap.size ≤ r := Nat.le_of_eq hr.symm
  replace ln := Lib.hid ln
  go_enter Tryd.func20, Tryd.ntmps20
  go_wp2_with fail
  refine FN.out.mono ?_
  rintro e w1 ⟨rfl, rfl⟩
  have s0' := Lib.hid s0
  rw [← hr]
  replace hr := Lib.hid hr
  generalize w.alloc (.cells Z.toArray 53) = w1 at *
  have B1 : Hid (Cb ((w1.alloc (.cells Z.toArray 53)).setRow (r + 1) BC.toArray) (r + 1) 53 BC ∧ Cb ((w1.alloc (.cells Z.toArray 53)).setRow (r + 1) BC.toArray) r 53 Z ∧ Ext w ((w1.alloc (.cells Z.toArray 53)).setRow (r + 1) BC.toArray)) := by
    rw [← s0'.out]
    refine ⟨(Cb.new w1 53 Z).set, ?_, below_setRow (x0.out.alloc _) x0.out.size _⟩
    exact (setRow_other _ _ _ _ (Nat.ne_of_lt (heap_lt k0))).trans ((((Ext.refl w1).alloc _).block _ (heap_lt k0)).trans k0)
  clear s0
  have k1 : (w1.alloc (.cells Z.toArray 53)).heap[r + 1]? = some (.cells Z.toArray 53 (0, 0)) := by rw [← s0'.out]; exact heap_alloc_new _ _
  have ws := s0'.out
  go_upto_region 5 with (first
    | ((with_reducible refine wpList_load_mid (o := ⟨some 17, _, _, _, _, _⟩) (ty := 53) (g := g) (off := 1 + j * 134 + 33) (ys := BC) ?_ rfl ?_ ?_ Tryd.underlying53 ?_ ?_ ?_); (· rfl); (· rfl); (· exact hbun); (· rfl); (· rw [L_b]; rfl); go_frame)
    | (refine wpList_store_row rfl 53 _ _ rfl (r + 1) BC.toArray rfl rfl 53 Z.toArray k1 (by rw [S_b]; rfl) (by rw [S_b, S_z]) O_b ?_; simp only [Act.put]))
  refine wp_gen (fun W => Cb W (r + 1) 53 BC ∧ Cb W r 53 Z ∧ Ext w W) B1.out ?_
  (try rw [ws])
  clear B1 k1 k0 hbun x0 s0' FN ws
  rintro w2 ⟨k1, k0, x2⟩
  have h2 := h.out.ext x2
  have kc2 := h2.kc hj.out
  have glt := h.out.glt
  have c1 := h2.at hj.out j8 (a.a0 ln.out).2.1
  have f1 := h2.fz (1 + j * 134 + 130)
  have ncap := kc2.1.2.1
  have cm : a.c ≤ 9223372036854775807 := by have := ncap.2; unfold maxLen at this; omega
  have lK := kc2.1.1.1
  rw [List.length_map] at lK
  rcases hk : a.K with _ | ⟨y, ks⟩
  · have n0 : a.n = 0 := by rw [hk] at lK; exact lK.symm
    have FIN : Hid (Ext w (w2.setRow r BC.toArray)) := below_setRow x2 wr _
    have RES : Hid (∀ (e : Ending), e = .returned (.tuple #[.agg BC.toArray, .int .i64 0]) → FetP B w g root ticks f N j a e (w2.setRow r BC.toArray)) := fun e q1 => FetP.nil hk FIN.out (hBC.out ()) q1
    rw [n0] at c1
    clear h2 kc2 x2 lK hk E_b hBC h hj n0 ncap cm FIN
    go_wp2_with (first
      | ((with_reducible refine wpList_load_rowW (o := ⟨some 40, _, _, _, _, _⟩) ?_ 53 _ rfl (r + 1) ?_ 53 BC.toArray (0, 0) _ ?_ Tryd.underlying53 ?_ ?_ ?_); (· rfl); (· rfl); (· exact k1); (· rfl); (· rw [S_b]; rfl); go_frame)
      | (refine wpList_store_row rfl 53 _ _ rfl r BC.toArray rfl rfl 53 Z.toArray k0 (by rw [S_b]; rfl) (by rw [S_b, S_z]) O_b ?_; simp only [Act.put]))
    (try simp only [Exit.inBlock, Exit.then])
    refine bodyPost_ret (results_row_tmp rfl _ _ r 53 BC.toArray (0, 0) _ _ rfl rfl (setRow_heap _ _ _ _ _ _ k0) rfl rfl (by rw [S_b]; rfl)) rfl ?_
    exact RES.out _ rfl
  · have nn : 0 < a.n := by rw [hk] at lK; simp at lK; omega
    obtain ⟨b, off, hA, hb, hc⟩ := kc2.1.at (j := 0) nn
    have hc' : ∀ i v, (cellsOf y)[i]? = some v → w2.cell? ⟨b, off + i, none⟩ = some v := fun i v hv => by
      have := hc i v (by rw [hk]; exact hv)
      rwa [show off + 0 * 32 + i = off + i by omega] at this
    have ly : y.length = 32 := by
      have := kc2.1.1.2 (cellsOf y) (by rw [hk]; exact List.mem_cons_self ..)
      rwa [cellsOf_len] at this
    have L_y : (cellsOf y).length = 32 := by rw [cellsOf_len, ly]
    have S_y : (cellsOf y).toArray.size = 32 := by rw [List.size_toArray, L_y]
    have O_y := cellsOf_one y
    have lis : (a.ib ++ (a.sb ++ y)).length = 96 := by simp [ln.out.2.1, ln.out.2.2, ly]
    have D_c : Cb (w2.setCells (r + 1) 64 (cellsOf y)) (r + 1) 53 (bbC (a.ib ++ (a.sb ++ y)) false) := by
      have := k1.put (z := cellsOf y) (off := 64) E_b.out (by simp [cellsOf_len, ln.out.2.1, ln.out.2.2]) (by rw [L_y, cellsOf_len]; rfl)
      have e : (cellsOf a.ib ++ cellsOf a.sb) ++ (cellsOf y ++ [Value.bool false]) = bbC (a.ib ++ (a.sb ++ y)) false := by simp [bbC, cellsOf_app]
      rwa [e] at this
    have D_d : Cb ((w2.setCells (r + 1) 64 (cellsOf y)).setCell ⟨r + 1, 96, none⟩ (.bool true)) (r + 1) 53 (bbC (a.ib ++ (a.sb ++ y)) true) := by
      have := D_c.setCell (o := 96) (v := .bool true)
      have e : (bbC (a.ib ++ (a.sb ++ y)) false).set 96 (.bool true) = bbC (a.ib ++ (a.sb ++ y)) true := by
        unfold bbC
        rw [List.set_append_right _ _ (by rw [cellsOf_len, lis]; omega), cellsOf_len, lis]
        rfl
      rwa [e] at this
    have c96 := D_c.cell (j := 96) (v := .bool false) (by
      unfold bbC
      rw [List.getElem?_append_right (by rw [cellsOf_len, lis]; omega), cellsOf_len, lis]
      rfl)
    have f96 := D_c.frozen 96
    have gr : w2.grownBy ((w2.setCells (r + 1) 64 (cellsOf y)).setCell ⟨r + 1, 96, none⟩ (.bool true)) (some (r + 1)) := grown_setCells.set _ _
    have th : Hid (w2.there (r + 1) 64 32) := k1.there (by rw [L_b]; omega)
    have G3 : Hid (Cb ((w2.setCells (r + 1) 64 (cellsOf y)).setCell ⟨r + 1, 96, none⟩ (.bool true)) (r + 1) 53 (bbC (a.ib ++ (a.sb ++ y)) true) ∧ Cb ((w2.setCells (r + 1) 64 (cellsOf y)).setCell ⟨r + 1, 96, none⟩ (.bool true)) r 53 Z ∧ Ext w ((w2.setCells (r + 1) 64 (cellsOf y)).setCell ⟨r + 1, 96, none⟩ (.bool true))) := by
      refine ⟨D_d, (gr.block _ k0.lt (fun z => by have := Option.some.inj z; omega)).trans k0, Below.trans x2 ⟨gr.os, gr.tape, gr.output, gr.size, fun i hi => gr.block i (Nat.lt_of_lt_of_le hi x2.size) (fun z => by have := Option.some.inj z; omega)⟩⟩
    obtain ⟨n1, hn1⟩ : ∃ m, a.n = m + 1 := ⟨a.n - 1, by omega⟩
    have hcut := Lib.hid (fun (W : World) => @exec_fromC)
    have e2 := hn1
    rw [hA, hn1] at c1
    replace hn1 := Lib.hid (fun _ : Unit => hn1)
    have hAH := Lib.hid (fun _ : Unit => hA)
    have L_r : (bbC (a.ib ++ (a.sb ++ y)) true).length = 97 := by rw [bbC_len, lis]
    have O_r : (bbC (a.ib ++ (a.sb ++ y)) true).toArray.all (·.oneCell') = true := bbC_one _ _
    obtain ⟨RC, hRC⟩ : ∃ RC, RC = bbC (a.ib ++ (a.sb ++ y)) true := ⟨_, rfl⟩
    rw [← hRC] at G3 L_r O_r
    have S_r : RC.toArray.size = 97 := by rw [List.size_toArray, L_r]
    replace hRC := Lib.hid (fun _ : Unit => hRC)
    replace hk := Lib.hid (fun _ : Unit => hk)
    have ycell := cellsOf y
    clear D_d gr e2 k1 k0 x2 h2 kc2 f1 lK nn hb hc lis E_b hcut hA
    generalize cellsOf y = YC at *
    go_upto_region 7 with (first
      | ((with_reducible refine wpList_load_mid (o := ⟨some 29, _, _, _, _, _⟩) (ty := 23) (g := b) (off := off) (ys := YC) ?_ rfl ?_ ?_ Tryd.underlying23 ?_ ?_ ?_); (· rfl); (· rfl); (· exact hc'); (· rfl); (· rw [L_y]; rfl); go_frame)
      | ((with_reducible refine wpList_store_mid (op := ⟨none, .store 23 (.tmp 30) (.tmp 29), _, _, _, _⟩) ?_ 23 _ _ rfl (r + 1) 64 YC.toArray ?_ ?_ ?_ ?_ ?_ ?_); (· rfl); (· rfl); (· rfl); (· rw [S_y]; exact th.out); (· rw [S_y]; rfl); (· exact O_y); go_frame))
    refine wp_gen (fun W => Cb W (r + 1) 53 RC ∧ Cb W r 53 Z ∧ Ext w W) G3.out ?_
    clear G3 th D_c c96 f96 c1 hc'
    rintro w3 ⟨k1, k0, x3⟩
    have h3 := h.out.ext x3
    have fet := h3.fet hj.out j8 (hk.out ())
    have c1 := h3.at hj.out j8 (a.a0 ln.out).2.1
    have f1 := h3.fz (1 + j * 134 + 130)
    rw [hAH.out (), hn1.out ()] at fet c1
    have gr : w3.grownBy (w3.setCell ⟨g, 1 + j * 134 + 130, none⟩ (.slice (if a.c = 1 then some ⟨b, off, none⟩ else (some (⟨b, off, none⟩ : Addr)).map (·.add (1 * 32))) (n1 + 1 - 1) (a.c - 1))) (some g) := (World.grownBy.refl w3 _).set _ _
    have hne : ∀ i, r ≤ i → some i ≠ some g := fun i hi z => by have := Option.some.inj z; omega
    have G4 : Hid (Cb (w3.setCell ⟨g, 1 + j * 134 + 130, none⟩ (.slice (if a.c = 1 then some ⟨b, off, none⟩ else (some (⟨b, off, none⟩ : Addr)).map (·.add (1 * 32))) (n1 + 1 - 1) (a.c - 1))) (r + 1) 53 RC ∧ Cb (w3.setCell ⟨g, 1 + j * 134 + 130, none⟩ (.slice (if a.c = 1 then some ⟨b, off, none⟩ else (some (⟨b, off, none⟩ : Addr)).map (·.add (1 * 32))) (n1 + 1 - 1) (a.c - 1))) r 53 Z ∧ (∃ A' n' c', RY B (w3.setCell ⟨g, 1 + j * 134 + 130, none⟩ (.slice (if a.c = 1 then some ⟨b, off, none⟩ else (some (⟨b, off, none⟩ : Addr)).map (·.add (1 * 32))) (n1 + 1 - 1) (a.c - 1))) g root ticks (upd f j (some { a with A := A', n := n', c := c', K := ks })) N) ∧ Tm B tagY w (w3.setCell ⟨g, 1 + j * 134 + 130, none⟩ (.slice (if a.c = 1 then some ⟨b, off, none⟩ else (some (⟨b, off, none⟩ : Addr)).map (·.add (1 * 32))) (n1 + 1 - 1) (a.c - 1)))) :=
      ⟨(gr.block _ k1.lt (hne _ (by omega))).trans k1, (gr.block _ k0.lt (hne _ (Nat.le_refl _))).trans k0, ⟨_, _, _, fet.1⟩, (Tm.of_ext x3).trans fet.2⟩
    have hle1 : 1 ≤ n1 + 1 := by omega
    have hlec : n1 + 1 ≤ a.c := by rw [← hn1.out ()]; exact ncap.1
    clear fet gr h3 x3 k0 k1
    go_upto_region 8 with (first
      | (refine wpList_exec rfl (exec_fromC (s := 32) Tryd.underlying38 (by kernel_rfl) (k := 1) rfl rfl rfl hle1 hlec) ?_; go_frame))
    refine wp_gen (fun W => Cb W (r + 1) 53 RC ∧ Cb W r 53 Z ∧ (∃ A' n' c', RY B W g root ticks (upd f j (some { a with A := A', n := n', c := c', K := ks })) N) ∧ Tm B tagY w W) G4.out ?_
    clear G4 c1 f1
    rintro w4 ⟨k1, k0, ⟨A', n', c', ry⟩, tm⟩
    have FIN : Hid (∀ (e : Ending), e = .returned (.tuple #[.agg RC.toArray, .int .i64 0]) → FetP B w g root ticks f N j a e (w4.setRow r RC.toArray)) := by
      have x : Ext w4 (w4.setRow r RC.toArray) → True := fun _ => trivial
      obtain ⟨s, mb, q, own, EE, hh⟩ := ry
      have gr : w4.grownBy (w4.setRow r RC.toArray) (some r) := ⟨rfl, rfl, rfl, by simp, fun i hi hne => setRow_other _ _ _ _ (fun z => hne (by rw [z]))⟩
      have KK : ∀ (i : Nat) (cs : Array Value) (t : TypeId), w4.heap[i]? = some (Obj.cells cs t (0, 0)) → t ≠ 53 → (w4.setRow r RC.toArray).heap[i]? = some (Obj.cells cs t (0, 0)) := fun i cs t y z => (setRow_other _ _ _ _ (cells_ne y k0 z)).trans y
      have r2 : RYx B (w4.setRow r RC.toArray) g root ticks s mb q own EE (upd f j (some { a with A := A', n := n', c := c', K := ks })) N := by
        refine ⟨KK _ _ _ hh.cb (by decide), hh.sr.stay ((KK _ _ _ hh.sr.cb (by decide)).trans hh.sr.cb.symm) ((KK _ _ _ hh.sr.kr.1 (by decide)).trans hh.sr.kr.1.symm) (gr.block _ hh.sr.mp.lt fun z => map_ne k0 hh.sr.mp (Option.some.inj z).symm), hh.en, hh.ti, fun l b' hl => (hh.ac l b' hl).keep (fun _ _ z => z) (Nat.le_refl _) fun i cs t y z => KK i cs t y ?_, hh.lo, hh.ow⟩
        rcases z with ⟨_, z⟩ | rfl | rfl
        · intro q
          subst q
          exact absurd z (by decide)
        · decide
        · decide
      have t2 : Tm B tagY w (w4.setRow r RC.toArray) := ⟨tm.1, tm.2.1, tm.2.2.1, by simpa using tm.2.2.2.1, fun i o hi ho => (setRow_other _ _ _ _ (by have := heap_lt hi; omega)).trans (tm.2.2.2.2 i o hi ho)⟩
      exact fun e he => FetP.one (hk.out ()) ⟨s, mb, q, own, EE, r2⟩ t2 (hRC.out ()) he
    clear ry tm
    go_wp2_with (first
      | ((with_reducible refine wpList_load_rowW (o := ⟨some 40, _, _, _, _, _⟩) ?_ 53 _ rfl (r + 1) ?_ 53 RC.toArray (0, 0) _ ?_ Tryd.underlying53 ?_ ?_ ?_); (· rfl); (· rfl); (· exact k1); (· rfl); (· rw [S_r]; rfl); go_frame)
      | (refine wpList_store_row rfl 53 _ _ rfl r RC.toArray rfl rfl 53 Z.toArray k0 (by rw [S_r]; rfl) (by rw [S_r, S_z]) O_r ?_; simp only [Act.put]))
    all_goals (
      (try simp only [Exit.inBlock, Exit.then])
      refine bodyPost_ret (results_row_tmp rfl _ _ r 53 RC.toArray (0, 0) _ _ rfl rfl (setRow_heap _ _ _ _ _ _ k0) rfl rfl (by rw [S_r]; rfl)) rfl ?_
      exact FIN.out _ rfl)
end
end Go.Proofs.YtbnjmmefnjoofaaDoor
