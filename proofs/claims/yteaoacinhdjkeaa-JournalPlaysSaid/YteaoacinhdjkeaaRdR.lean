/-
  palfreyref21: Read; the rows of the document's disk.
-/
import Derived.Test.YteaoacinhdjkeaaRd21b
import Derived.Test.YteaoacinhdjkeaaDkR
import Derived.Test.YteaoacinhdjkeaaCs
namespace Go.Proofs.Yteaoacinhdjkeaa
open Go.ChangeShapes Go.WideShapes Go.ChangeAt Go.RowKit Go.Deep Go.Maps
set_option maxRecDepth 100000

/-- Its blocks, whatever their cells. -/
structure RQ (w : World) (g r n i : Nat) (C : List Value) (S X : List (List UInt8)) (I : List Value) : Prop where
  cb : Cb w g 89 C
  sr : Cb w r 48 (S.map cellsOf).flatten
  nr : Cb w n 48 (X.map cellsOf).flatten
  ir : Cb w i 4 I
  ne : r ≠ n
theorem put_rows {w : World} {r k : Nat} {T : TypeId} {S : List (List UInt8)} {xs : List UInt8} (h : Cb w r T (S.map cellsOf).flatten) (hS : ∀ s ∈ S, s.length = 64) (hk : k < S.length) (hx : xs.length = 64) : Cb (w.setCells r (k * 64) (cellsOf xs)) r T ((S.set k xs).map cellsOf).flatten ∧ w.there r (k * 64) 64 := by
  have LF : ((S.map cellsOf).flatten).length = S.length * 64 := by rw [flatten_len64 (s := 64) (fun x hx => by obtain ⟨y, hy, rfl⟩ := List.mem_map.1 hx; rw [cellsOf_len]; exact hS y hy), List.length_map]
  refine ⟨?_, there_of_row h (by omega)⟩
  have q := heap_setCells_row (cellsOf xs) (k * 64) w _ h (by rw [cellsOf_len]; omega)
  rw [splice_flat (s := 64) (fun x hx => by obtain ⟨y, hy, rfl⟩ := List.mem_map.1 hx; rw [cellsOf_len]; exact hS y hy) (by rw [List.length_map]; omega) (by rw [cellsOf_len, hx])] at q
  rw [List.map_set]
  exact q
/-- A sector's cells in its row. -/
theorem row_at {w : World} {r k : Nat} {T : TypeId} {S : List (List UInt8)} (h : Cb w r T (S.map cellsOf).flatten) (hS : ∀ s ∈ S, s.length = 64) (hk : k < S.length) : ∀ j v, (cellsOf (S.getD k []))[j]? = some v → w.cell? ⟨r, k * 64 + j, none⟩ = some v := fun j v hv => by
  have hl : (S.getD k []).length = 64 := by rw [List.getD_eq_getElem?_getD, List.getElem?_eq_getElem hk, Option.getD_some]; exact hS _ (List.getElem_mem hk)
  have hj : j < 64 := by
    have := (List.getElem?_eq_some_iff.1 hv).1
    rw [cellsOf_len, hl] at this
    exact this
  refine h.cell ?_
  have q := flat_at (L := S.map cellsOf) (s := 64) (fun x hx => by
    obtain ⟨y, hy, rfl⟩ := List.mem_map.1 hx
    rw [cellsOf_len]; exact hS y hy) (j := k) (i := j) (by rw [List.length_map]; exact hk) hj
  rw [q, List.getD_eq_getElem?_getD, List.getElem?_map, List.getElem?_eq_getElem hk, Option.map_some, Option.getD_some]
  rwa [List.getD_eq_getElem?_getD, List.getElem?_eq_getElem hk, Option.getD_some] at hv
section
variable {w w' : World} {g r n i : Nat} {C : List Value} {S X : List (List UInt8)} {I : List Value}
theorem RQ.stay (h : RQ w g r n i C S X I) (hg : w'.heap[g]? = w.heap[g]?) (hr : w'.heap[r]? = w.heap[r]?) (hn : w'.heap[n]? = w.heap[n]?) (hi : w'.heap[i]? = w.heap[i]?) : RQ w' g r n i C S X I := ⟨hg.trans h.cb, hr.trans h.sr, hn.trans h.nr, hi.trans h.ir, h.ne⟩
theorem RQ.ext (h : RQ w g r n i C S X I) (x : Ext w w') : RQ w' g r n i C S X I := h.stay (x.block _ h.cb.lt) (x.block _ h.sr.lt) (x.block _ h.nr.lt) (x.block _ h.ir.lt)
theorem RQ.gr (h : RQ w g r n i C S X I) : g ≠ r := cb_differ h.cb h.sr (by decide)
theorem RQ.gn (h : RQ w g r n i C S X I) : g ≠ n := cb_differ h.cb h.nr (by decide)
theorem RQ.gi (h : RQ w g r n i C S X I) : g ≠ i := cb_differ h.cb h.ir (by decide)
theorem RQ.ri (h : RQ w g r n i C S X I) : r ≠ i := cb_differ h.sr h.ir (by decide)
theorem RQ.ni (h : RQ w g r n i C S X I) : n ≠ i := cb_differ h.nr h.ir (by decide)
theorem RQ.only {b : Nat} (h : RQ w g r n i C S X I) (e : w.grownBy w' (some b)) (hg : g ≠ b) (hr : r ≠ b) (hn : n ≠ b) (hi : i ≠ b) : RQ w' g r n i C S X I :=
  h.stay (e.block _ h.cb.lt (fun q => hg (Option.some.inj q))) (e.block _ h.sr.lt (fun q => hr (Option.some.inj q))) (e.block _ h.nr.lt (fun q => hn (Option.some.inj q))) (e.block _ h.ir.lt (fun q => hi (Option.some.inj q)))
theorem RQ.putS (h : RQ w g r n i C S X I) (hS : ∀ s ∈ S, s.length = 64) {k : Nat} (hk : k < S.length) {xs : List UInt8} (hx : xs.length = 64) : RQ (w.setCells r (k * 64) (cellsOf xs)) g r n i C (S.set k xs) X I ∧ w.there r (k * 64) 64 := by
  have e := grown_setCells (w := w) (g := r) (o := k * 64) (vs := cellsOf xs)
  obtain ⟨h1, h2⟩ := put_rows h.sr hS hk hx
  exact ⟨⟨(e.block _ h.cb.lt (fun q => h.gr (Option.some.inj q))).trans h.cb, h1, (e.block _ h.nr.lt (fun q => h.ne (Option.some.inj q).symm)).trans h.nr, (e.block _ h.ir.lt (fun q => h.ri (Option.some.inj q).symm)).trans h.ir, h.ne⟩, h2⟩
theorem RQ.putX (h : RQ w g r n i C S X I) (hX : ∀ s ∈ X, s.length = 64) {k : Nat} (hk : k < X.length) {xs : List UInt8} (hx : xs.length = 64) : RQ (w.setCells n (k * 64) (cellsOf xs)) g r n i C S (X.set k xs) I ∧ w.there n (k * 64) 64 := by
  have e := grown_setCells (w := w) (g := n) (o := k * 64) (vs := cellsOf xs)
  obtain ⟨h1, h2⟩ := put_rows h.nr hX hk hx
  exact ⟨⟨(e.block _ h.cb.lt (fun q => h.gn (Option.some.inj q))).trans h.cb, (e.block _ h.sr.lt (fun q => h.ne (Option.some.inj q))).trans h.sr, h1, (e.block _ h.ir.lt (fun q => h.ni (Option.some.inj q).symm)).trans h.ir, h.ne⟩, h2⟩
theorem RQ.putI (h : RQ w g r n i C S X I) (k : Nat) (v : Value) : RQ (w.setCell ⟨i, k, none⟩ v) g r n i C S X (I.set k v) :=
  ⟨(Below.heap_setCell _ _ _ _ h.gi).trans h.cb, (Below.heap_setCell _ _ _ _ h.ri).trans h.sr, (Below.heap_setCell _ _ _ _ h.ni).trans h.nr, h.ir.setCell, h.ne⟩
theorem RQ.putC (h : RQ w g r n i C S X I) (k : Nat) (v : Value) : RQ (w.setCell ⟨g, k, none⟩ v) g r n i (C.set k v) S X I :=
  ⟨h.cb.setCell, (Below.heap_setCell _ _ _ _ (fun q => h.gr q.symm)).trans h.sr, (Below.heap_setCell _ _ _ _ (fun q => h.gn q.symm)).trans h.nr, (Below.heap_setCell _ _ _ _ (fun q => h.gi q.symm)).trans h.ir, h.ne⟩
theorem RD.rq {d : Ds} (h : RD w g r n i d X) : RQ w g r n i (d.rcells r n i) d.S X d.isC := ⟨h.cb, h.sr, h.nr, h.ir, h.ne⟩
theorem RQ.rd {d : Ds} (h : RQ w g r n i (d.rcells r n i) d.S X d.isC) (ok : d.ok) (xl : X.length = d.S.length) (xs : ∀ x ∈ X, x.length = 64) (xn : ∀ j s, d.N j = some s → X.getD j [] = s) : RD w g r n i d X := ⟨h.cb, h.sr, h.nr, h.ir, h.ne, ok, xl, xs, xn⟩
end
theorem rsector_alloc (w : World) : (zeroValue 48).run Try.prog w = .ok (.agg zS64.toArray) w := by kernel_rfl
set_option maxHeartbeats 4000000 in
theorem rread_calls {w : World} {g r m ir : Nat} {d : Ds} {X : List (List UInt8)} (h : RD w g r m ir d X) {i : Int} :
    Calls Try.prog 41 #[.pointer (some ⟨g, 0, none⟩), .int .i64 i] w fun e w' => e = .returned (.tuple #[.agg (cellsOf (d.read i)).toArray, .int .i64 (d.readE i)]) ∧ Ext w w' := by
  have KZ0 : Try.prog.built 48 [] = some zS64.toArray := by kernel_rfl
  have KZ := Lib.hid KZ0
  clear KZ0
  have hal := rsector_alloc
  have S_Z : zS64.toArray.size = 64 := by rw [List.size_toArray, zS64_len]
  have O_Z := one_cells (one_mem (List.replicate 64 0))
  have R0 : Hid (¬ (0 ≤ i ∧ i < (d.S.length : Int)) → (cellsOf (d.read i)).toArray = zS64.toArray ∧ d.readE i = 1) := fun q => by unfold Ds.read Ds.readE; rw [if_neg q, if_neg q]; exact ⟨rfl, rfl⟩
  have R1 : Hid ((0 ≤ i ∧ i < (d.S.length : Int)) → d.read i = (d.N i.toNat).getD (d.S.getD i.toNat []) ∧ d.readE i = 0) := fun q => by unfold Ds.read Ds.readE; rw [if_pos q, if_pos q]; exact ⟨rfl, rfl⟩
  change zS64.toArray.all (·.oneCell') = true at O_Z
  generalize zS64 = ZL at *
  have glt := h.cb.lt
  obtain ⟨r4, hr4⟩ : ∃ q, q = w.heap.size := ⟨_, rfl⟩
  have B0 : Hid (Cb (w.alloc (.cells ZL.toArray 48)) r4 48 ZL ∧ Ext w (w.alloc (.cells ZL.toArray 48))) := by rw [hr4]; exact ⟨Cb.new _ _ _, (Ext.refl w).alloc _⟩
  replace hr4 := Lib.hid hr4
  have HH := Lib.hid (fun s (e : Ext w s) => h.ext e)
  clear h
  go_enter Try.func41, Try.ntmps41
  go_upto_region 1 with fail
  refine wp_gen (fun W => Cb W r4 48 ZL ∧ Ext w W) B0.out ?_
  rw [← hr4.out]
  have wr4 : w.heap.size ≤ r4 := Nat.le_of_eq hr4.out.symm
  clear B0 hr4
  rintro w0 ⟨k4, x0⟩
  have h0 := HH.out _ x0
  have c0 : w0.cell? ⟨g, 0, none⟩ = some (.slice (some ⟨r, 0, none⟩) d.S.length d.S.length) := h0.cb.cell rfl
  by_cases hin : 0 ≤ i ∧ i < (d.S.length : Int)
  case neg =>
    obtain ⟨e1, e2⟩ := R0.out hin
    have F : Hid (Ext w (w0.setRow r4 ZL.toArray) ∧ d.readE i = 1 ∧ (cellsOf (d.read i)).toArray = ZL.toArray) := ⟨below_setRow x0 (by omega) _, e2, e1⟩
    clear R0 R1 HH e1 e2 h0
    by_cases hn : i < 0
    · have u1 : decide (i < 0) = true := decide_eq_true hn
      clear hin
      go_wp2_with (first
        | (refine wpList_build_as rfl _ _ rfl ZL.toArray (by simp only [List.map_toArray, List.map_nil]; exact KZ.out) ?_; go_frame)
        | (refine wpList_store_row rfl 48 _ _ rfl r4 ZL.toArray rfl rfl 48 ZL.toArray k4 (by rw [S_Z]; rfl) rfl O_Z ?_; simp only [Act.put]))
      (try simp only [Exit.inBlock, Exit.then])
      refine bodyPost_ret (results_row_tmp rfl _ _ r4 48 ZL.toArray (0, 0) _ _ rfl rfl (setRow_heap _ _ _ _ _ _ k4) rfl rfl (by rw [S_Z]; rfl)) rfl ?_
      exact ⟨by rw [F.out.2.1, F.out.2.2]; rfl, F.out.1⟩
    · have u1 : decide (i < 0) = false := decide_eq_false hn
      have u2 : (d.S.length : Int) ≤ i := by omega
      have u3 : decide ((d.S.length : Int) ≤ i) = true := decide_eq_true u2
      clear hin
      go_wp2_with (first
        | (refine wpList_build_as rfl _ _ rfl ZL.toArray (by simp only [List.map_toArray, List.map_nil]; exact KZ.out) ?_; go_frame)
        | (refine wpList_store_row rfl 48 _ _ rfl r4 ZL.toArray rfl rfl 48 ZL.toArray k4 (by rw [S_Z]; rfl) rfl O_Z ?_; simp only [Act.put]))
      (try simp only [Exit.inBlock, Exit.then])
      refine bodyPost_ret (results_row_tmp rfl _ _ r4 48 ZL.toArray (0, 0) _ _ rfl rfl (setRow_heap _ _ _ _ _ _ k4) rfl rfl (by rw [S_Z]; rfl)) rfl ?_
      exact ⟨by rw [F.out.2.1, F.out.2.2]; rfl, F.out.1⟩
  case pos =>
    obtain ⟨n, rfl⟩ : ∃ n : Nat, i = (n : Int) := ⟨i.toNat, by omega⟩
    rw [Int.toNat_natCast] at R1
    obtain ⟨e1, e2⟩ := R1.out hin
    have hn : n < d.S.length := by omega
    have u1 : decide ((n : Int) < 0) = false := decide_eq_false (by omega)
    have u2 : ¬ (d.S.length : Int) ≤ (n : Int) := by omega
    have u4 : (0 : Int) ≤ (n : Int) := by omega
    have u5 : (n : Int) < (d.S.length : Int) := by omega
    have c2 : w0.cell? ⟨g, 2, none⟩ = some (.slice (some ⟨ir, 0, none⟩) d.S.length d.S.length) := h0.cb.cell rfl
    have c1 : w0.cell? ⟨g, 1, none⟩ = some (.slice (some ⟨m, 0, none⟩) d.S.length d.S.length) := h0.cb.cell rfl
    have ci : w0.cell? ⟨ir, n, none⟩ = some (.bool (d.N n).isSome) := h0.ir.cell (isC_at hn)
    obtain ⟨is, his⟩ : ∃ q, q = (d.N n).isSome := ⟨_, rfl⟩
    rw [← his] at ci
    clear R0 R1 HH KZ hin
    cases is with
    | true =>
      obtain ⟨xs, hxs⟩ := Option.isSome_iff_exists.1 his.symm
      have hX : X.getD n [] = xs := h0.xn n xs hxs
      have L_xs : xs.length = 64 := (h0.ok.nl _ _ hxs).1
      have Y9 := Lib.hid (row_at h0.nr h0.xs (k := n) (by rw [h0.xl]; exact hn))
      rw [hX] at Y9
      have C_xs : (cellsOf xs).length = 64 := by rw [cellsOf_len, L_xs]
      have S_xs : (cellsOf xs).toArray.size = 64 := by rw [List.size_toArray, C_xs]
      have O_xs := one_cells (one_mem xs)
      have F : Hid (Ext w (w0.setRow r4 (cellsOf xs).toArray) ∧ d.readE n = 0 ∧ d.read n = xs) := ⟨below_setRow x0 (by omega) _, e2, by rw [e1, hxs]; rfl⟩
      clear e1 e2 hX h0 hxs his
      go_wp2_with (first
        | ((with_reducible refine wpList_load_mid (o := ⟨some 31, _, _, _, _, _⟩) (ty := 48) (g := m) (off := n * 64) (ys := cellsOf xs) ?_ rfl ?_ ?_ Try.underlying48 ?_ ?_ ?_); (· rfl); (· rfl); (· exact Y9.out); (· rfl); (· rw [C_xs]; rfl); go_frame)
        | (refine wpList_store_row rfl 48 _ _ rfl r4 (cellsOf xs).toArray rfl rfl 48 ZL.toArray k4 (by rw [S_xs]; rfl) (by rw [S_xs, S_Z]) O_xs ?_; simp only [Act.put]))
      (try simp only [Exit.inBlock, Exit.then])
      refine bodyPost_ret (results_row_tmp rfl _ _ r4 48 (cellsOf xs).toArray (0, 0) _ _ rfl rfl (setRow_heap _ _ _ _ _ _ k4) rfl rfl (by rw [S_xs]; rfl)) rfl ?_
      exact ⟨by rw [F.out.2.1, F.out.2.2]; rfl, F.out.1⟩
    | false =>
      have hxs : d.N n = none := by cases q : d.N n; · rfl
                                    · rw [q] at his; cases his
      obtain ⟨xs, hX⟩ : ∃ xs, xs = d.S.getD n [] := ⟨_, rfl⟩
      have L_xs : xs.length = 64 := by rw [hX, List.getD_eq_getElem?_getD, List.getElem?_eq_getElem hn, Option.getD_some]; exact h0.ok.sl _ (List.getElem_mem hn)
      have Y9 := Lib.hid (row_at h0.sr h0.ok.sl (k := n) hn)
      rw [← hX] at Y9
      have C_xs : (cellsOf xs).length = 64 := by rw [cellsOf_len, L_xs]
      have S_xs : (cellsOf xs).toArray.size = 64 := by rw [List.size_toArray, C_xs]
      have O_xs := one_cells (one_mem xs)
      have F : Hid (Ext w (w0.setRow r4 (cellsOf xs).toArray) ∧ d.readE n = 0 ∧ d.read n = xs) := ⟨below_setRow x0 (by omega) _, e2, by rw [e1, hxs, hX]; rfl⟩
      clear e1 e2 hX h0 hxs his
      go_wp2_with (first
        | ((with_reducible refine wpList_load_mid (o := ⟨some 38, _, _, _, _, _⟩) (ty := 48) (g := r) (off := n * 64) (ys := cellsOf xs) ?_ rfl ?_ ?_ Try.underlying48 ?_ ?_ ?_); (· rfl); (· rfl); (· exact Y9.out); (· rfl); (· rw [C_xs]; rfl); go_frame)
        | (refine wpList_store_row rfl 48 _ _ rfl r4 (cellsOf xs).toArray rfl rfl 48 ZL.toArray k4 (by rw [S_xs]; rfl) (by rw [S_xs, S_Z]) O_xs ?_; simp only [Act.put]))
      (try simp only [Exit.inBlock, Exit.then])
      refine bodyPost_ret (results_row_tmp rfl _ _ r4 48 (cellsOf xs).toArray (0, 0) _ _ rfl rfl (setRow_heap _ _ _ _ _ _ k4) rfl rfl (by rw [S_xs]; rfl)) rfl ?_
      exact ⟨by rw [F.out.2.1, F.out.2.2]; rfl, F.out.1⟩
end Go.Proofs.Yteaoacinhdjkeaa
