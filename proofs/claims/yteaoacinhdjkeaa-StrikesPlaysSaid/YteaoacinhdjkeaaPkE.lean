import Derived.Test.YteaoacinhdjkeaaPkF
import Derived.Test.YteaoacinhdjkeaaDkR
import Derived.Test.YteaoacinhdjkeaaPkK
import Derived.Test.YteaoacinhdjkeaaPkI
import Derived.Deep.Matrix
section
/-
  palfreyref21: Read; the rows of the document's disk.
-/
namespace Go.Proofs.Yteaoacinhdjkeaa
open Go.ChangeShapes Go.WideShapes Go.ChangeAt Go.RowKit Go.Deep Go.Maps
set_option maxRecDepth 100000

/-- Its blocks, whatever their cells. -/
structure RQ (w : World) (g r n i : Nat) (C : List Value) (S X : List (List UInt8)) (I : List Value) : Prop where
  cb : Cb w g 89 C
  sr : Cb w r 48 (S.map cellsOf).flatten
  nr : Cb w n 48 (X.map cellsOf).flatten
  ir : Cb w i 4 I
  ne : r ≠ n
theorem put_rows {w : World} {r k : Nat} {T : TypeId} {S : List (List UInt8)} {xs : List UInt8} (h : Cb w r T (S.map cellsOf).flatten) (hS : ∀ s ∈ S, s.length = 64) (hk : k < S.length) (hx : xs.length = 64) : Cb (w.setCells r (k * 64) (cellsOf xs)) r T ((S.set k xs).map cellsOf).flatten ∧ w.there r (k * 64) 64 := by
  have LF : ((S.map cellsOf).flatten).length = S.length * 64 := by rw [flatten_len64 (s := 64) (fun x hx => by obtain ⟨y, hy, rfl⟩ := List.mem_map.1 hx; rw [cellsOf_len]; exact hS y hy), List.length_map]
  refine ⟨?_, there_of_row h (by omega)⟩
  have q := heap_setCells_row (cellsOf xs) (k * 64) w _ h (by rw [cellsOf_len]; omega)
  rw [splice_flat (s := 64) (fun x hx => by obtain ⟨y, hy, rfl⟩ := List.mem_map.1 hx; rw [cellsOf_len]; exact hS y hy) (by rw [List.length_map]; omega) (by rw [cellsOf_len, hx])] at q
  rw [List.map_set]
  exact q
/-- A sector's cells in its row. -/
theorem row_at {w : World} {r k : Nat} {T : TypeId} {S : List (List UInt8)} (h : Cb w r T (S.map cellsOf).flatten) (hS : ∀ s ∈ S, s.length = 64) (hk : k < S.length) : ∀ j v, (cellsOf (S.getD k []))[j]? = some v → w.cell? ⟨r, k * 64 + j, none⟩ = some v := fun j v hv => by
  have hl : (S.getD k []).length = 64 := by rw [List.getD_eq_getElem?_getD, List.getElem?_eq_getElem hk, Option.getD_some]; exact hS _ (List.getElem_mem hk)
  have hj : j < 64 := by
    have := (List.getElem?_eq_some_iff.1 hv).1
    rw [cellsOf_len, hl] at this
    exact this
  refine h.cell ?_
  have q := flat_at (L := S.map cellsOf) (s := 64) (fun x hx => by
    obtain ⟨y, hy, rfl⟩ := List.mem_map.1 hx
    rw [cellsOf_len]; exact hS y hy) (j := k) (i := j) (by rw [List.length_map]; exact hk) hj
  rw [q, List.getD_eq_getElem?_getD, List.getElem?_map, List.getElem?_eq_getElem hk, Option.map_some, Option.getD_some]
  rwa [List.getD_eq_getElem?_getD, List.getElem?_eq_getElem hk, Option.getD_some] at hv
section
variable {w w' : World} {g r n i : Nat} {C : List Value} {S X : List (List UInt8)} {I : List Value}
theorem RQ.stay (h : RQ w g r n i C S X I) (hg : w'.heap[g]? = w.heap[g]?) (hr : w'.heap[r]? = w.heap[r]?) (hn : w'.heap[n]? = w.heap[n]?) (hi : w'.heap[i]? = w.heap[i]?) : RQ w' g r n i C S X I := ⟨hg.trans h.cb, hr.trans h.sr, hn.trans h.nr, hi.trans h.ir, h.ne⟩
theorem RQ.ext (h : RQ w g r n i C S X I) (x : Ext w w') : RQ w' g r n i C S X I := h.stay (x.block _ h.cb.lt) (x.block _ h.sr.lt) (x.block _ h.nr.lt) (x.block _ h.ir.lt)
theorem RQ.gr (h : RQ w g r n i C S X I) : g ≠ r := cb_differ h.cb h.sr (by decide)
theorem RQ.gn (h : RQ w g r n i C S X I) : g ≠ n := cb_differ h.cb h.nr (by decide)
theorem RQ.gi (h : RQ w g r n i C S X I) : g ≠ i := cb_differ h.cb h.ir (by decide)
theorem RQ.ri (h : RQ w g r n i C S X I) : r ≠ i := cb_differ h.sr h.ir (by decide)
theorem RQ.ni (h : RQ w g r n i C S X I) : n ≠ i := cb_differ h.nr h.ir (by decide)
theorem RQ.only {b : Nat} (h : RQ w g r n i C S X I) (e : w.grownBy w' (some b)) (hg : g ≠ b) (hr : r ≠ b) (hn : n ≠ b) (hi : i ≠ b) : RQ w' g r n i C S X I :=
  h.stay (e.block _ h.cb.lt (fun q => hg (Option.some.inj q))) (e.block _ h.sr.lt (fun q => hr (Option.some.inj q))) (e.block _ h.nr.lt (fun q => hn (Option.some.inj q))) (e.block _ h.ir.lt (fun q => hi (Option.some.inj q)))
theorem RQ.putS (h : RQ w g r n i C S X I) (hS : ∀ s ∈ S, s.length = 64) {k : Nat} (hk : k < S.length) {xs : List UInt8} (hx : xs.length = 64) : RQ (w.setCells r (k * 64) (cellsOf xs)) g r n i C (S.set k xs) X I ∧ w.there r (k * 64) 64 := by
  have e := grown_setCells (w := w) (g := r) (o := k * 64) (vs := cellsOf xs)
  obtain ⟨h1, h2⟩ := put_rows h.sr hS hk hx
  exact ⟨⟨(e.block _ h.cb.lt (fun q => h.gr (Option.some.inj q))).trans h.cb, h1, (e.block _ h.nr.lt (fun q => h.ne (Option.some.inj q).symm)).trans h.nr, (e.block _ h.ir.lt (fun q => h.ri (Option.some.inj q).symm)).trans h.ir, h.ne⟩, h2⟩
theorem RQ.putX (h : RQ w g r n i C S X I) (hX : ∀ s ∈ X, s.length = 64) {k : Nat} (hk : k < X.length) {xs : List UInt8} (hx : xs.length = 64) : RQ (w.setCells n (k * 64) (cellsOf xs)) g r n i C S (X.set k xs) I ∧ w.there n (k * 64) 64 := by
  have e := grown_setCells (w := w) (g := n) (o := k * 64) (vs := cellsOf xs)
  obtain ⟨h1, h2⟩ := put_rows h.nr hX hk hx
  exact ⟨⟨(e.block _ h.cb.lt (fun q => h.gn (Option.some.inj q))).trans h.cb, (e.block _ h.sr.lt (fun q => h.ne (Option.some.inj q))).trans h.sr, h1, (e.block _ h.ir.lt (fun q => h.ni (Option.some.inj q).symm)).trans h.ir, h.ne⟩, h2⟩
theorem RQ.putI (h : RQ w g r n i C S X I) (k : Nat) (v : Value) : RQ (w.setCell ⟨i, k, none⟩ v) g r n i C S X (I.set k v) :=
  ⟨(Below.heap_setCell _ _ _ _ h.gi).trans h.cb, (Below.heap_setCell _ _ _ _ h.ri).trans h.sr, (Below.heap_setCell _ _ _ _ h.ni).trans h.nr, h.ir.setCell, h.ne⟩
theorem RQ.putC (h : RQ w g r n i C S X I) (k : Nat) (v : Value) : RQ (w.setCell ⟨g, k, none⟩ v) g r n i (C.set k v) S X I :=
  ⟨h.cb.setCell, (Below.heap_setCell _ _ _ _ (fun q => h.gr q.symm)).trans h.sr, (Below.heap_setCell _ _ _ _ (fun q => h.gn q.symm)).trans h.nr, (Below.heap_setCell _ _ _ _ (fun q => h.gi q.symm)).trans h.ir, h.ne⟩
theorem RD.rq {d : Ds} (h : RD w g r n i d X) : RQ w g r n i (d.rcells r n i) d.S X d.isC := ⟨h.cb, h.sr, h.nr, h.ir, h.ne⟩
theorem RQ.rd {d : Ds} (h : RQ w g r n i (d.rcells r n i) d.S X d.isC) (ok : d.ok) (xl : X.length = d.S.length) (xs : ∀ x ∈ X, x.length = 64) (xn : ∀ j s, d.N j = some s → X.getD j [] = s) : RD w g r n i d X := ⟨h.cb, h.sr, h.nr, h.ir, h.ne, ok, xl, xs, xn⟩
end
theorem rsector_alloc (w : World) : (zeroValue 48).run Try.prog w = .ok (.agg zS64.toArray) w := by kernel_rfl
set_option maxHeartbeats 4000000 in
theorem rread_calls {w : World} {g r m ir : Nat} {d : Ds} {X : List (List UInt8)} (h : RD w g r m ir d X) {i : Int} :
    Calls Try.prog 41 #[.pointer (some ⟨g, 0, none⟩), .int .i64 i] w fun e w' => e = .returned (.tuple #[.agg (cellsOf (d.read i)).toArray, .int .i64 (d.readE i)]) ∧ Ext w w' := by
  have KZ0 : Try.prog.built 48 [] = some zS64.toArray := by kernel_rfl
  have KZ := Lib.hid KZ0
  clear KZ0
  have hal := rsector_alloc
  have S_Z : zS64.toArray.size = 64 := by rw [List.size_toArray, zS64_len]
  have O_Z := one_cells (one_mem (List.replicate 64 0))
  have R0 : Hid (¬ (0 ≤ i ∧ i < (d.S.length : Int)) → (cellsOf (d.read i)).toArray = zS64.toArray ∧ d.readE i = 1) := fun q => by unfold Ds.read Ds.readE; rw [if_neg q, if_neg q]; exact ⟨rfl, rfl⟩
  have R1 : Hid ((0 ≤ i ∧ i < (d.S.length : Int)) → d.read i = (d.N i.toNat).getD (d.S.getD i.toNat []) ∧ d.readE i = 0) := fun q => by unfold Ds.read Ds.readE; rw [if_pos q, if_pos q]; exact ⟨rfl, rfl⟩
  change zS64.toArray.all (·.oneCell') = true at O_Z
  generalize zS64 = ZL at *
  have glt := h.cb.lt
  obtain ⟨r4, hr4⟩ : ∃ q, q = w.heap.size := ⟨_, rfl⟩
  have B0 : Hid (Cb (w.alloc (.cells ZL.toArray 48)) r4 48 ZL ∧ Ext w (w.alloc (.cells ZL.toArray 48))) := by rw [hr4]; exact ⟨Cb.new _ _ _, (Ext.refl w).alloc _⟩
  replace hr4 := Lib.hid hr4
  have HH := Lib.hid (fun s (e : Ext w s) => h.ext e)
  clear h
  go_enter Try.func41, Try.ntmps41
  go_upto_region 1 with fail
  refine wp_gen (fun W => Cb W r4 48 ZL ∧ Ext w W) B0.out ?_
  rw [← hr4.out]
  have wr4 : w.heap.size ≤ r4 := Nat.le_of_eq hr4.out.symm
  clear B0 hr4
  rintro w0 ⟨k4, x0⟩
  have h0 := HH.out _ x0
  have c0 : w0.cell? ⟨g, 0, none⟩ = some (.slice (some ⟨r, 0, none⟩) d.S.length d.S.length) := h0.cb.cell rfl
  by_cases hin : 0 ≤ i ∧ i < (d.S.length : Int)
  case neg =>
    obtain ⟨e1, e2⟩ := R0.out hin
    have F : Hid (Ext w (w0.setRow r4 ZL.toArray) ∧ d.readE i = 1 ∧ (cellsOf (d.read i)).toArray = ZL.toArray) := ⟨below_setRow x0 (by omega) _, e2, e1⟩
    clear R0 R1 HH e1 e2 h0
    by_cases hn : i < 0
    · have u1 : decide (i < 0) = true := decide_eq_true hn
      clear hin
      go_wp2_with (first
        | (refine wpList_build_as rfl _ _ rfl ZL.toArray (by simp only [List.map_toArray, List.map_nil]; exact KZ.out) ?_; go_frame)
        | (refine wpList_store_row rfl 48 _ _ rfl r4 ZL.toArray rfl rfl 48 ZL.toArray k4 (by rw [S_Z]; rfl) rfl O_Z ?_; simp only [Act.put]))
      (try simp only [Exit.inBlock, Exit.then])
      refine bodyPost_ret (results_row_tmp rfl _ _ r4 48 ZL.toArray (0, 0) _ _ rfl rfl (setRow_heap _ _ _ _ _ _ k4) rfl rfl (by rw [S_Z]; rfl)) rfl ?_
      exact ⟨by rw [F.out.2.1, F.out.2.2]; rfl, F.out.1⟩
    · have u1 : decide (i < 0) = false := decide_eq_false hn
      have u2 : (d.S.length : Int) ≤ i := by omega
      have u3 : decide ((d.S.length : Int) ≤ i) = true := decide_eq_true u2
      clear hin
      go_wp2_with (first
        | (refine wpList_build_as rfl _ _ rfl ZL.toArray (by simp only [List.map_toArray, List.map_nil]; exact KZ.out) ?_; go_frame)
        | (refine wpList_store_row rfl 48 _ _ rfl r4 ZL.toArray rfl rfl 48 ZL.toArray k4 (by rw [S_Z]; rfl) rfl O_Z ?_; simp only [Act.put]))
      (try simp only [Exit.inBlock, Exit.then])
      refine bodyPost_ret (results_row_tmp rfl _ _ r4 48 ZL.toArray (0, 0) _ _ rfl rfl (setRow_heap _ _ _ _ _ _ k4) rfl rfl (by rw [S_Z]; rfl)) rfl ?_
      exact ⟨by rw [F.out.2.1, F.out.2.2]; rfl, F.out.1⟩
  case pos =>
    obtain ⟨n, rfl⟩ : ∃ n : Nat, i = (n : Int) := ⟨i.toNat, by omega⟩
    rw [Int.toNat_natCast] at R1
    obtain ⟨e1, e2⟩ := R1.out hin
    have hn : n < d.S.length := by omega
    have u1 : decide ((n : Int) < 0) = false := decide_eq_false (by omega)
    have u2 : ¬ (d.S.length : Int) ≤ (n : Int) := by omega
    have u4 : (0 : Int) ≤ (n : Int) := by omega
    have u5 : (n : Int) < (d.S.length : Int) := by omega
    have c2 : w0.cell? ⟨g, 2, none⟩ = some (.slice (some ⟨ir, 0, none⟩) d.S.length d.S.length) := h0.cb.cell rfl
    have c1 : w0.cell? ⟨g, 1, none⟩ = some (.slice (some ⟨m, 0, none⟩) d.S.length d.S.length) := h0.cb.cell rfl
    have ci : w0.cell? ⟨ir, n, none⟩ = some (.bool (d.N n).isSome) := h0.ir.cell (isC_at hn)
    obtain ⟨is, his⟩ : ∃ q, q = (d.N n).isSome := ⟨_, rfl⟩
    rw [← his] at ci
    clear R0 R1 HH KZ hin
    cases is with
    | true =>
      obtain ⟨xs, hxs⟩ := Option.isSome_iff_exists.1 his.symm
      have hX : X.getD n [] = xs := h0.xn n xs hxs
      have L_xs : xs.length = 64 := (h0.ok.nl _ _ hxs).1
      have Y9 := Lib.hid (row_at h0.nr h0.xs (k := n) (by rw [h0.xl]; exact hn))
      rw [hX] at Y9
      have C_xs : (cellsOf xs).length = 64 := by rw [cellsOf_len, L_xs]
      have S_xs : (cellsOf xs).toArray.size = 64 := by rw [List.size_toArray, C_xs]
      have O_xs := one_cells (one_mem xs)
      have F : Hid (Ext w (w0.setRow r4 (cellsOf xs).toArray) ∧ d.readE n = 0 ∧ d.read n = xs) := ⟨below_setRow x0 (by omega) _, e2, by rw [e1, hxs]; rfl⟩
      clear e1 e2 hX h0 hxs his
      go_wp2_with (first
        | ((with_reducible refine wpList_load_mid (o := ⟨some 31, _, _, _, _, _⟩) (ty := 48) (g := m) (off := n * 64) (ys := cellsOf xs) ?_ rfl ?_ ?_ Try.underlying48 ?_ ?_ ?_); (· rfl); (· rfl); (· exact Y9.out); (· rfl); (· rw [C_xs]; rfl); go_frame)
        | (refine wpList_store_row rfl 48 _ _ rfl r4 (cellsOf xs).toArray rfl rfl 48 ZL.toArray k4 (by rw [S_xs]; rfl) (by rw [S_xs, S_Z]) O_xs ?_; simp only [Act.put]))
      (try simp only [Exit.inBlock, Exit.then])
      refine bodyPost_ret (results_row_tmp rfl _ _ r4 48 (cellsOf xs).toArray (0, 0) _ _ rfl rfl (setRow_heap _ _ _ _ _ _ k4) rfl rfl (by rw [S_xs]; rfl)) rfl ?_
      exact ⟨by rw [F.out.2.1, F.out.2.2]; rfl, F.out.1⟩
    | false =>
      have hxs : d.N n = none := by cases q : d.N n; · rfl
                                    · rw [q] at his; cases his
      obtain ⟨xs, hX⟩ : ∃ xs, xs = d.S.getD n [] := ⟨_, rfl⟩
      have L_xs : xs.length = 64 := by rw [hX, List.getD_eq_getElem?_getD, List.getElem?_eq_getElem hn, Option.getD_some]; exact h0.ok.sl _ (List.getElem_mem hn)
      have Y9 := Lib.hid (row_at h0.sr h0.ok.sl (k := n) hn)
      rw [← hX] at Y9
      have C_xs : (cellsOf xs).length = 64 := by rw [cellsOf_len, L_xs]
      have S_xs : (cellsOf xs).toArray.size = 64 := by rw [List.size_toArray, C_xs]
      have O_xs := one_cells (one_mem xs)
      have F : Hid (Ext w (w0.setRow r4 (cellsOf xs).toArray) ∧ d.readE n = 0 ∧ d.read n = xs) := ⟨below_setRow x0 (by omega) _, e2, by rw [e1, hxs, hX]; rfl⟩
      clear e1 e2 hX h0 hxs his
      go_wp2_with (first
        | ((with_reducible refine wpList_load_mid (o := ⟨some 38, _, _, _, _, _⟩) (ty := 48) (g := r) (off := n * 64) (ys := cellsOf xs) ?_ rfl ?_ ?_ Try.underlying48 ?_ ?_ ?_); (· rfl); (· rfl); (· exact Y9.out); (· rfl); (· rw [C_xs]; rfl); go_frame)
        | (refine wpList_store_row rfl 48 _ _ rfl r4 (cellsOf xs).toArray rfl rfl 48 ZL.toArray k4 (by rw [S_xs]; rfl) (by rw [S_xs, S_Z]) O_xs ?_; simp only [Act.put]))
      (try simp only [Exit.inBlock, Exit.then])
      refine bodyPost_ret (results_row_tmp rfl _ _ r4 48 (cellsOf xs).toArray (0, 0) _ _ rfl rfl (setRow_heap _ _ _ _ _ _ k4) rfl rfl (by rw [S_xs]; rfl)) rfl ?_
      exact ⟨by rw [F.out.2.1, F.out.2.2]; rfl, F.out.1⟩
end Go.Proofs.Yteaoacinhdjkeaa
end

section
/-
  palfreyref22: Sector.
-/
namespace Go.Proofs.Yteaoacinhdjkeaa
open Go.ChangeShapes Go.WideShapes Go.ChangeAt Go.RowKit Go.Deep Go.Maps
set_option maxRecDepth 100000

/-- The first k bytes are laid. -/
def laidL (h : List UInt8) (k : Nat) : List UInt8 := h.take k ++ List.replicate (64 - k) 0
theorem laidL_len {h : List UInt8} {k : Nat} (hk : k ≤ h.length) (h64 : h.length ≤ 64) : (laidL h k).length = 64 := by
  unfold laidL
  rw [List.length_append, List.length_take, List.length_replicate]
  omega
theorem laidL_set {h : List UInt8} {k : Nat} (hk : k < h.length) (h64 : h.length ≤ 64) : (laidL h k).set k (h.getD k 0) = laidL h (k + 1) := by
  unfold laidL
  apply List.ext_getElem?
  intro j
  have e1 : (h.take k).length = k := by rw [List.length_take]; omega
  have e2 : (h.take (k + 1)).length = k + 1 := by rw [List.length_take]; omega
  by_cases q : j = k
  · subst q
    rw [List.getElem?_set_self (by rw [List.length_append, e1, List.length_replicate]; omega), List.getElem?_append_left (by omega), List.getElem?_take, if_pos (by omega), List.getD_eq_getElem?_getD, List.getElem?_eq_getElem hk]
    rfl
  · rw [List.getElem?_set_ne (fun z => q z.symm)]
    by_cases z : j < k
    · rw [List.getElem?_append_left (by omega), List.getElem?_append_left (by omega), List.getElem?_take, List.getElem?_take, if_pos z, if_pos (by omega)]
    · rw [List.getElem?_append_right (by omega), List.getElem?_append_right (by omega), e1, e2, List.getElem?_replicate, List.getElem?_replicate]
      by_cases y : j < 64
      · rw [if_pos (by omega), if_pos (by omega)]
      · rw [if_neg (by omega), if_neg (by omega)]
theorem cells_set22 {xs : List UInt8} {k : Nat} {x : UInt8} (hk : k < xs.length) : (cellsOf xs).set k (.int .u8 (x.toNat : Int)) = cellsOf (xs.set k x) := by
  rw [cellsOf_map, cellsOf_map, List.map_set]
set_option maxHeartbeats 4000000 in
theorem rsector22_calls {w : World} {i n c : Nat} {A : Option Addr} {xs : List UInt8} (hi : i < 4294967295) (hb : Bs w A n c xs) (hn : n ≤ 59) :
    Calls Try.prog 47 #[.int .i64 (i : Int), .slice A n c] w fun e w' => e = .returned (.agg (cellsOf (secL i xs)).toArray) ∧ Ext w w' := by
  have hal := rsector_alloc
  have hzs : zS64.toArray.size = 64 := by rw [List.size_toArray, zS64_len]
  have hx := hb.len
  have m1 : IntKind.i64.wrap ((i : Int) + 1) = (i : Int) + 1 := IntWalk.i64_in _ (by omega)
  have m2 : IntKind.u64.wrap ((i : Int) + 1) = (i : Int) + 1 := IntWalk.u64_in _ (by omega)
  have m3 : IntKind.u8.wrap (n : Int) = (n : Int) := IntWalk.u8_in _ (by omega)
  have HB : Hid (∀ s, Ext w s → Bs s A n c xs) := fun s e => hb.ext e
  have HI : Hid (∀ s, Calls Try.prog 67 #[.int .u64 ((i : Int) + 1), .int .i64 4] s (RetOwn (lowL (i + 1) 4).reverse s)) := fun s => by
    have := refHighO_calls (n := i + 1) (m := 4) (many := 4) (w := s) (by omega) (by omega) (by omega) (by omega) (by omega)
    simpa using this
  have L4 : ((lowL (i + 1) 4).reverse).length = 4 := by rw [List.length_reverse, lowL_len]
  have V8 : ((UInt8.ofNat n).toNat : Int) = (n : Int) := by
    have : (UInt8.ofNat n).toNat = n := by simp; omega
    omega
  obtain ⟨h, hh⟩ : ∃ q, q = (lowL (i + 1) 4).reverse ++ [UInt8.ofNat n] ++ xs := ⟨_, rfl⟩
  have hhl : h.length = 5 + n := by rw [hh]; simp [L4, hx]; omega
  have SE : Hid (laidL h (5 + n) = secL i xs) := by
    unfold Hid
    rw [secL_eq (by omega), hx, hh]
    unfold laidL
    rw [List.take_of_length_le (by simp [L4, hx]; omega), show 64 - (5 + n) = 59 - n by omega]
    simp
  obtain ⟨r, hr⟩ : ∃ r, r = w.heap.size := ⟨_, rfl⟩
  have B0 : Hid (Cb ((w.alloc (.cells zS64.toArray 48)).alloc (.cells zS64.toArray 48)) r 48 zS64 ∧ Cb ((w.alloc (.cells zS64.toArray 48)).alloc (.cells zS64.toArray 48)) (r + 1) 48 zS64 ∧ Ext w ((w.alloc (.cells zS64.toArray 48)).alloc (.cells zS64.toArray 48))) := by
    rw [hr]; exact ⟨heap_alloc1 _ _ _, heap_alloc2 _ _ _, ((Ext.refl w).alloc _).alloc _⟩
  have ZL : Hid (zS64 = cellsOf (laidL h 0)) := by unfold laidL; rfl
  go_enter Try.func47, Try.ntmps47
  go_upto_region 2 with fail
  refine wp_gen (fun W => Cb W r 48 zS64 ∧ Cb W (r + 1) 48 zS64 ∧ Ext w W) B0.out ?_
  rw [← hr]
  have wr : w.heap.size ≤ r := Nat.le_of_eq hr.symm
  replace hr := Lib.hid hr
  clear B0 hal hb
  rintro w0 ⟨k0, k1, x0⟩
  have HI0 := Lib.hid (HI.out w0)
  replace k0 := Lib.hid k0
  replace k1 := Lib.hid k1
  replace x0 := Lib.hid x0
  replace hh := Lib.hid hh
  clear HI
  go_wp2_with fail
  refine HI0.out.mono ?_
  rintro e w1 ⟨A1, n1, c1, rfl, o1, x1⟩
  obtain rfl : n1 = 4 := by rw [← o1.len, L4]
  have bn := Bs.one w1 5 (0, 0) (UInt8.ofNat n)
  rw [V8] at bn
  have xa : Ext w1 (w1.alloc (.cells #[.int .u8 (n : Int)] 5)) := (Ext.refl w1).alloc _
  have o1a := Lib.hid (o1.ext xa)
  have X1 := Lib.hid (x0.out.trans (x1.trans xa))
  have x1a := Lib.hid (x1.trans xa)
  replace bn := Lib.hid bn
  have sz1 : w0.heap.size ≤ (w1.alloc (.cells #[.int .u8 (n : Int)] 5)).heap.size := x1a.out.size
  clear HI0 o1 x1 xa
  go_wp2_with (first
    | (at_builtin; refine wpList_append_bs rfl (B := w0.heap.size) (s := .tmp 11) (x := .tmp 15) rfl rfl rfl o1a.out bn.out (by omega) sz1 ?_; intro D2 cc2 w2 o2 hg2 hbl2; replace o2 := Lib.hid o2; have x02 := Lib.hid (x1a.out.trans' hbl2))
    | (at_builtin; refine wpList_append_bs rfl (B := w0.heap.size) (s := .tmp 17) (x := .tmp 18) rfl rfl rfl o2.out (HB.out _ (x0.out.trans x02.out)) (by omega) x02.out.size ?_; intro D3 cc3 w3 o3 hg3 hbl3; replace o3 := Lib.hid o3; have x03 := Lib.hid (x02.out.trans' hbl3)))
  have b3 := o3.out.bs
  rw [← hh.out] at b3
  have e5 : 4 + 1 + n = 5 + n := by omega
  rw [e5] at b3
  have HN : Hid (∀ a, D3 = some a → a.block ≠ r + 1) := fun a ha q => by
    subst ha
    have h1 := k1.out.lt
    rcases o3.out.2 with ⟨hv, _⟩ | ⟨g, cap, cur, hv, hb, _⟩
    · injection hv with q1
      cases q1
    · injection hv with q1
      injection q1 with q1
      have : a.block = g := by rw [q1]
      omega
  have k03 := Lib.hid (k0.out.ext x03.out)
  have k13 : Hid (Cb w3 (r + 1) 48 (cellsOf (laidL h 0))) := by rw [← ZL.out]; exact k1.out.ext x03.out
  have X3 := Lib.hid (x0.out.trans x03.out)
  clear o1a bn o2 o3 x02 x03 X1 x1a k0 k1 x0 HB ZL
  replace b3 := Lib.hid b3
  have hz6 : Hid (zS64.toArray.size = 64) := hzs
  clear hzs
  obtain ⟨m, hm⟩ : ∃ m, m = 5 + n := ⟨_, rfl⟩
  rw [← hm] at b3 SE hhl
  go_loopw [7] (fun v wr => ∃ k : Nat, k ≤ m ∧ v = .int .i64 (k : Int) ∧ Cb wr r 48 zS64 ∧ Cb wr (r + 1) 48 (cellsOf (laidL h k)) ∧ Bs wr D3 m cc3 h ∧ Ext w wr) (fun v _ => m - (intOf v).toNat)
  case atStart => exact ⟨0, Nat.zero_le _, rfl, k03.out, k13.out, b3.out, X3.out⟩
  case round =>
    clear k03 k13 b3 X3
    obtain ⟨k, hk, rfl, k0, k1, b, x⟩ := hrel
    have e6 : ((5 + n : Nat) : Int) = (m : Int) := by omega
    by_cases hkm : k < m
    · have l1 : decide ((k : Int) < (m : Int)) = true := decide_eq_true (by omega)
      obtain ⟨bb, off, rfl, hbb, hc⟩ := b.pos (by omega)
      have cj := hc k hkm
      have LL := laidL_len (h := h) (k := k) (by omega) (by omega)
      have c1 := k1.cell (j := k) (v := .int .u8 (bt (laidL h k) k : Int)) (by rw [cellsOf_get (by omega)])
      have f1 := k1.frozen k
      have lk : (k : Int) < 64 := by omega
      have F : Hid (Cb (wr.setCell ⟨r + 1, k, none⟩ (.int .u8 (bt h k : Int))) r 48 zS64 ∧ Cb (wr.setCell ⟨r + 1, k, none⟩ (.int .u8 (bt h k : Int))) (r + 1) 48 (cellsOf (laidL h (k + 1))) ∧ Bs (wr.setCell ⟨r + 1, k, none⟩ (.int .u8 (bt h k : Int))) (some ⟨bb, off, none⟩) m cc3 h ∧ Ext w (wr.setCell ⟨r + 1, k, none⟩ (.int .u8 (bt h k : Int)))) := by
        have g := gr_cell22 wr (r + 1) k (.int .u8 (bt h k : Int))
        refine ⟨(g.block _ k0.lt (fun q => by have := Option.some.inj q; omega)).trans k0, ?_, b.grownG g (fun _ a ha q => HN.out a ha (Option.some.inj q)), Ot.ext (p := fun i => i = r + 1) x (Ot.of_grown g rfl) (fun i q => by omega)⟩
        have := k1.setCell (o := k) (v := .int .u8 (bt h k : Int))
        rw [show (bt h k : Int) = ((h.getD k 0).toNat : Int) from rfl, cells_set22 (by omega), laidL_set (by omega) (by omega)] at this
        exact this
      clear k0 k1 b x hc
      generalize bt h k = v at *
      generalize bt (laidL h k) k = v0 at *
      go_wp2_with fail
      go_roundw
      case rel => exact ⟨k + 1, by omega, by go_num, F.out⟩
      case measure => simp [intOf]; omega
    · obtain rfl : k = m := by omega
      have l1 : decide ((k : Int) < (k : Int)) = false := decide_eq_false (by omega)
      rw [SE.out] at k1
      have SL := secL_len (i := i) (xs := xs) (by omega)
      obtain ⟨ss, hss⟩ : ∃ q, q = secL i xs := ⟨_, rfl⟩
      rw [← hss] at k1 SL
      have S_s : Hid ((cellsOf ss).toArray.size = 64) := by unfold Hid; simp [cellsOf_len, SL]
      have O_s := Lib.hid (cellsOf_one ss)
      have F : Hid (Ext w (wr.setRow r (cellsOf ss).toArray)) := below_setRow x (by omega) _
      replace k0 := Lib.hid k0
      replace k1 := Lib.hid k1
      replace hss := Lib.hid hss
      clear b x SL SE
      go_wp2_with (first
        | (refine wpList_load_row rfl 48 _ rfl (r + 1) rfl 48 (cellsOf ss).toArray (0, 0) _ k1.out rfl rfl ?_ ?_; (rw [S_s.out]; rfl); go_frame)
        | (refine wpList_store_row rfl 48 _ _ rfl r (cellsOf ss).toArray rfl rfl 48 zS64.toArray k0.out ?_ ?_ O_s.out ?_; (rw [S_s.out]; rfl); (rw [S_s.out, hz6.out]); simp only [Act.put]))
      (try simp only [Exit.inBlock, Exit.then])
      refine bodyPost_ret (results_cell_row rfl _ _ r 48 (cellsOf ss).toArray (0, 0) _ rfl (setRow_heap _ _ _ _ _ _ k0.out) rfl rfl (by rw [S_s.out]; rfl)) rfl ?_
      exact ⟨by rw [hss.out], F.out⟩
end Go.Proofs.Yteaoacinhdjkeaa
end

section
/-
  palfreyref22: Record.
-/
namespace Go.Proofs.Yteaoacinhdjkeaa
open Go.ChangeShapes Go.WideShapes Go.ChangeAt Go.RowKit Go.Deep Go.Maps
set_option maxRecDepth 100000

/-- What the document's Record tests. -/
theorem recL_iff {i : Nat} {s : List UInt8} (hs : s.length = 64) (hi : i < 4294967295) (hn : bt s 4 ≤ 59) :
    (recL i s).isSome = decide (secL i ((s.drop 5).take (bt s 4)) = s) ∧ ∀ y, recL i s = some y → y = (s.drop 5).take (bt s 4) := by
  have hx : ((s.drop 5).take (bt s 4)).length = bt s 4 := by rw [List.length_take, List.length_drop]; omega
  have h2 : ∀ y, recL i s = some y → y = (s.drop 5).take (bt s 4) := fun y h => by
    unfold recL at h
    split at h
    · exact (Option.some.inj h).symm
    · cases h
  refine ⟨?_, h2⟩
  by_cases q : secL i ((s.drop 5).take (bt s 4)) = s
  · have := recL_sec (i := i) (xs := (s.drop 5).take (bt s 4)) (by rw [hx]; exact hn) hi
    rw [q] at this
    rw [this, decide_eq_true q]
    rfl
  · rw [decide_eq_false q]
    cases hr : recL i s with
    | none => rfl
    | some y =>
      exfalso
      apply q
      unfold recL at hr
      split at hr
      · rename_i c
        obtain ⟨c1, _, c3⟩ := c
        have t4 : s.take 4 = (lowL (i + 1) 4).reverse := by
          have e4 : (s.take 4).reverse.length = 4 := by rw [List.length_reverse, List.length_take]; omega
          have e5 := lowL_ofLowL (s.take 4).reverse
          rw [e4, c1] at e5
          rw [e5, List.reverse_reverse]
        rw [secL_eq (by rw [hx]; exact hn), hx, ← t4]
        have z : List.replicate (59 - bt s 4) (0 : UInt8) = (s.drop 5).drop (bt s 4) := list_bt (by simp [hs]; omega) fun j hj => by
          rw [List.length_replicate] at hj
          rw [bt_drop, bt_drop, ← Nat.add_assoc, c3 j hj]
          show bt (List.replicate (59 - bt s 4) 0) j = 0
          generalize bt s 4 = nn at *
          unfold bt
          rw [List.getD_eq_getElem?_getD, List.getElem?_replicate, if_pos hj]
          rfl
        have d4 : s.drop 4 = [UInt8.ofNat (bt s 4)] ++ s.drop 5 := by
          rw [List.drop_eq_getElem_cons (by omega)]
          have : UInt8.ofNat (bt s 4) = s[4]'(by omega) := by
            unfold bt
            rw [List.getD_eq_getElem?_getD, List.getElem?_eq_getElem (by omega)]
            simp
          rw [this]
          rfl
        rw [z, List.take_append_drop, List.append_assoc, ← d4, List.take_append_drop]
      · cases hr
theorem rsec_guard22 : Try.prog.eqGuardType Try.prog.depth 48 = false := by kernel_rfl
theorem rsec_equal22 {xs ys : List UInt8} (hx : xs.length = 64) (hy : ys.length = 64) (w : World) :
    (Op.equalIn 10000 48 (.agg (cellsOf xs).toArray) (.agg (cellsOf ys).toArray)).run Try.prog w = .ok (decide (xs = ys)) w := by
  rw [cellsOf_cell, cellsOf_cell, run_equalIn_bytes w 9998 48 5 64 rfl rfl (fun _ => rfl) xs ys hx hy]
  congr 1
  rw [Bool.eq_iff_iff]; simp
theorem exec_eql_rsec22 {o : Oper} {a : Act} {w : World} {x y : Operand} {t' : TypeId} {xs ys : List UInt8} {b : Bool} (hb : decide (xs = ys) = b) (lx : xs.length = 64) (ly : ys.length = 64) (ho : o.op = .binOp .eql 48 x y t') (hx : a.eval x = .agg (cellsOf xs).toArray) (hy : a.eval y = .agg (cellsOf ys).toArray) :
    (execOp a.eval o).run Try.prog w = .ok (.value (.bool b)) w := by
  unfold execOp
  simp only [ho, hx, hy, Sem.run_bind, run_eqGuard_agg _ _ _ _ _ _ _ rsec_guard22, Result.andThen_ok, run_eql_struct, rsec_equal22 lx ly, Sem.run_pure, hb]
end Go.Proofs.Yteaoacinhdjkeaa
end

section
/-
  palfreyref22: Record, its contract.
-/
namespace Go.Proofs.Yteaoacinhdjkeaa
open Go.ChangeShapes Go.WideShapes Go.ChangeAt Go.RowKit Go.Deep Go.Maps
set_option maxRecDepth 100000

theorem rsector_rec {w : World} {g z : Nat} (hz : z ≤ 59) : (Instr.sliceAt 48 (.pointer (some ⟨g, 0, none⟩)) (some (.int .i64 5)) (some (.int .i64 (5 + (z : Int)))) none).run Try.prog w = .ok (.slice (some ⟨g, 5, none⟩) z 59) w := by
  have hn : Try.prog.arrayLen 48 = 64 := rfl
  rw [run_sliceAt_array_lh w 48 _ rfl .i64 .i64 _ _ (by omega) (by omega) (by rw [hn]; omega)]
  have hs : (sizeOf (Try.prog.elem 48)).run Try.prog w = .ok 1 w := rfl
  rw [hs]
  have h2 : (5 + (z : Int)).toNat = 5 + z := by omega
  have h3 : (⟨g, 0, none⟩ : Addr).add (5 * 1) = ⟨g, 5, none⟩ := by unfold Addr.add; split <;> simp_all
  show Result.ok (slicedAt _ _ _ _ _) w = _
  rw [hn, h2]
  unfold slicedAt
  rw [show (5 : Int).toNat = 5 from rfl, if_neg (by omega), h3, show 5 + z - 5 = z by omega]
set_option maxHeartbeats 4000000 in
theorem rrecord22_calls {w : World} {i : Nat} {s : List UInt8} (hi : i < 4294967295) (hl : s.length = 64) :
    Calls Try.prog 42 #[.int .i64 (i : Int), .agg (cellsOf s).toArray] w fun e w' => Ext w w' ∧ ∃ A n c, e = .returned (.tuple #[.slice A n c, .bool (recL i s).isSome]) ∧ ∀ y, recL i s = some y → Own w.heap.size w' A n c y := by
  obtain ⟨z, hz⟩ : ∃ q, q = bt s 4 := ⟨_, rfl⟩
  have z256 : z < 256 := by rw [hz]; exact bt_lt s 4
  have m3 : IntKind.i64.wrap (z : Int) = (z : Int) := IntWalk.i64_in _ (by omega)
  have m5 : IntKind.i64.wrap (5 + (z : Int)) = 5 + (z : Int) := IntWalk.i64_in _ (by omega)
  have S_s : Hid ((cellsOf s).toArray.size = 64) := by unfold Hid; simp [cellsOf_len, hl]
  obtain ⟨r, hr⟩ : ∃ r, r = w.heap.size := ⟨_, rfl⟩
  have B0 : Hid (Cb (w.alloc (.cells (cellsOf s).toArray 48)) r 48 (cellsOf s) ∧ Ext w (w.alloc (.cells (cellsOf s).toArray 48))) := by rw [hr]; exact ⟨Cb.new _ _ _, (Ext.refl w).alloc _⟩
  have RI : Hid (z ≤ 59 → (recL i s).isSome = decide (secL i ((s.drop 5).take z) = s) ∧ ∀ y, recL i s = some y → y = (s.drop 5).take z) := fun h => by rw [hz] at h ⊢; exact recL_iff hl hi h
  have RN : Hid (59 < z → recL i s = none) := fun h => by unfold recL; rw [if_neg]; rintro ⟨_, q, _⟩; omega
  have CG : Hid (∀ W, Cb W r 48 (cellsOf s) → W.cell? ⟨r, 4, none⟩ = some (.int .u8 (z : Int)) ∧ (z ≤ 59 → Bs W (some ⟨r, 5, none⟩) z 59 ((s.drop 5).take z))) := fun W k => by
    refine ⟨by rw [hz]; exact k.cell (by rw [cellsOf_get (by omega)]), fun h => ?_⟩
    exact Bs.recap (k.bs (p := cellsOf (s.take 5)) (xs := (s.drop 5).take z) (q := cellsOf ((s.drop 5).drop z)) (n := z) (off := 5) (by rw [← cellsOf_app22, List.take_append_drop, ← cellsOf_app22, List.take_append_drop]) (by rw [cellsOf_len, List.length_take]; omega) (by rw [List.length_take, List.length_drop]; omega) (by omega)) (by omega)
  go_enter Try.func42, Try.ntmps42
  go_upto_region 1 with fail
  refine wp_gen (fun W => Cb W r 48 (cellsOf s) ∧ Ext w W) B0.out ?_
  rw [← hr]
  have wr : w.heap.size ≤ r := Nat.le_of_eq hr.symm
  replace hr := Lib.hid hr
  clear B0
  rintro w0 ⟨k0, x0⟩
  obtain ⟨c4, b5⟩ := CG.out _ k0
  replace hz := Lib.hid hz
  clear CG
  by_cases h59 : z ≤ 59
  · have l1 : decide ((59 : Int) < (z : Int)) = false := decide_eq_false (by omega)
    have hsr := fun W : World => rsector_rec (w := W) (g := r) h59
    have xa : Ext w0 (w0.alloc (.cells #[] 5)) := (Ext.refl w0).alloc _
    have b5a := Lib.hid ((b5 h59).ext xa)
    have hbl := (b5 h59).len
    have oe := Lib.hid (Own.empty w0 w0.heap.size (Nat.le_refl _))
    have szA : w0.heap.size ≤ (w0.alloc (.cells #[] 5)).heap.size := xa.size
    obtain ⟨q1, q2⟩ := RI.out h59
    have SL := secL_len (i := i) (xs := (s.drop 5).take z) (by rw [hbl]; exact h59)
    generalize (s.drop 5).take z = x at *
    replace q1 := Lib.hid q1
    replace q2 := Lib.hid q2
    replace k0 := Lib.hid k0
    replace x0 := Lib.hid x0
    replace xa := Lib.hid xa
    clear b5 RI RN
    go_upto_region 5 with (at_builtin; refine wpList_append_bs rfl (B := w0.heap.size) (s := .tmp 13) (x := .tmp 16) rfl rfl rfl oe.out b5a.out (by omega) szA ?_; intro D2 cc2 w2 o2 hg2 hbl2; rw [Nat.zero_add] at o2; rw [Nat.zero_add]; replace o2 := Lib.hid o2; have x02 := Lib.hid (xa.out.trans' hbl2))
    rw [List.nil_append] at o2
    have k02 := Lib.hid (k0.out.ext x02.out)
    have SC := Lib.hid (rsector22_calls (w := w2.drew) hi (o2.out.bs.ext (Ext.refl w2).drew) h59)
    have KP : Hid (∀ s', Ext w2.drew s' → Cb s' r 48 (cellsOf s)) := fun s' e => (k02.out.ext (Ext.refl w2).drew).ext e
    have X2 := Lib.hid ((x0.out.trans x02.out).drew)
    replace o2 : Hid (Own w0.heap.size w2.drew D2 z cc2 x) := o2.out.ext (Ext.refl w2).drew
    have s0 : w.heap.size ≤ w0.heap.size := x0.out.size
    clear oe b5a x02 k02 k0 x0 xa
    refine qgE [0, 1, 2, 4, 3, 5, 6, 7] [3] ?_
    repeat ((first | refine qR0 ?_ | refine qS ?_); go_frame)
    refine qV rfl (fun w' => w'.heap[r]? = some (.cells (cellsOf s).toArray 48 (0, 0))) (fun w' e => KP.out w' e) (.agg (cellsOf s).toArray) (fun w' hF => exec_load_row rfl rfl hF rfl rfl (by rw [S_s.out]; rfl)) ?_
    go_frame
    generalize w2.drew = V at *
    refine qD fun K hK => ?_
    go_simp
    refine SC.out.mono ?_
    rintro e w3 ⟨rfl, x3⟩
    refine hK.out _ _ x3 ?_
    clear hK K
    try go_frame
    have X3 := Lib.hid (X2.out.trans x3)
    have o3 := Lib.hid ((o2.out.ext x3).mono22 s0)
    clear SC KP X2 o2 x3
    refine qV rfl (fun _ => True) (fun _ _ => trivial) (.bool (decide (secL i x = s))) (fun w' _ => exec_eql_rsec22 rfl SL hl rfl rfl rfl) ?_
    go_frame
    repeat ((first | refine qR0 ?_ | refine qS ?_); go_frame)
    refine seq_done ?_
    generalize secL i x = ss at *
    go_wp2_with fail
    go_ret2
    exact ⟨X3.out, D2, z, cc2, by rw [q1.out]; rfl, fun y q => by rw [q2.out y q]; exact o3.out⟩
  · have l1 : decide ((59 : Int) < (z : Int)) = true := decide_eq_true (by omega)
    have F := Lib.hid (RN.out (by omega))
    replace x0 := Lib.hid x0
    clear RI RN k0 b5
    go_wp2_with fail
    go_ret2
    exact ⟨x0.out, none, 0, 0, by rw [F.out]; rfl, fun y q => (by rw [F.out] at q; cases q)⟩
end Go.Proofs.Yteaoacinhdjkeaa
end

section
/-
  palfreyref22: Open.
-/
namespace Go.Proofs.Yteaoacinhdjkeaa
open Go.ChangeShapes Go.WideShapes Go.ChangeAt Go.RowKit Go.Deep Go.Maps
set_option maxRecDepth 100000

/-- The document's journal at block g, of its disk at block dg: its records. -/
def RJ (B : Nat) (w : World) (g dg : Nat) (D : Option Addr) (c : Nat) (L : List (List UInt8)) : Prop := Cb w g 53 [.pointer (some ⟨dg, 0, none⟩), .slice D L.length c] ∧ OwnG B w D L.length c L ∧ B ≤ g
theorem RJ.ext {B : Nat} {w w' : World} {g dg : Nat} {D : Option Addr} {c : Nat} {L : List (List UInt8)} (h : RJ B w g dg D c L) (x : Ext w w') : RJ B w' g dg D c L := ⟨h.1.ext x, h.2.1.ext x, h.2.2⟩
theorem rjopen_none {w : World} : Calls Try.prog 15 #[.pointer none] w fun e w' => e = .returned (.tuple #[.pointer none, .int .i64 1]) ∧ w' = w := by
  go_enter Try.func15, Try.ntmps15
  go_wp2_with fail
  go_ret2
  exact ⟨rfl, rfl⟩
set_option maxHeartbeats 4000000 in
theorem rjopen_calls {w : World} {dg r m ir : Nat} {d : Ds} {X : List (List UInt8)} (h : RD w dg r m ir d X) :
    Calls Try.prog 15 #[.pointer (some ⟨dg, 0, none⟩)] w fun e w' => ∃ g D c, e = .returned (.tuple #[.pointer (some ⟨g, 0, none⟩), .int .i64 0]) ∧ RJ w.heap.size w' g dg D c d.recs ∧ Ext w w' := by
  have ok := h.ok
  have dm := ok.most
  have h64 := Lib.hid (read_len22 ok)
  replace h := Lib.hid h
  obtain ⟨g, hg⟩ : ∃ g, g = w.heap.size := ⟨_, rfl⟩
  have B0 : Hid (RJ g (w.alloc (.cells #[.pointer (some ⟨dg, 0, none⟩), .slice none 0 0] 53)) g dg none 0 [] ∧ Ext w (w.alloc (.cells #[.pointer (some ⟨dg, 0, none⟩), .slice none 0 0] 53))) := by rw [hg]; exact ⟨⟨Cb.new _ _ [_, _], OwnG.nil _ _, Nat.le_refl _⟩, (Ext.refl w).alloc _⟩
  rw [← hg]
  go_enter Try.func15, Try.ntmps15
  go_upto_region 4 with fail
  refine wp_gen (fun W => RJ g W g dg none 0 [] ∧ Ext w W) B0.out ?_
  rw [← hg]
  replace hg := Lib.hid hg
  clear B0
  rintro w0 ⟨k0, x0⟩
  replace k0 := Lib.hid k0
  replace x0 := Lib.hid x0
  go_wp2_with fail
  go_loopw [5] (fun i wr => ∃ (pre : List (List UInt8)) (D : Option Addr) (c : Nat), i = .int .i64 (pre.length : Int) ∧ Pre22 d pre ∧ RJ g wr g dg D c pre ∧ Ext w wr) (fun i _ => d.S.length - (intOf i).toNat)
  case atStart => exact ⟨[], none, 0, rfl, ⟨Nat.zero_le _, fun j hj => absurd hj (Nat.not_lt_zero _)⟩, k0.out, x0.out⟩
  case round =>
    clear k0 x0
    obtain ⟨pre, D, c, rfl, hp, jk, xr⟩ := hrel
    have rd := h.out.ext xr
    have cS := rd.cb.cell (j := 0) rfl
    have hpl := hp.1
    by_cases hlt : pre.length < d.S.length
    · have l1 : decide ((pre.length : Int) < (d.S.length : Int)) = true := decide_eq_true (by omega)
      have RR := Lib.hid (rread_calls rd (i := (pre.length : Int)))
      replace hp := Lib.hid hp
      replace jk := Lib.hid jk
      replace xr := Lib.hid xr
      clear rd
      have L6 := h64.out (pre.length : Int)
      have RC : Hid (∀ w, Calls Try.prog 42 #[.int .i64 (pre.length : Int), .agg (cellsOf (d.read (pre.length : Int))).toArray] w fun e w' => Ext w w' ∧ ∃ A n c, e = .returned (.tuple #[.slice A n c, .bool (recL pre.length (d.read (pre.length : Int))).isSome]) ∧ ∀ y, recL pre.length (d.read (pre.length : Int)) = some y → Own w.heap.size w' A n c y) := fun w => rrecord22_calls (by omega) L6
      obtain ⟨ro, hro⟩ : ∃ q, q = recL pre.length (d.read (pre.length : Int)) := ⟨_, rfl⟩
      rw [← hro] at RC
      replace hro := Lib.hid hro
      generalize d.read (pre.length : Int) = s at RR RC L6
      generalize d.readE (pre.length : Int) = ee at RR
      have S_s : Hid ((cellsOf s).toArray.size = 64) := by unfold Hid; simp [cellsOf_len, L6]
      have O_s := Lib.hid (cellsOf_one s)
      have hal := rsector_alloc
      have hzs : zS64.toArray.size = 64 := by rw [List.size_toArray, zS64_len]
      obtain ⟨Z, hZ⟩ : ∃ q, q = zS64 := ⟨_, rfl⟩
      rw [← hZ] at hal hzs
      clear hZ
      have hz6 : Hid (Z.toArray.size = 64) := hzs
      clear hzs
      go_wp2_with fail
      refine RR.out.mono ?_
      rintro e w1 ⟨rfl, x1⟩
      have zE := Lib.hid (heap_alloc_new w1 (.cells Z.toArray 48))
      obtain ⟨r4, hr4⟩ : ∃ q, q = w1.heap.size := ⟨_, rfl⟩
      rw [← hr4] at zE
      have F4 : Hid (Cb ((w1.alloc (.cells Z.toArray 48)).setRow r4 (cellsOf s).toArray) r4 48 (cellsOf s) ∧ Ext wr ((w1.alloc (.cells Z.toArray 48)).setRow r4 (cellsOf s).toArray)) := ⟨setRow_heap _ _ _ _ _ _ zE.out, x1.trans (by rw [hr4]; exact Ext.newRow w1 _ _)⟩
      clear x1 RR
      go_upto_region 8 with (refine wpList_store_row rfl 48 _ _ rfl r4 (cellsOf s).toArray ?_ rfl 48 Z.toArray zE.out ?_ ?_ O_s.out ?_; (rw [hr4]; rfl); (rw [S_s.out]; rfl); (rw [S_s.out, hz6.out]); simp only [Act.put])
      refine wp_gen (fun V => Cb V r4 48 (cellsOf s) ∧ Ext wr V) F4.out ?_
      rw [← hr4]
      replace hr4 := Lib.hid hr4
      clear F4 zE hal
      rintro w3 ⟨k4, x3⟩
      have RC3 := Lib.hid (RC.out w3)
      replace k4 := Lib.hid k4
      replace x3 := Lib.hid x3
      clear RC
      go_wp2_with (refine wpList_load_row rfl 48 _ rfl r4 rfl 48 (cellsOf s).toArray (0, 0) _ k4.out rfl rfl ?_ ?_; (rw [S_s.out]; rfl); go_frame)
      refine RC3.out.mono ?_
      rintro e w4 ⟨x4, A, mm, c4, rfl, hown⟩
      have jk4 := jk.out.ext (x3.out.trans x4)
      have xr4 := Lib.hid (xr.out.trans (x3.out.trans x4))
      cases ro with
      | none =>
        have F := Lib.hid (hp.out.full (.inr hro.out.symm))
        have JF : Hid (RJ g w4 g dg D c d.recs) := by rw [← F.out]; exact jk4
        clear jk4 RC3 x4 hown
        go_wp2_with fail
        go_ret2
        exact ⟨g, D, c, rfl, JF.out, xr4.out⟩
      | some x =>
        have ow := hown x rfl
        have hp1 := Lib.hid (hp.out.snoc hlt hro.out.symm)
        have hfar := Lib.hid (far_of_newG ow (jk.out.2.1.ext x3.out) (Nat.le_trans (Nat.le_of_lt jk.out.1.lt) x3.out.size))
        have xa : Ext w4 (w4.alloc (.cells #[.slice A mm c4] 37)) := (Ext.refl w4).alloc _
        have b3 := Lib.hid (ow.bs.ext xa)
        have hc := Lib.hid ((Cb.new w4 37 [.slice A mm c4]).cell (j := 0) rfl)
        have jo3 := Lib.hid (jk4.2.1.ext xa)
        have jg3 := Lib.hid (jk4.1.ext xa)
        have ng := jk4.2.1.ne_of jk4.1 (by decide)
        have c1 := jk4.1.cell (j := 1) rfl
        have sz3 : Hid (g ≤ (w4.alloc (.cells #[.slice A mm c4] 37)).heap.size) := Nat.le_of_lt jg3.out.lt
        have xr5 := Lib.hid (xr4.out.trans xa)
        have hlow : Hid (∀ i, Value.ownBlock (.slice D pre.length c) = some i → g ≤ i) := jk4.2.1.ge
        replace ng := Lib.hid ng
        clear jk4 RC3 x4 hown ow xa
        go_wp2_with (refine wpList_plain rfl fun K hK => ?_; refine wp_append_rg2 (B := g) (b := w4.heap.size) rfl rfl rfl jo3.out hc.out b3.out hfar.out (by omega) sz3.out ?_; intro D2 c2 w5 o5 g5 e5; have jg5 : Cb w5 g 53 [.pointer (some ⟨dg, 0, none⟩), .slice D pre.length c] := (g5.block _ (heap_lt jg3.out) (fun q => ng.out q.symm)).trans jg3.out; have cg5 := jg5.cell (j := 1) rfl; have fg5 := jg5.frozen 1; have x5 : Ext w w5 := Ot.ext (p := fun i => Value.ownBlock (.slice D pre.length c) = some i) xr5.out ⟨g5.os, g5.tape, g5.output, g5.size, fun i hi hn => g5.block i hi (fun q => hn q.symm)⟩ (fun i q => Nat.le_trans (Nat.le_of_eq hg.out.symm) (hlow.out i q)); replace jg5 := Lib.hid jg5; replace x5 := Lib.hid x5; replace o5 := Lib.hid o5; refine hK _ _ ?_)
        have gr1 := gr_cell22 w5 g 1 (.slice D2 (pre.length + 1) c2)
        go_roundw
        case rel =>
          refine ⟨pre ++ [x], D2, c2, by simp, hp1.out, ⟨?_, ?_, Nat.le_refl _⟩, Ot.ext (p := fun i => i = g) x5.out (Ot.of_grown gr1 rfl) (fun i q => by rw [q, hg.out]; exact Nat.le_refl _)⟩
          · rw [show (pre ++ [x]).length = pre.length + 1 by simp]
            exact jg5.out.setCell
          · rw [show (pre ++ [x]).length = pre.length + 1 by simp]
            exact o5.out.turn jg5.out (by decide) (by rintro v hv i rfl; simp at hv) gr1
        case measure => simp [intOf]; omega
    · have l1 : decide ((pre.length : Int) < (d.S.length : Int)) = false := decide_eq_false (by omega)
      have F := Lib.hid (hp.full (.inl (by omega)))
      have JF : Hid (RJ g wr g dg D c d.recs) := by rw [← F.out]; exact jk
      replace xr := Lib.hid xr
      clear hp jk rd
      go_wp2_with fail
      go_ret2
      exact ⟨g, D, c, rfl, JF.out, xr.out⟩
end Go.Proofs.Yteaoacinhdjkeaa
end
