/-
  palfreyref11.Take.
-/
import Derived.Test.YtonjialkfbbhpaaRput11
namespace Go.Proofs.Ytonjialkfbbhpaa
open Go.ChangeShapes Go.WideShapes Go.ChangeAt Go.RowKit Go.Deep Go.Maps
set_option maxRecDepth 100000

theorem take_at {P R : List Kp} {x : Kp} {pk : List UInt8} {n : Int} (hx : x.at pk n = true) (hP : ∀ y ∈ P, y.at pk n = false) (ap : (P ++ x :: R).Pairwise fun x y => ¬(x.pk = y.pk ∧ x.n = y.n)) :
    takeL (P ++ x :: R) pk n = P ++ R ∧ theK (P ++ x :: R) pk n = x ∧ hasK (P ++ x :: R) pk n = true := by
  have hR : ∀ y ∈ R, y.at pk n = false := fun y hy => by
    cases q : y.at pk n
    · rfl
    · obtain ⟨e1, e2⟩ := Kp.at_iff.1 q
      obtain ⟨f1, f2⟩ := Kp.at_iff.1 hx
      have := (List.pairwise_cons.1 (List.pairwise_append.1 ap).2.1).1 y hy
      exact absurd ⟨f1.trans e1.symm, f2.trans e2.symm⟩ this
  refine ⟨?_, ?_, List.any_eq_true.2 ⟨x, by simp, hx⟩⟩
  · unfold takeL
    rw [List.filter_append, List.filter_cons_of_neg (by rw [hx]; decide), List.filter_eq_self.2 fun y hy => by rw [hP y hy]; rfl, List.filter_eq_self.2 fun y hy => by rw [hR y hy]; rfl]
  · unfold theK
    rw [List.find?_append, List.find?_eq_none.2 fun y hy => by rw [hP y hy]; decide, List.find?_cons_of_pos hx]
    rfl
theorem grown_row11 {a w : World} {g r : Nat} {C : Array Value} (h : a.grownBy w (some g)) (hr : a.heap.size ≤ r) : a.grownBy (w.setRow r C) (some g) :=
  ⟨h.os, h.tape, h.output, by have := h.size; simpa using this, fun i hi hne => (setRow_other _ _ _ _ (by omega)).trans (h.block i hi hne)⟩
theorem RK.row {w : World} {g r : Nat} {L : List Kp} {C cs : Array Value} (h : RK w g L) (hr : w.heap[r]? = some (.cells cs 31 (0, 0))) : RK (w.setRow r C) g L := by
  have hg := h
  obtain ⟨A, n, c, h1, _⟩ := h
  refine hg.keep (setRow_other _ _ _ _ ?_) fun i cc hi => (setRow_other _ _ _ _ ?_).trans hi
  · rintro rfl
    unfold Cb at h1
    rw [h1] at hr
    injection hr with hr
    injection hr with _ hr
    exact absurd hr (by decide)
  · rintro rfl
    rw [hi] at hr
    injection hr with hr
    injection hr with _ hr
    exact absurd hr (by decide)
set_option maxHeartbeats 16000000 in
theorem rtake11_calls {w : World} {g : Nat} {L : List Kp} (h : RK w g L) (AP : L.Pairwise fun x y => ¬(x.pk = y.pk ∧ x.n = y.n)) (hL : L.length ≤ 8) {pk : List UInt8} (hp : pk.length = 32) {n : Int} :
    Calls Try.prog 17 #[.pointer (some ⟨g, 0, none⟩), .agg (cellsOf pk).toArray, .int .i64 n] w fun e w' => e = .returned (.tuple #[.agg (cellsOf (theK L pk n).k).toArray, .bool (hasK L pk n)]) ∧ RK w' g (takeL L pk n) ∧ w.grownBy w' (some g) := by
  have RA : Hid (∀ s, Ext w s → Calls Try.prog 38 #[.pointer (some ⟨g, 0, none⟩), .agg (cellsOf pk).toArray, .int .i64 n] s fun e w' => ∃ r : Int, e = .returned (.int .i64 r) ∧ ((hasK L pk n = false ∧ r = -1) ∨ ∃ k : Nat, r = (k : Int) ∧ k < L.length ∧ (∃ x, L[k]? = some x ∧ x.at pk n = true) ∧ ∀ j x, j < k → L[j]? = some x → x.at pk n = false) ∧ Ext s w') := fun s e => rat_calls (h.ext e) (by omega) hp
  have KZ : Hid (Try.prog.built 31 [] = some zeros32) := zeros32_built
  have hal3 := key_alloc
  have S_Z : zeros32.size = 32 := zeros32_size
  have O_Z : zeros32.all (·.oneCell') = true := zeros32_one
  have S_p : (cellsOf pk).toArray.size = 32 := by simp [cellsOf_len, hp]
  have SAME : Hid (∀ s, Ext w s → RK s g L ∧ w.grownBy s (some g)) := fun s e => ⟨h.ext e, gr_ext11 g e⟩
  obtain ⟨A, m, c, hcb, how, hty, okL⟩ := h
  have hLn : L.length = m := by have := how.1.1; rwa [List.length_map] at this
  have hcap := how.2.1
  have c9 : c ≤ 9223372036854775807 := by have := hcap.2; unfold maxLen at this; omega
  have hcap1 := hcap.1
  have glt := hcb.lt
  have P7e : Hid (∀ s, Ext w s → Cb s g 29 [.slice A m c] ∧ Cs s 65 A m c (L.map Kp.rC)) := fun s e => ⟨hcb.ext e, how.ext e⟩
  replace okL := Lib.hid okL
  replace AP := Lib.hid AP
  clear hcb how hty hcap
  obtain ⟨r4, hr4⟩ : ∃ r, r = w.heap.size := ⟨_, rfl⟩
  have B0 : Hid (Cb ((w.alloc (Obj.cells (cellsOf pk).toArray 31)).alloc (Obj.cells zeros32 31)) r4 31 (cellsOf pk) ∧ Cb ((w.alloc (Obj.cells (cellsOf pk).toArray 31)).alloc (Obj.cells zeros32 31)) (r4 + 1) 31 zeros32.toList ∧ Ext w ((w.alloc (Obj.cells (cellsOf pk).toArray 31)).alloc (Obj.cells zeros32 31))) := by
    rw [hr4]; exact ⟨heap_alloc1 _ _ _, by unfold Cb; rw [Array.toArray_toList]; exact heap_alloc2 _ _ _, ((Ext.refl w).alloc _).alloc _⟩
  go_enter Try.func17, Try.ntmps17
  go_upto_region 1 with fail
  refine wp_gen (fun W => Cb W r4 31 (cellsOf pk) ∧ Cb W (r4 + 1) 31 zeros32.toList ∧ Ext w W) B0.out ?_
  rw [← hr4]
  have wr : w.heap.size ≤ r4 := Nat.le_of_eq hr4.symm
  clear B0
  replace hr4 := Lib.hid hr4
  obtain ⟨r6, hr6⟩ : ∃ r, r = r4 + 1 := ⟨_, rfl⟩
  rw [← hr6]
  have wr6 : r4 < r6 := by omega
  replace hr6 := Lib.hid hr6
  rintro w0 ⟨k4, k6, x0⟩
  have RA0 := Lib.hid (RA.out _ x0)
  replace k4 := Lib.hid k4
  replace k6 := Lib.hid k6
  replace x0 := Lib.hid x0
  go_wp2_with ((with_reducible refine wpList_load_rowW (o := ⟨some 11, _, _, _, _, _⟩) ?_ 31 _ rfl r4 ?_ 31 (cellsOf pk).toArray (0, 0) _ ?_ Try.underlying31 ?_ ?_ ?_); (· rfl); (· rfl); (· exact k4.out); (· rfl); (· rw [S_p]; rfl); simp only [Act.put, List.setIfInBounds_toArray, List.set_cons_zero, List.set_cons_succ])
  refine RA0.out.mono ?_
  rintro e w1 ⟨r, rfl, hr, x1⟩
  have k6' : w1.heap[r6]? = some (.cells zeros32 31 (0, 0)) := by
    have := k6.out.ext x1
    unfold Cb at this
    rwa [Array.toArray_toList] at this
  replace k6' := Lib.hid k6'
  have XW := Lib.hid (x0.out.trans x1)
  clear RA RA0 k4 k6 x0 x1
  rcases hr with ⟨hf, rfl⟩ | ⟨q, rfl, hq, ⟨y, hy, hat⟩, hne⟩
  · have FIN : Hid (Ending.returned (.tuple #[.agg zeros32, .bool false]) = .returned (.tuple #[.agg (cellsOf (theK L pk n).k).toArray, .bool (hasK L pk n)]) ∧ RK (w1.setRow r6 zeros32) g (takeL L pk n) ∧ w.grownBy (w1.setRow r6 zeros32) (some g)) := by
      have e : Ext w (w1.setRow r6 zeros32) := below_setRow XW.out (by omega) _
      refine ⟨?_, ?_⟩
      · rw [hf, theK_none hf, ← zeros32_cells]
      · rw [takeL_none hf]; exact SAME.out _ e
    clear SAME P7e okL AP XW hf
    go_wp2_with (first
      | (refine wpList_build_as rfl _ _ rfl zeros32 (by simp only [List.map_toArray, List.map_nil]; exact KZ.out) ?_; simp only [Act.put, List.setIfInBounds_toArray, List.set_cons_zero, List.set_cons_succ])
      | (refine wpList_store_row rfl 31 _ _ rfl r6 zeros32 rfl rfl 31 zeros32 k6'.out (by rw [S_Z]; rfl) rfl O_Z ?_; simp only [Act.put]))
    (try simp only [Exit.inBlock, Exit.then])
    refine bodyPost_ret (results_row_tmp rfl _ _ r6 31 zeros32 (0, 0) _ _ rfl rfl (setRow_heap _ _ _ _ _ _ k6'.out) rfl rfl (by rw [S_Z]; rfl)) rfl ?_
    exact FIN.out
  have oky := okL.out y (List.mem_of_getElem? hy)
  have dk : L = L.take q ++ y :: L.drop (q + 1) := by
    have e : y = L[q]'hq := by rw [List.getElem?_eq_getElem hq] at hy; exact (Option.some.inj hy).symm
    rw [e, ← List.drop_eq_getElem_cons hq, List.take_append_drop]
  have hP : ∀ z ∈ L.take q, z.at pk n = false := fun z hz => by
    obtain ⟨j, hj⟩ := List.mem_iff_getElem?.1 hz
    rw [List.getElem?_take] at hj
    split at hj
    · rename_i hjq
      exact hne j z hjq hj
    · cases hj
  have FA : Hid (takeL L pk n = L.take q ++ L.drop (q + 1) ∧ (theK L pk n).k = y.k ∧ hasK L pk n = true) := by
    have ap := AP.out
    rw [dk] at ap
    have := take_at hat hP ap
    rw [← dk] at this
    exact ⟨this.1, by rw [this.2.1], this.2.2⟩
  obtain ⟨b, off, hA, hb, hc⟩ := ((P7e.out _ XW.out).2).at (j := q) (by omega)
  have e1 : (L.map Kp.rC).getD q [] = y.rC := by rw [List.getD_eq_getElem?_getD, List.getElem?_map, hy]; rfl
  rw [e1] at hc
  have M4 : Hid (∀ j v, (cellsOf y.k)[j]? = some v → w1.cell? ⟨b, off + q * 65 + 33 + j, none⟩ = some v) := fun j v hv => by rw [Nat.add_assoc]; exact hc _ _ (Kp.rc33 oky j v hv)
  have lk := oky.2.1
  have C_k : (cellsOf y.k).length = 32 := by rw [cellsOf_len, lk]
  have S_k : (cellsOf y.k).toArray.size = 32 := by simp [C_k]
  have O_k := one_cells (one_mem y.k)
  subst hA
  have qm : q < m := by omega
  have OKD : Hid (∀ x ∈ L.take q ++ L.drop (q + 1), x.ok) := fun x hx => by
    rcases List.mem_append.1 hx with z | z
    · exact okL.out x (List.mem_of_mem_take z)
    · exact okL.out x (List.mem_of_mem_drop z)
  clear hc e1 hP hne hat hy dk oky okL AP SAME hb
  generalize y.k = yk at *
  clear y
  have c0 := (P7e.out _ XW.out).1.cell (j := 0) rfl
  have K2 : Hid (((w1.alloc (.cells zeros32 31)).setRow w1.heap.size (cellsOf yk).toArray).heap[r6]? = some (.cells zeros32 31 (0, 0)) ∧ Cb ((w1.alloc (.cells zeros32 31)).setRow w1.heap.size (cellsOf yk).toArray) w1.heap.size 31 (cellsOf yk) ∧ Ext w ((w1.alloc (.cells zeros32 31)).setRow w1.heap.size (cellsOf yk).toArray)) :=
    ⟨((Ext.newRow _ _ _).block _ (heap_lt k6'.out)).trans k6'.out, setRow_heap _ _ _ _ _ _ (heap_alloc_new w1 (.cells zeros32 31)), XW.out.trans (Ext.newRow _ _ _)⟩
  have l6 : r6 < w1.heap.size := heap_lt k6'.out
  clear XW k6'
  go_upto_region 5 with (first
    | ((with_reducible refine wpList_load_mid (o := ⟨some 24, _, _, _, _, _⟩) (ty := 31) (g := b) (off := off + q * 65 + 33) (ys := cellsOf yk) ?_ rfl ?_ ?_ Try.underlying31 ?_ ?_ ?_); (· rfl); (· rfl); (· exact M4.out); (· rfl); (· rw [C_k]; rfl); simp only [Act.put, List.setIfInBounds_toArray, List.set_cons_zero, List.set_cons_succ])
    | (refine wpList_store_row rfl 31 _ _ rfl w1.heap.size (cellsOf yk).toArray rfl rfl 31 zeros32 (heap_alloc_new _ _) (by rw [S_k]; rfl) (by rw [S_k, S_Z]) O_k ?_; simp only [Act.put]))
  refine wp_gen (fun W => W.heap[r6]? = some (.cells zeros32 31 (0, 0)) ∧ Cb W w1.heap.size 31 (cellsOf yk) ∧ Ext w W) K2.out ?_
  generalize w1.heap.size = r9 at *
  clear K2 M4 c0 w1
  rintro W ⟨k6, k9, XW⟩
  replace k6 := Lib.hid k6
  replace k9 := Lib.hid k9
  have sz : w.heap.size ≤ W.heap.size := XW.size
  have gW : g < W.heap.size := by omega
  have r9W : r9 < W.heap.size := k9.out.lt
  replace XW := Lib.hid XW
  have ed : (L.map Kp.rC).drop (q + 1) = (L.drop (q + 1)).map Kp.rC := List.map_drop.symm
  have et : (L.map Kp.rC).take q = (L.take q).map Kp.rC := List.map_take.symm
  have P7 : Hid (∀ s, Ext W s → s.cell? ⟨g, 0, none⟩ = some (.slice (some ⟨b, off, none⟩) m c)) := fun s z => ((P7e.out s (XW.out.trans z)).1).cell rfl
  have CG : Hid (∀ s, Ext W s → Cb s g 29 [.slice (some ⟨b, off, none⟩) m c] ∧ w.grownBy s (some g)) := fun s z => ⟨(P7e.out s (XW.out.trans z)).1, gr_ext11 g (XW.out.trans z)⟩
  have CUT : Hid (∀ s, Ext W s → Cs s 65 (if c = q + 1 then some ⟨b, off, none⟩ else (some ⟨b, off, none⟩ : Option Addr).map (·.add ((q + 1) * 65))) (m - (q + 1)) (c - (q + 1)) ((L.drop (q + 1)).map Kp.rC)) := fun s z => by
    rw [← ed]; exact ((P7e.out s (XW.out.trans z)).2).cut qm
  have TAK : Hid (∀ s, Ext W s → Cs s 65 (some ⟨b, off, none⟩) q c ((L.take q).map Kp.rC)) := fun s z => by
    rw [← et]; exact ((P7e.out s (XW.out.trans z)).2).take (by omega)
  have OD : Hid (∀ x ∈ (L.drop (q + 1)).map Kp.rC, ∀ u ∈ x, u.oneCell' = true) := fun x hx u hu => by obtain ⟨z, _, rfl⟩ := List.mem_map.1 hx; exact one_rC z u hu
  have OT : Hid (∀ x ∈ (L.take q).map Kp.rC, ∀ u ∈ x, u.oneCell' = true) := fun x hx u hu => by obtain ⟨z, _, rfl⟩ := List.mem_map.1 hx; exact one_rC z u hu
  have DONE : Hid (∀ s A2 n2 c2, Ext W s → OwnC W.heap.size s 89 65 A2 n2 c2 ((L.take q).map Kp.rC ++ (L.drop (q + 1)).map Kp.rC) → (RK (s.setCell ⟨g, 0, none⟩ (.slice A2 n2 c2)) g (takeL L pk n) ∧ w.grownBy (s.setCell ⟨g, 0, none⟩ (.slice A2 n2 c2)) (some g)) ∧ (s.setCell ⟨g, 0, none⟩ (.slice A2 n2 c2)).heap[r6]? = some (.cells zeros32 31 (0, 0)) ∧ Cb (s.setCell ⟨g, 0, none⟩ (.slice A2 n2 c2)) r9 31 (cellsOf yk)) := fun s A2 n2 c2 z o => by
    obtain ⟨g1, g2⟩ := CG.out s z
    rw [FA.out.1]
    refine ⟨⟨(RK.put g1 (by rw [List.map_append]; exact o.cs) o.ty OKD.out).1, grown_trans' g2 (gr_cell _ _ _ _)⟩, ?_, ?_⟩
    · exact (Below.heap_setCell _ _ _ _ (show r6 ≠ g by omega)).trans ((z.block _ (heap_lt k6.out)).trans k6.out)
    · exact (Below.heap_setCell _ _ _ _ (show r9 ≠ g by omega)).trans (k9.out.ext z)
  have wk : IntKind.i64.wrap ((q : Int) + 1) = ((q + 1 : Nat) : Int) := (IntWalk.i64_in _ (by omega)).trans rfl
  have FB := Lib.hid FA.out.2
  clear FA OKD P7e XW k6 k9 ed et
  refine wp_region_seqZ (R := Below W.heap.size) (Below.refl _) (fun _ _ _ => Below.trans) 19 [0, 2, 3, 4, 5, 6, 7, 9, 10, 11, 12, 13, 14, 15, 1, 8, 16, 17, 18, 19] [1, 8, 16, 19] [(0, 26, 2), (0, 27, 0), (0, 28, 2), (4, 29, 268435456), (8, 30, 536870912), (16, 31, 1073741824), (0, 32, 512), (96, 33, 6442450944), (130, 34, 8724152320), (0, 35, 2), (512, 36, 34359738368), (1024, 37, 68719476736), (2048, 38, 137438953472), (0, 39, 512), (8192, 40, 549755813888), (20480, 41, 1374389534720), (33024, 42, 2216203124736), (131071, 43, 67108864), (262143, 44, 8796093022208), (393215, 0, 21990232555520)] (by kernel_rfl) (by kernel_rfl) (by kernel_rfl) rfl (by kernel_rfl) (by kernel_rfl) (by kernel_rfl) (fun _ _ d _ _ h => by cases d <;> exact h) ?_
  repeat (refine seqZ_read _ (fun w' e => P7.out w' (Ext.trans (Ext.refl _).drew e)) _ (v := ?_) rfl rfl (by rfl) ?_ ?_; rotate_left; (· intro w' hF; go_simp; (try with_reducible rfl)); simp only [Act.put, List.setIfInBounds_toArray, List.set_cons_zero, List.set_cons_succ])
  refine seqZ_read (fun _ => True) (fun _ _ => trivial) _ (v := .slice (some ⟨b, off, none⟩) q c) rfl rfl (by rfl) (fun w' _ => exec_toC (s := 65) Try.underlying27 (by kernel_rfl) (A := some ⟨b, off, none⟩) (n := m) (c := c) (k := q) rfl rfl rfl (by omega)) ?_
  simp only [Act.put, List.setIfInBounds_toArray, List.set_cons_zero, List.set_cons_succ]
  repeat (refine seqZ_read _ (fun w' e => P7.out w' (Ext.trans (Ext.refl _).drew e)) _ (v := ?_) rfl rfl (by rfl) ?_ ?_; rotate_left; (· intro w' hF; go_simp; (try with_reducible rfl)); simp only [Act.put, List.setIfInBounds_toArray, List.set_cons_zero, List.set_cons_succ])
  refine seqZ_read (fun _ => True) (fun _ _ => trivial) _ (v := .slice (if c = q + 1 then some ⟨b, off, none⟩ else (some ⟨b, off, none⟩ : Option Addr).map (·.add ((q + 1) * 65))) (m - (q + 1)) (c - (q + 1))) rfl rfl (by rfl) (fun w' _ => exec_fromC (s := 65) Try.underlying27 (by kernel_rfl) (k := q + 1) rfl rfl (congrArg (Value.int .i64) (rfl : (q : Int) + 1 = ((q + 1 : Nat) : Int))) qm hcap1) ?_
  simp only [Act.put, List.setIfInBounds_toArray, List.set_cons_zero, List.set_cons_succ]
  have SE : Hid (Ext W W.drew) := (Ext.refl W).drew
  obtain ⟨AC, hac⟩ : ∃ AC, AC = (if c = q + 1 then some ⟨b, off, none⟩ else (some ⟨b, off, none⟩ : Option Addr).map (·.add ((q + 1) * 65))) := ⟨_, rfl⟩
  rw [← hac] at CUT ⊢
  clear hac
  generalize W.drew = WC at *
  refine seqZ_do _ rfl rfl (by rfl) (fun K hK => ?_)
  go_simp
  have o1 : Hid (OwnC W.heap.size (WC.alloc (Obj.cells #[] 89)) 89 65 (some ⟨WC.heap.size, 0, none⟩) 0 0 []) := ⟨World.ownsRow_lit WC #[] 0 SE.out.size (Nat.zero_le _) rfl, fun x hx => (by cases hx), rfl⟩
  have e1 : Ext WC (WC.alloc (Obj.cells #[] 89)) := (Ext.refl WC).alloc _
  have S1 : Hid (Ext W (WC.alloc (Obj.cells #[] 89))) := SE.out.trans e1
  refine hK.out _ _ (Or.inr (e1.mono SE.out.size)) ?_
  clear hK K
  try simp only [Act.put, List.setIfInBounds_toArray, List.set_cons_zero, List.set_cons_succ]
  clear e1 SE
  generalize WC.alloc (Obj.cells #[] 89) = W1 at *
  generalize WC.heap.size = s1 at *
  clear WC
  refine seqZ_do _ rfl rfl (by rfl) (fun K hK => ?_)
  refine wp_append_cc (t := 27) (e := 89) (s := 65) Try.underlying27 infoR11 zR11_cells (by omega) bytesR11 rfl rfl rfl o1.out (TAK.out _ S1.out) OT.out (by omega) S1.out.size ?_
  intro A2 c2 w2 o2 g2 b2
  simp only [Nat.zero_add, List.nil_append] at o2 ⊢
  refine hK.out _ _ (Or.inr b2) ?_
  clear hK K
  try simp only [Act.put, List.setIfInBounds_toArray, List.set_cons_zero, List.set_cons_succ]
  have S2 : Hid (Ext W w2) := Below.trans S1.out b2
  clear o1 S1 g2 b2 TAK
  refine seqZ_do _ rfl rfl (by rfl) (fun K hK => ?_)
  refine wp_append_cc (t := 27) (e := 89) (s := 65) Try.underlying27 infoR11 zR11_cells (by omega) bytesR11 rfl rfl rfl o2 (CUT.out _ S2.out) OD.out (by omega) S2.out.size ?_
  intro A3 c3 w3 o3 g3 b3
  refine hK.out _ _ (Or.inr b3) ?_
  clear hK K
  try simp only [Act.put, List.setIfInBounds_toArray, List.set_cons_zero, List.set_cons_succ]
  have S3 : Hid (Ext W w3) := Below.trans S2.out b3
  have P4 := Lib.hid (DONE.out _ _ _ _ S3.out o3)
  have kg := (CG.out w3 S3.out).1
  have c0_ := kg.cell (j := 0) rfl
  have f0_ := kg.frozen 0
  clear o2 o3 g3 b3 S2 S3 CUT DONE P7 CG kg OT OD
  repeat (refine seqZ_read (fun _ => True) (fun _ _ => trivial) _ (v := ?_) rfl rfl (by rfl) ?_ ?_; rotate_left; (· intro w' hF; go_simp; (try with_reducible rfl)); simp only [Act.put, List.setIfInBounds_toArray, List.set_cons_zero, List.set_cons_succ])
  refine seqZ_do _ rfl rfl (by rfl) (fun K hK => ?_)
  go_simp
  refine hK.out _ _ (Or.inl rfl) ?_
  clear hK K
  try simp only [Act.put, List.setIfInBounds_toArray, List.set_cons_zero, List.set_cons_succ]
  refine seqZ_done ?_
  clear c0_ f0_
  refine gen_q (fun X => (RK X g (takeL L pk n) ∧ w.grownBy X (some g)) ∧ X.heap[r6]? = some (.cells zeros32 31 (0, 0)) ∧ Cb X r9 31 (cellsOf yk)) P4.out ?_
  clear P4
  rintro w8 ⟨⟨m8, t8⟩, k6, k9⟩
  have FIN : Hid (Ending.returned (.tuple #[.agg (cellsOf yk).toArray, .bool true]) = .returned (.tuple #[.agg (cellsOf (theK L pk n).k).toArray, .bool (hasK L pk n)]) ∧ RK (w8.setRow r6 (cellsOf yk).toArray) g (takeL L pk n) ∧ w.grownBy (w8.setRow r6 (cellsOf yk).toArray) (some g)) := ⟨by rw [FB.out.1, FB.out.2], m8.row k6, grown_row11 t8 (by omega)⟩
  replace k6 := Lib.hid k6
  replace k9 := Lib.hid k9
  clear m8 t8 FB
  go_wp2_with (first
    | ((with_reducible refine wpList_load_rowW (o := ⟨some 44, _, _, _, _, _⟩) ?_ 31 _ rfl r9 ?_ 31 (cellsOf yk).toArray (0, 0) _ ?_ Try.underlying31 ?_ ?_ ?_); (· rfl); (· rfl); (· exact k9.out); (· rfl); (· rw [S_k]; rfl); simp only [Act.put, List.setIfInBounds_toArray, List.set_cons_zero, List.set_cons_succ])
    | (refine wpList_store_row rfl 31 _ _ rfl r6 (cellsOf yk).toArray rfl rfl 31 zeros32 k6.out (by rw [S_k]; rfl) (by rw [S_k, S_Z]) O_k ?_; simp only [Act.put]))
  (try simp only [Exit.inBlock, Exit.then])
  refine bodyPost_ret (results_row_tmp rfl _ _ r6 31 (cellsOf yk).toArray (0, 0) _ _ rfl rfl (setRow_heap _ _ _ _ _ _ k6.out) rfl rfl (by rw [S_k]; rfl)) rfl ?_
  exact FIN.out
end Go.Proofs.Ytonjialkfbbhpaa
