/-
  skips.Copy.
-/
import Derived.Test.YtonjialkfbbhpaaSkPut
namespace Go.Proofs.Ytonjialkfbbhpaa
open Go.ChangeShapes Go.WideShapes Go.ChangeAt Go.RowKit Go.Deep Go.Maps
set_option maxRecDepth 100000

theorem Vw.of_mem {P : Program} {k : TypeId} {D : DataW Value} {E E' : List (Value × Value)} (h : Vw P k D E) (ap : E'.Pairwise fun p q => p.1 ≠ q.1) (hm : ∀ p, p ∈ E' ↔ p ∈ E) : Vw P k D E' :=
  ⟨ap, h.size.trans (Nat.le_antisymm (List.Nodup.length_le_of_subset (h.apart.imp fun h e => h (congrArg Prod.fst e)) fun p hp => (hm p).2 hp) (List.Nodup.length_le_of_subset (ap.imp fun h e => h (congrArg Prod.fst e)) fun p hp => (hm p).1 hp)),
    fun p hp => h.into p ((hm p).1 hp), fun kl hh => by obtain ⟨p, hp, q⟩ := h.back kl hh; exact ⟨p, (hm p).2 hp, q⟩⟩
theorem Mp.of_mem {P : Program} {k : TypeId} {w : World} {b : Nat} {E E' : List (Value × Value)} (h : Mp P k w b E) (ap : E'.Pairwise fun p q => p.1 ≠ q.1) (hm : ∀ p, p ∈ E' ↔ p ∈ E) : Mp P k w b E' := by
  obtain ⟨D, h, v⟩ := h
  exact Mp.of h (v.of_mem ap hm)
/-- What is copied so far. -/
def CpI (L : List Kp) (lf : Value → Prop) (L1 : List Kp) : Prop := (∀ y ∈ L1, y ∈ L) ∧ (∀ y ∈ L, y ∈ L1 ↔ ¬ lf y.kv) ∧ L1.length ≤ L.length
theorem CpI.start (L : List Kp) : CpI L (fun _ => True) [] := ⟨(fun y h => by cases h), (fun y _ => ⟨(fun h => by cases h), fun h => absurd trivial h⟩), Nat.zero_le _⟩
theorem CpI.add {L : List Kp} {lf : Value → Prop} {L1 : List Kp} (h : CpI L lf L1) (ok : ∀ x ∈ L, x.ok) (ap : L.Pairwise fun x y => ¬(x.pk = y.pk ∧ x.n = y.n)) {y : Kp} (hy : y ∈ L) (hl : lf y.kv) (nd : (L1 ++ [y]).Nodup) : CpI L (fun key => lf key ∧ key ≠ y.kv) (L1 ++ [y]) := by
  have sub : ∀ z ∈ L1 ++ [y], z ∈ L := fun z hz => by
    rcases List.mem_append.1 hz with q | q
    · exact h.1 z q
    · rw [List.mem_singleton.1 q]; exact hy
  refine ⟨sub, fun z hz => ?_, List.Nodup.length_le_of_subset nd sub⟩
  rw [List.mem_append, List.mem_singleton, h.2.1 z hz]
  constructor
  · rintro (q | rfl) ⟨r1, r2⟩
    · exact q r1
    · exact r2 rfl
  · intro q
    by_cases hz2 : lf z.kv
    · right
      exact kv_inj ok ap hz hy (Classical.byContradiction fun e => q ⟨hz2, e⟩)
    · exact .inl hz2
theorem ent_nodup {L1 : List Kp} (h : (L1.map Kp.ent).Pairwise fun p q => p.1 ≠ q.1) : L1.Nodup := by
  rw [List.pairwise_map] at h
  exact h.imp fun h e => h (by rw [e])
set_option maxHeartbeats 8000000 in
theorem scopy_calls {w : World} {g mb : Nat} {L : List Kp} {puts : Int} (h : SK w g mb L puts) (h8 : L.length ≤ 1000) :
    Calls Try.prog 18 #[.pointer (some ⟨g, 0, none⟩)] w fun e w' => ∃ g' b', e = .returned (.pointer (some ⟨g', 0, none⟩)) ∧ w.heap.size ≤ g' ∧ w.heap.size ≤ b' ∧ SK w' g' b' L puts ∧ Ext w w' := by
  have hal1 := place_alloc
  have hal2 := entry_alloc
  have hmm := @run_makeMap Try.prog
  have L_ZK := zKN_len
  have S_ZK : zKN.toArray.size = 33 := by rw [List.size_toArray, L_ZK]
  have OK := Lib.hid h.ok
  have AP := Lib.hid h.apart
  have glt := h.cb.lt
  have c0 := h.cb.cell (j := 0) rfl
  have c1 := h.cb.cell (j := 1) rfl
  have blt := h.mp.lt
  have HM : Hid (Mp Try.prog 82 w mb (L.map fun y => (y.kv, y.vv))) := h.mp
  have CE : Hid (∀ s, Ext w s → s.cell? ⟨g, 0, none⟩ = some (.map (some mb))) := fun s e => (e.cell glt).trans c0
  have HS := Lib.hid h
  have hbz : Hid (∀ b, Try.prog.built 80 [(0, .map (some b)), (1, .int .i64 puts)] = some #[.map (some b), .int .i64 puts]) := fun b => by kernel_rfl
  clear h
  obtain ⟨b2, hb2⟩ : ∃ r, r = w.heap.size := ⟨_, rfl⟩
  have hbb := hbz.out w.heap.size
  have c1' : (w.alloc (.map #[] 0)).cell? ⟨g, 1, none⟩ = some (.int .i64 puts) := (((Ext.refl w).alloc _).cell glt).trans c1
  have B0 : Hid (Mp Try.prog 82 ((w.alloc (.map #[] 0)).alloc (.cells #[.map (some w.heap.size), .int .i64 puts] 80)) b2 [] ∧ Cb ((w.alloc (.map #[] 0)).alloc (.cells #[.map (some w.heap.size), .int .i64 puts] 80)) (b2 + 1) 80 [.map (some b2), .int .i64 puts] ∧ Ext w ((w.alloc (.map #[] 0)).alloc (.cells #[.map (some w.heap.size), .int .i64 puts] 80))) := by
    subst hb2
    have C1 := Cb.new (w.alloc (.map #[] 0)) 80 [.map (some w.heap.size), .int .i64 puts]
    rw [show (w.alloc (.map #[] 0)).heap.size = w.heap.size + 1 by simp] at C1
    exact ⟨(Mp.made w _ _).ext ((Ext.refl _).alloc _), C1, ((Ext.refl w).alloc _).alloc _⟩
  generalize zKN = ZK at *
  replace hb2 := Lib.hid hb2
  go_enter Try.func18, Try.ntmps18
  go_upto_region 2 with (refine wpList_build_as rfl _ _ rfl #[.map (some w.heap.size), .int .i64 puts] (by simp only [List.map_toArray, List.map_cons, List.map_nil]; exact hbb) ?_; simp only [Act.put, List.setIfInBounds_toArray, List.set_cons_zero, List.set_cons_succ])
  refine wp_gen (fun W => Mp Try.prog 82 W b2 [] ∧ Cb W (b2 + 1) 80 [.map (some b2), .int .i64 puts] ∧ Ext w W) B0.out ?_
  rw [← hb2.out]
  have wb2 : w.heap.size ≤ b2 := Nat.le_of_eq hb2.out.symm
  clear B0 hbb hbz hb2 c0 c1 c1'
  obtain ⟨g2, hg2⟩ : ∃ r, r = b2 + 1 := ⟨_, rfl⟩
  rw [← hg2]
  have bg2 : b2 < g2 := by omega
  replace hg2 := Lib.hid hg2
  rintro w0 ⟨n0, k0, x0⟩
  obtain ⟨r4, hr4⟩ : ∃ r, r = w0.heap.size := ⟨_, rfl⟩
  have hm0 := HM.out.ext x0
  have c0 := CE.out _ x0
  have l3 : g2 < r4 := by rw [hr4]; exact k0.lt
  have wr4 : w.heap.size ≤ r4 := by rw [hr4]; exact x0.size
  replace n0 := Lib.hid n0
  replace k0 := Lib.hid k0
  replace x0 := Lib.hid x0
  clear HM CE
  go_wp2_with (at_range; refine wpList_range_mp rfl _ rfl place_law Try.underlying78 rfl hm0 hr4.symm ?_; intro w1 m1 x1)
  go_frame
  replace hr4 := Lib.hid hr4
  go_loopw [4] (fun _ wr => ∃ (lf : Value → Prop) (cnt : Nat) (L1 : List Kp), Mr Try.prog 82 wr mb r4 (L.map fun y => (y.kv, y.vv)) lf cnt ∧ Mp Try.prog 82 wr b2 (L1.map Kp.ent) ∧ CpI L lf L1 ∧ Cb wr g2 80 [.map (some b2), .int .i64 puts] ∧ Ext w wr) (fun _ wr => wr.rangeLeft mb r4)
  case atStart => exact ⟨_, _, [], m1, n0.out.ext x1, CpI.start L, k0.out.ext x1, x0.out.trans x1⟩
  case round =>
    obtain ⟨lf, cnt, L1, mr, mp, ci, k2, xr⟩ := hrel
    clear m1 c0 n0 k0 hm0
    have mro : Hid (wr.rangeLeft mb r4 = cnt) := mr.left_eq
    have wsz := xr.size
    have mpl := mp.lt
    replace xr := Lib.hid xr
    replace k2 := Lib.hid k2
    replace mp := Lib.hid mp
    replace ci := Lib.hid ci
    go_wp2_with (at_next; refine wpList_next_mr Kp.kv Kp.vv rfl _ rfl place_law rfl mr ?_ ?_)
    · intro hd
      have FIN : Hid (SK wr g2 b2 L puts) := ⟨k2.out, mp.out.of_mem HS.out.mp.apart fun p => by
        constructor
        · intro q
          obtain ⟨y, hy, rfl⟩ := List.mem_map.1 q
          exact List.mem_map.2 ⟨y, (ci.out.2.1 y hy).2 (hd y hy), rfl⟩
        · intro q
          obtain ⟨y, hy, rfl⟩ := List.mem_map.1 q
          exact List.mem_map.2 ⟨y, ci.out.1 y hy, rfl⟩, HS.out.ok, HS.out.inc, HS.out.lt, HS.out.low⟩
      clear mr hd
      go_wp2_with fail
      go_ret
      exact ⟨g2, b2, rfl, by omega, wb2, FIN.out, xr.out⟩
    · intro y hy hly w3 cnt3 m3 hlt hg hs hen
      have hen' : (Instr.entry (.pointer (some ⟨r4, 0, none⟩))).run Try.prog w3 = .ok (.tuple #[.agg (knC y.pk y.n).toArray, .agg (knC y.k y.wh).toArray]) w3 := hen
      have oky := OK.out y hy
      have L_K := knC_len oky.1 y.n
      have L_V := knC_len oky.2.1 y.wh
      have S_K : (knC y.pk y.n).toArray.size = 33 := by rw [List.size_toArray, L_K]
      have S_V : (knC y.k y.wh).toArray.size = 33 := by rw [List.size_toArray, L_V]
      have O_K := one_cells (one_kn (pk := y.pk) (n := y.n))
      have O_V := one_cells (one_kn (pk := y.k) (n := y.wh))
      have st3 : ∀ i, i < wr.heap.size → i ≠ r4 → w3.heap[i]? = wr.heap[i]? := fun i hi hne => hg.block i hi (fun q => hne (Option.some.inj q))
      have X3 : Hid (Ext w w3) := Below.trans xr.out ⟨hg.os, hg.tape, hg.output, hg.size, fun i hi => st3 i (Nat.lt_of_lt_of_le hi xr.out.size) (by omega)⟩
      have k3 : Hid (Cb w3 g2 80 [.map (some b2), .int .i64 puts]) := (st3 _ k2.out.lt (by omega)).trans k2.out
      have mp3 : Mp Try.prog 82 w3 b2 (L1.map Kp.ent) := mp.out.stay (st3 _ mpl (by omega))
      have r4lt := m3.lt
      have AD : Hid (∀ s, Ext w3 s → ∃ w', (Instr.mapUpdate 78 (.map (some b2)) (.agg (knC y.pk y.n).toArray) (.agg (knC y.k y.wh).toArray)).run Try.prog s = .ok () w' ∧ (Mp Try.prog 82 w' b2 ((L1 ++ [y]).map Kp.ent) ∧ CpI L (fun key => lf key ∧ key ≠ y.kv) (L1 ++ [y])) ∧ s.grownBy w' (some b2)) := fun s e => by
        obtain ⟨kl, hkl⟩ := place_key oky.1 oky.2.2
        have hm : ∀ p ∈ L1.map Kp.ent, p.1 ≠ .agg (knC y.pk y.n).toArray := fun p hp e => by
          obtain ⟨z, hz, rfl⟩ := List.mem_map.1 hp
          have := kv_inj OK.out AP.out (ci.out.1 z hz) hy e
          rw [this] at hz
          exact (ci.out.2.1 y hy).1 hz hly
        obtain ⟨w', r1, r2, r3, _⟩ := (mp3.ext e).add place_law Try.underlying78 (by rw [List.length_map]; have := ci.out.2.2; unfold maxLen; omega) hkl hm (.agg (knC y.k y.wh).toArray)
        have r2' : Mp Try.prog 82 w' b2 ((L1 ++ [y]).map Kp.ent) := by rw [List.map_append]; exact r2
        exact ⟨w', r1, ⟨r2', ci.out.add OK.out AP.out hy hly (ent_nodup r2'.apart)⟩, r3⟩
      clear mr hen k2 mp xr hly hs hg st3 mp3 ci
      generalize knC y.k y.wh = YV at *
      generalize knC y.pk y.n = YK at *
      have K5 : Hid (Cb ((((w3.alloc (.cells ZK.toArray 82)).alloc (.cells ZK.toArray 84)).setRow w3.heap.size YK.toArray).setRow (w3.heap.size + 1) YV.toArray) w3.heap.size 82 YK ∧ Cb ((((w3.alloc (.cells ZK.toArray 82)).alloc (.cells ZK.toArray 84)).setRow w3.heap.size YK.toArray).setRow (w3.heap.size + 1) YV.toArray) (w3.heap.size + 1) 84 YV ∧ Ext w3 ((((w3.alloc (.cells ZK.toArray 82)).alloc (.cells ZK.toArray 84)).setRow w3.heap.size YK.toArray).setRow (w3.heap.size + 1) YV.toArray)) := by
        have a1 : Cb ((w3.alloc (.cells ZK.toArray 82)).alloc (.cells ZK.toArray 84)) w3.heap.size 82 ZK := heap_alloc1 _ _ _
        have a2 : Cb ((w3.alloc (.cells ZK.toArray 82)).alloc (.cells ZK.toArray 84)) (w3.heap.size + 1) 84 ZK := heap_alloc2 _ _ _
        exact ⟨(a1.set (L' := YK)).row (by omega), (a2.row (by omega)).set, below_setRow (below_setRow (((Ext.refl w3).alloc _).alloc _) (Nat.le_refl _) _) (Nat.le_succ _) _⟩
      have a1 : Hid (((w3.alloc (.cells ZK.toArray 82)).alloc (.cells ZK.toArray 84)).heap[w3.heap.size]? = some (.cells ZK.toArray 82 (0, 0))) := heap_alloc1 _ _ _
      have a2 : Hid ((((w3.alloc (.cells ZK.toArray 82)).alloc (.cells ZK.toArray 84)).setRow w3.heap.size YK.toArray).heap[w3.heap.size + 1]? = some (.cells ZK.toArray 84 (0, 0))) := (setRow_other _ _ _ _ (by omega)).trans (heap_alloc2 _ _ _)
      go_upto_region 5 with (first
        | (refine wpList_store_row rfl 82 _ _ rfl w3.heap.size YK.toArray rfl rfl 82 ZK.toArray a1.out (by rw [S_K]; rfl) (by rw [S_K, S_ZK]) O_K ?_; simp only [Act.put])
        | (refine wpList_store_row rfl 84 _ _ rfl (w3.heap.size + 1) YV.toArray rfl rfl 84 ZK.toArray a2.out (by rw [S_V]; rfl) (by rw [S_V, S_ZK]) O_V ?_; simp only [Act.put]))
      refine wp_gen (fun W => Cb W w3.heap.size 82 YK ∧ Cb W (w3.heap.size + 1) 84 YV ∧ Ext w3 W) K5.out ?_
      clear K5 a1 a2 hen'
      rintro w4 ⟨k5, k6, x4⟩
      have r5lt : r4 < w3.heap.size := r4lt
      have A4 := Lib.hid (AD.out w4.drew x4.drew)
      have T4 : Hid (∀ s, w4.drew.grownBy s (some b2) → (Cb s w3.heap.size 82 YK ∧ Cb s (w3.heap.size + 1) 84 YV) ∧ s.cell? ⟨g2, 0, none⟩ = some (.map (some b2)) ∧ Mr Try.prog 82 s mb r4 (L.map fun y => (y.kv, y.vv)) (fun key => lf key ∧ key ≠ y.kv) cnt3 ∧ Cb s g2 80 [.map (some b2), .int .i64 puts] ∧ Ext w s) := fun s e => by
        have hb : ∀ i, i < w4.heap.size → i ≠ b2 → s.heap[i]? = w4.heap[i]? := fun i hi hne => e.block i hi (fun q => hne (Option.some.inj q))
        have kg : Cb s g2 80 [.map (some b2), .int .i64 puts] := (hb _ ((k3.out.ext x4).lt) (by omega)).trans (k3.out.ext x4)
        refine ⟨⟨(hb _ k5.lt (by omega)).trans k5, (hb _ k6.lt (by omega)).trans k6⟩, kg.cell rfl, ((m3.ext x4).ext (Ext.refl _).drew).kept e (fun q => by have := Option.some.inj q; omega) (fun q => by have := Option.some.inj q; omega), kg, ?_⟩
        have x : Ext w w4 := X3.out.trans x4
        exact ⟨e.os.trans x.os, e.tape.trans x.tape, e.output.trans x.output, Nat.le_trans x.size e.size, fun i hi => (hb i (Nat.lt_of_lt_of_le hi x.size) (by omega)).trans (x.block i hi)⟩
      generalize w3.heap.size = r5 at *
      clear AD m3 k3 X3 x4 k5 k6 r4lt w3
      refine wp_region_seq (R := fun a b => a.grownBy b (some b2)) (fun w => World.grownBy.refl w _) (fun _ _ _ => gr_trans) [0, 1, 2, 3, 4, 5, 6] [6] [(0, 24, 16), (1, 25, 16777216), (2, 26, 33554432), (4, 27, 67108864), (0, 28, 32), (0, 29, 64), (63, 0, 939524096)] (by kernel_rfl) (by kernel_rfl) (by kernel_rfl) rfl (by kernel_rfl) (by kernel_rfl) (fun _ _ d _ _ h => by cases d <;> exact h) ?_
      generalize w4.drew = W at *
      clear w4
      repeat (first | (refine seq_read _ (fun w' e => (T4.out w' e).2.1) _ (v := ?_) rfl rfl (by rfl) ?_ ?_; rotate_left; (· intro w' hF; go_simp; (try with_reducible rfl)); simp only [Act.put, List.setIfInBounds_toArray, List.set_cons_zero, List.set_cons_succ]) | (refine seq_skip _ rfl rfl (by rfl) ?_; simp only [Act.put, List.setIfInBounds_toArray, List.set_cons_zero, List.set_cons_succ]))
      refine seq_read (fun w' => w'.heap[r5]? = some (.cells YK.toArray 82 (0, 0))) (fun w' e => (T4.out w' e).1.1) _ (v := .agg YK.toArray) rfl rfl (by rfl) (fun w' hF => exec_load_row rfl rfl hF rfl rfl (by rw [S_K]; rfl)) ?_
      simp only [Act.put, List.setIfInBounds_toArray, List.set_cons_zero, List.set_cons_succ]
      refine seq_read (fun w' => w'.heap[(r5 + 1)]? = some (.cells YV.toArray 84 (0, 0))) (fun w' e => (T4.out w' e).1.2) _ (v := .agg YV.toArray) rfl rfl (by rfl) (fun w' hF => exec_load_row rfl rfl hF rfl rfl (by rw [S_V]; rfl)) ?_
      simp only [Act.put, List.setIfInBounds_toArray, List.set_cons_zero, List.set_cons_succ]
      repeat (first | (refine seq_read _ (fun w' e => (T4.out w' e).2.1) _ (v := ?_) rfl rfl (by rfl) ?_ ?_; rotate_left; (· intro w' hF; go_simp; (try with_reducible rfl)); simp only [Act.put, List.setIfInBounds_toArray, List.set_cons_zero, List.set_cons_succ]) | (refine seq_skip _ rfl rfl (by rfl) ?_; simp only [Act.put, List.setIfInBounds_toArray, List.set_cons_zero, List.set_cons_succ]))
      refine seq_do _ rfl rfl (by rfl) (fun K hK => ?_)
      obtain ⟨w5, d1, d2, d3⟩ := A4.out
      refine wp_mapUpdate rfl rfl rfl rfl d1 ?_
      refine hK.out _ _ d3 ?_
      clear hK K
      try simp only [Act.put, List.setIfInBounds_toArray, List.set_cons_zero, List.set_cons_succ]
      repeat (first | (refine seq_read (fun _ => True) (fun _ _ => trivial) _ (v := ?_) rfl rfl (by rfl) ?_ ?_; rotate_left; (· intro w' hF; go_simp; (try with_reducible rfl)); simp only [Act.put, List.setIfInBounds_toArray, List.set_cons_zero, List.set_cons_succ]) | (refine seq_skip _ rfl rfl (by rfl) ?_; simp only [Act.put, List.setIfInBounds_toArray, List.set_cons_zero, List.set_cons_succ]))
      refine seq_done ?_
      obtain ⟨_, _, f1, f2, f3⟩ := T4.out _ d3
      replace d2 := Lib.hid d2
      clear T4 A4 d1 d3
      go_wp2_with fail
      go_round
      case rel => exact ⟨_, cnt3, _, f1, d2.out.1, d2.out.2, f2, f3⟩
      case measure => rw [f1.left_eq, mro.out]; exact hlt
end Go.Proofs.Ytonjialkfbbhpaa
