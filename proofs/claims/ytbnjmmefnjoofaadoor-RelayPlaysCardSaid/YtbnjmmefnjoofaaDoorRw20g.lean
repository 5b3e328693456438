import Derived.Test.YtbnjmmefnjoofaaDoorPkC
/-
  The document's relay: Send (the walk).
-/
namespace Go.Proofs.YtbnjmmefnjoofaaDoor
open Go.ChangeShapes Go.WideShapes Go.ChangeAt Go.RowKit Go.Deep Go.Maps
set_option maxRecDepth 100000

theorem BsB.tb {B : Nat} {a b : World} {A : Option Addr} {n c : Nat} {xs : List UInt8} (h : BsB B a A n c xs) (k : Tb B tagX a b) : BsB B b A n c xs := by
  have key : 0 < n → ∀ q, A = some q → q.block < a.heap.size → b.heap[q.block]? = a.heap[q.block]? := fun h0 q hq hlt => by
    obtain ⟨o, ho⟩ : ∃ o, a.heap[q.block]? = some o := ⟨_, Array.getElem?_eq_getElem hlt⟩
    rw [ho]
    rcases h.2 h0 q hq with z | ⟨cs, fr, z⟩
    · exact k.2.2.2.2 _ _ ho (.inl z)
    · refine k.2.2.2.2 _ _ ho (.inr ?_)
      rw [z] at ho
      injection ho with ho
      subst ho
      rfl
  refine ⟨⟨h.1.1, h.1.2.1, h.1.2.2.1, fun h0 => ?_⟩, fun h0 q hq => ?_⟩
  · obtain ⟨b', off, hA, hb, hc⟩ := h.1.2.2.2 h0
    exact ⟨b', off, hA, Nat.lt_of_lt_of_le hb k.size, fun j hj => (World.cell?_of_block (w := a) (a := ⟨b', off + j, none⟩) (key h0 ⟨b', off, none⟩ hA hb)).trans (hc j hj)⟩
  · rcases h.2 h0 q hq with z | ⟨cs, fr, z⟩
    · exact .inl z
    · exact .inr ⟨cs, fr, (key h0 q hq (heap_lt z)).trans z⟩
section
variable {B g ticks N : Nat} {w : World} {root : List UInt8} {h : Nat → Option Ra}
set_option maxHeartbeats 16000000 in
theorem rwsend_calls (k : RW B w g root ticks h N) (hB : B ≤ w.heap.size) (hN : N ≤ 100000) {fr tw p n : Int} {cm pk body tag : List UInt8} {A : Option Addr} {m c : Nat} {now : Int} (hc : cm.length = 32) (hk : pk.length = 32) (ht : tag.length = 32) (hbB : BsB B w A m c body)
    (f1 : -9223372036854775808 ≤ fr) (f2 : fr ≤ 9223372036854775807) (t1 : -9223372036854775808 ≤ tw) (t2 : tw ≤ 9223372036854775807) (n1 : -9223372036854775808 ≤ now) (n2 : now ≤ 9223372036854775807) :
    Calls Tryd.prog 34 #[.pointer (some ⟨g, 0, none⟩), .agg (evC fr tw cm pk p n A m c).toArray, .agg (cellsOf tag).toArray, .int .i64 now] w (SnP B w g root ticks h N (okE fr tw p n m) fr tw (fun lk => tgL lk fr tw cm pk p n body) cm pk p n body tag now) := by
  have hb := hbB.1
  have TG : Hid (∀ (lk : List UInt8), lk.length = 32 → ∀ W, Ext w W → Calls Tryd.prog 33 #[.agg (cellsOf lk).toArray, .agg (evC fr tw cm pk p n A m c).toArray] W fun e w' => e = .returned (.tuple #[.agg (cellsOf (tgL lk fr tw cm pk p n body)).toArray, .int .i64 (enE fr tw p n m)]) ∧ Ext W w') := fun lk ll W x => rwtag_calls ll hc hk (hb.ext x)
  have TL : ∀ lk, (tgL lk fr tw cm pk p n body).length = 32 := fun lk => tgL_len _ _ _ _ _ _ _ _
  have L_ev := evC_len hc hk fr tw p n A m c
  have S_t : (cellsOf tag).toArray.size = 32 := by simp [cellsOf_len, ht]
  have ER : Hid (∀ b, okE fr tw p n m = b → enE fr tw p n m = if b then 0 else 1) := fun b q => by unfold enE; rw [q]
  obtain ⟨ok, hok⟩ : ∃ ok, ok = okE fr tw p n m := ⟨_, rfl⟩
  have ER' := ER.out ok hok.symm
  rw [ER'] at TG
  rw [← hok]
  clear ER ER'
  replace hok := Lib.hid (fun _ : Unit => hok)
  obtain ⟨T, hT⟩ : ∃ T : List UInt8 → List UInt8, T = fun lk => tgL lk fr tw cm pk p n body := ⟨_, rfl⟩
  have hT' : ∀ lk, tgL lk fr tw cm pk p n body = T lk := fun lk => by rw [hT]
  simp only [hT'] at TG TL ⊢
  clear hT hT'
  replace TL := Lib.hid TL
  have e0 : Hid ((evC fr tw cm pk p n A m c)[0]? = some (.int .i64 fr)) := rfl
  have e1 : Hid ((evC fr tw cm pk p n A m c)[1]? = some (.int .i64 tw)) := rfl
  obtain ⟨ev, hev⟩ : ∃ ev, ev = evC fr tw cm pk p n A m c := ⟨_, rfl⟩
  rw [← hev] at TG L_ev e0 e1 ⊢
  replace hev := Lib.hid (fun _ : Unit => hev)
  have S_ev : ev.toArray.size = 69 := by rw [List.size_toArray, L_ev]
  have hal := stamp_alloc16
  have halk := key_alloc16
  have BZ := Lib.hid stamp_built0
  have BK := Lib.hid zeros32_built
  have TG0 := Lib.hid (TG.out (List.replicate 32 0) rfl)
  rw [zeros32_cells] at TG0
  have S_K := zeros32_size
  have O_K := zeros32_one
  generalize zeros32 = ZK at *
  have L_Z := Sm.C_len zSm_ok
  have O_Z := one_cells zSm.one
  obtain ⟨ZS, hZS⟩ : ∃ ZS, ZS = zSm.C := ⟨_, rfl⟩
  rw [← hZS] at hal BZ L_Z O_Z
  have S_Z : ZS.toArray.size = 68 := by rw [List.size_toArray, L_Z]
  replace hZS := Lib.hid (fun _ : Unit => hZS)
  have NO : Hid (∀ z, snE h ok fr tw T tag now = z → z ≠ 0 → ∀ W, Ext w W → ∀ e, e = .returned (.tuple #[.agg ZS.toArray, .int .i64 z]) → SnP B w g root ticks h N ok fr tw T cm pk p n body tag now e W) := fun z h hz W x e he => ⟨fun _ => ⟨by rw [he, h, hZS.out ()], x⟩, fun q => by rw [h] at q; exact absurd q hz⟩
  obtain ⟨r, hr⟩ : ∃ x, x = w.heap.size := ⟨_, rfl⟩
  have B0 : Hid (Cb (((w.alloc (.cells ev.toArray 37)).alloc (.cells (cellsOf tag).toArray 23)).alloc (.cells ZS.toArray 67)) r 37 ev ∧ Ky (((w.alloc (.cells ev.toArray 37)).alloc (.cells (cellsOf tag).toArray 23)).alloc (.cells ZS.toArray 67)) (r + 1) tag ∧ Cb (((w.alloc (.cells ev.toArray 37)).alloc (.cells (cellsOf tag).toArray 23)).alloc (.cells ZS.toArray 67)) (r + 1 + 1) 67 ZS ∧ Ext w (((w.alloc (.cells ev.toArray 37)).alloc (.cells (cellsOf tag).toArray 23)).alloc (.cells ZS.toArray 67))) := by
    rw [hr]; exact ⟨heap_alloc30 _ _ _ _, ⟨heap_alloc31 _ _ _ _, ht⟩, heap_alloc32 _ _ _ _, (((Ext.refl w).alloc _).alloc _).alloc _⟩
  have TI : Hid (∀ W : World, Calls Tryd.prog 58 #[.int .i64 now] W fun e w' => e = .returned (.bool (upB now 1000000)) ∧ Ext W w') := fun W => rTime_calls
  replace k := Lib.hid k
  clear hb
  replace hbB := Lib.hid hbB
  go_enter Tryd.func34, Tryd.ntmps34
  go_upto_region 1 with fail
  refine wp_gen (fun W => Cb W r 37 ev ∧ Ky W (r + 1) tag ∧ Cb W (r + 1 + 1) 67 ZS ∧ Ext w W) B0.out ?_
  rw [← hr]
  have wr : w.heap.size ≤ r := Nat.le_of_eq hr.symm
  replace hr := Lib.hid hr
  clear B0
  rintro w0 ⟨k0, k1, k2, x0⟩
  have TG1 := Lib.hid (TG0.out w0 x0)
  replace k1 := Lib.hid k1
  replace k2 := Lib.hid k2
  replace x0 := Lib.hid x0
  clear TG0
  go_wp2_with (first | ((with_reducible refine wpList_load_rowW (o := ⟨some 20, _, _, _, _, _⟩) ?_ 37 _ rfl r ?_ 37 ev.toArray (0, 0) _ ?_ Tryd.underlying37 ?_ ?_ ?_); (· rfl); (· rfl); (· exact k0); (· rfl); (· rw [S_ev]; rfl); go_frame) | (refine wpList_build_as rfl _ _ rfl ZK (by simp only [List.map_toArray, List.map_nil]; exact BK.out) ?_; go_frame))
  refine TG1.out.mono ?_
  rintro e w1 ⟨rfl, x1⟩
  have X1 : Hid (Ext w w1) := x0.out.trans x1
  have LT0 := TL.out (List.replicate 32 0)
  generalize T (List.replicate 32 0) = T0 at *
  have S_0 : (cellsOf T0).toArray.size = 32 := by simp [cellsOf_len, LT0]
  have O_0 := cellsOf_one T0
  have kq : (w1.alloc (.cells ZK 23)).heap[w1.heap.size]? = some (.cells ZK 23 (0, 0)) := heap_alloc_new _ _
  have G1 : Hid (Cb ((w1.alloc (.cells ZK 23)).setRow w1.heap.size (cellsOf T0).toArray) r 37 ev ∧ Ky ((w1.alloc (.cells ZK 23)).setRow w1.heap.size (cellsOf T0).toArray) (r + 1) tag ∧ Cb ((w1.alloc (.cells ZK 23)).setRow w1.heap.size (cellsOf T0).toArray) (r + 1 + 1) 67 ZS ∧ Ext w ((w1.alloc (.cells ZK 23)).setRow w1.heap.size (cellsOf T0).toArray)) := by
    have x : Ext w1 ((w1.alloc (.cells ZK 23)).setRow w1.heap.size (cellsOf T0).toArray) := below_setRow ((Ext.refl w1).alloc _) (Nat.le_refl _) _
    exact ⟨(k0.ext x1).ext x, (k1.out.ext x1).ext x, (k2.out.ext x1).ext x, X1.out.trans x⟩
  clear k0 k1 k2 x0 x1 TG1 X1
  go_upto_region 2 with (first
    | (refine wpList_store_row rfl 23 _ _ rfl w1.heap.size (cellsOf T0).toArray rfl rfl 23 ZK kq (by rw [S_0]; rfl) (by rw [S_0, S_K]) O_0 ?_; simp only [Act.put]))
  refine wp_gen (fun W => Cb W r 37 ev ∧ Ky W (r + 1) tag ∧ Cb W (r + 1 + 1) 67 ZS ∧ Ext w W) G1.out ?_
  clear G1 kq S_0 O_0 LT0
  generalize w1.heap.size = q1_
  rintro w2 ⟨k0, k1, k2, x2⟩
  replace k1 := Lib.hid k1
  replace x2 := Lib.hid x2
  rcases hokb : ok with _ | _
  · have FIN : Hid (∀ e, e = .returned (.tuple #[.agg ZS.toArray, .int .i64 1]) → SnP B w g root ticks h N ok fr tw T cm pk p n body tag now e (w2.setRow (r + 1 + 1) ZS.toArray)) := NO.out 1 (snE_arg (.inl hokb)) (by decide) _ (below_setRow x2.out (by omega) _)
    subst hokb
    clear NO k0 k1 x2
    go_wp2_with (first
      | (refine wpList_build_as rfl _ _ rfl ZS.toArray (by simp only [List.map_toArray, List.map_nil]; exact BZ.out) ?_; go_frame)
      | (refine wpList_store_row rfl 67 _ _ rfl (r + 1 + 1) ZS.toArray rfl rfl 67 ZS.toArray k2 (by rw [S_Z]; rfl) rfl O_Z ?_; simp only [Act.put]))
    (try simp only [Exit.inBlock, Exit.then])
    refine bodyPost_ret (results_row_tmp rfl _ _ (r + 1 + 1) 67 ZS.toArray (0, 0) _ _ rfl rfl (setRow_heap _ _ _ _ _ _ k2) rfl rfl (by rw [S_Z]; rfl)) rfl ?_
    exact FIN.out _ rfl
  have b0 := k0.cell e0.out
  have b1c := k0.cell e1.out
  by_cases hft : fr = tw
  · have FIN : Hid (∀ e, e = .returned (.tuple #[.agg ZS.toArray, .int .i64 1]) → SnP B w g root ticks h N ok fr tw T cm pk p n body tag now e (w2.setRow (r + 1 + 1) ZS.toArray)) := NO.out 1 (snE_arg (.inr (.inl hft))) (by decide) _ (below_setRow x2.out (by omega) _)
    subst hokb
    have q1 : (fr == tw) = true := by simp [hft]
    clear NO k0 k1 x2 hft
    go_wp2_with (first
      | (refine wpList_build_as rfl _ _ rfl ZS.toArray (by simp only [List.map_toArray, List.map_nil]; exact BZ.out) ?_; go_frame)
      | (refine wpList_store_row rfl 67 _ _ rfl (r + 1 + 1) ZS.toArray rfl rfl 67 ZS.toArray k2 (by rw [S_Z]; rfl) rfl O_Z ?_; simp only [Act.put]))
    (try simp only [Exit.inBlock, Exit.then])
    refine bodyPost_ret (results_row_tmp rfl _ _ (r + 1 + 1) 67 ZS.toArray (0, 0) _ _ rfl rfl (setRow_heap _ _ _ _ _ _ k2) rfl rfl (by rw [S_Z]; rfl)) rfl ?_
    exact FIN.out _ rfl
  have q1 : (fr == tw) = false := by simp [hft]
  have TI2 := Lib.hid (TI.out w2)
  replace k0 := Lib.hid k0
  go_wp2_with fail
  refine TI2.out.mono ?_
  rintro e w3 ⟨rfl, x3⟩
  have X3 : Hid (Ext w w3) := x2.out.trans x3
  have K0 : Hid (Cb w3 r 37 ev) := k0.out.ext x3
  have K1 : Hid (Ky w3 (r + 1) tag) := k1.out.ext x3
  have K2 := k2.ext x3
  clear TI2 TI k0 k1 k2 x2 x3 b0 b1c
  by_cases hnb : now < 0 ∨ 1000000 < now
  · have FIN : Hid (∀ e, e = .returned (.tuple #[.agg ZS.toArray, .int .i64 1]) → SnP B w g root ticks h N ok fr tw T cm pk p n body tag now e (w3.setRow (r + 1 + 1) ZS.toArray)) := NO.out 1 (snE_arg (.inr (.inr hnb))) (by decide) _ (below_setRow X3.out (by omega) _)
    have u : upB now 1000000 = false := by
      unfold upB
      rcases hnb with z | z
      · rw [decide_eq_false (by omega : ¬ 0 ≤ now)]; rfl
      · rw [decide_eq_false (by omega : ¬ now ≤ 1000000)]; simp
    rw [u]
    subst hokb
    clear NO K0 K1 X3 u hnb hft
    go_wp2_with (first
      | (refine wpList_build_as rfl _ _ rfl ZS.toArray (by simp only [List.map_toArray, List.map_nil]; exact BZ.out) ?_; go_frame)
      | (refine wpList_store_row rfl 67 _ _ rfl (r + 1 + 1) ZS.toArray rfl rfl 67 ZS.toArray K2 (by rw [S_Z]; rfl) rfl O_Z ?_; simp only [Act.put]))
    (try simp only [Exit.inBlock, Exit.then])
    refine bodyPost_ret (results_row_tmp rfl _ _ (r + 1 + 1) 67 ZS.toArray (0, 0) _ _ rfl rfl (setRow_heap _ _ _ _ _ _ K2) rfl rfl (by rw [S_Z]; rfl)) rfl ?_
    exact FIN.out _ rfl
  have u : upB now 1000000 = true := by
    unfold upB
    rw [decide_eq_true (by omega : 0 ≤ now), decide_eq_true (by omega : now ≤ 1000000)]
    rfl
  rw [u]
  have NB : Hid (¬(fr = tw ∨ now < 0 ∨ 1000000 < now)) := fun z => hnb (z.resolve_left hft)
  have NA : Hid (¬(now < 0 ∨ 1000000 < now)) := hnb
  subst hokb
  clear u hnb hft q1
  have FA : Hid (∀ W, Ext w W → ∀ z : Int, -9223372036854775808 ≤ z → z ≤ 9223372036854775807 → Calls Tryd.prog 37 #[.pointer (some ⟨g, 0, none⟩), .int .i64 z] W fun e w' => e = .returned (.pointer ((fdR h z).bind fun i => (h i).map fun a => ⟨a.bk, 0, none⟩)) ∧ w' = W) := fun W x z z1 z2 => by
    rcases hz : fdR h z with _ | i
    · exact of_no (k.out.ext x) z1 z2 hz
    · obtain ⟨rfl, i8, a, ha⟩ := fdR_some hz
      have := of_ok (k.out.ext x) ha i8
      rw [show ((some i).bind fun i => (h i).map fun a => (⟨a.bk, 0, none⟩ : Addr)) = some ⟨a.bk, 0, none⟩ by simp [ha]]
      exact this
  have FA1 := Lib.hid (FA.out w3 X3.out fr f1 f2)
  have FA2 := Lib.hid (FA.out w3 X3.out tw t1 t2)
  have b0 := K0.out.cell e0.out
  have b1c := K0.out.cell e1.out
  clear FA
  go_wp2_with fail
  refine FA1.out.mono ?_
  rintro e w4 ⟨rfl, hw⟩
  subst hw
  go_wp2_with fail
  refine FA2.out.mono ?_
  rintro e w5 ⟨rfl, hw⟩
  subst hw
  clear FA1 FA2 b0 b1c
  rcases hi : fdR h fr with _ | i
  · have FIN : Hid (∀ e, e = .returned (.tuple #[.agg ZS.toArray, .int .i64 7]) → SnP B w g root ticks h N true fr tw T cm pk p n body tag now e (w5.setRow (r + 1 + 1) ZS.toArray)) := NO.out 7 (snE_none rfl NB.out (.inl hi)) (by decide) _ (below_setRow X3.out (by omega) _)
    clear NO K0 K1 X3 NB NA hi
    simp only [Option.bind_none]
    go_wp2_with (first
      | (refine wpList_build_as rfl _ _ rfl ZS.toArray (by simp only [List.map_toArray, List.map_nil]; exact BZ.out) ?_; go_frame)
      | (refine wpList_store_row rfl 67 _ _ rfl (r + 1 + 1) ZS.toArray rfl rfl 67 ZS.toArray K2 (by rw [S_Z]; rfl) rfl O_Z ?_; simp only [Act.put]))
    (try simp only [Exit.inBlock, Exit.then])
    refine bodyPost_ret (results_row_tmp rfl _ _ (r + 1 + 1) 67 ZS.toArray (0, 0) _ _ rfl rfl (setRow_heap _ _ _ _ _ _ K2) rfl rfl (by rw [S_Z]; rfl)) rfl ?_
    exact FIN.out _ rfl
  obtain ⟨rfl, i8, a, ha⟩ := fdR_some hi
  rw [show ((some i).bind fun i => (h i).map fun a => (⟨a.bk, 0, none⟩ : Addr)) = some ⟨a.bk, 0, none⟩ by simp [ha]]
  rcases hj : fdR h tw with _ | j
  · have FIN : Hid (∀ e, e = .returned (.tuple #[.agg ZS.toArray, .int .i64 7]) → SnP B w g root ticks h N true (i : Int) tw T cm pk p n body tag now e (w5.setRow (r + 1 + 1) ZS.toArray)) := NO.out 7 (snE_none rfl NB.out (.inr hj)) (by decide) _ (below_setRow X3.out (by omega) _)
    clear NO K0 K1 X3 NB NA hj hi
    simp only [Option.bind_none]
    go_wp2_with (first
      | (refine wpList_build_as rfl _ _ rfl ZS.toArray (by simp only [List.map_toArray, List.map_nil]; exact BZ.out) ?_; go_frame)
      | (refine wpList_store_row rfl 67 _ _ rfl (r + 1 + 1) ZS.toArray rfl rfl 67 ZS.toArray K2 (by rw [S_Z]; rfl) rfl O_Z ?_; simp only [Act.put]))
    (try simp only [Exit.inBlock, Exit.then])
    refine bodyPost_ret (results_row_tmp rfl _ _ (r + 1 + 1) 67 ZS.toArray (0, 0) _ _ rfl rfl (setRow_heap _ _ _ _ _ _ K2) rfl rfl (by rw [S_Z]; rfl)) rfl ?_
    exact FIN.out _ rfl
  obtain ⟨rfl, j8, b, hbj⟩ := fdR_some hj
  rw [show ((some j).bind fun i => (h i).map fun a => (⟨a.bk, 0, none⟩ : Addr)) = some ⟨b.bk, 0, none⟩ by simp [hbj]]
  have ADM := snE_in (T := T) (tg := tag) rfl NB.out ha i8 hbj j8
  have h5 := k.out.ext X3.out
  have ln := (h5.acc ha).1
  have L_l : (cellsOf a.lk).length = 32 := by rw [cellsOf_len, ln.1]
  have AL : Hid (∀ u, Ext w u → (∀ i v, (cellsOf a.lk)[i]? = some v → u.cell? ⟨a.bk, 0 + i, none⟩ = some v)) := fun u x => ((k.out.ext x).acc ha).2.1.mid (p := []) (y := cellsOf a.lk) (q := bbC a.bb a.ho ++ [.slice a.A a.n a.c, .pointer (some ⟨a.bx, 0, none⟩), .pointer (some ⟨a.tk, 0, none⟩), .bool a.out]) rfl rfl
  have TGa : Hid (∀ W, Ext w W → Calls Tryd.prog 33 #[.agg (cellsOf a.lk).toArray, .agg ev.toArray] W fun e w' => e = .returned (.tuple #[.agg (cellsOf (T a.lk)).toArray, .int .i64 0]) ∧ Ext W w') := fun W x => by
    have := TG.out a.lk ln.1 W x
    simpa only [if_true] using this
  have LTa := TL.out a.lk
  obtain ⟨Ta, hTa⟩ : ∃ x, x = T a.lk := ⟨_, rfl⟩
  rw [← hTa] at TGa LTa ADM
  have S_Ta : (cellsOf Ta).toArray.size = 32 := by simp [cellsOf_len, LTa]
  have O_Ta := cellsOf_one Ta
  replace hTa := Lib.hid (fun _ : Unit => hTa)
  replace ADM := Lib.hid ADM
  have P5 : Hid (∀ u, Ext w5 u → Cb u r 37 ev ∧ Ext w u) := fun u x => ⟨K0.out.ext x, X3.out.trans x⟩
  have K2H : Hid (Cb w5 (r + 1 + 1) 67 ZS) := K2
  clear h5 TG TL K2 hi hj
  go_upto_region 8 with fail
  go_cut [14, 15] (fun s14 s15 wx => ∃ gT : Nat, s14 = .pointer (some ⟨gT, 0, none⟩) ∧ s15 = .int .i64 0 ∧ Ext w5 wx ∧ Ky wx gT Ta ∧ w5.heap.size ≤ gT)
  case first =>
    refine qgT (R := Below w5.heap.size) (Below.refl _) (fun _ _ _ => Below.trans) (.rd 0 (.rd 1 (.rd 2 (.rd 3 (.rd 4 (.alt 5 (.rd 6 (.rd 7 (.rd 8 (.alt 9 (.alt 10 (.rd 11 .nil) .stop) .stop)))) (.alt 9 (.alt 5 (.rd 6 (.rd 7 (.rd 8 (.alt 10 (.rd 11 .nil) .stop)))) .stop) .stop))))))) 12 ?_
    refine qtR0 ?_
    go_frame
    refine qtR0 ?_
    go_frame
    refine qtR0 ?_
    go_frame
    refine qtV rfl (fun w' => ∀ q_ v, (cellsOf a.lk)[q_]? = some v → w'.cell? ⟨a.bk, 0 + q_, none⟩ = some v) (fun w' e => AL.out w' (X3.out.trans (Ext.trans (Ext.refl _).drew e))) (.agg (cellsOf a.lk).toArray) (fun w' hF => exec_load_mid rfl rfl hF rfl rfl (by rw [L_l]; rfl)) ?_
    go_frame
    refine qtV rfl (fun w' => w'.heap[r]? = some (.cells ev.toArray 37 (0, 0))) (fun w' e => (P5.out w' (Ext.trans (Ext.refl _).drew e)).1) (.agg ev.toArray) (fun w' hF => exec_load_row rfl rfl hF rfl rfl (by rw [S_ev]; rfl)) ?_
    go_frame
    have SE : Hid (Ext w5 w5.drew) := (Ext.refl w5).drew
    generalize w5.drew = WC at *
    repeat' (first
      | exact seqT_stop
      | (refine seqT_do (i := 5) _ rfl ?_ ?_ (fun K1 hK1 => ?_)
         (· rfl)
         rotate_left
         go_simp
         refine (TGa.out _ (X3.out.trans SE.out)).mono ?_
         rintro e0 WC ⟨rfl, e⟩
         refine hK1.out _ _ (e.mono SE.out.size) ?_
         clear hK1 K1
         (try replace hL := Lib.hid ((e.block _ (heap_lt hL.out)).trans hL.out))
         replace SE := Lib.hid (SE.out.trans e)
         clear e
         (try go_frame)
         repeat ((first | refine qtR0 ?_ | refine qtS ?_); go_frame)
         skip)
      | (refine seqT_do (i := 9) _ rfl ?_ ?_ (fun K1 hK1 => ?_)
         (· rfl)
         rotate_left
         go_simp
         have e : Ext WC (WC.alloc (Obj.cells ZK 23)) := (Ext.refl WC).alloc _
         obtain ⟨gT, hgT⟩ : ∃ g, g = WC.heap.size := ⟨_, rfl⟩
         have hL := Lib.hid (heap_alloc_new WC (Obj.cells ZK 23))
         rw [← hgT] at hL ⊢
         have zl : w5.heap.size ≤ gT := by rw [hgT]; exact SE.out.size
         refine hK1.out _ (WC.alloc (Obj.cells ZK 23)) (e.mono SE.out.size) ?_
         clear hK1 K1
         replace SE := Lib.hid (SE.out.trans e)
         clear e
         replace hgT := Lib.hid hgT
         generalize WC.alloc (Obj.cells ZK 23) = WC at *
         (try go_frame)
         repeat ((first | refine qtR0 ?_ | refine qtS ?_); go_frame)
         skip)
      | (refine seqT_do (i := 10) _ rfl ?_ ?_ (fun K1 hK1 => ?_)
         (· rfl)
         rotate_left
         refine wp_store_row _ _ _ rfl gT (cellsOf Ta).toArray rfl rfl 23 ZK hL.out (by rw [S_Ta]; rfl) (by rw [S_Ta, S_K]) O_Ta ?_
         refine hK1.out _ _ (below_setRow (Below.refl _ _) zl _) ?_
         clear hK1 K1
         replace SE : Hid (Ext w5 (WC.setRow gT (cellsOf Ta).toArray)) := below_setRow SE.out zl _
         replace hL : Hid (Ky (WC.setRow gT (cellsOf Ta).toArray) gT Ta) := ⟨setRow_heap _ _ _ _ _ _ hL.out, LTa⟩
         generalize WC.setRow gT (cellsOf Ta).toArray = WC at *
         (try simp only [Act.put])
         repeat ((first | refine qtR0 ?_ | refine qtS ?_); go_frame)
         skip)
      | (refine seqT_done ?_
         go_wp2_with fail
         go_meet
         exact ⟨gT, rfl, rfl, SE.out, hL.out, zl⟩))
  case rest =>
    obtain ⟨gT, rfl, rfl, x6, kT, zT⟩ := hcut
    have X6 : Hid (Ext w wc) := X3.out.trans x6
    have K06 : Hid (Cb wc r 37 ev) := K0.out.ext x6
    have K16 := (K1.out.ext x6).1
    have K26 := K2H.out.ext x6
    have kT' := kT.1
    have AD1 := ADM.out
    clear AL TGa x6 kT
    by_cases hm : tag = Ta
    rotate_left
    · rw [if_neg hm] at AD1
      have dm : (!decide (tag = Ta)) = true := by simp [hm]
      have FIN : Hid (∀ e, e = .returned (.tuple #[.agg ZS.toArray, .int .i64 4]) → SnP B w g root ticks h N true (i : Int) (j : Int) T cm pk p n body tag now e (wc.setRow (r + 1 + 1) ZS.toArray)) := NO.out 4 AD1 (by decide) _ (below_setRow X6.out (by omega) _)
      clear NO X6 AD1 ADM
      go_wp2_with (first
        | ((with_reducible refine wpList_load_rowW (o := ⟨some 63, _, _, _, _, _⟩) ?_ 23 _ rfl (r + 1) ?_ 23 (cellsOf tag).toArray (0, 0) _ ?_ Tryd.underlying23 ?_ ?_ ?_); (· rfl); (· rfl); (· exact K16); (· rfl); (· rw [S_t]; rfl); go_frame)
        | ((with_reducible refine wpList_load_rowW (o := ⟨some 64, _, _, _, _, _⟩) ?_ 23 _ rfl gT ?_ 23 (cellsOf Ta).toArray (0, 0) _ ?_ Tryd.underlying23 ?_ ?_ ?_); (· rfl); (· rfl); (· exact kT'); (· rfl); (· rw [S_Ta]; rfl); go_frame)
        | (refine wpList_exec rfl (exec_neq_keyB (xs := tag) (ys := Ta) dm ht LTa rfl rfl rfl) ?_; go_frame)
        | (refine wpList_build_as rfl _ _ rfl ZS.toArray (by simp only [List.map_toArray, List.map_nil]; exact BZ.out) ?_; go_frame)
        | (refine wpList_store_row rfl 67 _ _ rfl (r + 1 + 1) ZS.toArray rfl rfl 67 ZS.toArray K26 (by rw [S_Z]; rfl) rfl O_Z ?_; simp only [Act.put]))
      (try simp only [Exit.inBlock, Exit.then])
      refine bodyPost_ret (results_row_tmp rfl _ _ (r + 1 + 1) 67 ZS.toArray (0, 0) _ _ rfl rfl (setRow_heap _ _ _ _ _ _ K26) rfl rfl (by rw [S_Z]; rfl)) rfl ?_
      exact FIN.out _ rfl
    rw [if_pos hm] at AD1
    have dm : (!decide (tag = Ta)) = false := by simp [hm]
    have h6 := k.out.ext X6.out
    have c5 := (h6.acc ha).2.1.cell (a.a0 ln).2.2.2
    rcases ho : a.out with _ | _
    rotate_left
    · rw [ho] at AD1 c5
      replace AD1 : snE h true (i : Int) (j : Int) T tag now = 11 := AD1
      have FIN : Hid (∀ e, e = .returned (.tuple #[.agg ZS.toArray, .int .i64 11]) → SnP B w g root ticks h N true (i : Int) (j : Int) T cm pk p n body tag now e (wc.setRow (r + 1 + 1) ZS.toArray)) := NO.out 11 AD1 (by decide) _ (below_setRow X6.out (by omega) _)
      clear NO X6 AD1 ADM h6 hm
      go_wp2_with (first
        | ((with_reducible refine wpList_load_rowW (o := ⟨some 63, _, _, _, _, _⟩) ?_ 23 _ rfl (r + 1) ?_ 23 (cellsOf tag).toArray (0, 0) _ ?_ Tryd.underlying23 ?_ ?_ ?_); (· rfl); (· rfl); (· exact K16); (· rfl); (· rw [S_t]; rfl); go_frame)
        | ((with_reducible refine wpList_load_rowW (o := ⟨some 64, _, _, _, _, _⟩) ?_ 23 _ rfl gT ?_ 23 (cellsOf Ta).toArray (0, 0) _ ?_ Tryd.underlying23 ?_ ?_ ?_); (· rfl); (· rfl); (· exact kT'); (· rfl); (· rw [S_Ta]; rfl); go_frame)
        | (refine wpList_exec rfl (exec_neq_keyB (xs := tag) (ys := Ta) dm ht LTa rfl rfl rfl) ?_; go_frame)
        | (refine wpList_build_as rfl _ _ rfl ZS.toArray (by simp only [List.map_toArray, List.map_nil]; exact BZ.out) ?_; go_frame)
        | (refine wpList_store_row rfl 67 _ _ rfl (r + 1 + 1) ZS.toArray rfl rfl 67 ZS.toArray K26 (by rw [S_Z]; rfl) rfl O_Z ?_; simp only [Act.put]))
      (try simp only [Exit.inBlock, Exit.then])
      refine bodyPost_ret (results_row_tmp rfl _ _ (r + 1 + 1) 67 ZS.toArray (0, 0) _ _ rfl rfl (setRow_heap _ _ _ _ _ _ K26) rfl rfl (by rw [S_Z]; rfl)) rfl ?_
      exact FIN.out _ rfl
    rw [ho] at AD1 c5
    replace AD1 : snE h true (i : Int) (j : Int) T tag now = if 8 ≤ b.L.length then 8 else 0 := AD1
    have c3 := (h6.acc hbj).2.1.cell (b.a0 (h6.acc hbj).1).2.1
    obtain ⟨bA, bn, bc, hcb, how, hbd⟩ := (h6.acc hbj).2.2.2.1
    have cb0 := hcb.cell (j := 0) rfl
    have bnL : bn = b.L.length := by have := how.2.2; rw [List.length_map] at this; exact this.symm
    clear hcb how hbd
    by_cases h8 : 8 ≤ b.L.length
    · rw [if_pos h8] at AD1
      have u8 : decide ((8 : Int) ≤ (bn : Int)) = true := decide_eq_true (by omega)
      have FIN : Hid (∀ e, e = .returned (.tuple #[.agg ZS.toArray, .int .i64 8]) → SnP B w g root ticks h N true (i : Int) (j : Int) T cm pk p n body tag now e (wc.setRow (r + 1 + 1) ZS.toArray)) := NO.out 8 AD1 (by decide) _ (below_setRow X6.out (by omega) _)
      clear NO X6 AD1 ADM h6 hm h8 bnL
      go_wp2_with (first
        | ((with_reducible refine wpList_load_rowW (o := ⟨some 63, _, _, _, _, _⟩) ?_ 23 _ rfl (r + 1) ?_ 23 (cellsOf tag).toArray (0, 0) _ ?_ Tryd.underlying23 ?_ ?_ ?_); (· rfl); (· rfl); (· exact K16); (· rfl); (· rw [S_t]; rfl); go_frame)
        | ((with_reducible refine wpList_load_rowW (o := ⟨some 64, _, _, _, _, _⟩) ?_ 23 _ rfl gT ?_ 23 (cellsOf Ta).toArray (0, 0) _ ?_ Tryd.underlying23 ?_ ?_ ?_); (· rfl); (· rfl); (· exact kT'); (· rfl); (· rw [S_Ta]; rfl); go_frame)
        | (refine wpList_exec rfl (exec_neq_keyB (xs := tag) (ys := Ta) dm ht LTa rfl rfl rfl) ?_; go_frame)
        | (refine wpList_build_as rfl _ _ rfl ZS.toArray (by simp only [List.map_toArray, List.map_nil]; exact BZ.out) ?_; go_frame)
        | (refine wpList_store_row rfl 67 _ _ rfl (r + 1 + 1) ZS.toArray rfl rfl 67 ZS.toArray K26 (by rw [S_Z]; rfl) rfl O_Z ?_; simp only [Act.put]))
      (try simp only [Exit.inBlock, Exit.then])
      refine bodyPost_ret (results_row_tmp rfl _ _ (r + 1 + 1) 67 ZS.toArray (0, 0) _ _ rfl rfl (setRow_heap _ _ _ _ _ _ K26) rfl rfl (by rw [S_Z]; rfl)) rfl ?_
      exact FIN.out _ rfl
    rw [if_neg h8] at AD1
    have u8 : decide ((8 : Int) ≤ (bn : Int)) = false := decide_eq_false (by omega)
    obtain ⟨et, t', k', hbt⟩ : ∃ et t' k', bkTake 5 10 a.t a.k now = (et, t', k') := ⟨_, _, _, rfl⟩
    have TK := Lib.hid (h6.take ha n1 n2 hbt)
    have c4 := (h6.acc ha).2.1.cell (a.a0 ln).2.2.1
    have hij : i ≠ j := fun z => NB.out (.inl (by rw [z]))
    have RES0 : Hid (∀ e W, et ≠ 0 → e = .returned (.tuple #[.agg ZS.toArray, .int .i64 et]) → RW B W g root ticks (updR h i (some { a with t := t', k := k' })) N → Tb B tagX w W → SnP B w g root ticks h N true (i : Int) (j : Int) T cm pk p n body tag now e W) := fun e W q1 q2 q3 q4 => by
      refine ⟨fun q => absurd AD1 q, fun _ i' j' a' b' z1 z2 z3 z4 et' t1' k1' z5 => ?_⟩
      obtain rfl : i = i' := by omega
      obtain rfl : j = j' := by omega
      rw [ha] at z3
      injection z3 with z3
      subst z3
      rw [hbt] at z5
      injection z5 with z5 z6
      injection z6 with z6 z7
      subst z5 z6 z7
      exact ⟨fun _ => ⟨by rw [q2, hZS.out ()], q3, q4⟩, fun q => absurd q q1⟩
    have RES1 : Hid (∀ e W (RS : List Value) A' c', et = 0 → RS = (mkS root ticks (i : Int) (j : Int) cm now).C → e = .returned (.tuple #[.agg RS.toArray, .int .i64 0]) → RW B W g root ticks (updR (updR h i (some { a with t := t', k := k' })) j (some { b with L := b.L ++ [⟨(mlOf (i : Int) (j : Int) cm pk p n body (mkS root ticks (i : Int) (j : Int) cm now)).as (b.last + 1), A', c'⟩], last := b.last + 1 })) (N + 1) → Tb B tagX w W → SnP B w g root ticks h N true (i : Int) (j : Int) T cm pk p n body tag now e W) := fun e W RS A' c' q1 q0 q2 q3 q4 => by
      refine ⟨fun q => absurd AD1 q, fun _ i' j' a' b' z1 z2 z3 z4 et' t1' k1' z5 => ?_⟩
      obtain rfl : i = i' := by omega
      obtain rfl : j = j' := by omega
      rw [ha] at z3
      injection z3 with z3
      subst z3
      rw [hbj] at z4
      injection z4 with z4
      subst z4
      rw [hbt] at z5
      injection z5 with z5 z6
      injection z6 with z6 z7
      subst z5 z6 z7
      exact ⟨fun q => absurd q1 q, fun _ => ⟨by rw [q2, q0], ⟨A', c', q3⟩, q4⟩⟩
    have hfj : (updR h i (some { a with t := t', k := k' })) j = some b := (updR_other _ _ hij.symm).trans hbj
    replace hfj := Lib.hid hfj
    have bB6 : Hid (BsB B wc A m c body) := hbB.out.ext X6.out
    have lb8 : Hid (¬ 8 ≤ b.L.length) := h8
    clear NO AD1 ADM h6 hm h8 bnL
    go_wp2_with (first
      | ((with_reducible refine wpList_load_rowW (o := ⟨some 63, _, _, _, _, _⟩) ?_ 23 _ rfl (r + 1) ?_ 23 (cellsOf tag).toArray (0, 0) _ ?_ Tryd.underlying23 ?_ ?_ ?_); (· rfl); (· rfl); (· exact K16); (· rfl); (· rw [S_t]; rfl); go_frame)
      | ((with_reducible refine wpList_load_rowW (o := ⟨some 64, _, _, _, _, _⟩) ?_ 23 _ rfl gT ?_ 23 (cellsOf Ta).toArray (0, 0) _ ?_ Tryd.underlying23 ?_ ?_ ?_); (· rfl); (· rfl); (· exact kT'); (· rfl); (· rw [S_Ta]; rfl); go_frame)
      | (refine wpList_exec rfl (exec_neq_keyB (xs := tag) (ys := Ta) dm ht LTa rfl rfl rfl) ?_; go_frame))
    refine TK.out.mono ?_
    rintro e w7 ⟨rfl, r7, t7⟩
    have K07 : Hid (Cb w7 r 37 ev) := t7.cb K06.out rfl
    have K27 : Cb w7 (r + 1 + 1) 67 ZS := t7.cb K26 rfl
    have TB7 : Hid (Tb B tagX w w7) := (Tb.of_ext X6.out).trans t7
    have bB7 : Hid (BsB B w7 A m c body) := bB6.out.tb t7
    replace r7 := Lib.hid r7
    clear TK c4 c5 c3 cb0 K16 kT' K26 X6 t7 bB6 K06 dm u8 P5 K2H K0 K1 X3 zT
    rcases Decidable.em (et ≠ 0) with het | het
    · have rr := RW.row r7.out (C := ZS.toArray) K27 (by decide) TB7.out (by omega)
      have FIN := Lib.hid (fun e he => RES0.out e _ het he rr.1 rr.2)
      have hne : (et == 0) = false := beq_eq_false_iff_ne.2 het
      have hne2 : (et != 0) = true := by simp [het]
      clear RES0 RES1 rr r7 TB7 bB7 K07
      go_wp2_with (first
        | (refine wpList_build_as rfl _ _ rfl ZS.toArray (by simp only [List.map_toArray, List.map_nil]; exact BZ.out) ?_; go_frame)
        | (refine wpList_store_row rfl 67 _ _ rfl (r + 1 + 1) ZS.toArray rfl rfl 67 ZS.toArray K27 (by rw [S_Z]; rfl) rfl O_Z ?_; simp only [Act.put]))
      (try simp only [Exit.inBlock, Exit.then])
      refine bodyPost_ret (results_row_tmp rfl _ _ (r + 1 + 1) 67 ZS.toArray (0, 0) _ _ rfl rfl (setRow_heap _ _ _ _ _ _ K27) rfl rfl (by rw [S_Z]; rfl)) rfl ?_
      exact FIN.out _ rfl
    replace het : et = 0 := Decidable.not_not.1 het
    replace RES1 := Lib.hid (fun e W RS A' c' => RES1.out e W RS A' c' het)
    subst het
    clear RES0
    have hokm : okE (i : Int) (j : Int) p n m = true := (hok.out ()).symm
    obtain ⟨_, _, _, _, _, _, _, _, _, _, _, _, m6, _, _⟩ := okE_nat hokm
    have bl := bB7.out.1.len
    have hnn := NA.out
    have MKO : mkOk (i : Int) (j : Int) now = true := by
      unfold mkOk upB
      simp only [Bool.and_eq_true, decide_eq_true_eq]
      omega
    have mk0 : mkE (i : Int) (j : Int) now = 0 := by unfold mkE; rw [MKO]; rfl
    have SOK : (mkS root ticks (i : Int) (j : Int) cm now).ok := mkS_ok _ _ _ _ _ hc
    have L_R := Sm.C_len SOK
    have O_R := one_cells (mkS root ticks (i : Int) (j : Int) cm now).one
    have WMS : Hid ((mlOf (i : Int) (j : Int) cm pk p n body (mkS root ticks (i : Int) (j : Int) cm now)).stm = (mkS root ticks (i : Int) (j : Int) cm now).C) := rfl
    have MLO : Hid ((mlOf (i : Int) (j : Int) cm pk p n body (mkS root ticks (i : Int) (j : Int) cm now)).ok) := ⟨⟨hc, hk⟩, SOK, by show body.length ≤ 1000; rw [bl]; omega⟩
    have OKM : Hid (okM (mlOf (i : Int) (j : Int) cm pk p n body (mkS root ticks (i : Int) (j : Int) cm now)) = true) := by
      show okE (i : Int) (j : Int) p n body.length = true
      rw [bl]; exact hokm
    have hcr := r7.out.cells
    have L_o : (cellsOf root).length = 32 := by rw [cellsOf_len, hcr.2]
    have htk : 1 ≤ ticks ∧ ticks ≤ 1000000 := by
      obtain ⟨own, kx⟩ := r7.out
      exact kx.ti
    have STP : Hid (∀ W, Calls Tryd.prog 60 #[.agg (cellsOf root).toArray, .int .i64 (ticks : Int), .agg ev.toArray, .int .i64 now] W fun e w' => e = .returned (.tuple #[.agg (mkS root ticks (i : Int) (j : Int) cm now).C.toArray, .int .i64 0]) ∧ Ext W w') := fun W => by
      have := rstamp16_calls (w := W) (root := root) hcr.2 htk.1 htk.2 (f := (i : Int)) (t := (j : Int)) (pp := p) (nn := n) (now := now) (cm := cm) (pk := pk) (A := A) (m := m) (c := c) hc hk
      rw [mk0, ← hev.out ()] at this
      exact this
    obtain ⟨RS, hRS⟩ : ∃ RS, RS = (mkS root ticks (i : Int) (j : Int) cm now).C := ⟨_, rfl⟩
    rw [← hRS] at STP L_R O_R WMS
    replace hRS := Lib.hid (fun _ : Unit => hRS)
    have S_R : RS.toArray.size = 68 := by rw [List.size_toArray, L_R]
    have F0 : Hid (∀ u, Ext w7 u → (∀ q v, (cellsOf root)[q]? = some v → u.cell? ⟨g, 0 + q, none⟩ = some v) ∧ u.cell? ⟨g, 32, none⟩ = some (.int .i64 (ticks : Int)) ∧ Cb u r 37 ev) := fun u x => by
      have hcu := (hcr.1.ext x)
      refine ⟨hcu.mid (p := []) rfl rfl, hcu.cell (j := 32) ?_, K07.out.ext x⟩
      unfold rwC
      rw [List.getElem?_append_right (by omega), L_o]
      rfl
    have K27H := Lib.hid K27
    replace bl := Lib.hid bl
    clear K27 MKO mk0 SOK hokm hcr htk m6 hnn
    go_upto_region 18 with fail
    go_cut [16, 17] (fun s16 s17 wx => ∃ g16 : Nat, s16 = .pointer (some ⟨g16, 0, none⟩) ∧ s17 = .int .i64 0 ∧ Ext w7 wx ∧ Cb wx g16 67 RS ∧ w7.heap.size ≤ g16)
    case first =>
      clear RES1 MLO OKM WMS bB7 TB7 K27H r7 hfj lb8 bl K07 hbB k hRS hev hok hTa hZS
      refine qgT (R := Below w7.heap.size) (Below.refl _) (fun _ _ _ => Below.trans) (.rd 0 (.rd 1 (.rd 2 (.rd 3 (.rd 4 (.rd 5 (.rd 6 (.rd 7 (.rd 8 (.rd 9 (.alt 10 (.rd 11 (.rd 12 (.rd 13 (.alt 14 (.alt 15 (.rd 16 .nil) .stop) .stop)))) (.alt 14 (.alt 10 (.rd 11 (.rd 12 (.rd 13 (.alt 15 (.rd 16 .nil) .stop)))) .stop) .stop)))))))))))) 17 ?_
      refine qtR0 ?_
      go_frame
      refine qtR0 ?_
      go_frame
      refine qtR0 ?_
      go_frame
      refine qtV rfl (fun w' => ∀ q_ v, (cellsOf root)[q_]? = some v → w'.cell? ⟨g, 0 + q_, none⟩ = some v) (fun w' e => (F0.out w' (Ext.trans (Ext.refl _).drew e)).1) (.agg (cellsOf root).toArray) (fun w' hF => exec_load_mid rfl rfl hF rfl rfl (by rw [L_o]; rfl)) ?_
      go_frame
      refine qtR0 ?_
      go_frame
      refine qtR0 ?_
      go_frame
      refine qtR0 ?_
      go_frame
      refine qtR _ (fun w' e => (F0.out w' (Ext.trans (Ext.refl _).drew e)).2.1) ?_
      go_frame
      refine qtV rfl (fun w' => w'.heap[r]? = some (.cells ev.toArray 37 (0, 0))) (fun w' e => (F0.out w' (Ext.trans (Ext.refl _).drew e)).2.2) (.agg ev.toArray) (fun w' hF => exec_load_row rfl rfl hF rfl rfl (by rw [S_ev]; rfl)) ?_
      go_frame
      refine qtR0 ?_
      go_frame
      have SE : Hid (Ext w7 w7.drew) := (Ext.refl w7).drew
      generalize w7.drew = WC at *
      repeat' (first
        | exact seqT_stop
        | (refine seqT_do (i := 10) _ rfl ?_ ?_ (fun K1 hK1 => ?_)
           (· rfl)
           rotate_left
           go_simp
           refine (STP.out _).mono ?_
           rintro e0 WC ⟨rfl, e⟩
           refine hK1.out _ _ (e.mono SE.out.size) ?_
           clear hK1 K1
           (try replace hL := Lib.hid ((e.block _ (heap_lt hL.out)).trans hL.out))
           replace SE := Lib.hid (SE.out.trans e)
           clear e
           (try go_frame)
           repeat ((first | refine qtR0 ?_ | refine qtS ?_); go_frame)
           skip)
        | (refine seqT_do (i := 14) _ rfl ?_ ?_ (fun K1 hK1 => ?_)
           (· rfl)
           rotate_left
           go_simp
           have e : Ext WC (WC.alloc (Obj.cells ZS.toArray 67)) := (Ext.refl WC).alloc _
           obtain ⟨g16, hg16⟩ : ∃ g, g = WC.heap.size := ⟨_, rfl⟩
           have hL := Lib.hid (heap_alloc_new WC (Obj.cells ZS.toArray 67))
           rw [← hg16] at hL ⊢
           have zl : w7.heap.size ≤ g16 := by rw [hg16]; exact SE.out.size
           refine hK1.out _ (WC.alloc (Obj.cells ZS.toArray 67)) (e.mono SE.out.size) ?_
           clear hK1 K1
           replace SE := Lib.hid (SE.out.trans e)
           clear e
           replace hg16 := Lib.hid hg16
           generalize WC.alloc (Obj.cells ZS.toArray 67) = WC at *
           (try go_frame)
           repeat ((first | refine qtR0 ?_ | refine qtS ?_); go_frame)
           skip)
        | (refine seqT_do (i := 15) _ rfl ?_ ?_ (fun K1 hK1 => ?_)
           (· rfl)
           rotate_left
           refine wp_store_row _ _ _ rfl g16 RS.toArray rfl rfl 67 ZS.toArray hL.out (by rw [S_R]; rfl) (by rw [S_R, S_Z]) O_R ?_
           refine hK1.out _ _ (below_setRow (Below.refl _ _) zl _) ?_
           clear hK1 K1
           replace SE : Hid (Ext w7 (WC.setRow g16 RS.toArray)) := below_setRow SE.out zl _
           replace hL : Hid (Cb (WC.setRow g16 RS.toArray) g16 67 RS) := setRow_heap _ _ _ _ _ _ hL.out
           generalize WC.setRow g16 RS.toArray = WC at *
           (try simp only [Act.put])
           repeat ((first | refine qtR0 ?_ | refine qtS ?_); go_frame)
           skip)
        | (refine seqT_done ?_
           go_wp2_with fail
           go_meet
           exact ⟨g16, rfl, rfl, SE.out, hL.out, zl⟩))
    case rest =>
      obtain ⟨g16, rfl, rfl, x8, k16, z16⟩ := hcut
      obtain ⟨own, kx⟩ := r7.out
      have kd : RWx B wc.drew g root ticks own (updR h i (some { a with t := t', k := k' })) N := kx.keep (Nat.le_refl _) fun q cs t y _ => (x8.block _ (heap_lt y)).trans y
      have hA := kd.ac j b hfj.out
      have lb := hA.le
      have Bb8 := bB7.out.ext x8
      have szB : B ≤ wc.drew.heap.size := Nat.le_trans hB (Nat.le_trans TB7.out.size x8.size)
      have TB8 : Hid (Tb B tagX w wc.drew) := (TB7.out.trans (Tb.of_ext x8)).drew
      have PUT : Hid (Calls Tryd.prog 61 #[.pointer (some ⟨b.bx, 0, none⟩), .agg ev.toArray, .agg RS.toArray] wc.drew fun e w' => (∃ v, e = .returned v) ∧ (∃ A' c', RW B w' g root ticks (updR (updR h i (some { a with t := t', k := k' })) j (some { b with L := b.L ++ [⟨(mlOf (i : Int) (j : Int) cm pk p n body (mkS root ticks (i : Int) (j : Int) cm now)).as (b.last + 1), A', c'⟩], last := b.last + 1 })) (N + 1)) ∧ TbP (fun k => fresh own wc.drew j k = some j) tagR wc.drew w' ∧ Tb B tagX wc.drew w') := by
        have hm : MBP 96 101 (fun k => fresh own wc.drew j k = some j) wc.drew b.bx b.L b.last := hA.mb.mono fun k hk z => (fresh_old hk).trans z
        have hg : fresh own wc.drew j b.bx = some j := (fresh_old hA.mb.lt).trans hA.ob
        have E1 : (⟨mlOf (i : Int) (j : Int) cm pk p n body (mkS root ticks (i : Int) (j : Int) cm now), A, c⟩ : Wm).ev = ev := by
          rw [hev.out ()]
          show evC (i : Int) (j : Int) cm pk p n A body.length c = _
          rw [bl.out]
        have hp := rputP_calls (x := ⟨mlOf (i : Int) (j : Int) cm pk p n body (mkS root ticks (i : Int) (j : Int) cm now), A, c⟩) hm MLO.out (by show Bs _ A body.length c body; rw [bl.out]; exact Bb8.1) lb.2.1 (by have := lb.2.2; omega) lb.1 (fun k hk => fresh_new hk) hg
        have pe : pbE (mlOf (i : Int) (j : Int) cm pk p n body (mkS root ticks (i : Int) (j : Int) cm now)) b.L.length = 0 := by unfold pbE; rw [OKM.out, if_pos rfl, if_pos (by have := lb8.out; omega)]
        rw [E1, WMS.out] at hp
        refine hp.mono ?_
        rintro e w' ⟨rfl, ⟨A', c', m'⟩, x⟩
        unfold pbL pbM at m'
        rw [pe, if_pos rfl, if_pos rfl] at m'
        have := kd.boxed hfj.out szB (Nat.le_succ N) m' ⟨by rw [List.length_append]; simp; have := lb8.out; omega, by omega, by have := lb.2.2; omega⟩ x
        exact ⟨⟨_, rfl⟩, ⟨A', c', ⟨_, this.1⟩⟩, x, this.2⟩
      have F1 : Hid (∀ u, TbP (fun k => fresh own wc.drew j k = some j) tagR wc.drew u → u.cell? ⟨b.bk, 130, none⟩ = some (.pointer (some ⟨b.bx, 0, none⟩)) ∧ Cb u r 37 ev ∧ Cb u g16 67 RS ∧ Cb u (r + 1 + 1) 67 ZS) := fun u x => by
        have hc' : Cb u b.bk 100 b.C := x.2.2.2.2 _ _ (show wc.drew.heap[b.bk]? = some _ from hA.cb) (.inr rfl)
        refine ⟨hc'.cell (b.a0 hA.ln).2.1, x.2.2.2.2 _ _ (show wc.drew.heap[r]? = some _ from K07.out.ext x8.drew) (.inr rfl), x.2.2.2.2 _ _ (show wc.drew.heap[g16]? = some _ from k16) (.inr rfl), x.2.2.2.2 _ _ (show wc.drew.heap[r + 1 + 1]? = some _ from K27H.out.ext x8.drew) (.inr rfl)⟩
      have wle : w.heap.size ≤ r + 1 + 1 := by omega
      clear hA kd kx lb Bb8 szB x8 k16 z16 K27H K07 bB7 TB7 STP MLO OKM WMS F0 r7 hfj
      go_upto_region 19 with fail
      refine qgR (R := (TbP (fun k => fresh own wc.drew j k = some j) tagR)) (TbP.refl _ _) (fun _ _ _ => TbP.trans) [0, 1, 2, 3, 4, 5, 6] [6] ?_
      generalize wc.drew = V at *
      repeat ((first | refine qR _ (fun w' e => (F1.out w' e).1) ?_ | refine qS ?_); go_frame)
      refine qV rfl (fun w' => w'.heap[r]? = some (.cells ev.toArray 37 (0, 0))) (fun w' e => (F1.out w' e).2.1) (.agg ev.toArray) (fun w' hF => exec_load_row rfl rfl hF rfl rfl (by rw [S_ev]; rfl)) ?_
      go_frame
      refine qV rfl (fun w' => w'.heap[g16]? = some (.cells RS.toArray 67 (0, 0))) (fun w' e => (F1.out w' e).2.2.1) (.agg RS.toArray) (fun w' hF => exec_load_row rfl rfl hF rfl rfl (by rw [S_R]; rfl)) ?_
      go_frame
      refine qD fun K_ hK => ?_
      go_simp
      refine PUT.out.mono ?_
      rintro e w5 ⟨⟨v9, rfl⟩, ⟨A', c', r5⟩, x5, t5⟩
      refine hK.out _ _ x5 ?_
      clear hK K_
      try go_frame
      repeat ((first | refine qR0 ?_ | refine qS ?_); go_frame)
      refine seq_done ?_
      obtain ⟨_, _, k16, k2⟩ := F1.out w5 x5
      have TB9 := TB8.out.trans t5
      have rr := RW.row r5 (C := RS.toArray) k2 (by decide) TB9 wle
      have FIN := Lib.hid (fun e he => RES1.out e _ RS A' c' (hRS.out ()) he rr.1 rr.2)
      clear F1 PUT x5 t5 r5 rr TB9 TB8 RES1
      go_wp2_with (first
        | ((with_reducible refine wpList_load_rowW (o := ⟨some 113, _, _, _, _, _⟩) ?_ 67 _ rfl g16 ?_ 67 RS.toArray (0, 0) _ ?_ Tryd.underlying67 ?_ ?_ ?_); (· rfl); (· rfl); (· exact k16); (· rfl); (· rw [S_R]; rfl); go_frame)
        | (refine wpList_store_row rfl 67 _ _ rfl (r + 1 + 1) RS.toArray rfl rfl 67 ZS.toArray k2 (by rw [S_R]; rfl) (by rw [S_R, S_Z]) O_R ?_; simp only [Act.put]))
      (try simp only [Exit.inBlock, Exit.then])
      refine bodyPost_ret (results_row_tmp rfl _ _ (r + 1 + 1) 67 RS.toArray (0, 0) _ _ rfl rfl (setRow_heap _ _ _ _ _ _ k2) rfl rfl (by rw [S_R]; rfl)) rfl ?_
      exact FIN.out _ rfl
end
end Go.Proofs.YtbnjmmefnjoofaaDoor
