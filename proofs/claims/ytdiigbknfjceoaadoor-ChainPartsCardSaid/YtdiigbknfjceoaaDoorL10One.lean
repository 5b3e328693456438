/-
  ChainOne: the walk's keys are the steps' keys.
-/
import Derived.Test.YtdiigbknfjceoaaDoorAwake10
namespace Go.Proofs.YtdiigbknfjceoaaDoor
open Go.ChangeShapes Go.WideShapes Go.ChangeAt Go.RowKit Go.Deep

theorem msgL_len (ks : List UInt8) (m : Nat) : (msgL ks m).length = m := by simp [msgL]
theorem msgL_getD {ks : List UInt8} {m k : Nat} (h : k < m) : (msgL ks m).getD k [] = keyL (chAt ks k) msgS := by
  simp [msgL, List.getD, h]

set_option maxRecDepth 100000 in
set_option maxHeartbeats 2000000 in
theorem chainOne_main {ks : List UInt8} {m : Nat} {w : World} (hk : ks.length = 32) (hm : m ≤ 8) {tg : TypeId × Nat × Nat} (hG : Gl w tg) :
    Calls Tryd.prog 12 #[.agg (cellsOf ks).toArray, .int .i64 (m : Int)] w fun e w' => e = .returned (.bool true) ∧ Ext w w' := by
  have AW := Lib.hid (fun (W : World) (e : Ext w W) => awake10_calls (hG.kept e hG.lt))
  have WALK : Hid (∀ (W : World), Ext w W → Calls Tryd.prog 32 #[.agg (cellsOf ks).toArray, .int .i64 (m : Int)] W (RetWalk (msgL ks m) (chAt ks m) 0 W)) := fun W e => walk_calls hk hm (hG.kept e hG.lt)
  have STEP : Hid (∀ (W : World) (i : Nat), Ext w W → Calls Tryd.prog 28 #[.agg (cellsOf (chAt ks i)).toArray] W (RetTwo (keyL (chAt ks i) msgS) (chAt ks (i + 1)) W)) := fun W i e => step_calls (chAt_len hk i) (hG.kept e hG.lt)
  have q1' : decide ((m : Int) < 0) = false := decide_eq_false (by omega)
  have q2' : decide ((8 : Int) < (m : Int)) = false := decide_eq_false (by omega)
  clear hG
  have KS : (cellsOf ks).toArray.size = 32 := by simp [cellsOf_len, hk]
  have CL := Lib.hid (chAt_len hk)
  have y0 : Hid (Ky (w.alloc (Obj.cells (cellsOf ks).toArray 25)) w.heap.size ks) := Ky.boxed _ hk
  have hal := key_alloc
  have hz0 := zeros32_size
  generalize zeros32 = Z at *
  go_enter Tryd.func12, Tryd.ntmps12
  go_wp2_with fail
  refine (AW.out _ ((Ext.refl w).alloc _)).mono ?_
  rintro e w1 ⟨rfl, e1⟩
  have E1 : Hid (Ext w w1) := ((Ext.refl w).alloc _).trans e1
  have y1 := Lib.hid (y0.out.ext e1)
  clear AW y0 e1
  go_wp2_with (refine wpList_load_row rfl 25 _ rfl w.heap.size rfl 25 (cellsOf ks).toArray (0, 0) _ y1.out.1 rfl rfl (by rw [KS]; rfl) ?_; simp only [Act.put, List.setIfInBounds_toArray, List.set_cons_zero, List.set_cons_succ])
  refine (WALK.out _ E1.out).mono ?_
  rintro e w2 ⟨A, c, rfl, kl, hc1, hc2, e2, fr⟩
  rw [msgL_len] at kl hc1 ⊢
  replace kl := Lib.hid kl
  have FR : Hid (∀ b, A = some ⟨b, 0, none⟩ → w.heap.size < b) := fun b hb => Nat.lt_of_lt_of_le (heap_lt y1.out.1) (fr b hb)
  clear fr
  have LA := CL.out m
  have SA : (cellsOf (chAt ks m)).toArray.size = 32 := by simp [cellsOf_len, LA]
  have OA := cellsOf_one (chAt ks m)
  obtain ⟨ca, hca⟩ : ∃ ca, ca = chAt ks m := ⟨_, rfl⟩
  rw [← hca] at LA SA OA ⊢
  replace hca := Lib.hid hca
  have a1 : Hid ((w2.alloc (Obj.cells Z 25)).heap[w2.heap.size]? = some (.cells Z 25 (0, 0))) := heap_alloc_new _ _
  clear WALK
  have nn : ((m : Int) != (m : Int)) = false := by simp
  go_upto_region 5 with (refine wpList_store_row rfl 25 _ _ rfl w2.heap.size (cellsOf ca).toArray rfl rfl 25 Z a1.out (by rw [SA]; rfl) (by rw [SA]; exact hz0) OA ?_; simp only [Act.put, List.setIfInBounds_toArray, List.set_cons_zero, List.set_cons_succ])
  obtain ⟨h, hh⟩ : ∃ h, h = w2.heap.size := ⟨_, rfl⟩
  have z2 : w.heap.size < h := by rw [hh]; exact heap_lt (y1.out.ext e2).1
  have e3 : Ext w2 ((w2.alloc (Obj.cells Z 25)).setRow w2.heap.size (cellsOf ca).toArray) := below_setRow ((Ext.refl w2).alloc _) (Nat.le_refl _) _
  refine wp_gen (fun W => Ext w W ∧ Ky W w.heap.size ks ∧ Ky W h ca ∧ Kl W A m (msgL ks m)) ⟨(E1.out.trans e2).trans e3, (y1.out.ext e2).ext e3, ⟨by rw [hh]; exact setRow_heap _ _ _ _ _ _ a1.out, LA⟩, kl.out.ext e3⟩ ?_
  rw [← hh]
  clear hh a1 e3 y1 E1 e2 kl
  rintro w3 ⟨x3, y1, y2, kl⟩
  have x3' := Lib.hid x3
  have y1' := Lib.hid y1
  have y2' := Lib.hid y2
  have kl' := Lib.hid kl
  clear x3 y1 y2 kl
  go_wp2_with fail
  go_loopw [9] (fun v wr => ∃ k : Nat, k ≤ m ∧ v = .int .i64 (k : Int) ∧ Ext w wr ∧ Ky wr w.heap.size (chAt ks k) ∧ Ky wr h ca ∧ Kl wr A m (msgL ks m)) (fun v _ => m - (intOf v).toNat)
  case atStart => exact ⟨0, Nat.zero_le _, rfl, x3'.out, y1'.out, y2'.out, kl'.out⟩
  case round =>
    obtain ⟨k, hkm, rfl, he, yk, yh, klr⟩ := hrel
    clear x3' y1' y2' kl'
    by_cases hlt : k < m
    · have ik : (k : Int) < (m : Int) := by omega
      have LK := CL.out k
      have SK : (cellsOf (chAt ks k)).toArray.size = 32 := by simp [cellsOf_len, LK]
      have ST := Lib.hid (STEP.out wr k he)
      obtain ⟨b, rfl, hb, hrow⟩ := klr.2.2 (by omega)
      have hrow' := Lib.hid (hrow k hlt)
      rw [msgL_getD hlt] at hrow'
      have LN := CL.out (k + 1)
      have L0 := keyL_len (chAt ks k) msgS
      obtain ⟨cn, hcn⟩ : ∃ cn, cn = chAt ks (k + 1) := ⟨_, rfl⟩
      rw [← hcn] at LN ST
      generalize keyL (chAt ks k) msgS = k0 at *
      generalize chAt ks k = ck at *
      have S0 : (cellsOf k0).toArray.size = 32 := by simp [cellsOf_len, L0]
      have C0 : (cellsOf k0).length = 32 := by rw [cellsOf_len, L0]
      have SN : (cellsOf cn).toArray.size = 32 := by simp [cellsOf_len, LN]
      have O0 := cellsOf_one k0
      have ON := cellsOf_one cn
      replace hcn := Lib.hid hcn
      have he' := Lib.hid he
      have yk' := Lib.hid yk
      have yh' := Lib.hid yh
      have klr' := Lib.hid klr
      have zr := heap_lt yk.1
      have zh := heap_lt yh.1
      clear he yk yh klr hrow
      go_wp2_with (refine wpList_load_row rfl 25 _ rfl w.heap.size rfl 25 (cellsOf ck).toArray (0, 0) _ yk'.out.1 rfl rfl (by rw [SK]; rfl) ?_; simp only [Act.put, List.setIfInBounds_toArray, List.set_cons_zero, List.set_cons_succ])
      refine ST.out.mono ?_
      rintro e w4 ⟨rfl, e4⟩
      have a1 : Hid (((w4.alloc (Obj.cells Z 25)).alloc (Obj.cells Z 25)).heap[w4.heap.size]? = some (.cells Z 25 (0, 0))) := heap_alloc1 _ _ _
      have a2 : Hid ((((w4.alloc (Obj.cells Z 25)).alloc (Obj.cells Z 25)).setRow w4.heap.size (cellsOf k0).toArray).heap[w4.heap.size + 1]? = some (.cells Z 25 (0, 0))) := (setRow_other _ _ _ _ (by omega)).trans (heap_alloc2 _ _ _)
      clear ST
      go_upto_region 11 with (first
        | (refine wpList_store_row rfl 25 _ _ rfl w4.heap.size (cellsOf k0).toArray rfl rfl 25 Z a1.out (by rw [S0]; rfl) (by rw [S0]; exact hz0) O0 ?_; simp only [Act.put, List.setIfInBounds_toArray, List.set_cons_zero, List.set_cons_succ])
        | (refine wpList_store_row rfl 25 _ _ rfl (w4.heap.size + 1) (cellsOf cn).toArray rfl rfl 25 Z a2.out (by rw [SN]; rfl) (by rw [SN]; exact hz0) ON ?_; simp only [Act.put, List.setIfInBounds_toArray, List.set_cons_zero, List.set_cons_succ]))
      obtain ⟨g, hg⟩ : ∃ g, g = w4.heap.size := ⟨_, rfl⟩
      have zg : wr.heap.size ≤ g := by rw [hg]; exact e4.size
      refine wp_gen (fun W => Ext wr W ∧ Ky W g k0 ∧ Ky W (g + 1) cn) ⟨e4.trans (below_setRow (below_setRow (((Ext.refl w4).alloc _).alloc _) (Nat.le_refl _) _) (Nat.le_succ _) _), ⟨by rw [hg]; exact (setRow_other _ _ _ _ (by omega)).trans (setRow_heap _ _ _ _ _ _ a1.out), L0⟩, ⟨by rw [hg]; exact setRow_heap _ _ _ _ _ _ a2.out, LN⟩⟩ ?_
      rw [← hg]
      clear hg a1 a2 e4
      rintro w5 ⟨x5, y0, y1⟩
      have z5 := x5.size
      have yg := heap_lt y1.1
      have P0 : Hid (∀ w', Ext w5 w' → Ky w' w.heap.size ck ∧ Ky w' h ca ∧ Kl w' (some ⟨b, 0, none⟩) m (msgL ks m) ∧ Ky w' g k0 ∧ Ky w' (g + 1) cn ∧ ∀ i v, (cellsOf k0)[i]? = some v → w'.cell? ⟨b, k * 32 + i, none⟩ = some v) := fun w' e => ⟨(yk'.out.ext x5).ext e, (yh'.out.ext x5).ext e, (klr'.out.ext x5).ext e, y0.ext e, y1.ext e, fun i v hv => ((x5.trans e).cell hb).trans (by rw [Nat.mul_comm]; exact hrow'.out i v hv)⟩
      have E5 : Hid (Ext w w5) := he'.out.trans x5
      clear x5 y0 y1 yk' yh' klr' he' hrow' hb
      go_wp2_with fail
      refine wp_region_seq (R := Ext) Ext.refl (fun _ _ _ => Ext.trans) [0, 1, 2, 3, 4, 5] [] [(0, 46, 128), (0, 47, 1024), (3, 48, 211106232532992), (4, 49, 281474976710656), (0, 50, 2048), (24, 51, 1688849860263936)] (by kernel_rfl) (by kernel_rfl) (by kernel_rfl) rfl (by kernel_rfl) (by kernel_rfl) (fun _ _ d _ _ h => by cases d <;> exact h) ?_
      iterate 3 (first | (refine seq_read (fun _ => True) (fun _ _ => trivial) _ (v := ?_) rfl rfl (by rfl) ?_ ?_; rotate_left; (· intro w' hF; go_simp; (try with_reducible rfl)); simp only [Act.put, List.setIfInBounds_toArray, List.set_cons_zero, List.set_cons_succ]) | (refine seq_skip _ rfl rfl (by rfl) ?_; simp only [Act.put, List.setIfInBounds_toArray, List.set_cons_zero, List.set_cons_succ]))
      refine seq_read (fun w' => ∀ j v, (cellsOf k0)[j]? = some v → w'.cell? ⟨b, (k*32) + j, none⟩ = some v) (fun w' e => (P0.out w' ((Ext.refl _).drew.trans e)).2.2.2.2.2) _ (v := .agg (cellsOf k0).toArray) rfl rfl (by rfl) (fun w' hF => exec_load_mid rfl rfl hF rfl rfl (by rw [C0]; rfl)) ?_
      simp only [Act.put, List.setIfInBounds_toArray, List.set_cons_zero, List.set_cons_succ]
      refine seq_read (fun w' => w'.heap[g]? = some (.cells (cellsOf k0).toArray 25 (0, 0))) (fun w' e => (P0.out w' ((Ext.refl _).drew.trans e)).2.2.2.1.1) _ (v := .agg (cellsOf k0).toArray) rfl rfl (by rfl) (fun w' hF => exec_load_row rfl rfl hF rfl rfl (by rw [S0]; rfl)) ?_
      simp only [Act.put, List.setIfInBounds_toArray, List.set_cons_zero, List.set_cons_succ]
      refine seq_read (fun _ => True) (fun _ _ => trivial) _ (v := .bool false) rfl rfl (by rfl) (fun w' _ => exec_neq_keyB (xs := k0) (ys := k0) (show (!decide (k0 = k0)) = false by simp) L0 L0 rfl rfl rfl) ?_
      simp only [Act.put, List.setIfInBounds_toArray, List.set_cons_zero, List.set_cons_succ]
      refine seq_done ?_
      have P1 := P0.out _ (Ext.refl _).drew
      obtain ⟨p1, p2, p3, p4, p5, -⟩ := P1
      replace p1 := Lib.hid p1
      replace p2 := Lib.hid p2
      replace p3 := Lib.hid p3
      replace p5 := Lib.hid p5
      have E6 : Hid (Ext w w5.drew) := E5.out.drew
      clear P0 p4 E5
      go_wp2_with (first
        | (refine wpList_load_row rfl 25 _ rfl (g + 1) rfl 25 (cellsOf cn).toArray (0, 0) _ p5.out.1 rfl rfl (by rw [SN]; rfl) ?_; simp only [Act.put, List.setIfInBounds_toArray, List.set_cons_zero, List.set_cons_succ])
        | (refine wpList_store_row rfl 25 _ _ rfl w.heap.size (cellsOf cn).toArray rfl rfl 25 _ p1.out.1 (by rw [SN]; rfl) (by rw [SN, SK]) ON ?_; simp only [Act.put, List.setIfInBounds_toArray, List.set_cons_zero, List.set_cons_succ]))
      refine ⟨⟨k + 1, by omega, by go_num, below_setRow E6.out (Nat.le_refl _) _, ?_, ?_, ?_⟩, by simp [intOf]; omega⟩
      · rw [← hcn.out]; exact p1.out.put LN
      · exact ⟨(setRow_other _ _ _ _ (by omega)).trans p2.out.1, p2.out.2⟩
      · exact p3.out.setRow (fun b' hb' => FR.out b' hb') _
    · obtain rfl : k = m := by omega
      rw [← hca.out] at yk
      have yk' := Lib.hid yk
      have yh' := Lib.hid yh
      have he' := Lib.hid he
      clear yk yh he klr hlt hkm FR
      go_wp2_with (first
        | (refine wpList_exec rfl (exec_load_row rfl rfl yk'.out.1 rfl rfl (by rw [SA]; rfl)) ?_; simp only [Act.put, List.setIfInBounds_toArray, List.set_cons_zero, List.set_cons_succ])
        | (refine wpList_exec rfl (exec_load_row rfl rfl yh'.out.1 rfl rfl (by rw [SA]; rfl)) ?_; simp only [Act.put, List.setIfInBounds_toArray, List.set_cons_zero, List.set_cons_succ])
        | (refine wpList_exec rfl (exec_eql_keyB (xs := ca) (ys := ca) (decide_eq_true rfl) LA LA rfl rfl rfl) ?_; simp only [Act.put, List.setIfInBounds_toArray, List.set_cons_zero, List.set_cons_succ]))
      go_ret
      exact ⟨rfl, he'.out⟩

set_option maxRecDepth 100000 in
set_option maxHeartbeats 1000000 in
theorem chainOne_calls {ks : List UInt8} {m : Int} {w : World} (hk : ks.length = 32) {tg : TypeId × Nat × Nat} (hG : Gl w tg) :
    Calls Tryd.prog 12 #[.agg (cellsOf ks).toArray, .int .i64 m] w fun e w' => e = .returned (.bool true) ∧ Ext w w' := by
  by_cases h : 0 ≤ m ∧ m ≤ 8
  · obtain ⟨k, rfl⟩ := Int.eq_ofNat_of_zero_le h.1
    exact chainOne_main hk (by omega) hG
  · have AW := Lib.hid (fun (W : World) (e : Ext w W) => awake10_calls (hG.kept e hG.lt))
    clear hG
    generalize (cellsOf ks).toArray = K at *
    by_cases q1 : m < 0
    · have q1' : decide (m < 0) = true := decide_eq_true q1
      clear h
      go_enter Tryd.func12, Tryd.ntmps12
      go_wp2_with fail
      refine (AW.out _ ((Ext.refl w).alloc _)).mono ?_
      rintro e w1 ⟨rfl, e1⟩
      go_wp2_with fail
      go_ret
      exact ⟨rfl, ((Ext.refl w).alloc _).trans e1⟩
    · have q1' : decide (m < 0) = false := decide_eq_false q1
      have q2' : decide (8 < m) = true := decide_eq_true (by omega)
      clear h
      go_enter Tryd.func12, Tryd.ntmps12
      go_wp2_with fail
      refine (AW.out _ ((Ext.refl w).alloc _)).mono ?_
      rintro e w1 ⟨rfl, e1⟩
      go_wp2_with fail
      go_ret
      exact ⟨rfl, ((Ext.refl w).alloc _).trans e1⟩
end Go.Proofs.YtdiigbknfjceoaaDoor
