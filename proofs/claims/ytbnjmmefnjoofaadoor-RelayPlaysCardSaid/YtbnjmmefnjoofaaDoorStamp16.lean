import Derived.Test.YtbnjmmefnjoofaaDoorPkK
import Derived.Test.YtbnjmmefnjoofaaDoorPkO
/-
  (*stamp.Relay).Stamp.
-/
namespace Go.Proofs.YtbnjmmefnjoofaaDoor
open Go.ChangeShapes Go.WideShapes Go.ChangeAt Go.RowKit Go.Deep Go.Maps
set_option maxRecDepth 100000

theorem zSm_C : zSm.C = [.int .i64 0, .int .i64 0, .int .i64 0, .int .i64 0] ++ (cellsOf (List.replicate 32 0) ++ cellsOf (List.replicate 32 0)) := rfl
theorem stamp_alloc16 (w : World) : (zeroValue 67).run Tryd.prog w = .ok (.agg zSm.C.toArray) w := by kernel_rfl
theorem stamp_built0 : Tryd.prog.built 67 [] = some zSm.C.toArray := by kernel_rfl
theorem stamp_built {ep f t tm : Int} {cm : List UInt8} (hc : cm.length = 32) : Tryd.prog.built 67 [(0, .int .i64 ep), (1, .int .i64 f), (2, .int .i64 t), (3, .int .i64 tm), (4, .agg (cellsOf cm).toArray)] = some (stC ep f t tm cm (List.replicate 32 0)).toArray := by
  have h : ∃ pl : Nat → Option (Nat × Nat), (pl 0 = some (0, 1) ∧ pl 1 = some (1, 1) ∧ pl 2 = some (2, 1) ∧ pl 3 = some (3, 1) ∧ pl 4 = some (4, 32)) ∧ ∀ ps, Tryd.prog.built 67 ps = Instr.fill pl zSm.C.toArray ps := ⟨(#[(0, 1), (1, 1), (2, 1), (3, 1), (4, 32), (36, 32)][·]?), ⟨rfl, rfl, rfl, rfl, rfl⟩, fun ps => by kernel_rfl⟩
  obtain ⟨pl, ⟨h0, h1, h2, h3, h4⟩, hp⟩ := h
  have hz : (cellsOf (List.replicate 32 0)).length = 32 := by rw [cellsOf_len, List.length_replicate]
  have e : zSm.C = .int .i64 0 :: .int .i64 0 :: .int .i64 0 :: .int .i64 0 :: (cellsOf (List.replicate 32 0) ++ cellsOf (List.replicate 32 0)) := rfl
  rw [hp, e]
  unfold stC
  generalize cellsOf (List.replicate 32 0) = Z at *
  have s0 : ∀ ps, Instr.fill pl (.int .i64 0 :: .int .i64 0 :: .int .i64 0 :: .int .i64 0 :: (Z ++ Z) : List Value).toArray ((0, .int .i64 ep) :: ps) = Instr.fill pl (.int .i64 ep :: .int .i64 0 :: .int .i64 0 :: .int .i64 0 :: (Z ++ Z) : List Value).toArray ps := fun ps => (fill_step h0 rfl (by simp)).trans rfl
  have s1 : ∀ ps, Instr.fill pl (.int .i64 ep :: .int .i64 0 :: .int .i64 0 :: .int .i64 0 :: (Z ++ Z) : List Value).toArray ((1, .int .i64 f) :: ps) = Instr.fill pl (.int .i64 ep :: .int .i64 f :: .int .i64 0 :: .int .i64 0 :: (Z ++ Z) : List Value).toArray ps := fun ps => (fill_step h1 rfl (by simp)).trans rfl
  have s2 : ∀ ps, Instr.fill pl (.int .i64 ep :: .int .i64 f :: .int .i64 0 :: .int .i64 0 :: (Z ++ Z) : List Value).toArray ((2, .int .i64 t) :: ps) = Instr.fill pl (.int .i64 ep :: .int .i64 f :: .int .i64 t :: .int .i64 0 :: (Z ++ Z) : List Value).toArray ps := fun ps => (fill_step h2 rfl (by simp)).trans rfl
  have s3 : ∀ ps, Instr.fill pl (.int .i64 ep :: .int .i64 f :: .int .i64 t :: .int .i64 0 :: (Z ++ Z) : List Value).toArray ((3, .int .i64 tm) :: ps) = Instr.fill pl (.int .i64 ep :: .int .i64 f :: .int .i64 t :: .int .i64 tm :: (Z ++ Z) : List Value).toArray ps := fun ps => (fill_step h3 rfl (by simp)).trans rfl
  have s4 : Instr.fill pl (.int .i64 ep :: .int .i64 f :: .int .i64 t :: .int .i64 tm :: (Z ++ Z) : List Value).toArray [(4, .agg (cellsOf cm).toArray)] = some ([Value.int .i64 ep, .int .i64 f, .int .i64 t, .int .i64 tm] ++ (cellsOf cm ++ Z)).toArray := by
    rw [fill_step h4 (by simp [cells_agg, cellsOf_len, hc]) (by simp [hz])]
    have e2 : splice (.int .i64 ep :: .int .i64 f :: .int .i64 t :: .int .i64 tm :: (Z ++ Z) : List Value) 4 (Value.agg (cellsOf cm).toArray).cells.toList = [Value.int .i64 ep, .int .i64 f, .int .i64 t, .int .i64 tm] ++ (cellsOf cm ++ Z) := splice_mid (p := [Value.int .i64 ep, .int .i64 f, .int .i64 t, .int .i64 tm]) rfl (by rw [hz]; simp [cells_agg, cellsOf_len, hc])
    rw [e2]
    first | done | rfl
  rw [s0, s1, s2, s3, s4]
/-- The relay has told; its map may have grown. -/
def Told (w : World) (g mb q : Nat) (root : List UInt8) (ticks n : Nat) (w' : World) : Prop := (∃ E', SR w' g mb q root ticks E' ∧ E'.length ≤ n + 1) ∧ w.grownBy w' (some mb)
theorem grown_ofE16 {w w' : World} {g : Nat} (h : Ext w w') : w.grownBy w' (some g) := ⟨h.os, h.tape, h.output, h.size, fun i hi _ => h.block i hi⟩
theorem Told.of_ext {w w' : World} {g mb q ticks n : Nat} {root : List UInt8} {E : List (Value × Value)} (h : SR w' g mb q root ticks E) (hE : E.length ≤ n) (x : Ext w w') : Told w g mb q root ticks n w' := ⟨⟨E, h, by omega⟩, grown_ofE16 x⟩
theorem Gl.grown {w w' : World} {mb : Nat} {k : TypeId} {E : List (Value × Value)} {tg : TypeId × Nat × Nat} (h : Gl w tg) (m : Mp Tryd.prog k w mb E) (x : w.grownBy w' (some mb)) : Gl w' tg := (x.block _ h.lt (fun z => by
  obtain ⟨es, c, q⟩ := m.obj
  have z := Option.some.inj z
  unfold Gl at h
  rw [z, q] at h
  cases h)).trans h
theorem wp_exec16 {P : Program} {o : Oper} {a : Act} {w : World} {K : Act → World → Prop} {Q : Exit → Act → World → Prop} {v : Value} (hr : (execOp a.eval o).run P w = .ok (.value v) w) (h : K (a.put o.dst v) w) : o.wp P a w K Q := by
  unfold Oper.wp
  rw [hr]
  exact h
theorem mk_facts {root : List UInt8} {ticks : Nat} {f t : Int} {cm : List UInt8} {now : Int} : (mkOk f t now = false → mkS root ticks f t cm now = zSm ∧ mkE f t now = 1) ∧ (mkOk f t now = true → mkS root ticks f t cm now = ⟨((now.toNat / ticks : Nat) : Int), f, t, now, cm, tagL16 root (now.toNat / ticks) f.toNat t.toNat now.toNat cm⟩ ∧ mkE f t now = 0) := by
  refine ⟨fun h => ?_, fun h => ?_⟩
  · unfold mkS mkE; rw [h]; exact ⟨rfl, rfl⟩
  · unfold mkS mkE; rw [h]; exact ⟨rfl, rfl⟩
set_option maxHeartbeats 8000000 in
theorem stamp16_calls {w : World} {g mb q ticks : Nat} {root : List UInt8} {EE : List (Value × Value)} (h : SR w g mb q root ticks EE) (hE : EE.length ≤ 1000000) (t1 : 1 ≤ ticks) (t2 : ticks ≤ 1000000) {f t pp nn now : Int} {cm pk : List UInt8} {A : Option Addr} {m c : Nat} (lc : cm.length = 32) (lk : pk.length = 32) {tg : TypeId × Nat × Nat} (hG : Gl w tg) :
    Calls Tryd.prog 46 #[.pointer (some ⟨g, 0, none⟩), .agg (evC f t cm pk pp nn A m c).toArray, .int .i64 now] w fun e w' => e = .returned (.tuple #[.agg (mkS root ticks f t cm now).C.toArray, .int .i64 (mkE f t now)]) ∧ Told w g mb q root ticks EE.length w' := by
  have TI : Hid (∀ (W : World) (z : Int), Calls Tryd.prog 49 #[.int .i64 z] W fun e w' => e = .returned (.bool (upB z 1000000)) ∧ Ext W w') := fun W z => isTime_calls
  have AC : Hid (∀ (W : World) (z : Int), Calls Tryd.prog 76 #[.int .i64 z] W fun e w' => e = .returned (.bool (upB z 7)) ∧ Ext W w') := fun W z => isAccount_calls
  obtain ⟨M0, M1⟩ := mk_facts (root := root) (ticks := ticks) (f := f) (t := t) (cm := cm) (now := now)
  replace M0 := Lib.hid M0
  replace M1 := Lib.hid M1
  have MK : Hid (mkOk f t now = ((upB now 1000000 && upB f 7) && upB t 7)) := rfl
  have SE : Hid (∀ s, Ext w s → SR s g mb q root ticks EE) := fun s x => h.ext x
  have GE : Hid (∀ s, w.grownBy s (some mb) → Gl s tg) := fun s x => hG.grown h.mp x
  have hal := stamp_alloc16
  have halK := key_alloc16
  have BZ := Lib.hid stamp_built0
  have L_Z := Sm.C_len zSm_ok
  have O_Z := one_cells zSm.one
  have L_ev := evC_len lc lk f t pp nn A m c
  have gl := h.cb.lt
  have bl := h.mp.lt
  have ql := heap_lt h.kr.1
  have e0 : Hid ((evC f t cm pk pp nn A m c)[0]? = some (.int .i64 f)) := rfl
  have e1 : Hid ((evC f t cm pk pp nn A m c)[1]? = some (.int .i64 t)) := rfl
  have ec := Lib.hid (fun _ : Unit => (ev_cells lc lk f t pp nn A m c).2.2.2.2)
  clear h hG
  generalize evC f t cm pk pp nn A m c = ev at *
  obtain ⟨ZS, hZS⟩ : ∃ ZS, ZS = zSm.C := ⟨_, rfl⟩
  rw [← hZS] at hal BZ L_Z O_Z
  have S_Z : ZS.toArray.size = 68 := by rw [List.size_toArray, L_Z]
  have ZR : Hid (mkS root ticks f t cm now = zSm → (mkS root ticks f t cm now).C.toArray = ZS.toArray) := fun z => by rw [z, hZS]
  clear hZS
  obtain ⟨g4, hg4⟩ : ∃ x, x = w.heap.size := ⟨_, rfl⟩
  have B0 : Hid (Cb ((w.alloc (.cells ev.toArray 37)).alloc (.cells ZS.toArray 67)) g4 37 ev ∧ Cb ((w.alloc (.cells ev.toArray 37)).alloc (.cells ZS.toArray 67)) (g4 + 1) 67 ZS ∧ Ext w ((w.alloc (.cells ev.toArray 37)).alloc (.cells ZS.toArray 67))) := by
    rw [hg4]; exact ⟨heap_alloc1 _ _ _, heap_alloc2 _ _ _, ((Ext.refl w).alloc _).alloc _⟩
  replace hg4 := Lib.hid hg4
  go_enter Tryd.func46, Tryd.ntmps46
  go_upto_region 1 with fail
  refine wp_gen (fun W => Cb W g4 37 ev ∧ Cb W (g4 + 1) 67 ZS ∧ Ext w W) B0.out ?_
  rw [← hg4.out]
  have wg4 : w.heap.size ≤ g4 := Nat.le_of_eq hg4.out.symm
  clear B0 hg4
  rintro w0 ⟨k4, k6, x0⟩
  have P0 : Hid (∀ s, Ext w0 s → Cb s g4 37 ev ∧ Cb s (g4 + 1) 67 ZS ∧ Ext w s) := fun s x => ⟨k4.ext x, k6.ext x, x0.trans x⟩
  have x00 := Lib.hid (Ext.refl w0)
  clear k4 k6 x0
  go_wp2_with fail
  refine (TI.out _ _).mono ?_
  rintro e w1 ⟨rfl, x1⟩
  replace x1 := Lib.hid x1
  clear x00
  rcases h1 : upB now 1000000 with _ | _
  · skip
    have hb : mkOk f t now = false := by rw [MK.out, h1]; rfl
    obtain ⟨z1, z2⟩ := M0.out hb
    obtain ⟨_, k6, xw⟩ := P0.out w1 x1.out
    have F : Hid (Told w g mb q root ticks EE.length (w1.setRow (g4 + 1) ZS.toArray)) := by
      have x : Ext w (w1.setRow (g4 + 1) ZS.toArray) := below_setRow xw (by omega) _
      exact Told.of_ext (SE.out _ x) (Nat.le_refl _) x
    have z3 := ZR.out z1
    clear M0 M1 MK SE GE P0 xw hb TI AC ZR
    go_wp2_with (first
      | (refine wpList_build_as rfl _ _ rfl ZS.toArray (by simp only [List.map_toArray, List.map_nil]; exact BZ.out) ?_; go_frame)
      | (refine wpList_store_row rfl 67 _ _ rfl (g4 + 1) ZS.toArray rfl rfl 67 ZS.toArray k6 (by rw [S_Z]; rfl) rfl O_Z ?_; simp only [Act.put]))
    (try simp only [Exit.inBlock, Exit.then])
    refine bodyPost_ret (results_row_tmp rfl _ _ (g4 + 1) 67 ZS.toArray (0, 0) _ _ rfl rfl (setRow_heap _ _ _ _ _ _ k6) rfl rfl (by rw [S_Z]; rfl)) rfl ?_
    exact ⟨by rw [z2, z3]; rfl, F.out⟩
  obtain ⟨k4, _, _⟩ := P0.out w1 x1.out
  have b0 := k4.cell e0.out
  clear k4
  go_wp2_with fail
  refine (AC.out _ _).mono ?_
  rintro e w2 ⟨rfl, x2⟩
  replace x2 := Lib.hid (x1.out.trans x2)
  clear x1 b0
  rcases h2 : upB f 7 with _ | _
  · skip
    have hb : mkOk f t now = false := by rw [MK.out, h1, h2]; rfl
    obtain ⟨z1, z2⟩ := M0.out hb
    obtain ⟨_, k6, xw⟩ := P0.out w2 x2.out
    have F : Hid (Told w g mb q root ticks EE.length (w2.setRow (g4 + 1) ZS.toArray)) := by
      have x : Ext w (w2.setRow (g4 + 1) ZS.toArray) := below_setRow xw (by omega) _
      exact Told.of_ext (SE.out _ x) (Nat.le_refl _) x
    have z3 := ZR.out z1
    clear M0 M1 MK SE GE P0 xw hb TI AC ZR
    go_wp2_with (first
      | (refine wpList_build_as rfl _ _ rfl ZS.toArray (by simp only [List.map_toArray, List.map_nil]; exact BZ.out) ?_; go_frame)
      | (refine wpList_store_row rfl 67 _ _ rfl (g4 + 1) ZS.toArray rfl rfl 67 ZS.toArray k6 (by rw [S_Z]; rfl) rfl O_Z ?_; simp only [Act.put]))
    (try simp only [Exit.inBlock, Exit.then])
    refine bodyPost_ret (results_row_tmp rfl _ _ (g4 + 1) 67 ZS.toArray (0, 0) _ _ rfl rfl (setRow_heap _ _ _ _ _ _ k6) rfl rfl (by rw [S_Z]; rfl)) rfl ?_
    exact ⟨by rw [z2, z3]; rfl, F.out⟩
  obtain ⟨k4, _, _⟩ := P0.out w2 x2.out
  have b1 := k4.cell e1.out
  clear k4
  go_wp2_with fail
  refine (AC.out _ _).mono ?_
  rintro e w3 ⟨rfl, x3⟩
  replace x3 := Lib.hid (x2.out.trans x3)
  clear x2 b1
  rcases h3 : upB t 7 with _ | _
  · skip
    have hb : mkOk f t now = false := by rw [MK.out, h1, h2, h3]; rfl
    obtain ⟨z1, z2⟩ := M0.out hb
    obtain ⟨_, k6, xw⟩ := P0.out w3 x3.out
    have F : Hid (Told w g mb q root ticks EE.length (w3.setRow (g4 + 1) ZS.toArray)) := by
      have x : Ext w (w3.setRow (g4 + 1) ZS.toArray) := below_setRow xw (by omega) _
      exact Told.of_ext (SE.out _ x) (Nat.le_refl _) x
    have z3 := ZR.out z1
    clear M0 M1 MK SE GE P0 xw hb TI AC ZR
    go_wp2_with (first
      | (refine wpList_build_as rfl _ _ rfl ZS.toArray (by simp only [List.map_toArray, List.map_nil]; exact BZ.out) ?_; go_frame)
      | (refine wpList_store_row rfl 67 _ _ rfl (g4 + 1) ZS.toArray rfl rfl 67 ZS.toArray k6 (by rw [S_Z]; rfl) rfl O_Z ?_; simp only [Act.put]))
    (try simp only [Exit.inBlock, Exit.then])
    refine bodyPost_ret (results_row_tmp rfl _ _ (g4 + 1) 67 ZS.toArray (0, 0) _ _ rfl rfl (setRow_heap _ _ _ _ _ _ k6) rfl rfl (by rw [S_Z]; rfl)) rfl ?_
    exact ⟨by rw [z2, z3]; rfl, F.out⟩
  have hb : mkOk f t now = true := by rw [MK.out, h1, h2, h3]; rfl
  obtain ⟨z1, z2⟩ := M1.out hb
  obtain ⟨fn, rfl, hf7⟩ : ∃ k : Nat, f = (k : Int) ∧ k ≤ 7 := by
    unfold upB at h2
    simp only [Bool.and_eq_true, decide_eq_true_eq] at h2
    exact ⟨f.toNat, by omega, by omega⟩
  obtain ⟨tn, rfl, ht7⟩ : ∃ k : Nat, t = (k : Int) ∧ k ≤ 7 := by
    unfold upB at h3
    simp only [Bool.and_eq_true, decide_eq_true_eq] at h3
    exact ⟨t.toNat, by omega, by omega⟩
  obtain ⟨now, rfl, hn6⟩ : ∃ k : Nat, now = (k : Int) ∧ k ≤ 1000000 := by
    unfold upB at h1
    simp only [Bool.and_eq_true, decide_eq_true_eq] at h1
    exact ⟨now.toNat, by omega, by omega⟩
  clear M0 M1 MK TI AC ZR hb h1 h2 h3
  simp only [Int.toNat_natCast] at z1
  obtain ⟨ep, hep⟩ : ∃ ep, ep = now / ticks := ⟨_, rfl⟩
  rw [← hep] at z1
  have ep6 : ep ≤ 1000000 := by rw [hep]; exact Nat.le_trans (Nat.div_le_self _ _) hn6
  have dq : Int.tdiv (now : Int) (ticks : Int) = (ep : Int) := by rw [Int.tdiv_eq_ediv_of_nonneg (by omega), hep]; rfl
  have dq2 : (now : Int) / (ticks : Int) = (ep : Int) := by rw [hep]; rfl
  have dwr : IntKind.i64.wrap (ep : Int) = (ep : Int) := IntWalk.i64_in _ (by omega)
  have tne : ¬ (ticks : Int) = 0 := by omega
  have tne3 : ¬ ticks = 0 := by omega
  have tne2 : ((ticks : Int) == 0) = false := beq_eq_false_iff_ne.2 (by omega)
  clear hep
  obtain ⟨k4, k6, xw3⟩ := P0.out w3 x3.out
  have w3z := k6.lt
  have s3 := SE.out w3 xw3
  have S3 : Hid (stC ep fn tn now cm (List.replicate 32 0) = stC ep fn tn now cm (List.replicate 32 0)) := rfl
  have BS := Lib.hid (stamp_built (ep := (ep : Int)) (f := (fn : Int)) (t := (tn : Int)) (tm := (now : Int)) lc)
  have lz : (List.replicate 32 (0 : UInt8)).length = 32 := rfl
  have L_s : (stC ep fn tn now cm (List.replicate 32 0)).length = 68 := stC_len lc lz _ _ _ _
  have O_s : (stC ep fn tn now cm (List.replicate 32 0)).toArray.all (·.oneCell') = true := one_cells one_st
  have C_cm : (cellsOf cm).length = 32 := by rw [cellsOf_len, lc]
  have SP := Lib.hid (fun _ : Unit => (st_parts (ep := (ep : Int)) (f := (fn : Int)) (t := (tn : Int)) (tm := (now : Int)) (tg := List.replicate 32 0) lc))
  have s0c : Hid ((stC ep fn tn now cm (List.replicate 32 0))[0]? = some (.int .i64 (ep : Int))) := rfl
  have TO := Lib.hid (fun (W : World) => told_calls (w := W) (ep := (ep : Int)) (tg := List.replicate 32 0) lc hf7 ht7 hn6)
  clear S3
  obtain ⟨ST, hST⟩ : ∃ ST, ST = stC ep fn tn now cm (List.replicate 32 0) := ⟨_, rfl⟩
  rw [← hST] at BS L_s O_s SP s0c TO
  clear hST
  have S_s : ST.toArray.size = 68 := by rw [List.size_toArray, L_s]
  have F3 : Hid (∀ s, Below w3.heap.size w3.drew s → (s.cell? ⟨g4, 0, none⟩ = some (.int .i64 (fn : Int)) ∧ s.cell? ⟨g4, 1, none⟩ = some (.int .i64 (tn : Int)) ∧ s.cell? ⟨g, 0, none⟩ = some (.int .i64 (ticks : Int))) ∧ (∀ j v, (cellsOf cm)[j]? = some v → s.cell? ⟨g4, 2 + j, none⟩ = some v) ∧ Cb s (g4 + 1) 67 ZS ∧ Ext w s) := fun s x => by
    have xs : Ext w3 s := Ext.trans' (Ext.refl w3).drew x
    have k4' := k4.ext xs
    refine ⟨⟨k4'.cell e0.out, k4'.cell e1.out, (s3.ext xs).cb.cell rfl⟩, k4'.mid (p := [.int .i64 (fn : Int), .int .i64 (tn : Int)]) (ec.out ()) rfl, k6.ext xs, xw3.trans xs⟩
  clear k4 k6 s3 P0 x3
  go_upto_region 3 with fail
  refine qgB w3.heap.size [0, 1, 2, 3, 4, 5, 6, 7, 8, 9, 10, 11, 12, 13, 14, 15] [14, 15] ?_
  have zl : Hid (w3.heap.size ≤ w3.drew.heap.size) := Nat.le_refl _
  have wl : w.heap.size ≤ w3.heap.size := xw3.size
  have g6l : g4 + 1 < w3.heap.size := w3z
  have Z0 : Hid (Below w3.heap.size w3.drew w3.drew) := Below.refl _ _
  generalize w3.heap.size = z3 at *
  generalize w3.drew = V at *
  clear xw3 w3z
  repeat ((first | refine qR _ (fun w' e => (F3.out w' e).1) ?_ | refine qS ?_); go_frame)
  refine qV rfl (fun w' => ∀ q_ v, (cellsOf cm)[q_]? = some v → w'.cell? ⟨g4, 2 + q_, none⟩ = some v) (fun w' e => (F3.out w' e).2.1) (.agg (cellsOf cm).toArray) (fun w' hF => exec_load_mid rfl rfl hF rfl rfl (by rw [C_cm]; rfl)) ?_
  go_frame
  refine qV rfl (fun _ => True) (fun _ _ => trivial) (.agg ST.toArray) (fun w' _ => exec_build_as rfl (by simp only [List.map_toArray, List.map_cons, List.map_nil]; exact BS.out)) ?_
  go_frame
  refine qD fun K hK => ?_
  go_simp
  have k8 : Hid (Cb (V.alloc (.cells ZS.toArray 67)) V.heap.size 67 ZS) := Cb.new _ _ _
  have x8 : Below z3 V (V.alloc (.cells ZS.toArray 67)) := ((Ext.refl V).alloc _).mono zl.out
  obtain ⟨g8, hg8⟩ : ∃ x, x = V.heap.size := ⟨_, rfl⟩
  rw [← hg8] at k8 ⊢
  have z8 : z3 ≤ g8 := by rw [hg8]; exact zl.out
  refine hK.out _ _ x8 ?_
  clear hK K
  try go_frame
  have F8 : Hid (∀ s, Below z3 (V.alloc (.cells ZS.toArray 67)) s → Cb s (g4 + 1) 67 ZS ∧ Ext w s) := fun s x => (F3.out s (Below.trans x8 x)).2.2
  clear x8 Z0 F3 zl hg8
  generalize V.alloc (.cells ZS.toArray 67) = U at *
  refine qD fun K hK => ?_
  refine wp_store_row _ _ _ rfl g8 ST.toArray rfl rfl 67 ZS.toArray k8.out (by rw [S_s]; rfl) (by rw [S_s, S_Z]) O_s ?_
  refine hK.out _ _ (below_setRow (Below.refl _ _) z8 _) ?_
  clear hK K
  try simp only [Act.put]
  refine seq_done ?_
  have G8 : Hid (Cb (U.setRow g8 ST.toArray) g8 67 ST ∧ Cb (U.setRow g8 ST.toArray) (g4 + 1) 67 ZS ∧ Ext w (U.setRow g8 ST.toArray)) := ⟨k8.out.set, F8.out _ (below_setRow (Below.refl _ _) z8 _)⟩
  refine gen_q (fun W => Cb W g8 67 ST ∧ Cb W (g4 + 1) 67 ZS ∧ Ext w W) G8.out ?_
  have g68 : g4 + 1 < g8 := by omega
  clear G8 F8 k8 BS
  rintro w4 ⟨k8, k6, x4⟩
  have b8 := k8.cell s0c.out
  have K4 := Lib.hid (key16_calls (SE.out w4 x4) ep6 hE (GE.out w4 (grown_ofE16 x4)))
  replace k8 := Lib.hid k8
  replace k6 := Lib.hid k6
  replace x4 := Lib.hid x4
  have L_k : (ekL root ep).length = 32 := macL_len _ _
  clear SE s0c
  obtain ⟨ek, hek⟩ : ∃ ek, ek = ekL root ep := ⟨_, rfl⟩
  rw [← hek] at L_k K4
  replace hek := Lib.hid hek
  go_wp2_with fail
  refine K4.out.mono ?_
  rintro e w5 ⟨rfl, ⟨E5, s5, e5⟩, g5⟩
  have gr5 : Hid (w.grownBy w5 (some mb)) := grown_trans' (grown_ofE16 x4.out) g5
  have n8 : g8 ≠ mb := by omega
  have n6 : g4 + 1 ≠ mb := by omega
  have k85 : Cb w5 g8 67 ST := (g5.block _ k8.out.lt (fun z => n8 (Option.some.inj z))).trans k8.out
  have k65 : Cb w5 (g4 + 1) 67 ZS := (g5.block _ k6.out.lt (fun z => n6 (Option.some.inj z))).trans k6.out
  have S_k : (cellsOf ek).toArray.size = 32 := by simp [cellsOf_len, L_k]
  have O_k := cellsOf_one ek
  have S_Zk := zeros32_size
  have K9 : Hid (Ky ((w5.alloc (.cells zeros32 23)).setRow w5.heap.size (cellsOf ek).toArray) w5.heap.size ek ∧ Ext w5 ((w5.alloc (.cells zeros32 23)).setRow w5.heap.size (cellsOf ek).toArray)) := ⟨Ky.new _ L_k, Ext.newRow _ _ _⟩
  clear K4 k8 k6 x4 g5 b8
  go_upto_region 5 with (refine wpList_store_row rfl 23 _ _ rfl w5.heap.size (cellsOf ek).toArray rfl rfl 23 zeros32 (heap_alloc_new _ _) (by rw [S_k]; rfl) (by rw [S_k, S_Zk]) O_k ?_; simp only [Act.put])
  refine wp_gen (fun W => Ky W w5.heap.size ek ∧ Ext w5 W) K9.out ?_
  have n98 : g8 < w5.heap.size := k85.lt
  have w59 : w.heap.size ≤ w5.heap.size := gr5.out.size
  generalize w5.heap.size = g9 at *
  clear K9
  rintro w6 ⟨k9, x6⟩
  have TG : Hid (tagL16 root ep fn tn now cm = macL ek (toldL fn tn now cm)) := by unfold Hid; rw [hek.out]; rfl
  have P6 : Hid (∀ s, w6.drew.grownBy s (some g8) → Cb s (g4 + 1) 67 ZS ∧ Ky s g9 ek ∧ (∃ E', SR s g mb q root ticks E' ∧ E'.length ≤ EE.length + 1) ∧ Gl s tg ∧ w.grownBy s (some mb)) := fun s x => by
    have hb : ∀ i, i < w6.heap.size → i ≠ g8 → s.heap[i]? = w6.heap[i]? := fun i hi hne => x.block i hi (fun z => hne (Option.some.inj z))
    have k66 := k65.ext x6
    have s6 := s5.ext x6
    have gr6 : w.grownBy s (some mb) := by
      refine ⟨x.os.trans (x6.os.trans gr5.out.os), x.tape.trans (x6.tape.trans gr5.out.tape), x.output.trans (x6.output.trans gr5.out.output), Nat.le_trans gr5.out.size (Nat.le_trans x6.size x.size), fun i hi hne => ?_⟩
      have h5 : i < w5.heap.size := Nat.lt_of_lt_of_le hi gr5.out.size
      exact (hb i (Nat.lt_of_lt_of_le h5 x6.size) (by omega)).trans ((x6.block i h5).trans (gr5.out.block i hi hne))
    exact ⟨(hb _ k66.lt (by omega)).trans k66, ⟨(hb _ (heap_lt k9.1) (by omega)).trans k9.1, k9.2⟩, ⟨E5, s6.stay (hb _ s6.cb.lt (by omega)) (hb _ (heap_lt s6.kr.1) (by omega)) (hb _ s6.mp.lt (fun z => n8 z.symm)), e5⟩, GE.out s gr6, gr6⟩
  have K8 : Hid (Cb w6.drew g8 67 ST) := k85.ext x6.drew
  clear k65 s5 k9 x6 k85 gr5 GE
  refine qgR (R := fun a b => a.grownBy b (some g8)) (fun w => World.grownBy.refl w _) (fun _ _ _ => gr_trans) [0, 1, 2, 3, 4, 5, 6, 7, 8] [1, 2, 3, 8] ?_
  have Z6 : Hid (w6.drew.grownBy w6.drew (some g8)) := World.grownBy.refl _ _
  generalize w6.drew = V at *
  clear w6
  repeat ((first | refine qR0 ?_ | refine qS ?_); go_frame)
  refine qD fun K hK => ?_
  refine wp_exec16 (exec_load_row rfl rfl K8.out rfl rfl (by rw [S_s]; rfl)) ?_
  refine hK.out _ _ (World.grownBy.refl _ _) ?_
  clear hK K
  try go_frame
  repeat ((first | refine qR0 ?_ | refine qS ?_); go_frame)
  refine qD fun K hK => ?_
  go_simp
  refine (TO.out V).mono ?_
  rintro e w7 ⟨A7, n7, m7, rfl, o7, x7⟩
  refine hK.out _ _ (grown_ofE16 x7) ?_
  clear hK K
  try go_frame
  have M7 := Lib.hid (mac_calls (P6.out w7 (grown_ofE16 x7)).2.1.bs o7.bs (by omega) (P6.out w7 (grown_ofE16 x7)).2.2.2.1)
  clear TO o7
  repeat ((first | refine qR0 ?_ | refine qS ?_); go_frame)
  refine qD fun K hK => ?_
  go_simp
  refine M7.out.mono ?_
  rintro e w8 ⟨rfl, x8⟩
  refine hK.out _ _ (grown_ofE16 x8) ?_
  clear hK K
  try go_frame
  have k8 : Cb w8 g8 67 ST := K8.out.ext (x7.trans x8)
  obtain ⟨k6, k9, ⟨E8, s8, e8⟩, _, gr8⟩ := P6.out w8 (grown_ofE16 (x7.trans x8))
  clear M7 P6 x7 x8 Z6 K8
  rw [← TG.out]
  have L_t := tagL16_len root ep fn tn now cm
  generalize tagL16 root ep fn tn now cm = tgv at *
  have S_t : (cellsOf tgv).toArray.size = 32 := by simp [cellsOf_len, L_t]
  have O_t := one_cells (one_mem tgv)
  obtain ⟨_, sp2, sp3⟩ := SP.out ()
  have k10 : Hid (Cb (w8.setCells g8 36 (cellsOf tgv)) g8 67 (stC ep fn tn now cm tgv)) := by
    have hh := k8.put (z := cellsOf tgv) sp2 sp3 (by rw [cellsOf_len, cellsOf_len, lz, L_t])
    have e2 : ([Value.int .i64 (ep : Int), .int .i64 (fn : Int), .int .i64 (tn : Int), .int .i64 (now : Int)] ++ cellsOf cm) ++ (cellsOf tgv ++ []) = stC ep fn tn now cm tgv := by simp [stC]
    rw [e2] at hh
    exact hh
  have th8 : Hid (w8.there g8 36 32) := k8.there (by rw [L_s]; omega)
  have e8s := grown_setCells (w := w8) (g := g8) (o := 36) (vs := cellsOf tgv)
  have k11 : Hid (Cb (w8.setCells g8 36 (cellsOf tgv)) (g4 + 1) 67 ZS) := (e8s.block _ k6.lt (fun z => by have := Option.some.inj z; omega)).trans k6
  have s11 : Hid (SR (w8.setCells g8 36 (cellsOf tgv)) g mb q root ticks E8) := s8.stay (e8s.block _ s8.cb.lt (fun z => by have := Option.some.inj z; omega)) (e8s.block _ (heap_lt s8.kr.1) (fun z => by have := Option.some.inj z; omega)) (e8s.block _ s8.mp.lt (fun z => by have := Option.some.inj z; omega))
  have gr11 : Hid (w.grownBy (w8.setCells g8 36 (cellsOf tgv)) (some mb)) := ⟨e8s.os.trans gr8.os, e8s.tape.trans gr8.tape, e8s.output.trans gr8.output, Nat.le_trans gr8.size e8s.size, fun i hi hne => (e8s.block i (Nat.lt_of_lt_of_le hi gr8.size) (fun z => by have := Option.some.inj z; omega)).trans (gr8.block i hi hne)⟩
  clear k8 k6 k9 s8 gr8 SP sp2 sp3 TG
  repeat ((first | refine qR0 ?_ | refine qS ?_); go_frame)
  refine qD fun K hK => ?_
  refine wp_store_mid 23 _ _ rfl g8 36 (cellsOf tgv).toArray rfl rfl (by rw [S_t]; exact th8.out) (by rw [S_t]; rfl) O_t ?_
  refine hK.out _ _ grown_setCells ?_
  clear hK K
  try simp only [Act.put]
  repeat ((first | refine qR0 ?_ | refine qS ?_); go_frame)
  refine seq_done ?_
  refine gen_q (fun W => Cb W g8 67 (stC ep fn tn now cm tgv) ∧ Cb W (g4 + 1) 67 ZS ∧ SR W g mb q root ticks E8 ∧ w.grownBy W (some mb)) ⟨k10.out, k11.out, s11.out, gr11.out⟩ ?_
  clear k10 k11 s11 gr11 th8 e8s
  rintro w9 ⟨k8, k6, s9, gr9⟩
  have zC : (mkS root ticks (fn : Int) (tn : Int) cm (now : Int)).C = stC ep fn tn now cm tgv := by rw [z1]; rfl
  have L_r : (stC ep fn tn now cm tgv).length = 68 := stC_len lc L_t _ _ _ _
  have O_r : (stC ep fn tn now cm tgv).toArray.all (·.oneCell') = true := one_cells one_st
  replace zC := Lib.hid zC
  replace z2 := Lib.hid z2
  clear z1
  generalize stC ep fn tn now cm tgv = RS at *
  have S_r : RS.toArray.size = 68 := by rw [List.size_toArray, L_r]
  have F : Hid (Told w g mb q root ticks EE.length (w9.setRow (g4 + 1) RS.toArray)) := by
    refine ⟨⟨E8, s9.stay (setRow_other _ _ _ _ (by omega)) (setRow_other _ _ _ _ (by omega)) (setRow_other _ _ _ _ (by omega)), e8⟩, ⟨gr9.os, gr9.tape, gr9.output, by simpa using gr9.size, fun i hi hne => (setRow_other _ _ _ _ (by omega)).trans (gr9.block i hi hne)⟩⟩
  clear s9 gr9
  go_wp2_with (first
    | ((with_reducible refine wpList_load_rowW (o := ⟨some 52, _, _, _, _, _⟩) ?_ 67 _ rfl g8 ?_ 67 RS.toArray (0, 0) _ ?_ Tryd.underlying67 ?_ ?_ ?_); (· rfl); (· rfl); (· exact k8); (· rfl); (· rw [S_r]; rfl); go_frame)
    | (refine wpList_store_row rfl 67 _ _ rfl (g4 + 1) RS.toArray rfl rfl 67 ZS.toArray k6 (by rw [S_r]; rfl) (by rw [S_r, S_Z]) O_r ?_; simp only [Act.put]))
  (try simp only [Exit.inBlock, Exit.then])
  refine bodyPost_ret (results_row_tmp rfl _ _ (g4 + 1) 67 RS.toArray (0, 0) _ _ rfl rfl (setRow_heap _ _ _ _ _ _ k6) rfl rfl (by rw [S_r]; rfl)) rfl ?_
  exact ⟨by rw [z2.out, zC.out]; rfl, F.out⟩
end Go.Proofs.YtbnjmmefnjoofaaDoor
