import Derived.Test.YtfhafednnnfmbaaDoorStep7
import Derived.Test.YtfhafednnnfmbaaDoorPkM
/-
  curve.Mult: the ladder.
-/
namespace Go.Proofs.YtfhafednnnfmbaaDoor
open Go.ChangeShapes Go.WideShapes Go.ChangeAt Go.RowKit Go.Deep
set_option maxRecDepth 100000


set_option maxHeartbeats 8000000 in
theorem mult_calls {ks ps : List UInt8} {w : World} (hk : ks.length = 32) (hp : ps.length = 32) {tg : TypeId × Nat × Nat} (hG : Gp w tg) :
    Calls Tryd.prog 29 #[.agg (cellsOf ks).toArray, .agg (cellsOf ps).toArray] w fun e w' => e = .returned (.agg (cellsOf (kL (multN ks (ofV ps)))).toArray) ∧ Ext w w' := by
  obtain ⟨x, hx⟩ : ∃ x, x = ofV ps := ⟨_, rfl⟩
  have xp : x < P25 := by rw [hx]; exact ofV_lt ps
  rw [← hx]
  have OFA : Hid (∀ W, Ext w W → Calls Tryd.prog 43 #[.agg (cellsOf ps).toArray] W fun e w' => e = .returned (.agg (wcells (lbs 8 x)).toArray) ∧ Ext W w') := fun W e => by rw [hx]; exact of_calls hp (hG.ext e)
  have SCA : Hid (∀ W, Ext w W → Calls Tryd.prog 44 #[.agg (cellsOf ks).toArray] W fun e w' => e = .returned (.agg (cellsOf (scL ks)).toArray) ∧ Ext W w') := fun W _ => scalar_calls hk
  have ONE : Hid (∀ W, Ext w W → Calls Tryd.prog 45 #[] W fun e w' => e = .returned (.agg (wcells (lbs 8 1)).toArray) ∧ Ext W w') := fun W e => one_calls (hG.ext e)
  obtain ⟨B, hB⟩ : ∃ B : Nat → Bool, B = fun m => bitB ks (254 - m) := ⟨_, rfl⟩
  obtain ⟨S, hS⟩ : ∃ S : Nat → StN, S = ladN x B := ⟨_, rfl⟩
  have SL : ∀ m, LtS (S m) := fun m => by rw [hS]; exact ladN_lt xp B m
  have S1 : ∀ m, S (m + 1) = swapN (B m) (stepN x (swapN (B m) (S m))) := fun m => by rw [hS]; rfl
  have BIT : Hid (∀ m n : Nat, m + n = 254 → bt (scL ks) (n / 8) / 2 ^ (n % 8) % 2 = if B m then 1 else 0) := fun m n h => by
    rw [bit_scL hk (by omega), hB]
    show _ = if bitB ks (254 - m) then 1 else 0
    rw [show 254 - m = n by omega]
  have RES : Hid (multN ks x = mulP (S 255).1 (invF (S 255).2.2.1)) := by unfold Hid; rw [hS, hB]; rfl
  have RL : multN ks x < P25 := multN_lt ks x
  have S0 : S 0 = (1, x, 0, 1) := by rw [hS]; rfl
  have STF : Hid (∀ m W, Ext w W → B m = false → Calls Tryd.prog 47 #[.agg (prC (lbs 8 (S m).1) (lbs 8 (S m).2.1) (lbs 8 (S m).2.2.1) (lbs 8 (S m).2.2.2)).toArray, .agg (wcells (lbs 8 x)).toArray] W fun e w' =>
      e = .returned (.agg (prC (lbs 8 (S (m + 1)).1) (lbs 8 (S (m + 1)).2.1) (lbs 8 (S (m + 1)).2.2.1) (lbs 8 (S (m + 1)).2.2.2)).toArray) ∧ Ext W w') := fun m W e h => by
    have := step_calls (SL m) xp (hG.ext e)
    rw [S1 m, h]
    exact this
  have STT : Hid (∀ m W, Ext w W → B m = true → Calls Tryd.prog 47 #[.agg (prC (lbs 8 (S m).2.1) (lbs 8 (S m).1) (lbs 8 (S m).2.2.2) (lbs 8 (S m).2.2.1)).toArray, .agg (wcells (lbs 8 x)).toArray] W fun e w' =>
      e = .returned (.agg (prC (lbs 8 (S (m + 1)).2.1) (lbs 8 (S (m + 1)).1) (lbs 8 (S (m + 1)).2.2.2) (lbs 8 (S (m + 1)).2.2.1)).toArray) ∧ Ext W w') := fun m W e h => by
    have := step_calls (s := swapN true (S m)) (swapN_lt (SL m)) xp (hG.ext e)
    rw [S1 m, h]
    exact this
  have INV : Hid (∀ W, Ext w W → Calls Tryd.prog 49 #[.agg (wcells (lbs 8 (S 255).2.2.1)).toArray] W fun e w' => e = .returned (.agg (wcells (lbs 8 (invF (S 255).2.2.1))).toArray) ∧ Ext W w') := fun W e => inv_calls (SL 255).2.2.1 (hG.ext e)
  have MUL : Hid (∀ W, Ext w W → Calls Tryd.prog 48 #[.agg (wcells (lbs 8 (S 255).1)).toArray, .agg (wcells (lbs 8 (invF (S 255).2.2.1))).toArray] W fun e w' => e = .returned (.agg (wcells (lbs 8 (multN ks x))).toArray) ∧ Ext W w') := fun W e => by
    rw [RES.out]; exact emul_calls (SL 255).1 (invF_lt _) (hG.ext e)
  have KEY_ : Hid (∀ W, Ext w W → Calls Tryd.prog 50 #[.agg (wcells (lbs 8 (multN ks x))).toArray] W fun e w' => e = .returned (.agg (cellsOf (kL (multN ks x))).toArray) ∧ Ext W w') := fun W e => ekey_calls
  clear RES RL S1 SL hS hx xp hG
  obtain ⟨SA, hSA⟩ : ∃ f : Nat → List Nat, f = fun m => lbs 8 (S m).1 := ⟨_, rfl⟩
  obtain ⟨SB, hSB⟩ : ∃ f : Nat → List Nat, f = fun m => lbs 8 (S m).2.1 := ⟨_, rfl⟩
  obtain ⟨SC, hSC⟩ : ∃ f : Nat → List Nat, f = fun m => lbs 8 (S m).2.2.1 := ⟨_, rfl⟩
  obtain ⟨SD, hSD⟩ : ∃ f : Nat → List Nat, f = fun m => lbs 8 (S m).2.2.2 := ⟨_, rfl⟩
  have hSA' : ∀ m, lbs 8 (S m).1 = SA m := fun m => by rw [hSA]
  have hSB' : ∀ m, lbs 8 (S m).2.1 = SB m := fun m => by rw [hSB]
  have hSC' : ∀ m, lbs 8 (S m).2.2.1 = SC m := fun m => by rw [hSC]
  have hSD' : ∀ m, lbs 8 (S m).2.2.2 = SD m := fun m => by rw [hSD]
  have I0 : Hid (∀ _ : Unit, SA 0 = lbs 8 1 ∧ SB 0 = lbs 8 x ∧ SC 0 = zw8 ∧ SD 0 = lbs 8 1) := fun _ => by
    rw [hSA, hSB, hSC, hSD]
    exact ⟨by show lbs 8 (S 0).1 = _; rw [S0], by show lbs 8 (S 0).2.1 = _; rw [S0], by show lbs 8 (S 0).2.2.1 = _; rw [S0]; show lbs 8 0 = zw8; decide, by show lbs 8 (S 0).2.2.2 = _; rw [S0]⟩
  have L8S : Hid (∀ m, L8 (SA m) (SB m) (SC m) (SD m)) := fun m => by
    rw [← hSA' m, ← hSB' m, ← hSC' m, ← hSD' m]
    exact ⟨lbs_len _ _, lbs_len _ _, lbs_len _ _, lbs_len _ _⟩
  simp only [hSA', hSB', hSC', hSD'] at STF STT INV MUL
  have L_va : (SA 255).length = 8 := (L8S.out 255).1
  have L_vc : (SC 255).length = 8 := (L8S.out 255).2.2.1
  clear hSA hSB hSC hSD hSA' hSB' hSC' hSD' S0 hB
  have L_vo := lbs_len 8 1
  have L_vx := lbs_len 8 x
  have L_vi := lbs_len 8 (invF (S 255).2.2.1)
  have L_vm := lbs_len 8 (multN ks x)
  have L_rk := kL_len (multN ks x)
  have L_sl := scL_len hk
  generalize lbs 8 (invF (S 255).2.2.1) = vi at *
  generalize lbs 8 (multN ks x) = vm at *
  generalize kL (multN ks x) = rk at *
  generalize lbs 8 1 = vo at *
  generalize lbs 8 x = vx at *
  generalize scL ks = sl at *
  have L_ks := hk
  have L_ps := hp
  clear S
  have S_vo := wcells_size L_vo
  have O_vo := wcells_one vo
  have C_vo := wc8' L_vo
  have S_vx := wcells_size L_vx
  have O_vx := wcells_one vx
  have C_vx := wc8' L_vx
  have S_vi := wcells_size L_vi
  have O_vi := wcells_one vi
  have C_vi := wc8' L_vi
  have S_vm := wcells_size L_vm
  have O_vm := wcells_one vm
  have C_vm := wc8' L_vm
  have S_rk : (cellsOf rk).toArray.size = 32 := by simp [cellsOf_len, L_rk]
  have O_rk := cellsOf_one rk
  have S_sl : (cellsOf sl).toArray.size = 32 := by simp [cellsOf_len, L_sl]
  have O_sl := cellsOf_one sl
  have S_ks : (cellsOf ks).toArray.size = 32 := by simp [cellsOf_len, L_ks]
  have O_ks := cellsOf_one ks
  have S_ps : (cellsOf ps).toArray.size = 32 := by simp [cellsOf_len, L_ps]
  have O_ps := cellsOf_one ps
  have hbp := Lib.hid (built_pr3 L_vo L_vx L_vo)
  have hal2 := elem_alloc
  have hal9 := pair_alloc
  have hal4 := kb_alloc
  have L_zs : zw8.length = 8 := rfl
  have hal : ∀ w, (zeroValue 23).run Tryd.prog w = .ok (.agg (cellsOf (List.replicate 32 0)).toArray) w := fun w => by rw [zeros32_cells]; exact key_alloc w
  have L_zk : (List.replicate 32 (0 : UInt8)).length = 32 := rfl
  generalize List.replicate 32 (0 : UInt8) = zk at *
  generalize zw8 = zs at *
  have S_zs := wcells_size L_zs
  have S_zk : (cellsOf zk).toArray.size = 32 := by simp [cellsOf_len, L_zk]
  have hzz : L8 zs zs zs zs := ⟨L_zs, L_zs, L_zs, L_zs⟩
  have hin : L8 vo vx zs vo := ⟨L_vo, L_vx, L_zs, L_vo⟩
  have S_zz : (prC zs zs zs zs).toArray.size = 32 := prC_len hzz
  have B0 : Hid (∀ s, Ext (((w.alloc (Obj.cells (cellsOf ks).toArray 23)).alloc (Obj.cells (cellsOf ps).toArray 23)).alloc (Obj.cells (cellsOf zk).toArray 23)) s → Ky s w.heap.size ks ∧ Ky s (w.heap.size + 1) ps ∧ Ky s (w.heap.size + 1 + 1) zk ∧ Ext w s) := fun s e => ⟨Ky.ext ⟨heap_alloc30 _ _ _ _, hk⟩ e, Ky.ext ⟨heap_alloc31 _ _ _ _, hp⟩ e, Ky.ext ⟨heap_alloc32 _ _ _ _, L_zk⟩ e, ((((Ext.refl w).alloc _).alloc _).alloc _).trans e⟩
  go_enter Tryd.func29, Tryd.ntmps29
  go_upto_region 1 with fail
  refine wp_gen (fun W => ∀ s, Ext W s → Ky s w.heap.size ks ∧ Ky s (w.heap.size + 1) ps ∧ Ky s (w.heap.size + 1 + 1) zk ∧ Ext w s) B0.out ?_
  clear B0
  rintro w0 P0
  replace P0 := Lib.hid P0
  have q0 := Lib.hid (P0.out _ (Ext.refl _)).2.1
  go_wp2_with (refine wpList_exec rfl (exec_load_row rfl rfl q0.out.1 rfl rfl (by rw [S_ps]; rfl)) ?_; simp only [Act.put, List.setIfInBounds_toArray, List.set_cons_zero, List.set_cons_succ])
  refine (OFA.out _ (P0.out _ (Ext.refl _)).2.2.2).mono ?_
  rintro e v_ ⟨rfl, e1⟩
  have a1 : Hid ((v_.alloc (Obj.cells (wcells zs).toArray 81)).heap[v_.heap.size]? = some (.cells (wcells zs).toArray 81 (0, 0))) := heap_alloc_new _ _
  have e5 : Ext v_ ((v_.alloc (Obj.cells (wcells zs).toArray 81)).setRow v_.heap.size (wcells vx).toArray) := below_setRow ((Ext.refl v_).alloc _) (Nat.le_refl _) _
  go_upto_region 2 with (refine wpList_store_row rfl 81 _ _ rfl v_.heap.size (wcells vx).toArray rfl rfl 81 _ a1.out (by rw [S_vx]; rfl) (by rw [S_vx, S_zs]) O_vx ?_; simp only [Act.put, List.setIfInBounds_toArray, List.set_cons_zero, List.set_cons_succ])
  obtain ⟨g1_s, hg_⟩ : ∃ g, g = v_.heap.size := ⟨_, rfl⟩
  refine wp_gen (fun W => Ext w0 W ∧ Wr W g1_s 81 vx) ⟨e1.trans e5, by rw [hg_]; exact setRow_heap _ _ _ _ _ _ a1.out⟩ ?_
  rw [← hg_]
  clear hg_ a1 e5 e1 q0
  rintro w1 ⟨x_, k0⟩
  have P1 : Hid (∀ s, Ext w1 s → Ky s w.heap.size ks ∧ Ky s (w.heap.size + 1) ps ∧ Ky s (w.heap.size + 1 + 1) zk ∧ Wr s g1_s 81 vx ∧ Ext w s) := fun s e => by
    obtain ⟨p0, p1, p2, p3⟩ := P0.out s (x_.trans e)
    exact ⟨p0, p1, p2, k0.kept e k0.lt, p3⟩
  clear P0 x_ k0
  have q0 := Lib.hid (P1.out _ (Ext.refl _)).1
  go_wp2_with (refine wpList_exec rfl (exec_load_row rfl rfl q0.out.1 rfl rfl (by rw [S_ks]; rfl)) ?_; simp only [Act.put, List.setIfInBounds_toArray, List.set_cons_zero, List.set_cons_succ])
  refine (SCA.out _ (P1.out _ (Ext.refl _)).2.2.2.2).mono ?_
  rintro e v_ ⟨rfl, e1⟩
  have a1 : Hid ((v_.alloc (Obj.cells (cellsOf zk).toArray 22)).heap[v_.heap.size]? = some (.cells (cellsOf zk).toArray 22 (0, 0))) := heap_alloc_new _ _
  have e5 : Ext v_ ((v_.alloc (Obj.cells (cellsOf zk).toArray 22)).setRow v_.heap.size (cellsOf sl).toArray) := below_setRow ((Ext.refl v_).alloc _) (Nat.le_refl _) _
  go_upto_region 3 with (refine wpList_store_row rfl 22 _ _ rfl v_.heap.size (cellsOf sl).toArray rfl rfl 22 _ a1.out (by rw [S_sl]; rfl) (by rw [S_sl, S_zk]) O_sl ?_; simp only [Act.put, List.setIfInBounds_toArray, List.set_cons_zero, List.set_cons_succ])
  obtain ⟨g2_s, hg_⟩ : ∃ g, g = v_.heap.size := ⟨_, rfl⟩
  refine wp_gen (fun W => Ext w1 W ∧ Kb W g2_s sl) ⟨e1.trans e5, ⟨by rw [hg_]; exact setRow_heap _ _ _ _ _ _ a1.out, L_sl⟩⟩ ?_
  rw [← hg_]
  clear hg_ a1 e5 e1 q0
  rintro w2 ⟨x_, k0⟩
  have P2 : Hid (∀ s, Ext w2 s → Ky s w.heap.size ks ∧ Ky s (w.heap.size + 1) ps ∧ Ky s (w.heap.size + 1 + 1) zk ∧ Wr s g1_s 81 vx ∧ Kb s g2_s sl ∧ Ext w s) := fun s e => by
    obtain ⟨p0, p1, p2, p3, p4⟩ := P1.out s (x_.trans e)
    exact ⟨p0, p1, p2, p3, k0.kept e k0.lt, p4⟩
  clear P1 x_ k0
  refine wp_region_free (R := Ext) Ext.refl (fun _ _ _ => Ext.trans) [0, 1, 2, 3, 4] [5] [0, 0, 1, 7, 0, 31] [true, true, true, true, true, false] [(0, 16, 0), (0, 17, 64), (1, 18, 0), (7, 19, 458752), (0, 8, 0), (31, 0, 524544)] (by kernel_rfl) (by kernel_rfl) (by kernel_rfl) (by kernel_rfl) ?_
  refine free_step _ rfl (fun u _ => u = .agg (wcells vo).toArray) (d := 16) rfl (fun _ _ _ h _ => h) rfl ?_ ?_
  · intro a_ w_ hev hR hk K1 hK1
    clear hk
    go_simp
    refine (ONE.out _ (P2.out w_ (Ext.trans (Ext.refl _).drew hR)).2.2.2.2.2).mono ?_
    rintro e_ w2_ ⟨rfl, x_⟩
    exact hK1.out _ _ x_ rfl
  refine free_det (fun _ => Ext.refl _) _ rfl (v := .agg (wcells vx).toArray) (d := 17) rfl rfl ?_ ?_
  · intro a_ w_ hev hR hk
    have e5 : a_.eval (.tmp 5) = _ := hk 5 rfl
    exact (exec_load_row rfl e5 (P2.out w_ (Ext.trans (Ext.refl _).drew hR)).2.2.2.1 rfl rfl (by rw [S_vx]; rfl))
  refine free_step _ rfl (fun u _ => u = .agg (wcells vo).toArray) (d := 18) rfl (fun _ _ _ h _ => h) rfl ?_ ?_
  · intro a_ w_ hev hR hk K1 hK1
    clear hk
    go_simp
    refine (ONE.out _ (P2.out w_ (Ext.trans (Ext.refl _).drew hR)).2.2.2.2.2).mono ?_
    rintro e_ w2_ ⟨rfl, x_⟩
    exact hK1.out _ _ x_ rfl
  refine free_det (fun _ => Ext.refl _) _ rfl (v := .agg (prC vo vx zs vo).toArray) (d := 19) rfl rfl ?_ ?_
  · intro a_ w_ hev hR hk
    have e15 : a_.eval (.tmp 15) = _ := hk 15 rfl
    have e16 : a_.eval (.tmp 16) = _ := hk 16 rfl
    have e17 : a_.eval (.tmp 17) = _ := hk 17 rfl
    exact (exec_build_as rfl (by simp only [List.map_toArray, List.map_cons, List.map_nil, e15, e16, e17]; exact hbp.out))
  refine free_new _ rfl (fun u w_ => ∃ g, u = .pointer (some ⟨g, 0, none⟩) ∧ w2.drew.heap.size ≤ g ∧ w_.heap[g]? = some (.cells (prC zs zs zs zs).toArray 86 (0, 0))) (d := 8) rfl (fun _ _ _ h e => by obtain ⟨g, h1, h2, h3⟩ := h; exact ⟨g, h1, h2, (e.block g (heap_lt h3)).trans h3⟩) rfl (by decide) (fun _ _ h => by obtain ⟨g, h1, h2, h3⟩ := h; subst h1; exact ⟨g, rfl, heap_lt h3⟩) ?_ ?_
  · intro a_ w_ hev hR hk K1 hK1
    go_simp
    exact hK1.out _ _ ((Ext.refl _).alloc _) ⟨_, rfl, hR.size, heap_alloc_new _ _⟩ (fun _ q => by cases q; exact Nat.le_refl _)
  intro v_ w2q hR hV_ hN_
  obtain ⟨hv4, hv3, hv2, hv1, hv0, _⟩ := hV_
  replace hv0 : v_ 0 = _ := hv0
  replace hv1 : v_ 1 = _ := hv1
  replace hv2 : v_ 2 = _ := hv2
  replace hv3 : v_ 3 = _ := hv3
  skip
  dsimp only [putE, dOpt]
  obtain ⟨g_4, hv4, gb_4, gc_4⟩ := hv4
  clear hN_
  rw [hv0, hv1, hv2, hv3, hv4]
  simp only [Act.put, List.setIfInBounds_toArray, List.set_cons_zero, List.set_cons_succ]
  clear hv0 hv1 hv2 hv3 hv4
  refine any_more (z := 5) _ rfl rfl (by kernel_rfl) ?_
  intro K1 hK1
  refine wp_store_row _ _ _ rfl g_4 (prC vo vx zs vo).toArray rfl rfl 86 (prC zs zs zs zs).toArray gc_4 (by rw [(show (prC vo vx zs vo).toArray.size = 32 from prC_len hin)]; rfl) (by rw [(show (prC vo vx zs vo).toArray.size = 32 from prC_len hin), S_zz]) (prC_one _ _ _ _) ?_
  refine hK1.out _ _ ?_
  clear hK1 K1
  refine any_nil (by kernel_rfl) ?_
  refine gen_q (fun W => Ext w2 W ∧ Pr W g_4 vo vx zs vo) ⟨below_setRow ((Ext.refl w2).drew.trans hR) gb_4 _, ⟨setRow_heap _ _ _ _ _ _ gc_4, hin⟩⟩ ?_
  clear hR gc_4
  rintro w3 ⟨x_, kp⟩
  have zg : w2.heap.size ≤ g_4 := gb_4
  generalize g_4 = g7 at *
  clear gb_4
  have P3 : Hid (∀ s, Below g7 w3 s → Ky s w.heap.size ks ∧ Ky s (w.heap.size + 1) ps ∧ Ky s (w.heap.size + 1 + 1) zk ∧ Wr s g1_s 81 vx ∧ Kb s g2_s sl ∧ Ext w s) := fun s e => P2.out s (Below.trans x_ (e.mono zg))
  have lw : w.heap.size + 1 + 1 < g7 := Nat.lt_of_lt_of_le (heap_lt (P2.out _ (Ext.refl _)).2.2.1.1) zg
  clear P2 x_ zg
  replace kp := Lib.hid kp
  go_wp2_with fail
  go_loopw [9] (fun iv wr => ∃ m : Nat, m ≤ 255 ∧ iv = .int .i64 (254 - (m : Int)) ∧ Below g7 w3 wr ∧ Pr wr g7 (SA m) (SB m) (SC m) (SD m)) (fun iv _ => (intOf iv + 1).toNat)
  case atStart =>
    obtain ⟨i1, i2, i3, i4⟩ := I0.out ()
    exact ⟨0, Nat.zero_le _, rfl, Below.refl _ _, by rw [i1, i2, i3, i4]; exact kp.out⟩
  case round =>
    clear I0 kp
    obtain ⟨m, hm, rfl, hB, hw⟩ := hrel
    by_cases hlt : m < 255
    · obtain ⟨n, hn⟩ : ∃ n : Nat, m + n = 254 := ⟨254 - m, by omega⟩
      obtain ⟨b, hb⟩ : ∃ b : Int, b = 254 - (m : Int) := ⟨_, rfl⟩
      have hbn : b = (n : Int) := by omega
      rw [← hb]
      have hbn1 : Hid (b - 1 = 254 - ((m + 1 : Nat) : Int)) := by unfold Hid; omega
      have hme : Hid ((b - 1 + 1).toNat < (b + 1).toNat) := by unfold Hid; omega
      have b0 : (0 : Int) ≤ b := by omega
      have b1 : b ≤ 254 := by omega
      have bw : IntKind.i64.wrap (b - 1) = b - 1 := IntWalk.i64_in _ (by omega)
      obtain ⟨q, hq⟩ : ∃ q, q = n / 8 := ⟨_, rfl⟩
      obtain ⟨r, hr⟩ : ∃ r, r = n % 8 := ⟨_, rfl⟩
      have iq : b / 8 = (q : Int) := by omega
      have ir : b % 8 = (r : Int) := by omega
      have iq' : Int.tdiv b 8 = (q : Int) := by rw [Int.tdiv_eq_ediv_of_nonneg (by omega)]; omega
      have ir' : Int.tmod b 8 = (r : Int) := by rw [Int.tmod_eq_emod_of_nonneg (by omega)]; omega
      have q32 : q < 32 := by omega
      have q32' : (q : Int) < 32 := by omega
      have q0 : (0 : Int) ≤ (q : Int) := by omega
      have r8 : (r : Int) < 8 := by omega
      have bb := BIT.out m n hn
      rw [← hq, ← hr] at bb
      have KC : Hid (∀ s, Below g7 w3 s → s.cell? ⟨g2_s, q, none⟩ = some (.int .u8 (bt sl q : Int))) := fun s e => ((P3.out s e).2.2.2.2.1).cell q32
      have c6 := KC.out _ hB
      have b256 := bt_lt sl q
      generalize bt sl q = u at *
      obtain ⟨y, hy⟩ : ∃ y, y = u / 2 ^ r := ⟨_, rfl⟩
      have y8 : y < 256 := by rw [hy]; exact Nat.lt_of_le_of_lt (Nat.div_le_self _ _) b256
      have s1 : Op.shift .shr .u8 (u : Int) .i64 (r : Int) = pure (.int .u8 (y : Int)) := by
        have := shift_shr .u8 .i64 (u : Int) (r : Int) (by omega) (by show (r : Int) ≤ 8; omega)
        rw [this, hy]
        simp
      have s3 : (u : Int) / 2 ^ r = (y : Int) := by rw [hy]; simp
      obtain ⟨t, ht⟩ : ∃ t, t = y % 2 := ⟨_, rfl⟩
      have s2 : bits .and .u8 (y : Int) 1 = (t : Int) := by
        have := u8_and_nat y 1 y8 (by omega)
        rw [show ((1 : Nat) : Int) = 1 from rfl] at this
        rw [this, ht, Nat.and_one_is_mod]
      rw [← hy, ← ht] at bb
      have l8 := L8S.out m
      have l8' := L8S.out (m + 1)
      have XW : Hid (Ext w wr) := (P3.out _ hB).2.2.2.2.2
      clear hn hb hbn hq hr hy ht y8 b256 KC BIT OFA SCA ONE INV MUL KEY_ L8S
      replace hB := Lib.hid hB
      replace hw := Lib.hid hw
      rcases Bool.eq_false_or_eq_true (B m) with hbt | hbt
      · have ST := Lib.hid (fun W e => STT.out m W e hbt)
        rw [hbt] at bb
        have bb' : Hid (t = 1) := bb
        clear STT STF bb hbt
        obtain ⟨na, hna⟩ : ∃ z, z = SA (m + 1) := ⟨_, rfl⟩
        obtain ⟨nb, hnb⟩ : ∃ z, z = SB (m + 1) := ⟨_, rfl⟩
        obtain ⟨nc, hnc⟩ : ∃ z, z = SC (m + 1) := ⟨_, rfl⟩
        obtain ⟨nd, hnd⟩ : ∃ z, z = SD (m + 1) := ⟨_, rfl⟩
        rw [← hna, ← hnb, ← hnc, ← hnd] at ST l8'
        have hNN := Lib.hid (And.intro hna (And.intro hnb (And.intro hnc hnd)))
        clear hna hnb hnc hnd
        generalize SA m = sa at *
        generalize SB m = sb at *
        generalize SC m = sc at *
        generalize SD m = sd at *
        have SS : (prC sb sa sd sc).toArray.size = 32 := prC_len ⟨l8.2.1, l8.1, l8.2.2.2, l8.2.2.1⟩
        have l8n : L8 nb na nd nc := ⟨l8'.2.1, l8'.1, l8'.2.2.2, l8'.2.2.1⟩
        have SN : (prC nb na nd nc).toArray.size = 32 := prC_len l8n
        have ON := prC_one nb na nd nc
        go_wp2_with fail
        refine (exch_one' bb'.out hw.out).mono ?_
        rintro e w4 ⟨rfl, gr4, p4⟩
        have B4 : Hid (Below g7 w3 w4) := Below.trans hB.out (below_grown hw.out.lt gr4)
        have X4 : Hid (Wr w4 g1_s 81 vx ∧ Ext w w4) := ⟨(P3.out _ B4.out).2.2.2.1, (P3.out _ B4.out).2.2.2.2.2⟩
        replace p4 := Lib.hid p4
        clear hw hB XW gr4 c6
        go_wp2_with (first
          | (refine wpList_load_row rfl 86 _ rfl g7 rfl 86 (prC sb sa sd sc).toArray (0, 0) _ p4.out.1 rfl rfl (by rw [SS]; rfl) ?_; simp only [Act.put, List.setIfInBounds_toArray, List.set_cons_zero, List.set_cons_succ])
          | (refine wpList_load_row rfl 81 _ rfl g1_s rfl 81 (wcells vx).toArray (0, 0) _ X4.out.1 rfl rfl (by rw [S_vx]; rfl) ?_; simp only [Act.put, List.setIfInBounds_toArray, List.set_cons_zero, List.set_cons_succ]))
        refine (ST.out _ X4.out.2).mono ?_
        rintro e w5 ⟨rfl, e5⟩
        have p5 := Lib.hid (p4.out.kept e5 p4.out.lt)
        have B5 : Hid (Below g7 w3 w5) := Below.trans B4.out (e5.mono (Nat.le_of_lt p4.out.lt))
        clear p4 B4 X4 e5
        go_upto_region 11 with (refine wpList_store_row rfl 86 _ _ rfl g7 (prC nb na nd nc).toArray rfl rfl 86 _ p5.out.1 (by rw [SN]; rfl) (by rw [SN, SS]) ON ?_; simp only [Act.put, List.setIfInBounds_toArray, List.set_cons_zero, List.set_cons_succ])
        refine wp_gen (fun W => Pr W g7 nb na nd nc ∧ Below g7 w3 W) ⟨⟨setRow_heap _ _ _ _ _ _ p5.out.1, l8n⟩, below_setRow B5.out (Nat.le_refl _) _⟩ ?_
        clear p5 B5
        rintro w6 ⟨p6, B6⟩
        go_wp2_with fail
        refine (exch_one' bb'.out p6).mono ?_
        rintro e w7 ⟨rfl, gr7, p7⟩
        have B7 : Hid (Below g7 w3 w7) := Below.trans B6 (below_grown p6.lt gr7)
        clear p6 B6 gr7
        replace p7 := Lib.hid p7
        go_wp2_with fail
        obtain ⟨hna, hnb, hnc, hnd⟩ := hNN.out
        exact ⟨⟨m + 1, by omega, by rw [← hbn1.out], B7.out, by rw [← hna, ← hnb, ← hnc, ← hnd]; exact p7.out⟩, by simp [intOf]; omega⟩
      · have ST := Lib.hid (fun W e => STF.out m W e hbt)
        rw [hbt] at bb
        have bb' : Hid (t ≠ 1) := by unfold Hid; rw [bb]; decide
        clear STT STF bb hbt
        obtain ⟨na, hna⟩ : ∃ z, z = SA (m + 1) := ⟨_, rfl⟩
        obtain ⟨nb, hnb⟩ : ∃ z, z = SB (m + 1) := ⟨_, rfl⟩
        obtain ⟨nc, hnc⟩ : ∃ z, z = SC (m + 1) := ⟨_, rfl⟩
        obtain ⟨nd, hnd⟩ : ∃ z, z = SD (m + 1) := ⟨_, rfl⟩
        rw [← hna, ← hnb, ← hnc, ← hnd] at ST l8'
        have hNN := Lib.hid (And.intro hna (And.intro hnb (And.intro hnc hnd)))
        clear hna hnb hnc hnd
        generalize SA m = sa at *
        generalize SB m = sb at *
        generalize SC m = sc at *
        generalize SD m = sd at *
        have SS : (prC sa sb sc sd).toArray.size = 32 := prC_len l8
        have SN : (prC na nb nc nd).toArray.size = 32 := prC_len l8'
        have ON := prC_one na nb nc nd
        go_wp2_with fail
        refine (exch_zero bb'.out).mono ?_
        rintro e w4 ⟨rfl, rfl⟩
        have X4 : Hid (Wr w4 g1_s 81 vx ∧ Ext w w4) := ⟨(P3.out _ hB.out).2.2.2.1, XW.out⟩
        clear XW c6
        go_wp2_with (first
          | (refine wpList_load_row rfl 86 _ rfl g7 rfl 86 (prC sa sb sc sd).toArray (0, 0) _ hw.out.1 rfl rfl (by rw [SS]; rfl) ?_; simp only [Act.put, List.setIfInBounds_toArray, List.set_cons_zero, List.set_cons_succ])
          | (refine wpList_load_row rfl 81 _ rfl g1_s rfl 81 (wcells vx).toArray (0, 0) _ X4.out.1 rfl rfl (by rw [S_vx]; rfl) ?_; simp only [Act.put, List.setIfInBounds_toArray, List.set_cons_zero, List.set_cons_succ]))
        refine (ST.out _ X4.out.2).mono ?_
        rintro e w5 ⟨rfl, e5⟩
        have p5 := Lib.hid (hw.out.kept e5 hw.out.lt)
        have B5 : Hid (Below g7 w3 w5) := Below.trans hB.out (e5.mono (Nat.le_of_lt hw.out.lt))
        clear hw hB X4 e5
        go_upto_region 11 with (refine wpList_store_row rfl 86 _ _ rfl g7 (prC na nb nc nd).toArray rfl rfl 86 _ p5.out.1 (by rw [SN]; rfl) (by rw [SN, SS]) ON ?_; simp only [Act.put, List.setIfInBounds_toArray, List.set_cons_zero, List.set_cons_succ])
        refine wp_gen (fun W => Pr W g7 na nb nc nd ∧ Below g7 w3 W) ⟨⟨setRow_heap _ _ _ _ _ _ p5.out.1, l8'⟩, below_setRow B5.out (Nat.le_refl _) _⟩ ?_
        clear p5 B5
        rintro w6 ⟨p6, B6⟩
        go_wp2_with fail
        refine (exch_zero bb'.out).mono ?_
        rintro e w7 ⟨rfl, rfl⟩
        replace p6 := Lib.hid p6
        replace B6 := Lib.hid B6
        go_wp2_with fail
        obtain ⟨hna, hnb, hnc, hnd⟩ := hNN.out
        exact ⟨⟨m + 1, by omega, by rw [← hbn1.out], B6.out, by rw [← hna, ← hnb, ← hnc, ← hnd]; exact p6.out⟩, by simp [intOf]; omega⟩
    · obtain rfl : m = 255 := by omega
      clear STF STT BIT
      have P4 : Hid (∀ s, Ext wr s → Pr s g7 (SA 255) (SB 255) (SC 255) (SD 255) ∧ Ky s (w.heap.size + 1 + 1) zk ∧ Ext w s) := fun s e => ⟨hw.kept e hw.lt, (P3.out s (Below.trans hB (e.mono (Nat.le_of_lt hw.lt)))).2.2.1, (P3.out s (Below.trans hB (e.mono (Nat.le_of_lt hw.lt)))).2.2.2.2.2⟩
      clear P3 hB hw L8S
      have C_va := wc8' L_va
      have C_vc := wc8' L_vc
      generalize SA 255 = va at *
      generalize SB 255 = vb at *
      generalize SC 255 = vc at *
      generalize SD 255 = vd at *
      go_wp2_with fail
      refine wp_region_free (R := Ext) Ext.refl (fun _ _ _ => Ext.trans) [0, 1, 2, 3, 4, 5, 6] [7] [0, 1, 0, 4, 12, 31, 63, 127] [true, true, true, true, true, true, true, false] [(0, 42, 256), (1, 43, 4398046511104), (0, 44, 256), (4, 45, 17592186044416), (8, 46, 35184372088832), (18, 47, 79164837199872), (32, 48, 140737488355328), (127, 0, 281474976710688)] (by kernel_rfl) (by kernel_rfl) (by kernel_rfl) (by kernel_rfl) ?_
      refine free_det (fun _ => Ext.refl _) _ rfl (v := ?_) (d := 42) rfl rfl ?_ ?_
      rotate_left
      · intro a_ w_ hev hR hk
        have e7 : a_.eval (.tmp 7) = _ := hk 7 rfl
        clear hk
        generalize a_.eval = ev at *
        obtain ⟨hev1, hev2, hev3⟩ := hev
        go_simp
        (try with_reducible rfl)
      refine free_det (fun _ => Ext.refl _) _ rfl (v := .agg (wcells va).toArray) (d := 43) rfl rfl ?_ ?_
      · intro a_ w_ hev hR hk
        have e41 : a_.eval (.tmp 41) = _ := hk 41 rfl
        exact (exec_load_mid rfl e41 (P4.out w_ (Ext.trans (Ext.refl _).drew hR)).1.at0 rfl rfl (by rw [C_va]; rfl))
      refine free_det (fun _ => Ext.refl _) _ rfl (v := ?_) (d := 44) rfl rfl ?_ ?_
      rotate_left
      · intro a_ w_ hev hR hk
        have e7 : a_.eval (.tmp 7) = _ := hk 7 rfl
        clear hk
        generalize a_.eval = ev at *
        obtain ⟨hev1, hev2, hev3⟩ := hev
        go_simp
        (try with_reducible rfl)
      refine free_det (fun _ => Ext.refl _) _ rfl (v := .agg (wcells vc).toArray) (d := 45) rfl rfl ?_ ?_
      · intro a_ w_ hev hR hk
        have e43 : a_.eval (.tmp 43) = _ := hk 43 rfl
        exact (exec_load_mid rfl e43 (P4.out w_ (Ext.trans (Ext.refl _).drew hR)).1.at16 rfl rfl (by rw [C_vc]; rfl))
      refine free_step _ rfl (fun u _ => u = .agg (wcells vi).toArray) (d := 46) rfl (fun _ _ _ h _ => h) rfl ?_ ?_
      · intro a_ w_ hev hR hk K1 hK1
        have e44 : a_.eval (.tmp 44) = _ := hk 44 rfl
        clear hk
        have f44 := ev_get.trans e44
        go_simp
        refine (INV.out _ (P4.out w_ (Ext.trans (Ext.refl _).drew hR)).2.2).mono ?_
        rintro e_ w2_ ⟨rfl, x_⟩
        exact hK1.out _ _ x_ rfl
      refine free_step _ rfl (fun u _ => u = .agg (wcells vm).toArray) (d := 47) rfl (fun _ _ _ h _ => h) rfl ?_ ?_
      · intro a_ w_ hev hR hk K1 hK1
        have e42 : a_.eval (.tmp 42) = _ := hk 42 rfl
        have e45 : a_.eval (.tmp 45) = _ := hk 45 rfl
        clear hk
        have f42 := ev_get.trans e42
        have f45 := ev_get.trans e45
        go_simp
        refine (MUL.out _ (P4.out w_ (Ext.trans (Ext.refl _).drew hR)).2.2).mono ?_
        rintro e_ w2_ ⟨rfl, x_⟩
        exact hK1.out _ _ x_ rfl
      refine free_step _ rfl (fun u _ => u = .agg (cellsOf rk).toArray) (d := 48) rfl (fun _ _ _ h _ => h) rfl ?_ ?_
      · intro a_ w_ hev hR hk K1 hK1
        have e46 : a_.eval (.tmp 46) = _ := hk 46 rfl
        clear hk
        have f46 := ev_get.trans e46
        go_simp
        refine (KEY_.out _ (P4.out w_ (Ext.trans (Ext.refl _).drew hR)).2.2).mono ?_
        rintro e_ w2_ ⟨rfl, x_⟩
        exact hK1.out _ _ x_ rfl
      intro v_ w4q hR hV_ hN_
      obtain ⟨hv6, hv5, hv4, hv3, hv2, hv1, hv0, _⟩ := hV_
      replace hv0 : v_ 0 = _ := hv0
      replace hv1 : v_ 1 = _ := hv1
      replace hv2 : v_ 2 = _ := hv2
      replace hv3 : v_ 3 = _ := hv3
      replace hv4 : v_ 4 = _ := hv4
      replace hv5 : v_ 5 = _ := hv5
      replace hv6 : v_ 6 = _ := hv6
      dsimp only [putE, dOpt]
      clear hN_
      rw [hv0, hv1, hv2, hv3, hv4, hv5, hv6]
      simp only [Act.put, List.setIfInBounds_toArray, List.set_cons_zero, List.set_cons_succ]
      clear hv0 hv1 hv2 hv3 hv4 hv5 hv6
      refine any_more (z := 7) _ rfl rfl (by kernel_rfl) ?_
      intro K1 hK1
      refine wp_store_row _ _ _ rfl (w.heap.size + 1 + 1) (cellsOf rk).toArray rfl rfl 23 (cellsOf zk).toArray ((P4.out _ (Ext.trans (Ext.refl _).drew hR)).2.1).1 (by rw [S_rk]; rfl) (by rw [S_rk, S_zk]) O_rk ?_
      refine hK1.out _ _ ?_
      clear hK1 K1
      refine any_nil (by kernel_rfl) ?_
      have EX := Lib.hid ((P4.out _ (Ext.trans (Ext.refl _).drew hR)).2.2)
      have kr := Lib.hid (((P4.out _ (Ext.trans (Ext.refl _).drew hR)).2.1).1)
      clear P4 hR
      go_wp2_with fail
      (try simp only [Exit.inBlock, Exit.then])
      refine bodyPost_ret (results_cell_row rfl _ _ (w.heap.size + 1 + 1) 23 (cellsOf rk).toArray (0, 0) _ rfl (setRow_heap _ _ _ _ _ _ kr.out) rfl rfl (by rw [S_rk]; rfl)) rfl ?_
      exact ⟨rfl, below_setRow EX.out (by omega) _⟩
end Go.Proofs.YtfhafednnnfmbaaDoor
