/-
  palfreyref12.of.
-/
import Derived.Test.YtojgmgghlkpfoaaRfKey12
import Derived.Test.YtojgmgghlkpfoaaFree
namespace Go.Proofs.Ytojgmgghlkpfoaa
open Go.ChangeShapes Go.WideShapes Go.ChangeAt Go.RowKit Go.Deep
set_option maxRecDepth 100000

theorem Bs.sub {w : World} {b off n c : Nat} {xs : List UInt8} (h : Bs w (some ⟨b, off, none⟩) n c xs) {i k : Nat} (hk : i + k ≤ n) : Bs w (some ⟨b, off + i, none⟩) k (c - i) ((xs.drop i).take k) :=
  ⟨by rw [List.length_take, List.length_drop, h.1]; omega, by have := h.2.1; omega, by have := h.2.2.1; omega, fun h0 => by
    obtain ⟨b', off', hA, hb, hc⟩ := h.2.2.2 (by omega)
    cases hA
    refine ⟨b, off + i, rfl, hb, fun j hj => ?_⟩
    rw [bt_take hj, bt_drop, Nat.add_assoc]
    exact hc (i + j) (by omega)⟩
set_option maxHeartbeats 4000000 in
theorem rof12_calls {w : World} {n c : Nat} {A : Option Addr} {xs : List UInt8} (hb : Bs w A n c xs) (hn : 40 ≤ n) :
    Calls Try.prog 39 #[.slice A n c] w fun e w' => e = .returned (.agg (hdC (xs.take 32) (numN (xs.drop 32) 4 : Int) (numN (xs.drop 36) 4 : Int)).toArray) ∧ Ext w w' := by
  have hle := hb.le
  have hcap := hb.cap
  have lx := hb.1
  obtain ⟨b, off, rfl, hbb, _⟩ := hb.pos (by omega)
  have KEY : Hid (∀ W, Ext w W → Calls Try.prog 47 #[.slice (some ⟨b, off, none⟩) n c] W fun e w' => e = .returned (.agg (cellsOf (xs.take 32)).toArray) ∧ Ext W w') := fun W e => rkey_calls (hb.ext e) (by omega)
  have OA : Hid (∀ W, Ext w W → Calls Try.prog 46 #[.slice (some ⟨b, off + 32, none⟩) 4 (c - 32)] W fun e w' => e = .returned (.int .u64 (numN (xs.drop 32) 4 : Int)) ∧ Ext W w') := fun W e => by
    have := refOfHigh_calls (m := 4) ((hb.sub (i := 32) (k := 4) (by omega)).ext e) (by omega) (Nat.le_refl _) (.inl rfl)
    rw [List.take_take] at this
    exact this.mono fun e w' q => ⟨q.1, by rw [q.2]; exact Ext.refl _⟩
  have OB : Hid (∀ W, Ext w W → Calls Try.prog 46 #[.slice (some ⟨b, off + 36, none⟩) 4 (c - 36)] W fun e w' => e = .returned (.int .u64 (numN (xs.drop 36) 4 : Int)) ∧ Ext W w') := fun W e => by
    have := refOfHigh_calls (m := 4) ((hb.sub (i := 36) (k := 4) (by omega)).ext e) (by omega) (Nat.le_refl _) (.inl rfl)
    rw [List.take_take] at this
    exact this.mono fun e w' q => ⟨q.1, by rw [q.2]; exact Ext.refl _⟩
  have L_kk : (xs.take 32).length = 32 := by rw [List.length_take]; omega
  have v1 : IntKind.i64.wrap (numN (xs.drop 32) 4 : Int) = (numN (xs.drop 32) 4 : Int) := IntWalk.i64_in _ (by have := numN_lt (xs := xs.drop 32) (k := 4) (by omega); omega)
  have v2 : IntKind.i64.wrap (numN (xs.drop 36) 4 : Int) = (numN (xs.drop 36) 4 : Int) := IntWalk.i64_in _ (by have := numN_lt (xs := xs.drop 36) (k := 4) (by omega); omega)
  have BLT := Lib.hid (head_built (p := (numN (xs.drop 32) 4 : Int)) (n := (numN (xs.drop 36) 4 : Int)) L_kk)
  have L_hr := hdC_len L_kk (numN (xs.drop 32) 4 : Int) (numN (xs.drop 36) 4 : Int)
  have O_hr : Hid ((hdC (xs.take 32) (numN (xs.drop 32) 4 : Int) (numN (xs.drop 36) 4 : Int)).toArray.all (·.oneCell') = true) := one_cells fun v hv => by
    rcases List.mem_append.1 hv with q | q
    · exact one_mem _ v q
    · simp at q; rcases q with rfl | rfl <;> rfl
  have hal := head_alloc
  have L_hz : (hdC (List.replicate 32 0) 0 0).length = 34 := hdC_len rfl 0 0
  generalize numN (xs.drop 32) 4 = va at *
  generalize numN (xs.drop 36) 4 = vb at *
  generalize hdC (List.replicate 32 0) 0 0 = hz at *
  generalize hdC (xs.take 32) (va : Int) (vb : Int) = hr_ at *
  generalize xs.take 32 = kk at *
  have S_hz : hz.toArray.size = 34 := by rw [List.size_toArray, L_hz]
  have S_hr : hr_.toArray.size = 34 := by rw [List.size_toArray, L_hr]
  have q1 : (36 : Int) ≤ (c : Int) := by omega
  have q2 : (40 : Int) ≤ (c : Int) := by omega
  have q3 : ¬ c = 32 := by omega
  have q4 : ¬ c = 36 := by omega
  clear hb lx
  obtain ⟨r, hr⟩ : ∃ r, r = w.heap.size := ⟨_, rfl⟩
  have B0 : Hid (Cb (w.alloc (Obj.cells hz.toArray 25)) r 25 hz ∧ Ext w (w.alloc (Obj.cells hz.toArray 25))) := by rw [hr]; exact ⟨Cb.new _ _ _, (Ext.refl w).alloc _⟩
  go_enter Try.func39, Try.ntmps39
  go_upto_region 1 with fail
  refine wp_gen (fun W => Cb W r 25 hz ∧ Ext w W) B0.out ?_
  rw [← hr]
  have wr_ : w.heap.size ≤ r := Nat.le_of_eq hr.symm
  clear B0
  replace hr := Lib.hid hr
  rintro w1 ⟨k0, x0⟩
  have Q1 : Hid (∀ s, Ext w1 s → Cb s r 25 hz ∧ Ext w s) := fun s e => ⟨k0.ext e, x0.trans e⟩
  clear k0 x0
  refine wp_region_free (R := Ext) Ext.refl (fun _ _ _ => Ext.trans) [0, 1, 2, 3, 4, 5, 6, 7, 8, 9, 10] [11] [0, 1, 0, 4, 15, 31, 0, 64, 223, 479, 1023, 2047] [true, true, true, true, true, true, true, true, true, true, true, false] [(0, 4, 2), (1, 5, 16), (0, 6, 2), (4, 7, 64), (10, 8, 128), (16, 9, 256), (0, 10, 2), (64, 11, 1024), (144, 12, 2048), (256, 13, 4096), (546, 14, 8736), (2047, 0, 16392)] (by kernel_rfl) (by kernel_rfl) (by kernel_rfl) (by kernel_rfl) ?_
  refine free_det (fun _ => Ext.refl _) _ rfl (v := ?_) (d := 4) rfl rfl ?_ ?_
  rotate_left
  · intro a_ w_ hev hR hk
    have e0 : a_.eval (.tmp 0) = _ := hk 0 rfl
    clear hk
    generalize a_.eval = ev at *
    obtain ⟨hev1, hev2, hev3⟩ := hev
    go_simp
    (try with_reducible rfl)
  refine free_step _ rfl (fun u _ => u = .agg (cellsOf kk).toArray) (d := 5) rfl (fun _ _ _ h _ => h) rfl ?_ ?_
  · intro a_ w_ hev hR hk K1 hK1
    have e3 : a_.eval (.tmp 3) = _ := hk 3 rfl
    clear hk
    have f3 := ev_get.trans e3
    go_simp
    refine (KEY.out _ (Q1.out w_ (Ext.trans (Ext.refl _).drew hR)).2).mono ?_
    rintro e_ w2_ ⟨rfl, x_⟩
    exact hK1.out _ _ x_ rfl
  refine free_det (fun _ => Ext.refl _) _ rfl (v := ?_) (d := 6) rfl rfl ?_ ?_
  rotate_left
  · intro a_ w_ hev hR hk
    have e0 : a_.eval (.tmp 0) = _ := hk 0 rfl
    clear hk
    generalize a_.eval = ev at *
    obtain ⟨hev1, hev2, hev3⟩ := hev
    go_simp
    (try with_reducible rfl)
  refine free_det (fun _ => Ext.refl _) _ rfl (v := ?_) (d := 7) rfl rfl ?_ ?_
  rotate_left
  · intro a_ w_ hev hR hk
    have e5 : a_.eval (.tmp 5) = _ := hk 5 rfl
    clear hk
    generalize a_.eval = ev at *
    obtain ⟨hev1, hev2, hev3⟩ := hev
    go_simp
    (try with_reducible rfl)
  refine free_step _ rfl (fun u _ => u = .int .u64 (va : Int)) (d := 8) rfl (fun _ _ _ h _ => h) rfl ?_ ?_
  · intro a_ w_ hev hR hk K1 hK1
    have e6 : a_.eval (.tmp 6) = _ := hk 6 rfl
    clear hk
    have f6 := ev_get.trans e6
    go_simp
    refine (OA.out _ (Q1.out w_ (Ext.trans (Ext.refl _).drew hR)).2).mono ?_
    rintro e_ w2_ ⟨rfl, x_⟩
    exact hK1.out _ _ x_ rfl
  refine free_det (fun _ => Ext.refl _) _ rfl (v := ?_) (d := 9) rfl rfl ?_ ?_
  rotate_left
  · intro a_ w_ hev hR hk
    have e7 : a_.eval (.tmp 7) = _ := hk 7 rfl
    clear hk
    generalize a_.eval = ev at *
    obtain ⟨hev1, hev2, hev3⟩ := hev
    go_simp
    (try with_reducible rfl)
  refine free_det (fun _ => Ext.refl _) _ rfl (v := ?_) (d := 10) rfl rfl ?_ ?_
  rotate_left
  · intro a_ w_ hev hR hk
    have e0 : a_.eval (.tmp 0) = _ := hk 0 rfl
    clear hk
    generalize a_.eval = ev at *
    obtain ⟨hev1, hev2, hev3⟩ := hev
    go_simp
    (try with_reducible rfl)
  refine free_det (fun _ => Ext.refl _) _ rfl (v := ?_) (d := 11) rfl rfl ?_ ?_
  rotate_left
  · intro a_ w_ hev hR hk
    have e9 : a_.eval (.tmp 9) = _ := hk 9 rfl
    clear hk
    generalize a_.eval = ev at *
    obtain ⟨hev1, hev2, hev3⟩ := hev
    go_simp
    (try with_reducible rfl)
  refine free_step _ rfl (fun u _ => u = .int .u64 (vb : Int)) (d := 12) rfl (fun _ _ _ h _ => h) rfl ?_ ?_
  · intro a_ w_ hev hR hk K1 hK1
    have e10 : a_.eval (.tmp 10) = _ := hk 10 rfl
    clear hk
    have f10 := ev_get.trans e10
    go_simp
    refine (OB.out _ (Q1.out w_ (Ext.trans (Ext.refl _).drew hR)).2).mono ?_
    rintro e_ w2_ ⟨rfl, x_⟩
    exact hK1.out _ _ x_ rfl
  refine free_det (fun _ => Ext.refl _) _ rfl (v := ?_) (d := 13) rfl rfl ?_ ?_
  rotate_left
  · intro a_ w_ hev hR hk
    have e11 : a_.eval (.tmp 11) = _ := hk 11 rfl
    clear hk
    generalize a_.eval = ev at *
    obtain ⟨hev1, hev2, hev3⟩ := hev
    go_simp
    (try with_reducible rfl)
  refine free_det (fun _ => Ext.refl _) _ rfl (v := .agg hr_.toArray) (d := 14) rfl rfl ?_ ?_
  · intro a_ w_ hev hR hk
    have e4 : a_.eval (.tmp 4) = _ := hk 4 rfl
    have e8 : a_.eval (.tmp 8) = _ := hk 8 rfl
    have e12 : a_.eval (.tmp 12) = _ := hk 12 rfl
    exact (exec_build_as rfl (by simp only [List.map_toArray, List.map_cons, List.map_nil, e4, e8, e12]; exact BLT.out))
  intro v_ w2 hR hV_ hN_
  obtain ⟨hv10, hv9, hv8, hv7, hv6, hv5, hv4, hv3, hv2, hv1, hv0, _⟩ := hV_
  replace hv0 : v_ 0 = _ := hv0
  replace hv1 : v_ 1 = _ := hv1
  replace hv2 : v_ 2 = _ := hv2
  replace hv3 : v_ 3 = _ := hv3
  replace hv4 : v_ 4 = _ := hv4
  replace hv5 : v_ 5 = _ := hv5
  replace hv6 : v_ 6 = _ := hv6
  replace hv7 : v_ 7 = _ := hv7
  replace hv8 : v_ 8 = _ := hv8
  replace hv9 : v_ 9 = _ := hv9
  replace hv10 : v_ 10 = _ := hv10
  dsimp only [putE, dOpt]
  clear hN_
  rw [hv0, hv1, hv2, hv3, hv4, hv5, hv6, hv7, hv8, hv9, hv10]
  simp only [Act.put, List.setIfInBounds_toArray, List.set_cons_zero, List.set_cons_succ]
  clear hv0 hv1 hv2 hv3 hv4 hv5 hv6 hv7 hv8 hv9 hv10
  have kz := Lib.hid (Q1.out w2 ((Ext.refl _).drew.trans hR))
  refine any_more (z := 11) _ rfl rfl (by kernel_rfl) ?_
  intro K1 hK1
  refine wp_store_row _ _ _ rfl r hr_.toArray rfl rfl 25 hz.toArray kz.out.1 (by rw [S_hr]; rfl) (by rw [S_hr, S_hz]) O_hr.out ?_
  refine hK1.out _ _ ?_
  clear hK1 K1
  refine any_nil (by kernel_rfl) ?_
  clear hR Q1
  go_wp2_with fail
  (try simp only [Exit.inBlock, Exit.then])
  refine bodyPost_ret (results_cell_row rfl _ _ r 25 hr_.toArray (0, 0) _ rfl (setRow_heap _ _ _ _ _ _ kz.out.1) rfl rfl (by rw [S_hr]; rfl)) rfl ?_
  exact ⟨rfl, below_setRow kz.out.2 wr_ _⟩
end Go.Proofs.Ytojgmgghlkpfoaa
