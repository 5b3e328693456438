import Derived.Test.YteaoacinhdjkeaaPkI
import Derived.Test.YteaoacinhdjkeaaFree
/-
  Strikes: recordOf.
-/
namespace Go.Proofs.Yteaoacinhdjkeaa
open Go.ChangeShapes Go.WideShapes Go.ChangeAt Go.RowKit Go.Deep Go.Maps
set_option maxRecDepth 100000

def zRk : List Value := (⟨0, 0, 0, 0⟩ : Rk).C
theorem rk_alloc (w : World) : (zeroValue 124).run Try.prog w = .ok (.agg zRk.toArray) w := by kernel_rfl
theorem rk_built0 : Try.prog.built 124 [] = some zRk.toArray := by kernel_rfl
theorem rk_built (a b c d : Int) : Try.prog.built 124 [(0, .int .i64 a), (1, .int .i64 b), (2, .int .i64 c), (3, .int .i64 d)] = some #[.int .i64 a, .int .i64 b, .int .i64 c, .int .i64 d] := by kernel_rfl
/-- What is handed back. -/
def recV (b : List UInt8) : Rk := (recR b).getD ⟨0, 0, 0, 0⟩
theorem bt_lt23 (xs : List UInt8) (j : Nat) : bt xs j < 256 := by unfold bt; exact UInt8.toNat_lt _
theorem ofLow_lt23 : ∀ (xs : List UInt8), ofLowL xs < 256 ^ xs.length
  | [] => by simp [ofLowL]
  | x :: r => by
    have e1 : ofLowL (x :: r) = x.toNat + 256 * ofLowL r := rfl
    have := ofLow_lt23 r
    have := x.toNat_lt
    rw [e1, List.length_cons, Nat.pow_succ]
    omega
set_option maxHeartbeats 4000000 in
theorem srecord_calls {w : World} {A : Option Addr} {n c : Nat} {xs : List UInt8} (hb : Bs w A n c xs) :
    Calls Try.prog 69 #[.slice A n c] w fun e w' => e = .returned (.tuple #[.agg (recV xs).C.toArray, .bool (recR xs).isSome]) ∧ Ext w w' := by
  have hx := hb.len
  have hc1 := hb.le
  have hc2 := hb.cap
  have hal := rk_alloc
  have B0' := Lib.hid rk_built0
  have ZS : zRk.toArray.size = 4 := rfl
  have ZO : zRk.toArray.all (·.oneCell') = true := one_cells (fun v hv => by
    simp only [zRk, Rk.C, List.mem_cons, List.not_mem_nil, or_false] at hv
    rcases hv with rfl | rfl | rfl | rfl <;> rfl)
  obtain ⟨r, hr⟩ : ∃ q, q = w.heap.size := ⟨_, rfl⟩
  have B0 : Hid (Cb (w.alloc (.cells zRk.toArray 124)) r 124 zRk ∧ Ext w (w.alloc (.cells zRk.toArray 124))) := by rw [hr]; exact ⟨Cb.new _ _ _, (Ext.refl w).alloc _⟩
  have ER : Hid (xs.length ≠ 10 ∨ okR (rkOf xs) = false → recR xs = none) := fun q => by
    unfold recR
    rw [if_neg]
    rintro ⟨z1, z2⟩
    rcases q with q | q
    · exact q z1
    · rw [q] at z2; cases z2
  have ES : Hid (xs.length = 10 → okR (rkOf xs) = true → recR xs = some (rkOf xs)) := fun z1 z2 => by
    unfold recR; rw [if_pos ⟨z1, z2⟩]
  have VN : Hid (recR xs = none → recV xs = ⟨0, 0, 0, 0⟩) := fun q => by unfold recV; rw [q]; rfl
  have VS : Hid (∀ y, recR xs = some y → recV xs = y) := fun y q => by unfold recV; rw [q]; rfl
  by_cases h10 : n = 10
  · subst h10
    obtain ⟨b, off, rfl, hbb, hc⟩ := hb.pos (by omega)
    have L4 : ((xs.drop 2).take 4).length ≤ 4 := by rw [List.length_take]; omega
    have O1 : Hid (∀ s, Ext w s → Calls Try.prog 73 #[.slice (some ⟨b, off + 2, none⟩) 4 (c - 2)] s fun e w' => e = .returned (.int .u64 (ofLowL ((xs.drop 2).take 4).reverse : Int)) ∧ Ext s w') := fun s e => by
      have h1 := ((hb.ext e).cutAt (k := 2) (by omega)).take (k := 4) (by omega)
      have := ofHigh_calls (m := 4) h1 (by omega) (by omega) (by omega)
      rwa [List.take_of_length_le L4] at this
    have O2 : Hid (∀ s, Ext w s → Calls Try.prog 73 #[.slice (some ⟨b, off + 6, none⟩) 4 (c - 6)] s fun e w' => e = .returned (.int .u64 (ofLowL (xs.drop 6).reverse : Int)) ∧ Ext s w') := fun s e => by
      have h1 := (hb.ext e).cutAt (k := 6) (by omega)
      have := ofHigh_calls (m := 4) h1 (by omega) (by omega) (by omega)
      rwa [List.take_of_length_le (by rw [List.length_drop]; omega)] at this
    have C0 : Hid (∀ s, Ext w s → s.cell? ⟨b, off, none⟩ = some (.int .u8 (bt xs 0 : Int)) ∧ s.cell? ⟨b, off + 1, none⟩ = some (.int .u8 (bt xs 1 : Int))) := fun s e => ⟨(e.cell (p := ⟨b, off, none⟩) hbb).trans (hc 0 (by omega)), (e.cell (p := ⟨b, off + 1, none⟩) hbb).trans (hc 1 (by omega))⟩
    have k256 := bt_lt23 xs 0
    have a256 := bt_lt23 xs 1
    have i32 : ofLowL ((xs.drop 2).take 4).reverse < 4294967296 := by
      have := ofLow_lt23 ((xs.drop 2).take 4).reverse
      rw [List.length_reverse, List.length_take, List.length_drop, hx] at this
      exact this
    have t32 : ofLowL (xs.drop 6).reverse < 4294967296 := by
      have := ofLow_lt23 (xs.drop 6).reverse
      rw [List.length_reverse, List.length_drop, hx] at this
      exact this
    have RK : Hid (rkOf xs = ⟨bt xs 0, bt xs 1, ofLowL ((xs.drop 2).take 4).reverse, ofLowL (xs.drop 6).reverse⟩) := rfl
    generalize bt xs 0 = k at *
    generalize bt xs 1 = a at *
    generalize ofLowL ((xs.drop 2).take 4).reverse = i at *
    generalize ofLowL (xs.drop 6).reverse = t at *
    have m1 : IntKind.i64.wrap (k : Int) = (k : Int) := IntWalk.i64_in _ (by omega)
    have m2 : IntKind.i64.wrap (a : Int) = (a : Int) := IntWalk.i64_in _ (by omega)
    have m3 : IntKind.i64.wrap (i : Int) = (i : Int) := IntWalk.i64_in _ (by omega)
    have m4 : IntKind.i64.wrap (t : Int) = (t : Int) := IntWalk.i64_in _ (by omega)
    have q2 : (6 : Int) ≤ (c : Int) := by omega
    have q3 : ¬ c = 2 := by omega
    have q4 : ¬ c = 6 := by omega
    have q5 : (10 : Int) ≤ (c : Int) := by omega
    have BB := Lib.hid (rk_built (k : Int) (a : Int) (i : Int) (t : Int))
    have HC : Hid ((rkOf xs).C = [.int .i64 (k : Int), .int .i64 (a : Int), .int .i64 (i : Int), .int .i64 (t : Int)]) := by unfold Hid; rw [RK.out]; rfl
    have HO : Hid (okR (rkOf xs) = ((decide (k = 1) || decide (k = 2)) && decide (a < 8) && decide (i ≤ 1000000) && decide (t ≤ 1000000))) := by unfold Hid; rw [RK.out]; rfl
    have AC : Hid (∀ W, Calls Try.prog 57 #[.int .i64 (a : Int)] W fun e w' => e = .returned (.bool (decide (a < 8))) ∧ w' = W) := fun W => by
      have := sacc_calls (w := W) (n := (a : Int))
      have e : accB23 (a : Int) = decide (a < 8) := by unfold accB23; rw [Bool.eq_iff_iff]; simp; omega
      rwa [e] at this
    have NC : Hid (∀ W (j : Nat), Calls Try.prog 58 #[.int .i64 (j : Int)] W fun e w' => e = .returned (.bool (decide (j ≤ 1000000))) ∧ w' = W) := fun W j => by
      have := snum_calls (w := W) (n := (j : Int))
      have e : numB23 (j : Int) = decide (j ≤ 1000000) := by unfold numB23; rw [Bool.eq_iff_iff]; simp; omega
      rwa [e] at this
    have KN : Hid ((decide (k = 1) || decide (k = 2)) = (decide ((k : Int) = 1) || decide ((k : Int) = 2))) := by unfold Hid; rw [Bool.eq_iff_iff]; simp; omega
    obtain ⟨kI, hkI⟩ : ∃ q : Int, q = (k : Int) := ⟨_, rfl⟩
    rw [← hkI] at C0 m1 BB HC KN
    replace hkI := Lib.hid hkI
    have L_RC : [Value.int .i64 kI, .int .i64 (a : Int), .int .i64 (i : Int), .int .i64 (t : Int)].toArray.size = 4 := rfl
    have O_RC : [Value.int .i64 kI, .int .i64 (a : Int), .int .i64 (i : Int), .int .i64 (t : Int)].toArray.all (·.oneCell') = true := one_cells (fun v hv => by
      simp only [List.mem_cons, List.not_mem_nil, or_false] at hv
      rcases hv with rfl | rfl | rfl | rfl <;> rfl)
    obtain ⟨RC, hRC⟩ : ∃ q, q = [Value.int .i64 kI, .int .i64 (a : Int), .int .i64 (i : Int), .int .i64 (t : Int)] := ⟨_, rfl⟩
    have hRC' : Hid (RC.toArray = #[.int .i64 kI, .int .i64 (a : Int), .int .i64 (i : Int), .int .i64 (t : Int)]) := by unfold Hid; rw [hRC]
    rw [← hRC] at HC L_RC O_RC
    have RCc : Hid (RC[0]? = some (.int .i64 kI) ∧ RC[1]? = some (.int .i64 (a : Int)) ∧ RC[2]? = some (.int .i64 (i : Int)) ∧ RC[3]? = some (.int .i64 (t : Int))) := by unfold Hid; rw [hRC]; exact ⟨rfl, rfl, rfl, rfl⟩
    rw [show some #[Value.int .i64 kI, .int .i64 (a : Int), .int .i64 (i : Int), .int .i64 (t : Int)] = some RC.toArray by rw [hRC]] at BB
    replace hRC := Lib.hid hRC
    replace hc := Lib.hid hc
    go_enter Try.func69, Try.ntmps69
    go_upto_region 1 with fail
    refine wp_gen (fun W => Cb W r 124 zRk ∧ Ext w W) B0.out ?_
    rw [← hr]
    have wr : w.heap.size ≤ r := Nat.le_of_eq hr.symm
    replace hr := Lib.hid hr
    clear B0 hb
    rintro w1 ⟨k0, x0⟩
    have rl := k0.lt
    have Q1 : Hid (∀ s, Ext w1 s → Cb s r 124 zRk ∧ Ext w s) := fun s e => ⟨k0.ext e, x0.trans e⟩
    clear k0 x0
    go_upto_region 3 with fail
    refine qgF (R := Ext) Ext.refl (fun _ _ _ => Ext.trans) [0, 1, 2, 3, 4, 5, 6, 7, 8, 9, 10, 11, 12, 13, 14, 15, 16, 17] [18] [0, 1, 3, 7, 0, 16, 48, 112, 0, 256, 768, 1792, 0, 4096, 14080, 30464, 65535, 0, 262143] [true, true, true, true, true, true, true, true, true, true, true, true, true, true, true, true, true, true, false] ?_
    refine free_det (fun _ => Ext.refl _) _ rfl (v := ?_) (d := 11) rfl rfl ?_ ?_
    rotate_left
    · intro a_ w_ hev hR hk
      have e0 : a_.eval (.tmp 0) = _ := hk 0 rfl
      clear hk
      generalize a_.eval = ev at *
      obtain ⟨hev1, hev2, hev3⟩ := hev
      go_simp
      (try with_reducible rfl)
    refine free_det (fun _ => Ext.refl _) _ rfl (v := ?_) (d := 12) rfl rfl ?_ ?_
    rotate_left
    · intro a_ w_ hev hR hk
      have e10 : a_.eval (.tmp 10) = _ := hk 10 rfl
      clear hk
      generalize a_.eval = ev at *
      obtain ⟨hev1, hev2, hev3⟩ := hev
      go_simp
      (try with_reducible rfl)
    refine free_det (fun _ => Ext.refl _) _ rfl (v := ?_) (d := 13) rfl rfl ?_ ?_
    rotate_left
    · intro a_ w_ hev hR hk
      have e11 : a_.eval (.tmp 11) = _ := hk 11 rfl
      clear hk
      have hF := ((C0.out w_ (Q1.out w_ (Ext.trans (Ext.refl _).drew hR)).2).1)
      generalize a_.eval = ev at *
      obtain ⟨hev1, hev2, hev3⟩ := hev
      go_simp
      (try with_reducible rfl)
    refine free_det (fun _ => Ext.refl _) _ rfl (v := ?_) (d := 14) rfl rfl ?_ ?_
    rotate_left
    · intro a_ w_ hev hR hk
      have e12 : a_.eval (.tmp 12) = _ := hk 12 rfl
      clear hk
      generalize a_.eval = ev at *
      obtain ⟨hev1, hev2, hev3⟩ := hev
      go_simp
      (try with_reducible rfl)
    refine free_det (fun _ => Ext.refl _) _ rfl (v := ?_) (d := 15) rfl rfl ?_ ?_
    rotate_left
    · intro a_ w_ hev hR hk
      have e0 : a_.eval (.tmp 0) = _ := hk 0 rfl
      clear hk
      generalize a_.eval = ev at *
      obtain ⟨hev1, hev2, hev3⟩ := hev
      go_simp
      (try with_reducible rfl)
    refine free_det (fun _ => Ext.refl _) _ rfl (v := ?_) (d := 16) rfl rfl ?_ ?_
    rotate_left
    · intro a_ w_ hev hR hk
      have e14 : a_.eval (.tmp 14) = _ := hk 14 rfl
      clear hk
      generalize a_.eval = ev at *
      obtain ⟨hev1, hev2, hev3⟩ := hev
      go_simp
      (try with_reducible rfl)
    refine free_det (fun _ => Ext.refl _) _ rfl (v := ?_) (d := 17) rfl rfl ?_ ?_
    rotate_left
    · intro a_ w_ hev hR hk
      have e15 : a_.eval (.tmp 15) = _ := hk 15 rfl
      clear hk
      have hF := ((C0.out w_ (Q1.out w_ (Ext.trans (Ext.refl _).drew hR)).2).2)
      generalize a_.eval = ev at *
      obtain ⟨hev1, hev2, hev3⟩ := hev
      go_simp
      (try with_reducible rfl)
    refine free_det (fun _ => Ext.refl _) _ rfl (v := ?_) (d := 18) rfl rfl ?_ ?_
    rotate_left
    · intro a_ w_ hev hR hk
      have e16 : a_.eval (.tmp 16) = _ := hk 16 rfl
      clear hk
      generalize a_.eval = ev at *
      obtain ⟨hev1, hev2, hev3⟩ := hev
      go_simp
      (try with_reducible rfl)
    refine free_det (fun _ => Ext.refl _) _ rfl (v := ?_) (d := 19) rfl rfl ?_ ?_
    rotate_left
    · intro a_ w_ hev hR hk
      have e0 : a_.eval (.tmp 0) = _ := hk 0 rfl
      clear hk
      generalize a_.eval = ev at *
      obtain ⟨hev1, hev2, hev3⟩ := hev
      go_simp
      (try with_reducible rfl)
    refine free_det (fun _ => Ext.refl _) _ rfl (v := ?_) (d := 20) rfl rfl ?_ ?_
    rotate_left
    · intro a_ w_ hev hR hk
      have e18 : a_.eval (.tmp 18) = _ := hk 18 rfl
      clear hk
      generalize a_.eval = ev at *
      obtain ⟨hev1, hev2, hev3⟩ := hev
      go_simp
      (try with_reducible rfl)
    refine free_step _ rfl (fun u _ => u = .int .u64 (i : Int)) (d := 21) rfl (fun _ _ _ h _ => h) rfl ?_ ?_
    · intro a_ w_ hev hR hk K1 hK1
      have e19 : a_.eval (.tmp 19) = _ := hk 19 rfl
      clear hk
      have f19 := ev_get.trans e19
      go_simp
      refine (O1.out _ (Q1.out w_ (Ext.trans (Ext.refl _).drew hR)).2).mono ?_
      rintro e_ w2_ ⟨rfl, x_⟩
      exact hK1.out _ _ x_ rfl
    refine free_det (fun _ => Ext.refl _) _ rfl (v := ?_) (d := 22) rfl rfl ?_ ?_
    rotate_left
    · intro a_ w_ hev hR hk
      have e20 : a_.eval (.tmp 20) = _ := hk 20 rfl
      clear hk
      generalize a_.eval = ev at *
      obtain ⟨hev1, hev2, hev3⟩ := hev
      go_simp
      (try with_reducible rfl)
    refine free_det (fun _ => Ext.refl _) _ rfl (v := ?_) (d := 23) rfl rfl ?_ ?_
    rotate_left
    · intro a_ w_ hev hR hk
      have e0 : a_.eval (.tmp 0) = _ := hk 0 rfl
      clear hk
      generalize a_.eval = ev at *
      obtain ⟨hev1, hev2, hev3⟩ := hev
      go_simp
      (try with_reducible rfl)
    refine free_det (fun _ => Ext.refl _) _ rfl (v := ?_) (d := 24) rfl rfl ?_ ?_
    rotate_left
    · intro a_ w_ hev hR hk
      have e22 : a_.eval (.tmp 22) = _ := hk 22 rfl
      clear hk
      generalize a_.eval = ev at *
      obtain ⟨hev1, hev2, hev3⟩ := hev
      go_simp
      (try with_reducible rfl)
    refine free_step _ rfl (fun u _ => u = .int .u64 (t : Int)) (d := 25) rfl (fun _ _ _ h _ => h) rfl ?_ ?_
    · intro a_ w_ hev hR hk K1 hK1
      have e23 : a_.eval (.tmp 23) = _ := hk 23 rfl
      clear hk
      have f23 := ev_get.trans e23
      go_simp
      refine (O2.out _ (Q1.out w_ (Ext.trans (Ext.refl _).drew hR)).2).mono ?_
      rintro e_ w2_ ⟨rfl, x_⟩
      exact hK1.out _ _ x_ rfl
    refine free_det (fun _ => Ext.refl _) _ rfl (v := ?_) (d := 26) rfl rfl ?_ ?_
    rotate_left
    · intro a_ w_ hev hR hk
      have e24 : a_.eval (.tmp 24) = _ := hk 24 rfl
      clear hk
      generalize a_.eval = ev at *
      obtain ⟨hev1, hev2, hev3⟩ := hev
      go_simp
      (try with_reducible rfl)
    refine free_det (fun _ => Ext.refl _) _ rfl (v := .agg RC.toArray) (d := 27) rfl rfl ?_ ?_
    · intro a_ w_ hev hR hk
      have e13 : a_.eval (.tmp 13) = _ := hk 13 rfl
      have e17 : a_.eval (.tmp 17) = _ := hk 17 rfl
      have e21 : a_.eval (.tmp 21) = _ := hk 21 rfl
      have e25 : a_.eval (.tmp 25) = _ := hk 25 rfl
      exact (exec_build_as rfl (by simp only [List.map_toArray, List.map_cons, List.map_nil, e13, e17, e21, e25]; exact BB.out))
    refine free_new _ rfl (fun u w_ => ∃ g, u = .pointer (some ⟨g, 0, none⟩) ∧ w1.drew.heap.size ≤ g ∧ w_.heap[g]? = some (.cells zRk.toArray 124 (0, 0))) (d := 5) rfl (fun _ _ _ h e => by obtain ⟨g, h1, h2, h3⟩ := h; exact ⟨g, h1, h2, (e.block g (heap_lt h3)).trans h3⟩) rfl (by decide) (fun _ _ h => by obtain ⟨g, h1, h2, h3⟩ := h; subst h1; exact ⟨g, rfl, heap_lt h3⟩) ?_ ?_
    · intro a_ w_ hev hR hk K1 hK1
      go_simp
      exact hK1.out _ _ ((Ext.refl _).alloc _) ⟨_, rfl, hR.size, heap_alloc_new _ _⟩ (fun _ q => by cases q; exact Nat.le_refl _)
    intro v_ w2 hR hV_ hN_
    obtain ⟨hv17, hv16, hv15, hv14, hv13, hv12, hv11, hv10, hv9, hv8, hv7, hv6, hv5, hv4, hv3, hv2, hv1, hv0, _⟩ := hV_
    replace hv0 : v_ 0 = _ := hv0
    replace hv1 : v_ 1 = _ := hv1
    replace hv2 : v_ 2 = _ := hv2
    replace hv3 : v_ 3 = _ := hv3
    replace hv4 : v_ 4 = _ := hv4
    replace hv5 : v_ 5 = _ := hv5
    replace hv6 : v_ 6 = _ := hv6
    replace hv7 : v_ 7 = _ := hv7
    replace hv8 : v_ 8 = _ := hv8
    replace hv9 : v_ 9 = _ := hv9
    replace hv10 : v_ 10 = _ := hv10
    replace hv11 : v_ 11 = _ := hv11
    replace hv12 : v_ 12 = _ := hv12
    replace hv13 : v_ 13 = _ := hv13
    replace hv14 : v_ 14 = _ := hv14
    replace hv15 : v_ 15 = _ := hv15
    replace hv16 : v_ 16 = _ := hv16
    skip
    dsimp only [putE, dOpt]
    obtain ⟨g_17, hv17, gb_17, gc_17⟩ := hv17
    clear hN_
    rw [hv0, hv1, hv2, hv3, hv4, hv5, hv6, hv7, hv8, hv9, hv10, hv11, hv12, hv13, hv14, hv15, hv16, hv17]
    go_frame
    clear hv0 hv1 hv2 hv3 hv4 hv5 hv6 hv7 hv8 hv9 hv10 hv11 hv12 hv13 hv14 hv15 hv16 hv17
    refine any_more (z := 18) _ rfl rfl (by kernel_rfl) ?_
    intro K1 hK1
    refine wp_store_row _ _ _ rfl g_17 RC.toArray rfl rfl 124 zRk.toArray gc_17 (by rw [L_RC]; rfl) (by rw [L_RC, ZS]) O_RC ?_
    refine hK1.out _ _ ?_
    clear hK1 K1
    refine any_nil (by kernel_rfl) ?_
    have gl : r < g_17 := Nat.lt_of_lt_of_le rl gb_17
    refine gen_q (fun W => Cb W g_17 124 RC ∧ Cb W r 124 zRk ∧ Ext w W) ⟨setRow_heap _ _ _ _ _ _ gc_17, (setRow_other _ _ _ _ (by omega)).trans (Q1.out _ (Ext.trans (Ext.refl _).drew hR)).1, below_setRow (Q1.out _ (Ext.trans (Ext.refl _).drew hR)).2 (by omega) _⟩ ?_
    clear hR gc_17 gb_17
    generalize g_17 = g at *
    rintro w3 ⟨k1, k2, x3⟩
    clear O1 O2 C0 Q1 BB
    obtain ⟨r0, r1, r2, r3⟩ := RCc.out
    have c0 := k1.cell r0
    have c1 := k1.cell r1
    have c2 := k1.cell r2
    have c3 := k1.cell r3
    replace k1 := Lib.hid k1
    replace k2 := Lib.hid k2
    replace x3 := Lib.hid x3
    clear r0 r1 r2 r3
    rw [KN.out] at HO
    clear KN
    by_cases e12 : kI = 1 ∨ kI = 2
    · have e0 : (decide (kI = 1) || decide (kI = 2)) = true := by rcases e12 with q | q <;> rw [q] <;> rfl
      rw [e0, Bool.true_and] at HO
      clear e0
      generalize decide (a < 8) = ba at *
      have NI := Lib.hid (fun W => NC.out W i)
      have NT := Lib.hid (fun W => NC.out W t)
      generalize decide (i ≤ 1000000) = bi at *
      generalize decide (t ≤ 1000000) = bt_ at *
      replace hkI := hkI
      clear NC
      have e13 : (kI == 1) = true ∨ ((kI == 1) = false ∧ (kI == 2) = true) := by
        rcases e12 with q | q
        · exact .inl (beq_iff_eq.2 q)
        · exact .inr ⟨beq_eq_false_iff_ne.2 (by omega), beq_iff_eq.2 q⟩
      replace e12 := Lib.hid e12
      rcases e13 with f1 | ⟨f1, f2⟩
      all_goals (
        go_upto_region 5 with fail
        go_wp2_with fail
        refine (AC.out _).mono ?_
        rintro e w4 ⟨rfl, rfl⟩
        clear AC
        cases ba with
        | false =>
          have F := Lib.hid (ER.out (.inr (by rw [HO.out]; simp)))
          have V := Lib.hid (VN.out F.out)
          clear ER ES VN VS
          go_wp2_with (first
            | (refine wpList_build_as rfl _ _ rfl zRk.toArray (by simp only [List.map_toArray, List.map_cons, List.map_nil]; exact B0'.out) ?_; go_frame)
            | (refine wpList_store_row rfl 124 _ _ rfl r zRk.toArray rfl rfl 124 zRk.toArray k2.out (by rw [ZS]; rfl) (by rw [ZS]) ZO ?_; simp only [Act.put]))
          (try simp only [Exit.inBlock, Exit.then])
          refine bodyPost_ret (results_row_tmp rfl _ _ r 124 zRk.toArray (0, 0) _ (.bool false) rfl rfl (setRow_heap _ _ _ _ _ _ k2.out) rfl rfl (by rw [ZS]; rfl)) rfl ?_
          exact ⟨by rw [V.out, F.out]; rfl, below_setRow x3.out wr _⟩
        | true =>
          go_wp2_with fail
          refine (NI.out _).mono ?_
          rintro e w5 ⟨rfl, rfl⟩
          clear NI
          cases bi with
          | false =>
            have F := Lib.hid (ER.out (.inr (by rw [HO.out]; simp)))
            have V := Lib.hid (VN.out F.out)
            clear ER ES VN VS
            go_wp2_with (first
              | (refine wpList_build_as rfl _ _ rfl zRk.toArray (by simp only [List.map_toArray, List.map_cons, List.map_nil]; exact B0'.out) ?_; go_frame)
              | (refine wpList_store_row rfl 124 _ _ rfl r zRk.toArray rfl rfl 124 zRk.toArray k2.out (by rw [ZS]; rfl) (by rw [ZS]) ZO ?_; simp only [Act.put]))
            (try simp only [Exit.inBlock, Exit.then])
            refine bodyPost_ret (results_row_tmp rfl _ _ r 124 zRk.toArray (0, 0) _ (.bool false) rfl rfl (setRow_heap _ _ _ _ _ _ k2.out) rfl rfl (by rw [ZS]; rfl)) rfl ?_
            exact ⟨by rw [V.out, F.out]; rfl, below_setRow x3.out wr _⟩
          | true =>
            go_wp2_with fail
            refine (NT.out _).mono ?_
            rintro e w6 ⟨rfl, rfl⟩
            clear NT
            cases bt_ with
            | false =>
              have F := Lib.hid (ER.out (.inr (by rw [HO.out]; simp)))
              have V := Lib.hid (VN.out F.out)
              clear ER ES VN VS
              go_wp2_with (first
                | (refine wpList_build_as rfl _ _ rfl zRk.toArray (by simp only [List.map_toArray, List.map_cons, List.map_nil]; exact B0'.out) ?_; go_frame)
                | (refine wpList_store_row rfl 124 _ _ rfl r zRk.toArray rfl rfl 124 zRk.toArray k2.out (by rw [ZS]; rfl) (by rw [ZS]) ZO ?_; simp only [Act.put]))
              (try simp only [Exit.inBlock, Exit.then])
              refine bodyPost_ret (results_row_tmp rfl _ _ r 124 zRk.toArray (0, 0) _ (.bool false) rfl rfl (setRow_heap _ _ _ _ _ _ k2.out) rfl rfl (by rw [ZS]; rfl)) rfl ?_
              exact ⟨by rw [V.out, F.out]; rfl, below_setRow x3.out wr _⟩
            | true =>
              have F := Lib.hid (ES.out hx (by rw [HO.out]; rfl))
              have V := Lib.hid (VS.out _ F.out)
              clear ER ES VN VS
              go_wp2_with (first
                | (refine wpList_load_row rfl 124 _ rfl g rfl 124 RC.toArray (0, 0) _ k1.out rfl rfl ?_ ?_; (rw [L_RC]; rfl); go_frame)
                | (refine wpList_store_row rfl 124 _ _ rfl r RC.toArray rfl rfl 124 zRk.toArray k2.out (by rw [L_RC]; rfl) (by rw [L_RC, ZS]) O_RC ?_; simp only [Act.put]))
              (try simp only [Exit.inBlock, Exit.then])
              refine bodyPost_ret (results_row_tmp rfl _ _ r 124 RC.toArray (0, 0) _ (.bool true) rfl rfl (setRow_heap _ _ _ _ _ _ k2.out) rfl rfl (by rw [L_RC]; rfl)) rfl ?_
              exact ⟨by rw [V.out, F.out, HC.out]; rfl, below_setRow x3.out wr _⟩)
    · have f1 : (kI == 1) = false := beq_eq_false_iff_ne.2 fun q => e12 (.inl q)
      have f2 : (kI == 2) = false := beq_eq_false_iff_ne.2 fun q => e12 (.inr q)
      have e0 : (decide (kI = 1) || decide (kI = 2)) = false := by rw [Bool.or_eq_false_iff]; exact ⟨decide_eq_false fun q => e12 (.inl q), decide_eq_false fun q => e12 (.inr q)⟩
      rw [e0] at HO
      replace e12 := Lib.hid e12
      have F := Lib.hid (ER.out (.inr (by rw [HO.out]; simp)))
      have V := Lib.hid (VN.out F.out)
      clear ER ES VN VS
      go_wp2_with (first
        | (refine wpList_build_as rfl _ _ rfl zRk.toArray (by simp only [List.map_toArray, List.map_cons, List.map_nil]; exact B0'.out) ?_; go_frame)
        | (refine wpList_store_row rfl 124 _ _ rfl r zRk.toArray rfl rfl 124 zRk.toArray k2.out (by rw [ZS]; rfl) (by rw [ZS]) ZO ?_; simp only [Act.put]))
      (try simp only [Exit.inBlock, Exit.then])
      refine bodyPost_ret (results_row_tmp rfl _ _ r 124 zRk.toArray (0, 0) _ (.bool false) rfl rfl (setRow_heap _ _ _ _ _ _ k2.out) rfl rfl (by rw [ZS]; rfl)) rfl ?_
      exact ⟨by rw [V.out, F.out]; rfl, below_setRow x3.out wr _⟩
  · have u1 : ((n : Int) == 10) = false := beq_eq_false_iff_ne.2 (by omega)
    have F : Hid (recR xs = none) := ER.out (.inl (by omega))
    have V := Lib.hid (VN.out F.out)
    clear ER ES VN VS hb
    go_enter Try.func69, Try.ntmps69
    go_upto_region 1 with fail
    refine wp_gen (fun W => Cb W r 124 zRk ∧ Ext w W) B0.out ?_
    rw [← hr]
    have wr : w.heap.size ≤ r := Nat.le_of_eq hr.symm
    replace hr := Lib.hid hr
    clear B0
    rintro w3 ⟨k2, x3⟩
    replace k2 := Lib.hid k2
    replace x3 := Lib.hid x3
    go_wp2_with (first
      | (refine wpList_build_as rfl _ _ rfl zRk.toArray (by simp only [List.map_toArray, List.map_cons, List.map_nil]; exact B0'.out) ?_; go_frame)
      | (refine wpList_store_row rfl 124 _ _ rfl r zRk.toArray rfl rfl 124 zRk.toArray k2.out (by rw [ZS]; rfl) (by rw [ZS]) ZO ?_; simp only [Act.put]))
    (try simp only [Exit.inBlock, Exit.then])
    refine bodyPost_ret (results_row_tmp rfl _ _ r 124 zRk.toArray (0, 0) _ (.bool false) rfl rfl (setRow_heap _ _ _ _ _ _ k2.out) rfl rfl (by rw [ZS]; rfl)) rfl ?_
    exact ⟨by rw [V.out, F.out]; rfl, below_setRow x3.out wr _⟩
end Go.Proofs.Yteaoacinhdjkeaa
