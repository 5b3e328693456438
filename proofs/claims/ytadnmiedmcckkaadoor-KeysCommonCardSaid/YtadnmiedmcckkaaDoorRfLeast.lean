import Derived.Test.YtadnmiedmcckkaaDoorPkI
import Derived.Test.YtadnmiedmcckkaaDoorSeq
/-
  palfreyref06.least.
-/
namespace Go.Proofs.YtadnmiedmcckkaaDoor
open Go.ChangeShapes Go.WideShapes Go.ChangeAt Go.RowKit Go.Deep
set_option maxRecDepth 100000

theorem Ur.boxed (w : World) (t : TypeId) (vs : List Nat) : Ur (w.alloc (.cells (ucells vs).toArray t)) w.heap.size t vs := heap_alloc_new _ _
set_option maxHeartbeats 4000000 in
theorem least_calls {v : Nat} {w : World} (hv : v < B16) :
    Calls Tryd.prog 44 #[.agg (ucells (dgs 16 v)).toArray] w fun e w' => e = .returned (.bool (decide (P25 ≤ v))) ∧ Ext w w' := by
  have PR : Hid (∀ (W : World) (i : Nat), Calls Tryd.prog 45 #[.int .i64 (i : Int)] W fun e w' => e = .returned (.int .u64 (pd i : Int)) ∧ Ext W w') := fun W i => prime_calls
  have st : Hid (v / 65536 ^ 16 = P25 / 65536 ^ 16) := by
    unfold Hid
    rw [B16_eq, Nat.div_eq_of_lt hv, Nat.div_eq_of_lt (show P25 < B16 by decide +kernel)]
  obtain ⟨L, hL⟩ : ∃ L, L = decide (P25 ≤ v) := ⟨_, rfl⟩
  have TD : Hid (∀ i, i < 16 → v / 65536 ^ (i + 1) = P25 / 65536 ^ (i + 1) → dg v i ≠ pd i → decide (pd i < dg v i) = L) := fun i hi h hd => by
    rw [hL, pd_dg i hi]
    exact tell_digit h (by rw [← pd_dg i hi]; exact hd)
  have SD : Hid (∀ i, i < 16 → v / 65536 ^ (i + 1) = P25 / 65536 ^ (i + 1) → dg v i = pd i → v / 65536 ^ i = P25 / 65536 ^ i) := fun i hi h hd => same_digit h (by rw [← pd_dg i hi]; exact hd)
  have LT : Hid (v / 65536 ^ 0 = P25 / 65536 ^ 0 → L = true) := fun h => by
    rw [Nat.pow_zero, Nat.div_one, Nat.div_one] at h
    rw [hL, h]
    exact decide_eq_true (Nat.le_refl _)
  rw [← hL]
  clear hL hv
  have XL := dgs_len 16 v
  have WX : Hid (∀ j, j < 16 → wd (dgs 16 v) j = dg v j) := fun j hj => wd_dgs hj
  have DL : Hid (∀ j, dg v j < 65536) := dg_lt v
  generalize dgs 16 v = xs at *
  obtain ⟨E, hE⟩ : ∃ E : Nat → Prop, E = fun m => v / 65536 ^ m = P25 / 65536 ^ m := ⟨_, rfl⟩
  have hE' : ∀ m, (v / 65536 ^ m = P25 / 65536 ^ m) = E m := fun m => by rw [hE]
  simp only [hE'] at st TD SD LT
  clear hE hE'
  obtain ⟨D, hD⟩ : ∃ D : Nat → Nat, D = dg v := ⟨_, rfl⟩
  rw [← hD] at TD SD WX DL
  clear hD
  have B0 : Hid (Ur (w.alloc (Obj.cells (ucells xs).toArray 33)) w.heap.size 33 xs ∧ Ext w (w.alloc (Obj.cells (ucells xs).toArray 33))) := ⟨Ur.boxed _ _ _, (Ext.refl w).alloc _⟩
  go_enter Tryd.func44, Tryd.ntmps44
  go_upto_region 1 with fail
  refine wp_gen (fun W => Ur W w.heap.size 33 xs ∧ Ext w W) B0.out ?_
  clear B0
  rintro W0 ⟨k0, e0⟩
  replace k0 := Lib.hid k0
  replace e0 := Lib.hid e0
  go_wp2_with fail
  go_loopw [3] (fun iv wr => ∃ m : Nat, m ≤ 16 ∧ iv = .int .i64 ((m : Int) - 1) ∧ E m ∧ Ur wr w.heap.size 33 xs ∧ Ext w wr) (fun iv _ => (intOf iv + 1).toNat)
  case atStart => exact ⟨16, Nat.le_refl _, rfl, st.out, k0.out, e0.out⟩
  case round =>
    clear k0 e0 st
    obtain ⟨m, hm, rfl, hs, k0, e0⟩ := hrel
    cases m with
    | zero =>
      have hl := LT.out hs
      replace hl := Lib.hid hl
      clear k0 hs TD SD LT PR WX DL
      replace e0 := Lib.hid e0
      rw [show ((0 : Nat) : Int) - 1 = -1 from rfl]
      go_wp2_with fail
      (try simp only [Exit.inBlock, Exit.then])
      go_ret
      exact ⟨by rw [hl.out]; rfl, e0.out⟩
    | succ i =>
      have hi : i < 16 := by omega
      rw [show ((i + 1 : Nat) : Int) - 1 = (i : Int) by omega]
      have ii : (i : Int) < 16 := by omega
      have ii0 : (0 : Int) ≤ (i : Int) := by omega
      have PRi := Lib.hid (fun W => PR.out W i)
      have b1 := DL.out i
      have b2 := pd_lt i
      have KC : Hid (∀ s, Ext wr s → s.cell? ⟨w.heap.size, i, none⟩ = some (.int .u64 (D i : Int))) := fun s e => by
        have := (k0.kept e k0.lt).cell (i := i) (by omega)
        rw [WX.out i hi] at this
        exact this
      have TDi := Lib.hid (TD.out i hi hs)
      have SDi := Lib.hid (SD.out i hi hs)
      have KK : Hid (∀ s, Ext wr s → Ur s w.heap.size 33 xs ∧ Ext w s) := fun s e => ⟨k0.kept e k0.lt, e0.trans e⟩
      clear k0 e0 hs TD SD LT PR WX DL
      have bw : IntKind.i64.wrap ((i : Int) - 1) = (i : Int) - 1 := IntWalk.i64_in _ (by omega)
      generalize D i = a at *
      generalize pd i = p at *
      by_cases q : a = p
      · have nb : ((a : Int) != (p : Int)) = false := by rw [q]; simp
        have hn := Lib.hid (SDi.out q)
        clear SDi TDi q
        go_wp2_with fail
        refine wp_region_seq (R := Ext) Ext.refl (fun _ _ _ => Ext.trans) [0, 1, 2, 3, 4, 5] [4] [(0, 9, 16), (1, 10, 516), (2, 11, 1024), (0, 12, 16), (8, 13, 4096), (20, 14, 10240)] (by kernel_rfl) (by kernel_rfl) (by kernel_rfl) rfl (by kernel_rfl) (by kernel_rfl) (fun _ _ d _ _ h => by cases d <;> exact h) ?_
        repeat (first | (refine seq_read _ (fun w' e => KC.out w' ((Ext.refl _).drew.trans e)) _ (v := ?_) rfl rfl (by rfl) ?_ ?_; rotate_left; (· intro w' hF; go_simp; (try with_reducible rfl)); simp only [Act.put, List.setIfInBounds_toArray, List.set_cons_zero, List.set_cons_succ]) | (refine seq_skip _ rfl rfl (by rfl) ?_; simp only [Act.put, List.setIfInBounds_toArray, List.set_cons_zero, List.set_cons_succ]))
        refine seq_do _ rfl rfl (by rfl) (fun K1 hK1 => ?_)
        go_simp
        refine (PRi.out _).mono ?_
        rintro e w2 ⟨rfl, e1⟩
        refine hK1.out _ _ e1 ?_
        clear hK1 K1
        try simp only [Act.put, List.setIfInBounds_toArray, List.set_cons_zero, List.set_cons_succ]
        repeat (first | (refine seq_read (fun _ => True) (fun _ _ => trivial) _ (v := ?_) rfl rfl (by rfl) ?_ ?_; rotate_left; (· intro w' hF; go_simp; (try with_reducible rfl)); simp only [Act.put, List.setIfInBounds_toArray, List.set_cons_zero, List.set_cons_succ]) | (refine seq_skip _ rfl rfl (by rfl) ?_; simp only [Act.put, List.setIfInBounds_toArray, List.set_cons_zero, List.set_cons_succ]))
        refine seq_done ?_
        have E1 := Lib.hid (KK.out w2 ((Ext.refl _).drew.trans e1))
        clear KK KC e1 PRi
        go_wp2_with fail
        refine ⟨⟨i, by omega, rfl, hn.out, E1.out.1, E1.out.2⟩, by simp [intOf]⟩
      · have nb : ((a : Int) != (p : Int)) = true := by
          have : ¬ (a : Int) = (p : Int) := by omega
          simpa using this
        have dt : Hid (decide (p < a) = L) := TDi.out q
        clear SDi TDi q
        go_wp2_with fail
        refine wp_region_seq (R := Ext) Ext.refl (fun _ _ _ => Ext.trans) [0, 1, 2, 3, 4, 5] [4] [(0, 9, 16), (1, 10, 516), (2, 11, 1024), (0, 12, 16), (8, 13, 4096), (20, 14, 10240)] (by kernel_rfl) (by kernel_rfl) (by kernel_rfl) rfl (by kernel_rfl) (by kernel_rfl) (fun _ _ d _ _ h => by cases d <;> exact h) ?_
        repeat (first | (refine seq_read _ (fun w' e => KC.out w' ((Ext.refl _).drew.trans e)) _ (v := ?_) rfl rfl (by rfl) ?_ ?_; rotate_left; (· intro w' hF; go_simp; (try with_reducible rfl)); simp only [Act.put, List.setIfInBounds_toArray, List.set_cons_zero, List.set_cons_succ]) | (refine seq_skip _ rfl rfl (by rfl) ?_; simp only [Act.put, List.setIfInBounds_toArray, List.set_cons_zero, List.set_cons_succ]))
        refine seq_do _ rfl rfl (by rfl) (fun K1 hK1 => ?_)
        go_simp
        refine (PRi.out _).mono ?_
        rintro e w2 ⟨rfl, e1⟩
        refine hK1.out _ _ e1 ?_
        clear hK1 K1
        try simp only [Act.put, List.setIfInBounds_toArray, List.set_cons_zero, List.set_cons_succ]
        repeat (first | (refine seq_read (fun _ => True) (fun _ _ => trivial) _ (v := ?_) rfl rfl (by rfl) ?_ ?_; rotate_left; (· intro w' hF; go_simp; (try with_reducible rfl)); simp only [Act.put, List.setIfInBounds_toArray, List.set_cons_zero, List.set_cons_succ]) | (refine seq_skip _ rfl rfl (by rfl) ?_; simp only [Act.put, List.setIfInBounds_toArray, List.set_cons_zero, List.set_cons_succ]))
        refine seq_done ?_
        have E1 := Lib.hid (KK.out w2 ((Ext.refl _).drew.trans e1))
        have KC2 : Hid (∀ s, Ext w2 s → s.cell? ⟨w.heap.size, i, none⟩ = some (.int .u64 (a : Int))) := fun s e => KC.out s ((Ext.refl _).drew.trans (e1.trans e))
        clear KK KC e1
        go_upto_region 5 with fail
        refine wp_region_seq (R := Ext) Ext.refl (fun _ _ _ => Ext.trans) [0, 1, 2, 3, 4, 5, 6] [4] [(0, 15, 16), (1, 16, 32772), (2, 17, 65536), (0, 18, 16), (8, 19, 262144), (20, 20, 655360), (63, 3, 1048576)] (by kernel_rfl) (by kernel_rfl) (by kernel_rfl) rfl (by kernel_rfl) (by kernel_rfl) (fun _ _ d _ _ h => by cases d <;> exact h) ?_
        repeat (first | (refine seq_read _ (fun w' e => KC2.out w' ((Ext.refl _).drew.trans e)) _ (v := ?_) rfl rfl (by rfl) ?_ ?_; rotate_left; (· intro w' hF; go_simp; (try with_reducible rfl)); simp only [Act.put, List.setIfInBounds_toArray, List.set_cons_zero, List.set_cons_succ]) | (refine seq_skip _ rfl rfl (by rfl) ?_; simp only [Act.put, List.setIfInBounds_toArray, List.set_cons_zero, List.set_cons_succ]))
        refine seq_do _ rfl rfl (by rfl) (fun K1 hK1 => ?_)
        go_simp
        refine (PRi.out _).mono ?_
        rintro e w3 ⟨rfl, e1⟩
        refine hK1.out _ _ e1 ?_
        clear hK1 K1
        try simp only [Act.put, List.setIfInBounds_toArray, List.set_cons_zero, List.set_cons_succ]
        repeat (first | (refine seq_read (fun _ => True) (fun _ _ => trivial) _ (v := ?_) rfl rfl (by rfl) ?_ ?_; rotate_left; (· intro w' hF; go_simp; (try with_reducible rfl)); simp only [Act.put, List.setIfInBounds_toArray, List.set_cons_zero, List.set_cons_succ]) | (refine seq_skip _ rfl rfl (by rfl) ?_; simp only [Act.put, List.setIfInBounds_toArray, List.set_cons_zero, List.set_cons_succ]))
        refine seq_done ?_
        have EE := Lib.hid (E1.out.2.trans ((Ext.refl _).drew.trans e1))
        clear KC2 E1 e1 PRi
        go_wp2_with fail
        (try simp only [Exit.inBlock, Exit.then])
        go_ret
        exact ⟨by rw [← dt.out]; rfl, EE.out⟩
end Go.Proofs.YtadnmiedmcckkaaDoor
