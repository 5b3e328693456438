/-
  field.Sum of a row of numbers.
-/
import Derived.Test.YteognebhlehjlaaDoorFldOps
import Derived.Test.YteognebhlehjlaaDoorFldInv
import Derived.Test.YteognebhlehjlaaDoorMid
namespace Go.Proofs.YteognebhlehjlaaDoor
open Go.ChangeShapes Go.WideShapes Go.ChangeAt Go.RowKit Go.Deep
set_option maxRecDepth 100000

/-- Block g begins with n numbers. -/
def Els (w : World) (g : Nat) (f : Nat → Nat) (n : Nat) : Prop := g < w.heap.size ∧ ∀ j, j < n → ∀ i v, (wcells (lbs 8 (f j)))[i]? = some v → w.cell? ⟨g, j * 8 + i, none⟩ = some v
theorem cell_kept {B : Nat} {w w' : World} (he : Below B w w') {g i : Nat} (hB : g < B) : w'.cell? ⟨g, i, none⟩ = w.cell? ⟨g, i, none⟩ := by
  have := he.block g hB
  simp only [World.cell?, this]
theorem Els.kept {B : Nat} {w w' : World} {g n : Nat} {f : Nat → Nat} (h : Els w g f n) (he : Below B w w') (hB : g < B) : Els w' g f n := ⟨Nat.lt_of_lt_of_le h.1 he.size, fun j hj i v hv => (cell_kept he hB).trans (h.2 j hj i v hv)⟩
/-- The sum of the first ones. -/
def sumF (f : Nat → Nat) : Nat → Nat
  | 0 => 0
  | k + 1 => (sumF f k + f k) % P25
theorem sumF_lt (f : Nat → Nat) : ∀ k, sumF f k < P25
  | 0 => P25_pos
  | _ + 1 => Nat.mod_lt _ P25_pos

set_option maxHeartbeats 4000000 in
theorem sum_calls {f : Nat → Nat} {n c g : Nat} {w : World} (hn : n ≤ 1000) (hc : n ≤ c) (hc2 : c ≤ 9223372036854775807) (hf : ∀ j, j < n → f j < P25) (hE : Els w g f n) {tg : TypeId × Nat × Nat} (hG : Gp w tg) :
    Calls Tryd.prog 22 #[.slice (some ⟨g, 0, none⟩) n c] w fun e w' => e = .returned (eV (sumF f n)) ∧ Ext w w' := by
  have AD : Hid (∀ (m : Nat) (W : World), m < n → Ext w W → Calls Tryd.prog 14 #[.agg (wcells (lbs 8 (sumF f m))).toArray, .agg (wcells (lbs 8 (f m))).toArray] W fun e w' => e = .returned (.agg (wcells (lbs 8 (sumF f (m + 1)))).toArray) ∧ Ext W w') := fun m W h e => eadd_calls (sumF_lt f m) (hf m h) (hG.ext e)
  have EL0 : Hid (∀ W, Ext w W → ∀ m, m < n → ∀ i v, (wcells (lbs 8 (f m)))[i]? = some v → W.cell? ⟨g, m * 8 + i, none⟩ = some v) := fun W e m hm => (hE.kept e hE.1).2 m hm
  clear hG hE hf
  unfold eV
  have LS : Hid (∀ m, (lbs 8 (sumF f m)).length = 8) := fun m => lbs_len _ _
  have LF : Hid (∀ m, (lbs 8 (f m)).length = 8) := fun m => lbs_len _ _
  obtain ⟨s, hs⟩ : ∃ s : Nat → List Nat, s = fun m => lbs 8 (sumF f m) := ⟨_, rfl⟩
  obtain ⟨t, ht⟩ : ∃ t : Nat → List Nat, t = fun m => lbs 8 (f m) := ⟨_, rfl⟩
  have hs' : ∀ m, lbs 8 (sumF f m) = s m := fun m => by rw [hs]
  have ht' : ∀ m, lbs 8 (f m) = t m := fun m => by rw [ht]
  have s0 : Hid (s 0 = zw8) := by unfold Hid; rw [hs]; show lbs 8 0 = zw8; decide
  simp only [hs', ht'] at AD EL0 LS LF ⊢
  clear hs' ht' hs ht
  have hal2 := elem_alloc
  have ZL : zw8.length = 8 := rfl
  generalize zw8 = zs at *
  have ZS := wcells_size ZL
  have Z1 := wcells_one zs
  have B0 : Hid (Wr ((w.alloc (Obj.cells (wcells zs).toArray 28)).alloc (Obj.cells (wcells zs).toArray 28)) w.heap.size 28 zs ∧ Wr ((w.alloc (Obj.cells (wcells zs).toArray 28)).alloc (Obj.cells (wcells zs).toArray 28)) (w.heap.size + 1) 28 zs ∧ Ext w ((w.alloc (Obj.cells (wcells zs).toArray 28)).alloc (Obj.cells (wcells zs).toArray 28))) := ⟨heap_alloc1 _ _ _, heap_alloc2 _ _ _, ((Ext.refl w).alloc _).alloc _⟩
  go_enter Tryd.func22, Tryd.ntmps22
  go_upto_region 2 with fail
  refine wp_gen (fun W => Wr W w.heap.size 28 zs ∧ Wr W (w.heap.size + 1) 28 zs ∧ Ext w W) B0.out ?_
  clear B0
  rintro w0 ⟨k0, k1, x⟩
  have hl0 := k1.lt
  replace k0 := Lib.hid k0
  replace k1 := Lib.hid k1
  replace x := Lib.hid x
  have hl0' := Lib.hid hl0
  clear hl0
  go_wp2_with fail
  go_loopw [8] (fun v wr => ∃ m : Nat, m ≤ n ∧ v = .int .i64 (m : Int) ∧ Wr wr w.heap.size 28 zs ∧ Wr wr (w.heap.size + 1) 28 (s m) ∧ Ext w wr) (fun iv _ => ((n : Int) - intOf iv).toNat)
  case atStart => exact ⟨0, Nat.zero_le _, rfl, k0.out, by rw [s0.out]; exact k1.out, x.out⟩
  case round =>
    clear k0 k1 x hl0' s0
    obtain ⟨m, hm, rfl, k0, k1, x⟩ := hrel
    replace k0 := Lib.hid k0
    replace k1 := Lib.hid k1
    replace x := Lib.hid x
    by_cases hlt : m < n
    · have d1 : decide ((m : Int) < (n : Int)) = true := decide_eq_true (by omega)
      have aw : IntKind.i64.wrap ((m : Int) + 1) = ((m + 1 : Nat) : Int) := IntWalk.i64_in _ (by omega)
      have ADm := Lib.hid (fun W e => AD.out m W hlt e)
      have ELm := Lib.hid (fun W e => EL0.out W e m hlt)
      have L_sm := LS.out m
      have L_tm := LF.out m
      have L_sn := LS.out (m + 1)
      clear AD EL0 LS LF
      obtain ⟨sn, hsn⟩ : ∃ q, q = s (m + 1) := ⟨_, rfl⟩
      rw [← hsn] at ADm L_sn
      replace hsn := Lib.hid hsn
      generalize s m = sm at *
      generalize t m = tm at *
      have S_sm := wcells_size L_sm
      have S_tm := wcells_size L_tm
      have S_sn := wcells_size L_sn
      have O_tm := wcells_one tm
      have O_sn := wcells_one sn
      have T_tm : (wcells tm).length = 8 := by simpa using S_tm
      have a1 : Hid ((wr.alloc (Obj.cells (wcells zs).toArray 28)).heap[wr.heap.size]? = some (.cells (wcells zs).toArray 28 (0, 0))) := heap_alloc_new _ _
      have e5 : Ext wr ((wr.alloc (Obj.cells (wcells zs).toArray 28)).setRow wr.heap.size (wcells tm).toArray) := below_setRow ((Ext.refl wr).alloc _) (Nat.le_refl _) _
      go_upto_region 5 with (first
        | (refine wpList_exec rfl (exec_load_mid (ys := wcells tm) rfl rfl (ELm.out _ x.out) rfl rfl (by rw [T_tm]; rfl)) ?_; simp only [Act.put, List.setIfInBounds_toArray, List.set_cons_zero, List.set_cons_succ])
        | (refine wpList_store_row rfl 28 _ _ rfl wr.heap.size (wcells tm).toArray rfl rfl 28 _ a1.out (by rw [S_tm]; rfl) (by rw [S_tm, ZS]) O_tm ?_; simp only [Act.put, List.setIfInBounds_toArray, List.set_cons_zero, List.set_cons_succ]))
      refine wp_gen (fun W => Wr W w.heap.size 28 zs ∧ Wr W (w.heap.size + 1) 28 sm ∧ Wr W wr.heap.size 28 tm ∧ Ext w W) ⟨k0.out.kept e5 k0.out.lt, k1.out.kept e5 k1.out.lt, setRow_heap _ _ _ _ _ _ a1.out, x.out.trans e5⟩ ?_
      obtain ⟨h, hh⟩ : ∃ h, h = wr.heap.size := ⟨_, rfl⟩
      rw [← hh]
      clear a1 e5 k0 k1 x hh
      rintro w1 ⟨k0, k1, k2, x⟩
      replace k0 := Lib.hid k0
      replace k1 := Lib.hid k1
      replace k2 := Lib.hid k2
      replace x := Lib.hid x
      go_wp2_with (first
        | (refine wpList_load_row rfl 28 _ rfl (w.heap.size + 1) rfl 28 (wcells sm).toArray (0, 0) _ k1.out rfl rfl (by rw [S_sm]; rfl) ?_; simp only [Act.put, List.setIfInBounds_toArray, List.set_cons_zero, List.set_cons_succ])
        | (refine wpList_load_row rfl 28 _ rfl h rfl 28 (wcells tm).toArray (0, 0) _ k2.out rfl rfl (by rw [S_tm]; rfl) ?_; simp only [Act.put, List.setIfInBounds_toArray, List.set_cons_zero, List.set_cons_succ]))
      refine (ADm.out _ x.out).mono ?_
      rintro e w2 ⟨rfl, e1⟩
      have r1 := Lib.hid (k1.out.kept e1 k1.out.lt)
      have r0 := Lib.hid (k0.out.kept e1 k0.out.lt)
      have rx := Lib.hid (x.out.trans e1)
      clear k0 k1 k2 x e1
      go_wp2_with (refine wpList_store_row rfl 28 _ _ rfl (w.heap.size + 1) (wcells sn).toArray rfl rfl 28 _ r1.out (by rw [S_sn]; rfl) (by rw [S_sn, S_sm]) O_sn ?_; simp only [Act.put, List.setIfInBounds_toArray, List.set_cons_zero, List.set_cons_succ])
      refine ⟨⟨m + 1, by omega, rfl, (setRow_other _ _ _ _ (by omega)).trans r0.out, by rw [← hsn.out]; exact setRow_heap _ _ _ _ _ _ r1.out, below_setRow rx.out (by omega) _⟩, by simp [intOf]; omega⟩
    · obtain rfl : m = n := by omega
      have d1 : decide ((m : Int) < (m : Int)) = false := decide_eq_false (by omega)
      have L_sm := LS.out m
      clear AD EL0 LS LF
      obtain ⟨sm, hsm⟩ : ∃ q, q = s m := ⟨_, rfl⟩
      rw [← hsm] at k1 L_sm
      replace hsm := Lib.hid hsm
      have S_sm := wcells_size L_sm
      have O_sm := wcells_one sm
      go_wp2_with (first
        | (refine wpList_load_row rfl 28 _ rfl (w.heap.size + 1) rfl 28 (wcells sm).toArray (0, 0) _ k1.out rfl rfl (by rw [S_sm]; rfl) ?_; simp only [Act.put, List.setIfInBounds_toArray, List.set_cons_zero, List.set_cons_succ])
        | (refine wpList_store_row rfl 28 _ _ rfl w.heap.size (wcells sm).toArray rfl rfl 28 _ k0.out (by rw [S_sm]; rfl) (by rw [S_sm, ZS]) O_sm ?_; simp only [Act.put, List.setIfInBounds_toArray, List.set_cons_zero, List.set_cons_succ]))
      (try simp only [Exit.inBlock, Exit.then])
      refine bodyPost_ret (results_cell_row rfl _ _ w.heap.size 28 (wcells sm).toArray (0, 0) _ rfl (setRow_heap _ _ _ _ _ _ k0.out) rfl rfl (by rw [S_sm]; rfl)) rfl ?_
      exact ⟨by rw [← hsm.out], below_setRow x.out (Nat.le_refl _) _⟩
end Go.Proofs.YteognebhlehjlaaDoor
