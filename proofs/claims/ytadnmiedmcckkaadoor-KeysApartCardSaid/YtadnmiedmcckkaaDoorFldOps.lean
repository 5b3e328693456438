/-
  Add, Sub, Mul.
-/
import Derived.Test.YtadnmiedmcckkaaDoorFldFolded
import Derived.Test.YtadnmiedmcckkaaDoorFldSub
namespace Go.Proofs.YtadnmiedmcckkaaDoor
open Go.ChangeShapes Go.WideShapes Go.ChangeAt Go.RowKit Go.Deep
set_option maxRecDepth 100000

/-- A number's value. -/
def eV (x : Nat) : Value := .agg (wcells (lbs 8 x)).toArray
theorem P25_pos : 0 < P25 := by decide +kernel
theorem P25_M8 : P25 < M8 := by decide +kernel

set_option maxHeartbeats 1000000 in
theorem eadd_calls {x y : Nat} {w : World} (hx : x < P25) (hy : y < P25) {tg : TypeId × Nat × Nat} (hG : Gp w tg) :
    Calls Tryd.prog 57 #[eV x, eV y] w fun e w' => e = .returned (eV ((x + y) % P25)) ∧ Ext w w' := by
  have C1 : Hid (∀ W, Calls Tryd.prog 70 #[.agg (wcells (lbs 8 x)).toArray, .agg (wcells (lbs 8 y)).toArray] W fun e w' => e = .returned (.agg (wcells (lbs 8 (x + y))).toArray) ∧ Ext W w') := fun W => added_calls
  have C2 : Hid (∀ W, Ext w W → Calls Tryd.prog 56 #[.agg (wcells (lbs 8 (x + y))).toArray] W fun e w' => e = .returned (.agg (wcells (lbs 8 ((x + y) % P25))).toArray) ∧ Ext W w') := fun W e => reduced_calls (by omega) (hG.ext e)
  clear hG
  unfold eV
  have XL := lbs_len 8 x
  have YL := lbs_len 8 y
  have RL := lbs_len 8 ((x + y) % P25)
  generalize lbs 8 ((x + y) % P25) = rr at *
  generalize lbs 8 x = xs at *
  generalize lbs 8 y = ys at *
  generalize lbs 8 (x + y) = ms at *
  have XS := wcells_size XL
  have YS := wcells_size YL
  have RS := wcells_size RL
  have OR := wcells_one rr
  have hal2 := elem_alloc
  have hal := fld_alloc
  have ZL : zw8.length = 8 := rfl
  generalize zw8 = zs at *
  have ZS := wcells_size ZL
  have B0 : Hid (∀ s, Ext (((w.alloc (Obj.cells (wcells xs).toArray 57)).alloc (Obj.cells (wcells ys).toArray 57)).alloc (Obj.cells (wcells zs).toArray 57)) s → Wr s w.heap.size 57 xs ∧ Wr s (w.heap.size + 1) 57 ys ∧ Wr s (w.heap.size + 1 + 1) 57 zs ∧ Ext w s) := fun s e => ⟨(e.block _ (by rw [size_alloc, size_alloc, size_alloc]; omega)).trans (heap_alloc30 _ _ _ _), (e.block _ (by rw [size_alloc, size_alloc, size_alloc]; omega)).trans (heap_alloc31 _ _ _ _), (e.block _ (by rw [size_alloc, size_alloc, size_alloc]; omega)).trans (heap_alloc32 _ _ _ _), ((((Ext.refl w).alloc _).alloc _).alloc _).trans e⟩
  go_enter Tryd.func57, Tryd.ntmps57
  go_upto_region 1 with fail
  refine wp_gen (fun W => ∀ s, Ext W s → Wr s w.heap.size 57 xs ∧ Wr s (w.heap.size + 1) 57 ys ∧ Wr s (w.heap.size + 1 + 1) 57 zs ∧ Ext w s) B0.out ?_
  clear B0
  rintro w0 B0
  replace B0 := Lib.hid B0
  have ka := Lib.hid (B0.out _ (Ext.refl _)).1
  have kb := Lib.hid (B0.out _ (Ext.refl _)).2.1
  go_wp2_with (first
    | (refine wpList_load_row rfl 55 _ rfl w.heap.size rfl 57 (wcells xs).toArray (0, 0) _ ka.out rfl rfl (by rw [XS]; rfl) ?_; simp only [Act.put, List.setIfInBounds_toArray, List.set_cons_zero, List.set_cons_succ])
    | (refine wpList_load_row rfl 55 _ rfl (w.heap.size + 1) rfl 57 (wcells ys).toArray (0, 0) _ kb.out rfl rfl (by rw [YS]; rfl) ?_; simp only [Act.put, List.setIfInBounds_toArray, List.set_cons_zero, List.set_cons_succ]))
  refine (C1.out _).mono ?_
  rintro e w1 ⟨rfl, e1⟩
  go_wp2_with fail
  refine (C2.out _ (B0.out _ e1).2.2.2).mono ?_
  rintro e w2 ⟨rfl, e2⟩
  obtain ⟨-, -, kr, kx⟩ := B0.out _ (e1.trans e2)
  replace kr := Lib.hid kr
  replace kx := Lib.hid kx
  clear B0 ka kb C1 C2 e1 e2
  go_wp2_with (refine wpList_store_row rfl 57 _ _ rfl (w.heap.size + 1 + 1) (wcells rr).toArray rfl rfl 57 _ kr.out (by rw [RS]; rfl) (by rw [RS, ZS]) OR ?_; simp only [Act.put, List.setIfInBounds_toArray, List.set_cons_zero, List.set_cons_succ])
  (try simp only [Exit.inBlock, Exit.then])
  refine bodyPost_ret (results_cell_row rfl _ _ (w.heap.size + 1 + 1) 57 (wcells rr).toArray (0, 0) _ rfl (setRow_heap _ _ _ _ _ _ kr.out) rfl rfl (by rw [RS]; rfl)) rfl ?_
  exact ⟨rfl, below_setRow kx.out (by omega) _⟩

set_option maxHeartbeats 1000000 in
theorem emul_calls {x y : Nat} {w : World} (hx : x < P25) (hy : y < P25) {tg : TypeId × Nat × Nat} (hG : Gp w tg) :
    Calls Tryd.prog 35 #[eV x, eV y] w fun e w' => e = .returned (eV (x * y % P25)) ∧ Ext w w' := by
  have hxM := Nat.lt_trans hx P25_M8
  have hyM := Nat.lt_trans hy P25_M8
  have C1 : Hid (∀ W, Calls Tryd.prog 61 #[.agg (wcells (lbs 8 x)).toArray, .agg (wcells (lbs 8 y)).toArray] W fun e w' => e = .returned (.agg (wcells (lbs 16 (x * y))).toArray) ∧ Ext W w') := fun W => product_calls hxM hyM
  have C2 : Hid (∀ W, Ext w W → Calls Tryd.prog 60 #[.agg (wcells (lbs 16 (x * y))).toArray] W fun e w' => e = .returned (.agg (wcells (lbs 8 (x * y % P25))).toArray) ∧ Ext W w') := fun W e => folded_calls (Nat.mul_lt_mul'' hxM hyM) (hG.ext e)
  clear hG
  unfold eV
  have XL := lbs_len 8 x
  have YL := lbs_len 8 y
  have RL := lbs_len 8 (x * y % P25)
  generalize lbs 8 (x * y % P25) = rr at *
  generalize lbs 8 x = xs at *
  generalize lbs 8 y = ys at *
  generalize lbs 16 (x * y) = ms at *
  have XS := wcells_size XL
  have YS := wcells_size YL
  have RS := wcells_size RL
  have OR := wcells_one rr
  have hal2 := elem_alloc
  have hal := fld_alloc
  have ZL : zw8.length = 8 := rfl
  generalize zw8 = zs at *
  have ZS := wcells_size ZL
  have B0 : Hid (∀ s, Ext (((w.alloc (Obj.cells (wcells xs).toArray 57)).alloc (Obj.cells (wcells ys).toArray 57)).alloc (Obj.cells (wcells zs).toArray 57)) s → Wr s w.heap.size 57 xs ∧ Wr s (w.heap.size + 1) 57 ys ∧ Wr s (w.heap.size + 1 + 1) 57 zs ∧ Ext w s) := fun s e => ⟨(e.block _ (by rw [size_alloc, size_alloc, size_alloc]; omega)).trans (heap_alloc30 _ _ _ _), (e.block _ (by rw [size_alloc, size_alloc, size_alloc]; omega)).trans (heap_alloc31 _ _ _ _), (e.block _ (by rw [size_alloc, size_alloc, size_alloc]; omega)).trans (heap_alloc32 _ _ _ _), ((((Ext.refl w).alloc _).alloc _).alloc _).trans e⟩
  go_enter Tryd.func35, Tryd.ntmps35
  go_upto_region 1 with fail
  refine wp_gen (fun W => ∀ s, Ext W s → Wr s w.heap.size 57 xs ∧ Wr s (w.heap.size + 1) 57 ys ∧ Wr s (w.heap.size + 1 + 1) 57 zs ∧ Ext w s) B0.out ?_
  clear B0
  rintro w0 B0
  replace B0 := Lib.hid B0
  have ka := Lib.hid (B0.out _ (Ext.refl _)).1
  have kb := Lib.hid (B0.out _ (Ext.refl _)).2.1
  go_wp2_with (first
    | (refine wpList_load_row rfl 55 _ rfl w.heap.size rfl 57 (wcells xs).toArray (0, 0) _ ka.out rfl rfl (by rw [XS]; rfl) ?_; simp only [Act.put, List.setIfInBounds_toArray, List.set_cons_zero, List.set_cons_succ])
    | (refine wpList_load_row rfl 55 _ rfl (w.heap.size + 1) rfl 57 (wcells ys).toArray (0, 0) _ kb.out rfl rfl (by rw [YS]; rfl) ?_; simp only [Act.put, List.setIfInBounds_toArray, List.set_cons_zero, List.set_cons_succ]))
  refine (C1.out _).mono ?_
  rintro e w1 ⟨rfl, e1⟩
  go_wp2_with fail
  refine (C2.out _ (B0.out _ e1).2.2.2).mono ?_
  rintro e w2 ⟨rfl, e2⟩
  obtain ⟨-, -, kr, kx⟩ := B0.out _ (e1.trans e2)
  replace kr := Lib.hid kr
  replace kx := Lib.hid kx
  clear B0 ka kb C1 C2 e1 e2
  go_wp2_with (refine wpList_store_row rfl 57 _ _ rfl (w.heap.size + 1 + 1) (wcells rr).toArray rfl rfl 57 _ kr.out (by rw [RS]; rfl) (by rw [RS, ZS]) OR ?_; simp only [Act.put, List.setIfInBounds_toArray, List.set_cons_zero, List.set_cons_succ])
  (try simp only [Exit.inBlock, Exit.then])
  refine bodyPost_ret (results_cell_row rfl _ _ (w.heap.size + 1 + 1) 57 (wcells rr).toArray (0, 0) _ rfl (setRow_heap _ _ _ _ _ _ kr.out) rfl rfl (by rw [RS]; rfl)) rfl ?_
  exact ⟨rfl, below_setRow kx.out (by omega) _⟩

set_option maxHeartbeats 1000000 in
theorem esub_calls {x y : Nat} {w : World} (hx : x < P25) (hy : y < P25) {tg : TypeId × Nat × Nat} (hG : Gp w tg) :
    Calls Tryd.prog 58 #[eV x, eV y] w fun e w' => e = .returned (eV ((x + (P25 - y)) % P25)) ∧ Ext w w' := by
  have C0 : Hid (∀ W, Calls Tryd.prog 69 #[.agg (wcells (lbs 8 P25)).toArray, .agg (wcells (lbs 8 y)).toArray] W fun e w' => ∃ c : Nat, e = .returned (.tuple #[.agg (wcells (lbs 8 (P25 - y))).toArray, .int .u64 (c : Int)]) ∧ Ext W w') := fun W => by
    refine (subtracted_calls (x := P25) (y := y) (w := W) (Nat.lt_trans hy P25_lt)).mono ?_
    rintro e w' ⟨rfl, ex⟩
    have hd : lbs 8 (P25 + 4294967296 ^ 8 - y) = lbs 8 (P25 - y) := by
      have h1 : P25 + 4294967296 ^ 8 - y = P25 - y + 4294967296 ^ 8 := by
        generalize 4294967296 ^ 8 = M
        omega
      rw [h1, lbs_add_big]
    rw [hd]
    exact ⟨bS P25 y 8, rfl, ex⟩
  have C1 : Hid (∀ W, Calls Tryd.prog 70 #[.agg (wcells (lbs 8 x)).toArray, .agg (wcells (lbs 8 (P25 - y))).toArray] W fun e w' => e = .returned (.agg (wcells (lbs 8 (x + (P25 - y)))).toArray) ∧ Ext W w') := fun W => added_calls
  have C2 : Hid (∀ W, Ext w W → Calls Tryd.prog 56 #[.agg (wcells (lbs 8 (x + (P25 - y)))).toArray] W fun e w' => e = .returned (.agg (wcells (lbs 8 ((x + (P25 - y)) % P25))).toArray) ∧ Ext W w') := fun W e => reduced_calls (by omega) (hG.ext e)
  have GP : Hid (∀ W, Ext w W → W.heap[0]? = some (.cells (wcells (lbs 8 P25)).toArray tg.1 tg.2)) := fun W e => hG.ext e
  have PL := lbs_len 8 P25
  have DL := lbs_len 8 (P25 - y)
  clear hG
  unfold eV
  have XL := lbs_len 8 x
  have YL := lbs_len 8 y
  have RL := lbs_len 8 ((x + (P25 - y)) % P25)
  generalize lbs 8 ((x + (P25 - y)) % P25) = rr at *
  generalize lbs 8 x = xs at *
  generalize lbs 8 y = ys at *
  generalize lbs 8 (x + (P25 - y)) = ms at *
  generalize lbs 8 (P25 - y) = ds at *
  generalize lbs 8 P25 = ps at *
  have PS := wcells_size PL
  have DS := wcells_size DL
  have OD := wcells_one ds
  have XS := wcells_size XL
  have YS := wcells_size YL
  have RS := wcells_size RL
  have OR := wcells_one rr
  have hal2 := elem_alloc
  have hal := fld_alloc
  have ZL : zw8.length = 8 := rfl
  generalize zw8 = zs at *
  have ZS := wcells_size ZL
  have B0 : Hid (∀ s, Ext (((w.alloc (Obj.cells (wcells xs).toArray 57)).alloc (Obj.cells (wcells ys).toArray 57)).alloc (Obj.cells (wcells zs).toArray 57)) s → Wr s w.heap.size 57 xs ∧ Wr s (w.heap.size + 1) 57 ys ∧ Wr s (w.heap.size + 1 + 1) 57 zs ∧ Ext w s) := fun s e => ⟨(e.block _ (by rw [size_alloc, size_alloc, size_alloc]; omega)).trans (heap_alloc30 _ _ _ _), (e.block _ (by rw [size_alloc, size_alloc, size_alloc]; omega)).trans (heap_alloc31 _ _ _ _), (e.block _ (by rw [size_alloc, size_alloc, size_alloc]; omega)).trans (heap_alloc32 _ _ _ _), ((((Ext.refl w).alloc _).alloc _).alloc _).trans e⟩
  go_enter Tryd.func58, Tryd.ntmps58
  go_upto_region 1 with fail
  refine wp_gen (fun W => ∀ s, Ext W s → Wr s w.heap.size 57 xs ∧ Wr s (w.heap.size + 1) 57 ys ∧ Wr s (w.heap.size + 1 + 1) 57 zs ∧ Ext w s) B0.out ?_
  clear B0
  rintro w0 B0
  replace B0 := Lib.hid B0
  have kb := Lib.hid (B0.out _ (Ext.refl _)).2.1
  have kp := Lib.hid (GP.out _ (B0.out _ (Ext.refl _)).2.2.2)
  go_wp2_with (first
    | (refine wpList_load_row rfl 55 _ rfl 0 rfl tg.1 (wcells ps).toArray tg.2 _ kp.out rfl rfl (by rw [PS]; rfl) ?_; simp only [Act.put, List.setIfInBounds_toArray, List.set_cons_zero, List.set_cons_succ])
    | (refine wpList_load_row rfl 55 _ rfl (w.heap.size + 1) rfl 57 (wcells ys).toArray (0, 0) _ kb.out rfl rfl (by rw [YS]; rfl) ?_; simp only [Act.put, List.setIfInBounds_toArray, List.set_cons_zero, List.set_cons_succ]))
  refine (C0.out _).mono ?_
  rintro e v ⟨c, rfl, e1⟩
  have a1 : Hid ((v.alloc (Obj.cells (wcells zs).toArray 55)).heap[v.heap.size]? = some (.cells (wcells zs).toArray 55 (0, 0))) := heap_alloc_new _ _
  have e5 : Ext v ((v.alloc (Obj.cells (wcells zs).toArray 55)).setRow v.heap.size (wcells ds).toArray) := below_setRow ((Ext.refl v).alloc _) (Nat.le_refl _) _
  go_upto_region 2 with (refine wpList_store_row rfl 55 _ _ rfl v.heap.size (wcells ds).toArray rfl rfl 55 _ a1.out (by rw [DS]; rfl) (by rw [DS, ZS]) OD ?_; simp only [Act.put, List.setIfInBounds_toArray, List.set_cons_zero, List.set_cons_succ])
  obtain ⟨f, hf⟩ : ∃ f, f = v.heap.size := ⟨_, rfl⟩
  refine wp_gen (fun W => ∀ s, Ext W s → Wr s w.heap.size 57 xs ∧ Wr s f 55 ds ∧ Wr s (w.heap.size + 1 + 1) 57 zs ∧ Ext w s) (fun s e => by
    obtain ⟨p1, -, p3, p4⟩ := B0.out s (e1.trans (e5.trans e))
    exact ⟨p1, (e.block _ (by simp [hf])).trans (by rw [hf]; exact setRow_heap _ _ _ _ _ _ a1.out), p3, p4⟩) ?_
  rw [← hf]
  clear hf a1 e5 e1 B0 kb kp GP C0
  rintro w1 B0
  replace B0 := Lib.hid B0
  have ka := Lib.hid (B0.out _ (Ext.refl _)).1
  have kb := Lib.hid (B0.out _ (Ext.refl _)).2.1
  go_wp2_with (first
    | (refine wpList_load_row rfl 55 _ rfl w.heap.size rfl 57 (wcells xs).toArray (0, 0) _ ka.out rfl rfl (by rw [XS]; rfl) ?_; simp only [Act.put, List.setIfInBounds_toArray, List.set_cons_zero, List.set_cons_succ])
    | (refine wpList_load_row rfl 55 _ rfl f rfl 55 (wcells ds).toArray (0, 0) _ kb.out rfl rfl (by rw [DS]; rfl) ?_; simp only [Act.put, List.setIfInBounds_toArray, List.set_cons_zero, List.set_cons_succ]))
  refine (C1.out _).mono ?_
  rintro e w2 ⟨rfl, e1⟩
  go_wp2_with fail
  refine (C2.out _ (B0.out _ e1).2.2.2).mono ?_
  rintro e w3 ⟨rfl, e2⟩
  obtain ⟨-, -, kr, kx⟩ := B0.out _ (e1.trans e2)
  replace kr := Lib.hid kr
  replace kx := Lib.hid kx
  clear B0 ka kb C1 C2 e1 e2
  go_wp2_with (refine wpList_store_row rfl 57 _ _ rfl (w.heap.size + 1 + 1) (wcells rr).toArray rfl rfl 57 _ kr.out (by rw [RS]; rfl) (by rw [RS, ZS]) OR ?_; simp only [Act.put, List.setIfInBounds_toArray, List.set_cons_zero, List.set_cons_succ])
  (try simp only [Exit.inBlock, Exit.then])
  refine bodyPost_ret (results_cell_row rfl _ _ (w.heap.size + 1 + 1) 57 (wcells rr).toArray (0, 0) _ rfl (setRow_heap _ _ _ _ _ _ kr.out) rfl rfl (by rw [RS]; rfl)) rfl ?_
  exact ⟨rfl, below_setRow kx.out (by omega) _⟩

end Go.Proofs.YtadnmiedmcckkaaDoor
