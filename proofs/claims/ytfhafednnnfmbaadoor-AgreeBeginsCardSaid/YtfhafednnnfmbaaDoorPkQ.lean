import Derived.Test.YtfhafednnnfmbaaDoorFldFolded
import Derived.Test.YtfhafednnnfmbaaDoorPkS
import Derived.Test.YtfhafednnnfmbaaDoorPkT
section
/-
  Add, Sub, Mul.
-/
namespace Go.Proofs.YtfhafednnnfmbaaDoor
open Go.ChangeShapes Go.WideShapes Go.ChangeAt Go.RowKit Go.Deep
set_option maxRecDepth 100000

/-- A number's value. -/
def eV (x : Nat) : Value := .agg (wcells (lbs 8 x)).toArray
theorem P25_pos : 0 < P25 := by decide +kernel
theorem P25_M8 : P25 < M8 := by decide +kernel

set_option maxHeartbeats 1000000 in
theorem eadd_calls {x y : Nat} {w : World} (hx : x < P25) (hy : y < P25) {tg : TypeId × Nat × Nat} (hG : Gp w tg) :
    Calls Tryd.prog 63 #[eV x, eV y] w fun e w' => e = .returned (eV ((x + y) % P25)) ∧ Ext w w' := by
  have C1 : Hid (∀ W, Calls Tryd.prog 73 #[.agg (wcells (lbs 8 x)).toArray, .agg (wcells (lbs 8 y)).toArray] W fun e w' => e = .returned (.agg (wcells (lbs 8 (x + y))).toArray) ∧ Ext W w') := fun W => added_calls
  have C2 : Hid (∀ W, Ext w W → Calls Tryd.prog 62 #[.agg (wcells (lbs 8 (x + y))).toArray] W fun e w' => e = .returned (.agg (wcells (lbs 8 ((x + y) % P25))).toArray) ∧ Ext W w') := fun W e => reduced_calls (by omega) (hG.ext e)
  clear hG
  unfold eV
  have XL := lbs_len 8 x
  have YL := lbs_len 8 y
  have RL := lbs_len 8 ((x + y) % P25)
  generalize lbs 8 ((x + y) % P25) = rr at *
  generalize lbs 8 x = xs at *
  generalize lbs 8 y = ys at *
  generalize lbs 8 (x + y) = ms at *
  have XS := wcells_size XL
  have YS := wcells_size YL
  have RS := wcells_size RL
  have OR := wcells_one rr
  have hal2 := elem_alloc
  have hal := fld_alloc
  have ZL : zw8.length = 8 := rfl
  generalize zw8 = zs at *
  have ZS := wcells_size ZL
  have B0 : Hid (∀ s, Ext (((w.alloc (Obj.cells (wcells xs).toArray 81)).alloc (Obj.cells (wcells ys).toArray 81)).alloc (Obj.cells (wcells zs).toArray 81)) s → Wr s w.heap.size 81 xs ∧ Wr s (w.heap.size + 1) 81 ys ∧ Wr s (w.heap.size + 1 + 1) 81 zs ∧ Ext w s) := fun s e => ⟨(e.block _ (by rw [size_alloc, size_alloc, size_alloc]; omega)).trans (heap_alloc30 _ _ _ _), (e.block _ (by rw [size_alloc, size_alloc, size_alloc]; omega)).trans (heap_alloc31 _ _ _ _), (e.block _ (by rw [size_alloc, size_alloc, size_alloc]; omega)).trans (heap_alloc32 _ _ _ _), ((((Ext.refl w).alloc _).alloc _).alloc _).trans e⟩
  go_enter Tryd.func63, Tryd.ntmps63
  go_upto_region 1 with fail
  refine wp_gen (fun W => ∀ s, Ext W s → Wr s w.heap.size 81 xs ∧ Wr s (w.heap.size + 1) 81 ys ∧ Wr s (w.heap.size + 1 + 1) 81 zs ∧ Ext w s) B0.out ?_
  clear B0
  rintro w0 B0
  replace B0 := Lib.hid B0
  have ka := Lib.hid (B0.out _ (Ext.refl _)).1
  have kb := Lib.hid (B0.out _ (Ext.refl _)).2.1
  go_wp2_with (first
    | (refine wpList_load_row rfl 79 _ rfl w.heap.size rfl 81 (wcells xs).toArray (0, 0) _ ka.out rfl rfl (by rw [XS]; rfl) ?_; simp only [Act.put, List.setIfInBounds_toArray, List.set_cons_zero, List.set_cons_succ])
    | (refine wpList_load_row rfl 79 _ rfl (w.heap.size + 1) rfl 81 (wcells ys).toArray (0, 0) _ kb.out rfl rfl (by rw [YS]; rfl) ?_; simp only [Act.put, List.setIfInBounds_toArray, List.set_cons_zero, List.set_cons_succ]))
  refine (C1.out _).mono ?_
  rintro e w1 ⟨rfl, e1⟩
  go_wp2_with fail
  refine (C2.out _ (B0.out _ e1).2.2.2).mono ?_
  rintro e w2 ⟨rfl, e2⟩
  obtain ⟨-, -, kr, kx⟩ := B0.out _ (e1.trans e2)
  replace kr := Lib.hid kr
  replace kx := Lib.hid kx
  clear B0 ka kb C1 C2 e1 e2
  go_wp2_with (refine wpList_store_row rfl 81 _ _ rfl (w.heap.size + 1 + 1) (wcells rr).toArray rfl rfl 81 _ kr.out (by rw [RS]; rfl) (by rw [RS, ZS]) OR ?_; simp only [Act.put, List.setIfInBounds_toArray, List.set_cons_zero, List.set_cons_succ])
  (try simp only [Exit.inBlock, Exit.then])
  refine bodyPost_ret (results_cell_row rfl _ _ (w.heap.size + 1 + 1) 81 (wcells rr).toArray (0, 0) _ rfl (setRow_heap _ _ _ _ _ _ kr.out) rfl rfl (by rw [RS]; rfl)) rfl ?_
  exact ⟨rfl, below_setRow kx.out (by omega) _⟩

set_option maxHeartbeats 1000000 in
theorem emul_calls {x y : Nat} {w : World} (hx : x < P25) (hy : y < P25) {tg : TypeId × Nat × Nat} (hG : Gp w tg) :
    Calls Tryd.prog 48 #[eV x, eV y] w fun e w' => e = .returned (eV (x * y % P25)) ∧ Ext w w' := by
  have hxM := Nat.lt_trans hx P25_M8
  have hyM := Nat.lt_trans hy P25_M8
  have C1 : Hid (∀ W, Calls Tryd.prog 67 #[.agg (wcells (lbs 8 x)).toArray, .agg (wcells (lbs 8 y)).toArray] W fun e w' => e = .returned (.agg (wcells (lbs 16 (x * y))).toArray) ∧ Ext W w') := fun W => product_calls hxM hyM
  have C2 : Hid (∀ W, Ext w W → Calls Tryd.prog 66 #[.agg (wcells (lbs 16 (x * y))).toArray] W fun e w' => e = .returned (.agg (wcells (lbs 8 (x * y % P25))).toArray) ∧ Ext W w') := fun W e => folded_calls (Nat.mul_lt_mul'' hxM hyM) (hG.ext e)
  clear hG
  unfold eV
  have XL := lbs_len 8 x
  have YL := lbs_len 8 y
  have RL := lbs_len 8 (x * y % P25)
  generalize lbs 8 (x * y % P25) = rr at *
  generalize lbs 8 x = xs at *
  generalize lbs 8 y = ys at *
  generalize lbs 16 (x * y) = ms at *
  have XS := wcells_size XL
  have YS := wcells_size YL
  have RS := wcells_size RL
  have OR := wcells_one rr
  have hal2 := elem_alloc
  have hal := fld_alloc
  have ZL : zw8.length = 8 := rfl
  generalize zw8 = zs at *
  have ZS := wcells_size ZL
  have B0 : Hid (∀ s, Ext (((w.alloc (Obj.cells (wcells xs).toArray 81)).alloc (Obj.cells (wcells ys).toArray 81)).alloc (Obj.cells (wcells zs).toArray 81)) s → Wr s w.heap.size 81 xs ∧ Wr s (w.heap.size + 1) 81 ys ∧ Wr s (w.heap.size + 1 + 1) 81 zs ∧ Ext w s) := fun s e => ⟨(e.block _ (by rw [size_alloc, size_alloc, size_alloc]; omega)).trans (heap_alloc30 _ _ _ _), (e.block _ (by rw [size_alloc, size_alloc, size_alloc]; omega)).trans (heap_alloc31 _ _ _ _), (e.block _ (by rw [size_alloc, size_alloc, size_alloc]; omega)).trans (heap_alloc32 _ _ _ _), ((((Ext.refl w).alloc _).alloc _).alloc _).trans e⟩
  go_enter Tryd.func48, Tryd.ntmps48
  go_upto_region 1 with fail
  refine wp_gen (fun W => ∀ s, Ext W s → Wr s w.heap.size 81 xs ∧ Wr s (w.heap.size + 1) 81 ys ∧ Wr s (w.heap.size + 1 + 1) 81 zs ∧ Ext w s) B0.out ?_
  clear B0
  rintro w0 B0
  replace B0 := Lib.hid B0
  have ka := Lib.hid (B0.out _ (Ext.refl _)).1
  have kb := Lib.hid (B0.out _ (Ext.refl _)).2.1
  go_wp2_with (first
    | (refine wpList_load_row rfl 79 _ rfl w.heap.size rfl 81 (wcells xs).toArray (0, 0) _ ka.out rfl rfl (by rw [XS]; rfl) ?_; simp only [Act.put, List.setIfInBounds_toArray, List.set_cons_zero, List.set_cons_succ])
    | (refine wpList_load_row rfl 79 _ rfl (w.heap.size + 1) rfl 81 (wcells ys).toArray (0, 0) _ kb.out rfl rfl (by rw [YS]; rfl) ?_; simp only [Act.put, List.setIfInBounds_toArray, List.set_cons_zero, List.set_cons_succ]))
  refine (C1.out _).mono ?_
  rintro e w1 ⟨rfl, e1⟩
  go_wp2_with fail
  refine (C2.out _ (B0.out _ e1).2.2.2).mono ?_
  rintro e w2 ⟨rfl, e2⟩
  obtain ⟨-, -, kr, kx⟩ := B0.out _ (e1.trans e2)
  replace kr := Lib.hid kr
  replace kx := Lib.hid kx
  clear B0 ka kb C1 C2 e1 e2
  go_wp2_with (refine wpList_store_row rfl 81 _ _ rfl (w.heap.size + 1 + 1) (wcells rr).toArray rfl rfl 81 _ kr.out (by rw [RS]; rfl) (by rw [RS, ZS]) OR ?_; simp only [Act.put, List.setIfInBounds_toArray, List.set_cons_zero, List.set_cons_succ])
  (try simp only [Exit.inBlock, Exit.then])
  refine bodyPost_ret (results_cell_row rfl _ _ (w.heap.size + 1 + 1) 81 (wcells rr).toArray (0, 0) _ rfl (setRow_heap _ _ _ _ _ _ kr.out) rfl rfl (by rw [RS]; rfl)) rfl ?_
  exact ⟨rfl, below_setRow kx.out (by omega) _⟩

set_option maxHeartbeats 1000000 in
theorem esub_calls {x y : Nat} {w : World} (hx : x < P25) (hy : y < P25) {tg : TypeId × Nat × Nat} (hG : Gp w tg) :
    Calls Tryd.prog 64 #[eV x, eV y] w fun e w' => e = .returned (eV ((x + (P25 - y)) % P25)) ∧ Ext w w' := by
  have C0 : Hid (∀ W, Calls Tryd.prog 72 #[.agg (wcells (lbs 8 P25)).toArray, .agg (wcells (lbs 8 y)).toArray] W fun e w' => ∃ c : Nat, e = .returned (.tuple #[.agg (wcells (lbs 8 (P25 - y))).toArray, .int .u64 (c : Int)]) ∧ Ext W w') := fun W => by
    refine (subtracted_calls (x := P25) (y := y) (w := W) (Nat.lt_trans hy P25_lt)).mono ?_
    rintro e w' ⟨rfl, ex⟩
    have hd : lbs 8 (P25 + 4294967296 ^ 8 - y) = lbs 8 (P25 - y) := by
      have h1 : P25 + 4294967296 ^ 8 - y = P25 - y + 4294967296 ^ 8 := by
        generalize 4294967296 ^ 8 = M
        omega
      rw [h1, lbs_add_big]
    rw [hd]
    exact ⟨bS P25 y 8, rfl, ex⟩
  have C1 : Hid (∀ W, Calls Tryd.prog 73 #[.agg (wcells (lbs 8 x)).toArray, .agg (wcells (lbs 8 (P25 - y))).toArray] W fun e w' => e = .returned (.agg (wcells (lbs 8 (x + (P25 - y)))).toArray) ∧ Ext W w') := fun W => added_calls
  have C2 : Hid (∀ W, Ext w W → Calls Tryd.prog 62 #[.agg (wcells (lbs 8 (x + (P25 - y)))).toArray] W fun e w' => e = .returned (.agg (wcells (lbs 8 ((x + (P25 - y)) % P25))).toArray) ∧ Ext W w') := fun W e => reduced_calls (by omega) (hG.ext e)
  have GP : Hid (∀ W, Ext w W → W.heap[1]? = some (.cells (wcells (lbs 8 P25)).toArray tg.1 tg.2)) := fun W e => hG.ext e
  have PL := lbs_len 8 P25
  have DL := lbs_len 8 (P25 - y)
  clear hG
  unfold eV
  have XL := lbs_len 8 x
  have YL := lbs_len 8 y
  have RL := lbs_len 8 ((x + (P25 - y)) % P25)
  generalize lbs 8 ((x + (P25 - y)) % P25) = rr at *
  generalize lbs 8 x = xs at *
  generalize lbs 8 y = ys at *
  generalize lbs 8 (x + (P25 - y)) = ms at *
  generalize lbs 8 (P25 - y) = ds at *
  generalize lbs 8 P25 = ps at *
  have PS := wcells_size PL
  have DS := wcells_size DL
  have OD := wcells_one ds
  have XS := wcells_size XL
  have YS := wcells_size YL
  have RS := wcells_size RL
  have OR := wcells_one rr
  have hal2 := elem_alloc
  have hal := fld_alloc
  have ZL : zw8.length = 8 := rfl
  generalize zw8 = zs at *
  have ZS := wcells_size ZL
  have B0 : Hid (∀ s, Ext (((w.alloc (Obj.cells (wcells xs).toArray 81)).alloc (Obj.cells (wcells ys).toArray 81)).alloc (Obj.cells (wcells zs).toArray 81)) s → Wr s w.heap.size 81 xs ∧ Wr s (w.heap.size + 1) 81 ys ∧ Wr s (w.heap.size + 1 + 1) 81 zs ∧ Ext w s) := fun s e => ⟨(e.block _ (by rw [size_alloc, size_alloc, size_alloc]; omega)).trans (heap_alloc30 _ _ _ _), (e.block _ (by rw [size_alloc, size_alloc, size_alloc]; omega)).trans (heap_alloc31 _ _ _ _), (e.block _ (by rw [size_alloc, size_alloc, size_alloc]; omega)).trans (heap_alloc32 _ _ _ _), ((((Ext.refl w).alloc _).alloc _).alloc _).trans e⟩
  go_enter Tryd.func64, Tryd.ntmps64
  go_upto_region 1 with fail
  refine wp_gen (fun W => ∀ s, Ext W s → Wr s w.heap.size 81 xs ∧ Wr s (w.heap.size + 1) 81 ys ∧ Wr s (w.heap.size + 1 + 1) 81 zs ∧ Ext w s) B0.out ?_
  clear B0
  rintro w0 B0
  replace B0 := Lib.hid B0
  have kb := Lib.hid (B0.out _ (Ext.refl _)).2.1
  have kp := Lib.hid (GP.out _ (B0.out _ (Ext.refl _)).2.2.2)
  go_wp2_with (first
    | (refine wpList_load_row rfl 79 _ rfl 1 rfl tg.1 (wcells ps).toArray tg.2 _ kp.out rfl rfl (by rw [PS]; rfl) ?_; simp only [Act.put, List.setIfInBounds_toArray, List.set_cons_zero, List.set_cons_succ])
    | (refine wpList_load_row rfl 79 _ rfl (w.heap.size + 1) rfl 81 (wcells ys).toArray (0, 0) _ kb.out rfl rfl (by rw [YS]; rfl) ?_; simp only [Act.put, List.setIfInBounds_toArray, List.set_cons_zero, List.set_cons_succ]))
  refine (C0.out _).mono ?_
  rintro e v ⟨c, rfl, e1⟩
  have a1 : Hid ((v.alloc (Obj.cells (wcells zs).toArray 79)).heap[v.heap.size]? = some (.cells (wcells zs).toArray 79 (0, 0))) := heap_alloc_new _ _
  have e5 : Ext v ((v.alloc (Obj.cells (wcells zs).toArray 79)).setRow v.heap.size (wcells ds).toArray) := below_setRow ((Ext.refl v).alloc _) (Nat.le_refl _) _
  go_upto_region 2 with (refine wpList_store_row rfl 79 _ _ rfl v.heap.size (wcells ds).toArray rfl rfl 79 _ a1.out (by rw [DS]; rfl) (by rw [DS, ZS]) OD ?_; simp only [Act.put, List.setIfInBounds_toArray, List.set_cons_zero, List.set_cons_succ])
  obtain ⟨f, hf⟩ : ∃ f, f = v.heap.size := ⟨_, rfl⟩
  refine wp_gen (fun W => ∀ s, Ext W s → Wr s w.heap.size 81 xs ∧ Wr s f 79 ds ∧ Wr s (w.heap.size + 1 + 1) 81 zs ∧ Ext w s) (fun s e => by
    obtain ⟨p1, -, p3, p4⟩ := B0.out s (e1.trans (e5.trans e))
    exact ⟨p1, (e.block _ (by simp [hf])).trans (by rw [hf]; exact setRow_heap _ _ _ _ _ _ a1.out), p3, p4⟩) ?_
  rw [← hf]
  clear hf a1 e5 e1 B0 kb kp GP C0
  rintro w1 B0
  replace B0 := Lib.hid B0
  have ka := Lib.hid (B0.out _ (Ext.refl _)).1
  have kb := Lib.hid (B0.out _ (Ext.refl _)).2.1
  go_wp2_with (first
    | (refine wpList_load_row rfl 79 _ rfl w.heap.size rfl 81 (wcells xs).toArray (0, 0) _ ka.out rfl rfl (by rw [XS]; rfl) ?_; simp only [Act.put, List.setIfInBounds_toArray, List.set_cons_zero, List.set_cons_succ])
    | (refine wpList_load_row rfl 79 _ rfl f rfl 79 (wcells ds).toArray (0, 0) _ kb.out rfl rfl (by rw [DS]; rfl) ?_; simp only [Act.put, List.setIfInBounds_toArray, List.set_cons_zero, List.set_cons_succ]))
  refine (C1.out _).mono ?_
  rintro e w2 ⟨rfl, e1⟩
  go_wp2_with fail
  refine (C2.out _ (B0.out _ e1).2.2.2).mono ?_
  rintro e w3 ⟨rfl, e2⟩
  obtain ⟨-, -, kr, kx⟩ := B0.out _ (e1.trans e2)
  replace kr := Lib.hid kr
  replace kx := Lib.hid kx
  clear B0 ka kb C1 C2 e1 e2
  go_wp2_with (refine wpList_store_row rfl 81 _ _ rfl (w.heap.size + 1 + 1) (wcells rr).toArray rfl rfl 81 _ kr.out (by rw [RS]; rfl) (by rw [RS, ZS]) OR ?_; simp only [Act.put, List.setIfInBounds_toArray, List.set_cons_zero, List.set_cons_succ])
  (try simp only [Exit.inBlock, Exit.then])
  refine bodyPost_ret (results_cell_row rfl _ _ (w.heap.size + 1 + 1) 81 (wcells rr).toArray (0, 0) _ rfl (setRow_heap _ _ _ _ _ _ kr.out) rfl rfl (by rw [RS]; rfl)) rfl ?_
  exact ⟨rfl, below_setRow kx.out (by omega) _⟩

end Go.Proofs.YtfhafednnnfmbaaDoor
end

section
/-
  A bit of a key is turned.
-/
namespace Go.Proofs.YtfhafednnnfmbaaDoor
open Go.ChangeShapes Go.WideShapes Go.ChangeAt Go.RowKit Go.Deep

theorem UInt8.xor_ne {x : Nat} {k : Nat} (hk : k < 8) (hx : x < 256) : x ^^^ 2 ^ k ≠ x := by
  intro h
  have : x ^^^ (x ^^^ 2 ^ k) = x ^^^ x := by rw [h]
  rw [← Nat.xor_assoc, Nat.xor_self, Nat.zero_xor] at this
  have := Nat.pos_of_ne_zero (n := 2 ^ k) (by have := Nat.two_pow_pos k; omega)
  omega

/-- A bit of a byte is turned. -/
def flip (xs : List UInt8) (j k : Nat) : List UInt8 := xs.set j (UInt8.ofNat (bt xs j ^^^ 2 ^ k))
theorem flip_len (xs : List UInt8) (j k : Nat) : (flip xs j k).length = xs.length := by simp [flip]
theorem flip_lt {xs : List UInt8} {j k : Nat} (hk : k < 8) : bt xs j ^^^ 2 ^ k < 256 := Nat.xor_lt_two_pow (n := 8) (bt_lt _ _) (Nat.pow_lt_pow_right (by omega) hk)
theorem bt_set {xs : List UInt8} {j i x : Nat} (hj : j < xs.length) (hx : x < 256) : bt (xs.set j (UInt8.ofNat x)) i = if i = j then x else bt xs i := by
  unfold bt
  by_cases h : i = j
  · subst h
    simp [List.getD, hj]
    omega
  · simp [List.getD, h, List.getElem?_set_ne (Ne.symm h)]
theorem flip_ne {xs : List UInt8} {j k : Nat} (hj : j < xs.length) (hk : k < 8) : ¬ xs = flip xs j k := fun h => by
  have h1 : bt xs j = bt (flip xs j k) j := by rw [← h]
  unfold flip at h1
  rw [bt_set hj (flip_lt hk), if_pos rfl] at h1
  exact UInt8.xor_ne hk (bt_lt _ _) h1.symm
theorem Ky.flip {w : World} {g j k : Nat} {xs : List UInt8} (h : Ky w g xs) (hj : j < 32) (hk : k < 8) : Ky (w.setCell ⟨g, j, none⟩ (.int .u8 ((bt xs j ^^^ 2 ^ k : Nat) : Int))) g (flip xs j k) := by
  refine ⟨?_, by rw [flip_len]; exact h.2⟩
  rw [setCell_eq_setRow w g j _ _ (0, 0) _ h.1, setRow_heap w g _ _ _ _ h.1]
  congr 2
  have hl := h.2
  apply Array.ext'
  rw [Array.toList_setIfInBounds]
  apply List.ext_getElem?
  intro i
  simp only [List.getElem?_set, cellsOf_len]
  by_cases hi : i < 32
  · rw [cellsOf_get (xs := Go.Proofs.YtfhafednnnfmbaaDoor.flip xs j k) (by rw [flip_len]; omega)]
    unfold Go.Proofs.YtfhafednnnfmbaaDoor.flip
    rw [bt_set (by omega) (flip_lt hk)]
    by_cases e : j = i
    · subst e; simp [show j < xs.length by omega]
    · rw [if_neg e, if_neg (Ne.symm e)]
      have := cellsOf_get (xs := xs) (j := i) (by omega)
      simpa using this
  · have h1 : (cellsOf xs)[i]? = none := List.getElem?_eq_none (by rw [cellsOf_len]; omega)
    have h2 : (cellsOf (Go.Proofs.YtfhafednnnfmbaaDoor.flip xs j k))[i]? = none := List.getElem?_eq_none (by rw [cellsOf_len, flip_len]; omega)
    rw [if_neg (by omega)]
    simp only [h2]
    simpa using h1
theorem flip_int {xs : List UInt8} {j k : Nat} (hk : k < 8) : bits .xor .u8 (bt xs j : Int) (IntKind.u8.wrap (2 ^ k)) = ((bt xs j ^^^ 2 ^ k : Nat) : Int) := by
  have h1 : 2 ^ k < 256 := Nat.pow_lt_pow_right (a := 2) (by omega) hk
  have h2 : IntKind.u8.wrap (2 ^ k) = ((2 ^ k : Nat) : Int) := by
    rw [IntKind.wrap_u8, show ((2 : Int) ^ k) = ((2 ^ k : Nat) : Int) by simp]
    generalize 2 ^ k = x at *
    omega
  rw [h2, u8_xor_nat _ _ (bt_lt _ _) h1]
end Go.Proofs.YtfhafednnnfmbaaDoor
end

section
/-
  (field.Elem).Key.
-/
namespace Go.Proofs.YtfhafednnnfmbaaDoor
open Go.ChangeShapes Go.WideShapes Go.ChangeAt Go.RowKit Go.Deep
set_option maxRecDepth 100000

/-- A number's bytes. -/
def kL (x : Nat) : List UInt8 := bytesL (lbs 8 x)
theorem kL_len (x : Nat) : (kL x).length = 32 := by unfold kL; rw [bytesL_len, lbs_len]
theorem bt_kL {x k : Nat} (h : k < 32) : bt (kL x) k = lb x (k / 4) / 256 ^ (k % 4) % 256 := by
  unfold kL
  rw [bt_bytesL (by rw [lbs_len]; omega), wd_lbs (by omega)]
theorem Ky.setB6 {w : World} {g j x : Nat} {xs : List UInt8} (h : Ky w g xs) (hj : j < 32) (hx : x < 256) : Ky (w.setCell ⟨g, j, none⟩ (.int .u8 (x : Int))) g (xs.set j (UInt8.ofNat x)) := by
  refine ⟨?_, by rw [List.length_set]; exact h.2⟩
  rw [setCell_eq_setRow w g j _ _ (0, 0) _ h.1, setRow_heap w g _ _ _ _ h.1]
  congr 2
  have hl := h.2
  apply Array.ext'
  rw [Array.toList_setIfInBounds]
  apply List.ext_getElem?
  intro i
  simp only [List.getElem?_set, cellsOf_len]
  by_cases hi : i < 32
  · rw [cellsOf_get (xs := xs.set j (UInt8.ofNat x)) (by rw [List.length_set]; omega), bt_set (by omega) hx]
    by_cases e : j = i
    · subst e; simp [show j < xs.length by omega]
    · rw [if_neg e, if_neg (Ne.symm e)]
      have := cellsOf_get (xs := xs) (j := i) (by omega)
      simpa using this
  · have h1 : (cellsOf xs)[i]? = none := List.getElem?_eq_none (by rw [cellsOf_len]; omega)
    have h2 : (cellsOf (xs.set j (UInt8.ofNat x)))[i]? = none := List.getElem?_eq_none (by rw [cellsOf_len, List.length_set]; omega)
    rw [if_neg (by omega)]
    simp only [h2]
    simpa using h1

set_option maxHeartbeats 2000000 in
theorem ekey_calls {x : Nat} {w : World} :
    Calls Tryd.prog 50 #[eV x] w fun e w' => e = .returned (.agg (cellsOf (kL x)).toArray) ∧ Ext w w' := by
  have XW : Hid (∀ j, j < 8 → wd (lbs 8 x) j = lb x j) := fun j hj => wd_lbs hj
  have XL := lbs_len 8 x
  have RB : Hid (∀ k, k < 32 → bt (kL x) k = lb x (k / 4) / 256 ^ (k % 4) % 256) := fun k hk => bt_kL hk
  have RL := kL_len x
  have LB : Hid (∀ i, lb x i < 4294967296) := lb_lt x
  unfold eV
  generalize kL x = rr at *
  generalize lbs 8 x = xs at *
  have hal := key_alloc
  have hz := zeros32_cells
  have zl : (List.replicate 32 (0 : UInt8)).length = 32 := rfl
  rw [← hz] at hal
  clear hz
  generalize List.replicate 32 (0 : UInt8) = zs at *
  have ZS : (cellsOf zs).toArray.size = 32 := by simp [cellsOf_len, zl]
  have B0 : Hid (Wr (((w.alloc (Obj.cells (wcells xs).toArray 81)).alloc (Obj.cells (cellsOf zs).toArray 23)).alloc (Obj.cells (cellsOf zs).toArray 23)) w.heap.size 81 xs ∧ Ky (((w.alloc (Obj.cells (wcells xs).toArray 81)).alloc (Obj.cells (cellsOf zs).toArray 23)).alloc (Obj.cells (cellsOf zs).toArray 23)) (w.heap.size + 1) zs ∧ Ky (((w.alloc (Obj.cells (wcells xs).toArray 81)).alloc (Obj.cells (cellsOf zs).toArray 23)).alloc (Obj.cells (cellsOf zs).toArray 23)) (w.heap.size + 1 + 1) zs ∧ Ext w (((w.alloc (Obj.cells (wcells xs).toArray 81)).alloc (Obj.cells (cellsOf zs).toArray 23)).alloc (Obj.cells (cellsOf zs).toArray 23))) := ⟨heap_alloc30 _ _ _ _, ⟨heap_alloc31 _ _ _ _, zl⟩, ⟨heap_alloc32 _ _ _ _, zl⟩, (((Ext.refl w).alloc _).alloc _).alloc _⟩
  go_enter Tryd.func50, Tryd.ntmps50
  go_upto_region 2 with fail
  refine wp_gen (fun W => Wr W w.heap.size 81 xs ∧ Ky W (w.heap.size + 1) zs ∧ Ky W (w.heap.size + 1 + 1) zs ∧ Ext w W) B0.out ?_
  clear B0
  rintro W0 ⟨wa, k1, k2, e0⟩
  replace wa := Lib.hid wa
  replace k1 := Lib.hid k1
  replace k2 := Lib.hid k2
  replace e0 := Lib.hid e0
  go_wp2_with fail
  go_loopw [5] (fun v wr => ∃ (k : Nat) (ys : List UInt8), k ≤ 32 ∧ v = .int .i64 (k : Int) ∧ ys.length = 32 ∧ (∀ j, j < k → bt ys j = bt rr j) ∧ Below (w.heap.size + 1 + 1) W0 wr ∧ Ky wr (w.heap.size + 1 + 1) ys) (fun v _ => 32 - (intOf v).toNat)
  case atStart => exact ⟨0, zs, Nat.zero_le _, rfl, zl, fun j hj => absurd hj (by omega), Below.refl _ _, k2.out⟩
  case round =>
    obtain ⟨k, ys, hk, rfl, yl, hv, hB, ky⟩ := hrel
    clear k2
    by_cases hlt : k < 32
    · obtain ⟨a, ha⟩ : ∃ a, a = k / 4 := ⟨_, rfl⟩
      obtain ⟨b, hb⟩ : ∃ b, b = k % 4 := ⟨_, rfl⟩
      obtain ⟨sh, hs⟩ : ∃ sh, sh = 8 * b := ⟨_, rfl⟩
      have ia : (k : Int) / 4 = (a : Int) := by omega
      have ib : (k : Int) % 4 = (b : Int) := by omega
      have ia' : Int.tdiv (k : Int) 4 = (a : Int) := by rw [Int.tdiv_eq_ediv_of_nonneg (by omega)]; omega
      have ib' : Int.tmod (k : Int) 4 = (b : Int) := by rw [Int.tmod_eq_emod_of_nonneg (by omega)]; omega
      have is : (8 : Int) * (b : Int) = (sh : Int) := by omega
      have a8 : a < 8 := by omega
      have a8' : (a : Int) < 8 := by omega
      have b4 : (b : Int) < 4 := by omega
      have s32 : (sh : Int) ≤ 32 := by omega
      have cv := (wa.out.kept hB (by omega)).cell (i := a) (by omega)
      rw [XW.out a a8] at cv
      have yb : bt rr k = lb x a / 2 ^ sh % 256 := by
        rw [RB.out k hlt, ← ha, ← hb, hs, show (256 : Nat) = 2 ^ 8 from rfl, ← Nat.pow_mul]
      have hl := LB.out a
      generalize lb x a = u at *
      obtain ⟨y, hy⟩ : ∃ y, y = u / 2 ^ sh := ⟨_, rfl⟩
      have q1 : Op.shift .shr .u32 (u : Int) .i64 (sh : Int) = pure (.int .u32 (y : Int)) := by
        have := shift_shr .u32 .i64 (u : Int) (sh : Int) (by omega) (by show (sh : Int) ≤ 32; exact s32)
        rw [this, hy]
        simp
      have y8 : IntKind.u8.wrap (y : Int) = ((y % 256 : Nat) : Int) := by rw [IntKind.wrap_u8]; omega
      have y8' : (y : Int) % 256 = ((y % 256 : Nat) : Int) := by omega
      rw [← hy] at yb
      have hlt8 : y % 256 < 256 := Nat.mod_lt _ (by decide)
      generalize y % 256 = z at *
      have g1 := ky.cell hlt
      have g2 := ky.frozen k
      have ik : (k : Int) < 32 := by omega
      replace yb := Lib.hid yb
      replace hy := Lib.hid hy
      replace ha := Lib.hid ha
      replace hb := Lib.hid hb
      replace hs := Lib.hid hs
      replace hv := Lib.hid hv
      replace hB := Lib.hid hB
      replace ky := Lib.hid ky
      clear hlt8
      go_wp2_with fail
      have hz : (u : Int) / 2 ^ sh % 256 = (z : Int) := by
        rw [← y8', hy.out, Int.natCast_ediv, Int.natCast_pow]; rfl
      rw [hz]
      have z256 : z < 256 := by rw [← yb.out]; exact bt_lt _ _
      refine ⟨⟨k + 1, ys.set k (UInt8.ofNat z), by omega, by go_num, by rw [List.length_set]; exact yl, fun j hj => ?_, Below.setCell hB.out (Nat.le_refl _) _, ky.out.setB6 hlt z256⟩, by simp [intOf]; omega⟩
      rw [bt_set (by omega) z256]
      by_cases e : j = k
      · rw [if_pos e, e]; exact yb.out.symm
      · rw [if_neg e]; exact hv.out j (by omega)
    · obtain rfl : k = 32 := by omega
      have hy : ys = rr := list_bt (by rw [yl, RL]) fun j hj => hv j (by omega)
      subst hy
      have KK : Hid (Ky wr (w.heap.size + 1) zs) := ⟨(hB.block _ (by omega)).trans k1.out.1, zl⟩
      have EE : Hid (Ext w wr) := Below.trans e0.out (hB.mono (by omega))
      have RS : (cellsOf ys).toArray.size = 32 := by simp [cellsOf_len, yl]
      have R1 := cellsOf_one ys
      replace ky := Lib.hid ky
      clear hv hB RB k1 wa e0
      go_wp2_with (first
        | (refine wpList_load_row rfl 23 _ rfl (w.heap.size + 1 + 1) rfl 23 (cellsOf ys).toArray (0, 0) _ ky.out.1 rfl rfl (by rw [RS]; rfl) ?_; simp only [Act.put, List.setIfInBounds_toArray, List.set_cons_zero, List.set_cons_succ])
        | refine wpList_store_row rfl 23 _ _ rfl (w.heap.size + 1) (cellsOf ys).toArray rfl rfl 23 _ KK.out.1 (by rw [RS]; rfl) (by rw [RS, ZS]) R1 ?_)
      (try simp only [Exit.inBlock, Exit.then])
      refine bodyPost_ret (results_cell_row rfl _ _ (w.heap.size + 1) 23 (cellsOf ys).toArray (0, 0) _ rfl (setRow_heap _ _ _ _ _ _ KK.out.1) rfl rfl (by rw [RS]; rfl)) rfl ?_
      exact ⟨rfl, below_setRow EE.out (by omega) _⟩
end Go.Proofs.YtfhafednnnfmbaaDoor
end
