/-
  field.reduced; the prime that is laid.
-/
import Derived.Test.YtadnmiedmcckkaaDoorFldSub
import Derived.Great.FillDense
namespace Go.Proofs.YtadnmiedmcckkaaDoor
open Go.ChangeShapes Go.WideShapes Go.ChangeAt Go.RowKit Go.Deep
set_option maxRecDepth 100000

/-- The prime. -/
def P25 : Nat := 57896044618658097711785492504343953926634992332820282019728792003956564819949
def primeL : List Nat := [4294967277, 4294967295, 4294967295, 4294967295, 4294967295, 4294967295, 4294967295, 2147483647]
theorem primeL_eq : primeL = lbs 8 P25 := by decide +kernel
theorem P25_lt : P25 < 4294967296 ^ 8 := by decide +kernel
/-- The variable field.prime holds the prime. -/
def Gp (w : World) (tg : TypeId × Nat × Nat) : Prop := w.heap[0]? = some (.cells (wcells (lbs 8 P25)).toArray tg.1 tg.2)
theorem Gp.lt {w : World} {tg : TypeId × Nat × Nat} (h : Gp w tg) : 0 < w.heap.size := heap_lt h
theorem Gp.ext {w w' : World} {tg : TypeId × Nat × Nat} (h : Gp w tg) (e : Ext w w') : Gp w' tg := (e.block _ h.lt).trans h

theorem fill_oneN {n : Nat} {K Z : Array Value} (hn : 0 < n) (pl : Nat → Option (Nat × Nat)) (hp : pl 0 = some (0, n)) (hK : K.size = n) (hZ : Z.size = n) : Instr.fill pl Z [(0, .agg K)] = some K := by
  have hc : (Value.agg K).cells = K := rfl
  simp only [Instr.fill, hp, hc, hK, hZ]
  simp only [ne_eq, not_true_eq_false, decide_false, Bool.false_or, Nat.zero_add, Nat.lt_irrefl, decide_false, Bool.false_eq_true, if_false]
  have := Great.fill_whole (s := n) hn [Value.agg K] Z (fun v hv => by
    simp only [List.mem_singleton] at hv
    subst hv
    exact hK) (by simp [hZ])
  simp only [List.zipIdx_cons, List.zipIdx_nil, List.map_cons, List.map_nil, List.flatMap_cons, List.flatMap_nil, List.append_nil, Instr.fill, hc, hK, hZ, Nat.zero_mul] at this
  simpa using this
theorem elem_alloc (w : World) : (zeroValue 57).run Tryd.prog w = .ok (.agg (wcells zw8).toArray) w := by kernel_rfl
theorem zw8_size : (wcells zw8).toArray.size = 8 := rfl
theorem elem_built {K : Array Value} (hK : K.size = 8) : Tryd.prog.built 57 [(0, .agg K)] = some K := by
  have h : ∃ pl : Nat → Option (Nat × Nat), pl 0 = some (0, 8) ∧ ∀ ps, Tryd.prog.built 57 ps = Instr.fill pl (wcells zw8).toArray ps := ⟨(#[(0, 8)][·]?), rfl, fun ps => by kernel_rfl⟩
  obtain ⟨pl, h0, h1⟩ := h
  rw [h1, fill_oneN (by omega) pl h0 hK zw8_size]

/-- Numbers below twice the prime, brought below it. -/
theorem red_lt {x : Nat} (hx : x < 2 * P25) : lbs 8 (x % P25) = if bS x P25 8 = 0 then lbs 8 (x + 4294967296 ^ 8 - P25) else lbs 8 x := by
  have h1 : x < 4294967296 ^ 8 := Nat.lt_trans hx (by decide +kernel)
  rw [bS_eight h1 P25_lt]
  by_cases q : x < P25
  · rw [if_pos q, if_neg (by omega), Nat.mod_eq_of_lt q]
  · rw [if_neg q, if_pos rfl]
    have h2 : x % P25 = x - P25 := by
      rw [Nat.mod_eq_sub_mod (by omega), Nat.mod_eq_of_lt (by omega)]
    have e : x - P25 + 4294967296 ^ 8 = x + 4294967296 ^ 8 - P25 := by
      generalize P25 = p at *
      generalize 4294967296 ^ 8 = M at *
      omega
    rw [h2, ← lbs_add_big 8 (x - P25), e]

set_option maxHeartbeats 1000000 in
theorem reduced_calls {x : Nat} {w : World} (hx : x < 2 * P25) {tg : TypeId × Nat × Nat} (hG : Gp w tg) :
    Calls Tryd.prog 56 #[.agg (wcells (lbs 8 x)).toArray] w fun e w' => e = .returned (.agg (wcells (lbs 8 (x % P25))).toArray) ∧ Ext w w' := by
  have SUB : Hid (∀ W, Calls Tryd.prog 69 #[.agg (wcells (lbs 8 x)).toArray, .agg (wcells (lbs 8 P25)).toArray] W (RetSub x P25 W)) := fun W => subtracted_calls P25_lt
  have HR := Lib.hid (red_lt hx)
  unfold RetSub at SUB
  obtain ⟨r, hr⟩ : ∃ r, r = lbs 8 (x % P25) := ⟨_, rfl⟩
  rw [← hr] at HR ⊢
  have RL : r.length = 8 := by rw [hr]; exact lbs_len _ _
  clear hr
  have XL := lbs_len 8 x
  have PL := lbs_len 8 P25
  have DL := lbs_len 8 (x + 4294967296 ^ 8 - P25)
  have BB : Hid (bS x P25 8 ≤ 1) := bS_le _ _ 8
  have GP : Hid (∀ W, Ext w W → W.heap[0]? = some (.cells (wcells (lbs 8 P25)).toArray tg.1 tg.2)) := fun W e => hG.ext e
  clear hG hx
  generalize lbs 8 (x + 4294967296 ^ 8 - P25) = ds at *
  generalize bS x P25 8 = b at *
  generalize lbs 8 P25 = ps at *
  generalize lbs 8 x = xs at *
  have XS := wcells_size XL
  have PS := wcells_size PL
  have DS := wcells_size DL
  have D1 := wcells_one ds
  have X1 := wcells_one xs
  have hal := fld_alloc
  have hal2 := elem_alloc
  have bD : Hid (Tryd.prog.built 57 [(0, .agg (wcells ds).toArray)] = some (wcells ds).toArray) := elem_built DS
  have bX : Hid (Tryd.prog.built 57 [(0, .agg (wcells xs).toArray)] = some (wcells xs).toArray) := elem_built XS
  have ZL : zw8.length = 8 := rfl
  generalize zw8 = zs at *
  have ZS := wcells_size ZL
  have B0 : Hid (∀ s, Ext ((w.alloc (Obj.cells (wcells xs).toArray 55)).alloc (Obj.cells (wcells zs).toArray 57)) s → s.heap[w.heap.size]? = some (.cells (wcells xs).toArray 55 (0, 0)) ∧ s.heap[w.heap.size + 1]? = some (.cells (wcells zs).toArray 57 (0, 0)) ∧ Ext w s) := fun s e => ⟨(e.block _ (by rw [size_alloc, size_alloc]; omega)).trans (heap_alloc1 _ _ _), (e.block _ (by rw [size_alloc, size_alloc]; omega)).trans (heap_alloc2 _ _ _), (((Ext.refl w).alloc _).alloc _).trans e⟩
  go_enter Tryd.func56, Tryd.ntmps56
  go_upto_region 1 with fail
  have k0 := Lib.hid (B0.out _ (Ext.refl _)).1
  have kp := Lib.hid (GP.out _ (B0.out _ (Ext.refl _)).2.2)
  go_wp2_with (first
    | (refine wpList_load_row rfl 55 _ rfl w.heap.size rfl 55 (wcells xs).toArray (0, 0) _ k0.out rfl rfl (by rw [XS]; rfl) ?_; simp only [Act.put, List.setIfInBounds_toArray, List.set_cons_zero, List.set_cons_succ])
    | (refine wpList_load_row rfl 55 _ rfl 0 rfl tg.1 (wcells ps).toArray tg.2 _ kp.out rfl rfl (by rw [PS]; rfl) ?_; simp only [Act.put, List.setIfInBounds_toArray, List.set_cons_zero, List.set_cons_succ]))
  refine (SUB.out _).mono ?_
  rintro e v ⟨rfl, e1⟩
  have B1 : Hid (∀ s, Ext v s → s.heap[w.heap.size]? = some (.cells (wcells xs).toArray 55 (0, 0)) ∧ s.heap[w.heap.size + 1]? = some (.cells (wcells zs).toArray 57 (0, 0)) ∧ Ext w s) := fun s e => B0.out s (e1.trans e)
  clear B0 k0 kp GP SUB e1
  have a1 : Hid ((v.alloc (Obj.cells (wcells zs).toArray 55)).heap[v.heap.size]? = some (.cells (wcells zs).toArray 55 (0, 0))) := heap_alloc_new _ _
  have e5 : Ext v ((v.alloc (Obj.cells (wcells zs).toArray 55)).setRow v.heap.size (wcells ds).toArray) := below_setRow ((Ext.refl v).alloc _) (Nat.le_refl _) _
  go_upto_region 2 with (refine wpList_store_row rfl 55 _ _ rfl v.heap.size (wcells ds).toArray rfl rfl 55 _ a1.out (by rw [DS]; rfl) (by rw [DS, ZS]) D1 ?_; simp only [Act.put, List.setIfInBounds_toArray, List.set_cons_zero, List.set_cons_succ])
  obtain ⟨f, hf⟩ : ∃ f, f = v.heap.size := ⟨_, rfl⟩
  refine wp_gen (fun W => W.heap[w.heap.size]? = some (.cells (wcells xs).toArray 55 (0, 0)) ∧ W.heap[w.heap.size + 1]? = some (.cells (wcells zs).toArray 57 (0, 0)) ∧ Ext w W ∧ W.heap[f]? = some (.cells (wcells ds).toArray 55 (0, 0))) (by
    have p := B1.out _ e5
    exact ⟨p.1, p.2.1, p.2.2, by rw [hf]; exact setRow_heap _ _ _ _ _ _ a1.out⟩) ?_
  rw [← hf]
  clear hf a1 e5 B1
  rintro w2 ⟨k0, k1, x2, kd⟩
  replace k0 := Lib.hid k0
  replace k1 := Lib.hid k1
  replace x2 := Lib.hid x2
  replace kd := Lib.hid kd
  have BC : b = 0 ∨ b = 1 := by have := BB.out; omega
  rcases BC with rfl | rfl
  · obtain rfl : r = ds := by have := HR.out; rw [if_pos rfl] at this; exact this
    go_wp2_with (first
      | (refine wpList_load_row rfl 55 _ rfl f rfl 55 (wcells r).toArray (0, 0) _ kd.out rfl rfl (by rw [DS]; rfl) ?_; simp only [Act.put, List.setIfInBounds_toArray, List.set_cons_zero, List.set_cons_succ])
      | (refine wpList_build_as rfl _ _ rfl (wcells r).toArray (by simp only [List.map_toArray, List.map_cons, List.map_nil]; exact bD.out) ?_; simp only [Act.put, List.setIfInBounds_toArray, List.set_cons_zero, List.set_cons_succ])
      | (refine wpList_store_row rfl 57 _ _ rfl (w.heap.size + 1) (wcells r).toArray rfl rfl 57 _ k1.out (by rw [DS]; rfl) (by rw [DS, ZS]) D1 ?_; simp only [Act.put, List.setIfInBounds_toArray, List.set_cons_zero, List.set_cons_succ]))
    (try simp only [Exit.inBlock, Exit.then])
    refine bodyPost_ret (results_cell_row rfl _ _ (w.heap.size + 1) 57 (wcells r).toArray (0, 0) _ rfl (setRow_heap _ _ _ _ _ _ k1.out) rfl rfl (by rw [DS]; rfl)) rfl ?_
    exact ⟨rfl, below_setRow x2.out (by omega) _⟩
  · obtain rfl : r = xs := by have := HR.out; rw [if_neg (by omega)] at this; exact this
    go_wp2_with (first
      | (refine wpList_load_row rfl 55 _ rfl w.heap.size rfl 55 (wcells r).toArray (0, 0) _ k0.out rfl rfl (by rw [XS]; rfl) ?_; simp only [Act.put, List.setIfInBounds_toArray, List.set_cons_zero, List.set_cons_succ])
      | (refine wpList_build_as rfl _ _ rfl (wcells r).toArray (by simp only [List.map_toArray, List.map_cons, List.map_nil]; exact bX.out) ?_; simp only [Act.put, List.setIfInBounds_toArray, List.set_cons_zero, List.set_cons_succ])
      | (refine wpList_store_row rfl 57 _ _ rfl (w.heap.size + 1) (wcells r).toArray rfl rfl 57 _ k1.out (by rw [XS]; rfl) (by rw [XS, ZS]) X1 ?_; simp only [Act.put, List.setIfInBounds_toArray, List.set_cons_zero, List.set_cons_succ]))
    (try simp only [Exit.inBlock, Exit.then])
    refine bodyPost_ret (results_cell_row rfl _ _ (w.heap.size + 1) 57 (wcells r).toArray (0, 0) _ rfl (setRow_heap _ _ _ _ _ _ k1.out) rfl rfl (by rw [XS]; rfl)) rfl ?_
    exact ⟨rfl, below_setRow x2.out (by omega) _⟩
end Go.Proofs.YtadnmiedmcckkaaDoor
