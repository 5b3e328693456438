import Derived.Test.YtfhafednnnfmbaaDoorPkP
import Derived.Test.YtfhafednnnfmbaaDoorPkQ
import Derived.Test.YtfhafednnnfmbaaDoorStep7
section
/-
  curve.scalar: the bits of a secret that count.
-/
namespace Go.Proofs.YtfhafednnnfmbaaDoor
open Go.ChangeShapes Go.WideShapes Go.ChangeAt Go.RowKit Go.Deep
set_option maxRecDepth 100000

/-- Block g are 32 bytes, as an array without a name. -/
def Kb (w : World) (g : Nat) (xs : List UInt8) : Prop := w.heap[g]? = some (.cells (cellsOf xs).toArray 22 (0, 0)) ∧ xs.length = 32
section
variable {w w' : World} {g : Nat} {xs : List UInt8}
theorem Kb.lt (h : Kb w g xs) : g < w.heap.size := heap_lt h.1
theorem Kb.kept {B : Nat} (h : Kb w g xs) (e : Below B w w') (hB : g < B) : Kb w' g xs := ⟨(e.block g hB).trans h.1, h.2⟩
theorem Kb.cell (h : Kb w g xs) {j : Nat} (hj : j < 32) : w.cell? ⟨g, j, none⟩ = some (.int .u8 (bt xs j : Int)) := by
  rw [cell_of_row w g j _ _ _ h.1]
  have := cellsOf_get (xs := xs) (j := j) (by rw [h.2]; exact hj)
  simpa using this
theorem Kb.frozen (h : Kb w g xs) (j : Nat) : w.frozen? ⟨g, j, none⟩ = false := frozen_of_row w g j _ _ h.1
theorem Kb.set (h : Kb w g xs) {j x : Nat} (hj : j < 32) (hx : x < 256) : Kb (w.setCell ⟨g, j, none⟩ (.int .u8 (x : Int))) g (xs.set j (UInt8.ofNat x)) := by
  refine ⟨?_, by rw [List.length_set]; exact h.2⟩
  have hc : (cellsOf xs).set j (.int .u8 (x : Int)) = cellsOf (xs.set j (UInt8.ofNat x)) := by
    rw [cellsOf_map, cellsOf_map, List.map_set]
    congr 2
    simp
    omega
  rw [setCell_eq_setRow w g j _ _ (0, 0) _ h.1, setRow_heap w g _ _ _ _ h.1, ← hc]
  simp
end
/-- The bytes of the scalar. -/
def scL (ks : List UInt8) : List UInt8 := ((ks.set 0 (UInt8.ofNat (bt ks 0 / 8 * 8))).set 31 (UInt8.ofNat (bt ks 31 % 128))).set 31 (UInt8.ofNat (bt ks 31 % 64 + 64))
theorem scL_len {ks : List UInt8} (h : ks.length = 32) : (scL ks).length = 32 := by simp [scL, h]
theorem bt_set7 {xs : List UInt8} {i j x : Nat} (hi : i < xs.length) (hx : x < 256) : bt (xs.set i (UInt8.ofNat x)) j = if j = i then x else bt xs j := by
  unfold bt
  by_cases e : j = i
  · subst e; simp [List.getD, hi]; omega
  · rw [if_neg e]; simp [List.getD, List.getElem?_set, show ¬ i = j from fun q => e q.symm]
theorem bt_scL {ks : List UInt8} (h : ks.length = 32) (j : Nat) : bt (scL ks) j = if j = 31 then bt ks 31 % 64 + 64 else if j = 0 then bt ks 0 / 8 * 8 else bt ks j := by
  have b0 := bt_lt ks 0
  unfold scL
  rw [bt_set7 (by simp [h]) (by omega), bt_set7 (by simp [h]) (by omega), bt_set7 (by simp [h]) (by omega)]
  by_cases e : j = 31
  · rw [if_pos e, if_pos e]
  · rw [if_neg e, if_neg e, if_neg e]
theorem low3 : ∀ x, x < 256 → ∀ i, i < 8 → (x / 8 * 8) / 2 ^ i % 2 = if i < 3 then 0 else x / 2 ^ i % 2 := by decide +kernel
theorem top2 : ∀ x, x < 256 → ∀ i, i < 7 → (x % 64 + 64) / 2 ^ i % 2 = if i = 6 then 1 else x / 2 ^ i % 2 := by decide +kernel
/-- Each bit of the scalar is that of the secret, as the document has it. -/
theorem bit_scL {ks : List UInt8} (h : ks.length = 32) {i : Nat} (hi : i ≤ 254) : bt (scL ks) (i / 8) / 2 ^ (i % 8) % 2 = if bitB ks i then 1 else 0 := by
  have hm := Nat.mod_lt i (show 0 < 8 by decide)
  have hd := Nat.div_add_mod i 8
  rw [bt_scL h]
  have key : ∀ n : Nat, n % 2 = if decide (n % 2 = 1) = true then 1 else 0 := fun n => by
    rcases Nat.mod_two_eq_zero_or_one n with q | q <;> simp [q]
  have hB : ¬ (i < 3 ∨ i = 255) → ¬ i = 254 → bitB ks i = decide (bt ks (i / 8) / 2 ^ (i % 8) % 2 = 1) := fun a b => by unfold bitB; rw [if_neg a, if_neg b]
  by_cases e : i / 8 = 31
  · rw [if_pos e, top2 _ (bt_lt ks 31) _ (by omega)]
    by_cases e6 : i % 8 = 6
    · have : bitB ks i = true := by unfold bitB; rw [if_neg (by omega), if_pos (by omega)]
      rw [if_pos e6, this]; rfl
    · rw [if_neg e6, hB (by omega) (by omega), e]
      exact key _
  · rw [if_neg e]
    by_cases e0 : i / 8 = 0
    · rw [if_pos e0, low3 _ (bt_lt ks 0) _ hm]
      by_cases e3 : i % 8 < 3
      · have : bitB ks i = false := by unfold bitB; rw [if_pos (by omega)]
        rw [if_pos e3, this]; rfl
      · rw [if_neg e3, hB (by omega) (by omega), e0]
        exact key _
    · rw [if_neg e0, hB (by omega) (by omega)]
      exact key _

theorem and248 : ∀ x, x < 256 → x &&& 248 = x / 8 * 8 := by decide +kernel
theorem and127 : ∀ x, x < 256 → x &&& 127 = x % 128 := by decide +kernel
theorem or64 : ∀ x, x < 256 → (x % 128) ||| 64 = x % 64 + 64 := by decide +kernel
theorem kb_alloc (w : World) : (zeroValue 22).run Tryd.prog w = .ok (.agg (cellsOf (List.replicate 32 0)).toArray) w := by kernel_rfl

set_option maxHeartbeats 2000000 in
theorem scalar_calls {ks : List UInt8} {w : World} (hk : ks.length = 32) :
    Calls Tryd.prog 44 #[.agg (cellsOf ks).toArray] w fun e w' => e = .returned (.agg (cellsOf (scL ks)).toArray) ∧ Ext w w' := by
  have b0 := bt_lt ks 0
  have b31 := bt_lt ks 31
  obtain ⟨x, hx⟩ : ∃ x, x = bt ks 0 / 8 * 8 := ⟨_, rfl⟩
  obtain ⟨y, hy⟩ : ∃ y, y = bt ks 31 % 128 := ⟨_, rfl⟩
  obtain ⟨z, hz⟩ : ∃ z, z = bt ks 31 % 64 + 64 := ⟨_, rfl⟩
  have x8 : x < 256 := by omega
  have y8 : y < 256 := by omega
  have z8 : z < 256 := by omega
  have q1 : bits .andNot .u8 (bt ks 0 : Int) 7 = (x : Int) := by
    have := u8_andNot_nat (bt ks 0) 7 b0 (by omega)
    rw [show ((7 : Nat) : Int) = 7 from rfl] at this
    rw [this, hx, ← and248 _ b0]
  have q2 : bits .andNot .u8 (bt ks 31 : Int) 128 = (y : Int) := by
    have := u8_andNot_nat (bt ks 31) 128 b31 (by omega)
    rw [show ((128 : Nat) : Int) = 128 from rfl] at this
    rw [this, hy, ← and127 _ b31]
  have q3 : bits .or .u8 (y : Int) 64 = (z : Int) := by
    have := u8_or_nat y 64 y8 (by omega)
    rw [show ((64 : Nat) : Int) = 64 from rfl] at this
    rw [this, hz, hy, ← or64 _ b31]
  have hsc : Hid (scL ks = ((ks.set 0 (UInt8.ofNat x)).set 31 (UInt8.ofNat y)).set 31 (UInt8.ofNat z)) := by unfold Hid; rw [hx, hy, hz]; rfl
  have hb31 : Hid (bt (ks.set 0 (UInt8.ofNat x)) 31 = bt ks 31) := by unfold Hid; rw [bt_set7 (by omega) x8]; rfl
  have hby : Hid (bt ((ks.set 0 (UInt8.ofNat x)).set 31 (UInt8.ofNat y)) 31 = y) := by unfold Hid; rw [bt_set7 (by simp [hk]) y8]; rfl
  clear hx hy hz
  have hal := key_alloc
  have hal2 := kb_alloc
  have zl : (List.replicate 32 (0 : UInt8)).length = 32 := rfl
  generalize List.replicate 32 (0 : UInt8) = zs at *
  have ZS : (cellsOf zs).toArray.size = 32 := by simp [cellsOf_len, zl]
  have KS : (cellsOf ks).toArray.size = 32 := by simp [cellsOf_len, hk]
  have K1 := cellsOf_one ks
  have B0 : Hid (Ky (((w.alloc (Obj.cells (cellsOf ks).toArray 23)).alloc (Obj.cells (cellsOf zs).toArray 22)).alloc (Obj.cells (cellsOf zs).toArray 22)) w.heap.size ks ∧ Kb (((w.alloc (Obj.cells (cellsOf ks).toArray 23)).alloc (Obj.cells (cellsOf zs).toArray 22)).alloc (Obj.cells (cellsOf zs).toArray 22)) (w.heap.size + 1) zs ∧ Kb (((w.alloc (Obj.cells (cellsOf ks).toArray 23)).alloc (Obj.cells (cellsOf zs).toArray 22)).alloc (Obj.cells (cellsOf zs).toArray 22)) (w.heap.size + 1 + 1) zs ∧ Ext w (((w.alloc (Obj.cells (cellsOf ks).toArray 23)).alloc (Obj.cells (cellsOf zs).toArray 22)).alloc (Obj.cells (cellsOf zs).toArray 22))) := ⟨⟨heap_alloc30 _ _ _ _, hk⟩, ⟨heap_alloc31 _ _ _ _, zl⟩, ⟨heap_alloc32 _ _ _ _, zl⟩, (((Ext.refl w).alloc _).alloc _).alloc _⟩
  have A0 : Hid ((w.alloc (Obj.cells (cellsOf ks).toArray 23)).heap[w.heap.size]? = some (.cells (cellsOf ks).toArray 23 (0, 0)) ∧ ((w.alloc (Obj.cells (cellsOf ks).toArray 23)).alloc (Obj.cells (cellsOf zs).toArray 22)).heap[w.heap.size]? = some (.cells (cellsOf ks).toArray 23 (0, 0))) := ⟨heap_alloc_new _ _, heap_alloc1 _ _ _⟩
  go_enter Tryd.func44, Tryd.ntmps44
  go_upto_region 2 with (first
    | (refine wpList_load_row rfl 23 _ rfl w.heap.size rfl 23 (cellsOf ks).toArray (0, 0) _ A0.out.2 rfl rfl (by rw [KS]; rfl) ?_; simp only [Act.put, List.setIfInBounds_toArray, List.set_cons_zero, List.set_cons_succ])
    | (refine wpList_store_row rfl 22 _ _ rfl (w.heap.size + 1 + 1) (cellsOf ks).toArray rfl rfl 22 _ B0.out.2.2.1.1 (by rw [KS]; rfl) (by rw [KS, ZS]) K1 ?_; simp only [Act.put, List.setIfInBounds_toArray, List.set_cons_zero, List.set_cons_succ]))
  refine wp_gen (fun W => Kb W (w.heap.size + 1) zs ∧ Kb W (w.heap.size + 1 + 1) ks ∧ Ext w W) ⟨⟨(setRow_other _ _ _ _ (by omega)).trans B0.out.2.1.1, zl⟩, ⟨setRow_heap _ _ _ _ _ _ B0.out.2.2.1.1, hk⟩, below_setRow B0.out.2.2.2 (by omega) _⟩ ?_
  clear A0 B0
  rintro w1 ⟨k1, k2, e0⟩
  have c0 := k2.cell (j := 0) (by omega)
  have f0 := k2.frozen 0
  have n1 := k2.set (j := 0) (x := x) (by omega) x8
  have c1 := n1.cell (j := 31) (by omega)
  rw [hb31.out] at c1
  have f1 := n1.frozen 31
  have n2 := n1.set (j := 31) (x := y) (by omega) y8
  have c2 := n2.cell (j := 31) (by omega)
  rw [hby.out] at c2
  have f2 := n2.frozen 31
  have n3 := n2.set (j := 31) (x := z) (by omega) z8
  rw [← hsc.out] at n3
  have RS : (cellsOf (scL ks)).toArray.size = 32 := by simp [cellsOf_len, scL_len hk]
  have R1 := cellsOf_one (scL ks)
  have gne : Hid (¬ w.heap.size + 1 = w.heap.size + 1 + 1) := by unfold Hid; omega
  have kk : Hid (Kb (((w1.setCell ⟨w.heap.size + 1 + 1, 0, none⟩ (.int .u8 (x : Int))).setCell ⟨w.heap.size + 1 + 1, 31, none⟩ (.int .u8 (y : Int))).setCell ⟨w.heap.size + 1 + 1, 31, none⟩ (.int .u8 (z : Int))) (w.heap.size + 1) zs ∧ Kb (((w1.setCell ⟨w.heap.size + 1 + 1, 0, none⟩ (.int .u8 (x : Int))).setCell ⟨w.heap.size + 1 + 1, 31, none⟩ (.int .u8 (y : Int))).setCell ⟨w.heap.size + 1 + 1, 31, none⟩ (.int .u8 (z : Int))) (w.heap.size + 1 + 1) (scL ks) ∧ Ext w (((w1.setCell ⟨w.heap.size + 1 + 1, 0, none⟩ (.int .u8 (x : Int))).setCell ⟨w.heap.size + 1 + 1, 31, none⟩ (.int .u8 (y : Int))).setCell ⟨w.heap.size + 1 + 1, 31, none⟩ (.int .u8 (z : Int)))) :=
    ⟨⟨(Below.heap_setCell _ _ _ _ gne.out).trans ((Below.heap_setCell _ _ _ _ gne.out).trans ((Below.heap_setCell _ _ _ _ gne.out).trans k1.1)), zl⟩, n3, Ext.setCell (Ext.setCell (Ext.setCell e0 (show w.heap.size ≤ w.heap.size + 1 + 1 by omega) _) (show w.heap.size ≤ w.heap.size + 1 + 1 by omega) _) (show w.heap.size ≤ w.heap.size + 1 + 1 by omega) _⟩
  replace k1 := Lib.hid k1
  clear n1 n2 n3 e0 k2 k1
  clear hsc hb31 hby gne
  obtain ⟨rs, hrs⟩ : ∃ rs, rs = scL ks := ⟨_, rfl⟩
  rw [← hrs] at kk RS R1
  replace hrs := Lib.hid (fun _ : Unit => hrs)
  generalize bt ks 0 = v0 at *
  generalize bt ks 31 = v31 at *
  go_upto_region 5 with fail
  refine wp_gen (fun W => Kb W (w.heap.size + 1) zs ∧ Kb W (w.heap.size + 1 + 1) rs ∧ Ext w W) kk.out ?_
  clear kk c0 c1 c2 f0 f1 f2 q1 q2 q3
  rintro w2 ⟨k1, k2, e0⟩
  go_wp2_with (first
    | (refine wpList_load_row rfl 22 _ rfl (w.heap.size + 1 + 1) rfl 22 (cellsOf rs).toArray (0, 0) _ k2.1 rfl rfl (by rw [RS]; rfl) ?_; simp only [Act.put, List.setIfInBounds_toArray, List.set_cons_zero, List.set_cons_succ])
    | (refine wpList_store_row rfl 22 _ _ rfl (w.heap.size + 1) (cellsOf rs).toArray rfl rfl 22 _ k1.1 (by rw [RS]; rfl) (by rw [RS, ZS]) R1 ?_; simp only [Act.put, List.setIfInBounds_toArray, List.set_cons_zero, List.set_cons_succ]))
  (try simp only [Exit.inBlock, Exit.then])
  refine bodyPost_ret (results_cell_row rfl _ _ (w.heap.size + 1) 22 (cellsOf rs).toArray (0, 0) _ rfl (setRow_heap _ _ _ _ _ _ k1.1) rfl rfl (by rw [RS]; rfl)) rfl ?_
  exact ⟨by rw [hrs.out ()], below_setRow e0 (by omega) _⟩
end Go.Proofs.YtfhafednnnfmbaaDoor
end

section
/-
  A pair of points that is laid of three of its parts. No conditions.
-/
namespace Go.Proofs.YtfhafednnnfmbaaDoor
open Go.ChangeShapes Go.WideShapes Go.ChangeAt Go.RowKit Go.Deep
set_option maxRecDepth 100000

theorem fill_gap3 {pl : Nat → Option (Nat × Nat)} (q0 : pl 0 = some (0, 8)) (q1 : pl 1 = some (8, 8)) (q3 : pl 3 = some (24, 8)) {K L M Z : Array Value} (s1 : K.size = 8) (s2 : L.size = 8) (s4 : M.size = 8) (sz : Z.size = 32) :
    ∃ r, Instr.fill pl Z [(0, .agg K), (1, .agg L), (3, .agg M)] = some r ∧ r.size = 32 ∧ ∀ k, r[k]? = if 24 ≤ k ∧ k < 32 then M[k - 24]? else if 8 ≤ k ∧ k < 16 then L[k - 8]? else if k < 8 then K[k]? else Z[k]? := by
  have c1 : (Value.agg K).cells = K := rfl
  have c2 : (Value.agg L).cells = L := rfl
  have c4 : (Value.agg M).cells = M := rfl
  obtain ⟨g1, g2⟩ := Great.foldl_set 0 K.toList 0 Z
  obtain ⟨g3, g4⟩ := Great.foldl_set 8 L.toList 0 ((K.toList.zipIdx 0).foldl (fun cs (x : Value × Nat) => cs.setIfInBounds (0 + x.2) x.1) Z)
  obtain ⟨g5, g6⟩ := Great.foldl_set 24 M.toList 0 ((L.toList.zipIdx 0).foldl (fun cs (x : Value × Nat) => cs.setIfInBounds (8 + x.2) x.1) ((K.toList.zipIdx 0).foldl (fun cs (x : Value × Nat) => cs.setIfInBounds (0 + x.2) x.1) Z))
  rw [← fold_cells, ← fold_cells, ← fold_cells] at g5 g6
  rw [← fold_cells, ← fold_cells] at g3 g4
  rw [← fold_cells] at g1 g2
  refine ⟨_, ?_, g5.trans (g3.trans (g1.trans sz)), fun k => ?_⟩
  · unfold Instr.fill
    simp only [q0, c1, s1]
    rw [if_neg (by rw [sz]; simp)]
    unfold Instr.fill
    simp only [q1, c2, s2]
    rw [if_neg (by rw [g1, sz]; simp)]
    unfold Instr.fill
    simp only [q3, c4, s4]
    rw [if_neg (by rw [g3, g1, sz]; simp)]
    rfl
  · rw [g6 k, g4 k, g2 k, g3, g1, sz]
    simp only [Nat.add_zero, Nat.zero_add, Nat.zero_le, true_and, Array.length_toList, s1, s2, s4, Nat.sub_zero]
    by_cases k1 : 24 ≤ k ∧ k < 32
    · rw [if_pos ⟨k1.1, by omega, by omega⟩, if_pos k1]; simp
    · rw [if_neg (by omega), if_neg k1]
      by_cases k2 : 8 ≤ k ∧ k < 16
      · rw [if_pos ⟨k2.1, by omega, by omega⟩, if_pos k2]; simp
      · rw [if_neg (by omega), if_neg k2]
        by_cases k3 : k < 8
        · rw [if_pos ⟨by omega, by omega⟩, if_pos k3]; simp
        · rw [if_neg (by omega), if_neg k3]
theorem built_pr3 {a b d : List Nat} (la : a.length = 8) (lb : b.length = 8) (ld : d.length = 8) : Tryd.prog.built 86 [(0, .agg (wcells a).toArray), (1, .agg (wcells b).toArray), (3, .agg (wcells d).toArray)] = some (prC a b zw8 d).toArray := by
  have hb : ∃ pl : Nat → Option (Nat × Nat), (pl 0 = some (0, 8) ∧ pl 1 = some (8, 8) ∧ pl 2 = some (16, 8) ∧ pl 3 = some (24, 8)) ∧ ∀ ps, Tryd.prog.built 86 ps = Instr.fill pl (prC zw8 zw8 zw8 zw8).toArray ps := ⟨(#[(0, 8), (8, 8), (16, 8), (24, 8)][·]?), ⟨rfl, rfl, rfl, rfl⟩, fun ps => by kernel_rfl⟩
  obtain ⟨pl, ⟨q0, q1, q2, q3⟩, hp⟩ := hb
  have lz : zw8.length = 8 := rfl
  generalize zw8 = zs at *
  obtain ⟨r, hr, hs, hk⟩ := fill_gap3 (Z := (prC zs zs zs zs).toArray) q0 q1 q3 (wcells_size la) (wcells_size lb) (wcells_size ld) (prC_len ⟨lz, lz, lz, lz⟩)
  rw [hp, hr]
  congr 1
  apply Array.ext_getElem?
  intro k
  rw [hk k]
  have e1 : (prC a b zs d).length = 32 := prC_len ⟨la, lb, lz, ld⟩
  have e2 : (prC zs zs zs zs).length = 32 := prC_len ⟨lz, lz, lz, lz⟩
  simp only [List.getElem?_toArray]
  by_cases k1 : k < 8
  · rw [if_neg (by omega), if_neg (by omega), if_pos k1, prC, List.getElem?_append_left (by rw [wc8' la]; omega)]
  · by_cases k2 : k < 16
    · rw [if_neg (by omega), if_pos (by omega), prC, List.getElem?_append_right (by rw [wc8' la]; omega), wc8' la, List.getElem?_append_left (by rw [wc8' lb]; omega)]
    · by_cases k3 : k < 24
      · rw [if_neg (by omega), if_neg (by omega), if_neg (by omega), prC, prC, List.getElem?_append_right (by rw [wc8' lz]; omega), wc8' lz, List.getElem?_append_right (by rw [wc8' lz]; omega), wc8' lz, List.getElem?_append_left (by rw [wc8' lz]; omega),
          List.getElem?_append_right (by rw [wc8' la]; omega), wc8' la, List.getElem?_append_right (by rw [wc8' lb]; omega), wc8' lb, List.getElem?_append_left (by rw [wc8' lz]; omega)]
      · by_cases k4 : k < 32
        · rw [if_pos (by omega), prC, List.getElem?_append_right (by rw [wc8' la]; omega), wc8' la, List.getElem?_append_right (by rw [wc8' lb]; omega), wc8' lb, List.getElem?_append_right (by rw [wc8' lz]; omega), wc8' lz]
          congr 1
        · rw [if_neg (by omega), if_neg (by omega), if_neg (by omega), List.getElem?_eq_none (by omega), List.getElem?_eq_none (by omega)]
end Go.Proofs.YtfhafednnnfmbaaDoor
end
