import Derived.Test.YtadnmiedmcckkaaDoorPkO
import Derived.Test.YtadnmiedmcckkaaDoorFldOps
section
/-
  A bit of a key is turned.
-/
namespace Go.Proofs.YtadnmiedmcckkaaDoor
open Go.ChangeShapes Go.WideShapes Go.ChangeAt Go.RowKit Go.Deep

theorem UInt8.xor_ne {x : Nat} {k : Nat} (hk : k < 8) (hx : x < 256) : x ^^^ 2 ^ k ≠ x := by
  intro h
  have : x ^^^ (x ^^^ 2 ^ k) = x ^^^ x := by rw [h]
  rw [← Nat.xor_assoc, Nat.xor_self, Nat.zero_xor] at this
  have := Nat.pos_of_ne_zero (n := 2 ^ k) (by have := Nat.two_pow_pos k; omega)
  omega

/-- A bit of a byte is turned. -/
def flip (xs : List UInt8) (j k : Nat) : List UInt8 := xs.set j (UInt8.ofNat (bt xs j ^^^ 2 ^ k))
theorem flip_len (xs : List UInt8) (j k : Nat) : (flip xs j k).length = xs.length := by simp [flip]
theorem flip_lt {xs : List UInt8} {j k : Nat} (hk : k < 8) : bt xs j ^^^ 2 ^ k < 256 := Nat.xor_lt_two_pow (n := 8) (bt_lt _ _) (Nat.pow_lt_pow_right (by omega) hk)
theorem bt_set {xs : List UInt8} {j i x : Nat} (hj : j < xs.length) (hx : x < 256) : bt (xs.set j (UInt8.ofNat x)) i = if i = j then x else bt xs i := by
  unfold bt
  by_cases h : i = j
  · subst h
    simp [List.getD, hj]
    omega
  · simp [List.getD, h, List.getElem?_set_ne (Ne.symm h)]
theorem flip_ne {xs : List UInt8} {j k : Nat} (hj : j < xs.length) (hk : k < 8) : ¬ xs = flip xs j k := fun h => by
  have h1 : bt xs j = bt (flip xs j k) j := by rw [← h]
  unfold flip at h1
  rw [bt_set hj (flip_lt hk), if_pos rfl] at h1
  exact UInt8.xor_ne hk (bt_lt _ _) h1.symm
theorem Ky.flip {w : World} {g j k : Nat} {xs : List UInt8} (h : Ky w g xs) (hj : j < 32) (hk : k < 8) : Ky (w.setCell ⟨g, j, none⟩ (.int .u8 ((bt xs j ^^^ 2 ^ k : Nat) : Int))) g (flip xs j k) := by
  refine ⟨?_, by rw [flip_len]; exact h.2⟩
  rw [setCell_eq_setRow w g j _ _ (0, 0) _ h.1, setRow_heap w g _ _ _ _ h.1]
  congr 2
  have hl := h.2
  apply Array.ext'
  rw [Array.toList_setIfInBounds]
  apply List.ext_getElem?
  intro i
  simp only [List.getElem?_set, cellsOf_len]
  by_cases hi : i < 32
  · rw [cellsOf_get (xs := Go.Proofs.YtadnmiedmcckkaaDoor.flip xs j k) (by rw [flip_len]; omega)]
    unfold Go.Proofs.YtadnmiedmcckkaaDoor.flip
    rw [bt_set (by omega) (flip_lt hk)]
    by_cases e : j = i
    · subst e; simp [show j < xs.length by omega]
    · rw [if_neg e, if_neg (Ne.symm e)]
      have := cellsOf_get (xs := xs) (j := i) (by omega)
      simpa using this
  · have h1 : (cellsOf xs)[i]? = none := List.getElem?_eq_none (by rw [cellsOf_len]; omega)
    have h2 : (cellsOf (Go.Proofs.YtadnmiedmcckkaaDoor.flip xs j k))[i]? = none := List.getElem?_eq_none (by rw [cellsOf_len, flip_len]; omega)
    rw [if_neg (by omega)]
    simp only [h2]
    simpa using h1
theorem flip_int {xs : List UInt8} {j k : Nat} (hk : k < 8) : bits .xor .u8 (bt xs j : Int) (IntKind.u8.wrap (2 ^ k)) = ((bt xs j ^^^ 2 ^ k : Nat) : Int) := by
  have h1 : 2 ^ k < 256 := Nat.pow_lt_pow_right (a := 2) (by omega) hk
  have h2 : IntKind.u8.wrap (2 ^ k) = ((2 ^ k : Nat) : Int) := by
    rw [IntKind.wrap_u8, show ((2 : Int) ^ k) = ((2 ^ k : Nat) : Int) by simp]
    generalize 2 ^ k = x at *
    omega
  rw [h2, u8_xor_nat _ _ (bt_lt _ _) h1]
end Go.Proofs.YtadnmiedmcckkaaDoor
end

section
/-
  (field.Elem).Key.
-/
namespace Go.Proofs.YtadnmiedmcckkaaDoor
open Go.ChangeShapes Go.WideShapes Go.ChangeAt Go.RowKit Go.Deep
set_option maxRecDepth 100000

/-- A number's bytes. -/
def kL (x : Nat) : List UInt8 := bytesL (lbs 8 x)
theorem kL_len (x : Nat) : (kL x).length = 32 := by unfold kL; rw [bytesL_len, lbs_len]
theorem bt_kL {x k : Nat} (h : k < 32) : bt (kL x) k = lb x (k / 4) / 256 ^ (k % 4) % 256 := by
  unfold kL
  rw [bt_bytesL (by rw [lbs_len]; omega), wd_lbs (by omega)]
theorem Ky.setB6 {w : World} {g j x : Nat} {xs : List UInt8} (h : Ky w g xs) (hj : j < 32) (hx : x < 256) : Ky (w.setCell ⟨g, j, none⟩ (.int .u8 (x : Int))) g (xs.set j (UInt8.ofNat x)) := by
  refine ⟨?_, by rw [List.length_set]; exact h.2⟩
  rw [setCell_eq_setRow w g j _ _ (0, 0) _ h.1, setRow_heap w g _ _ _ _ h.1]
  congr 2
  have hl := h.2
  apply Array.ext'
  rw [Array.toList_setIfInBounds]
  apply List.ext_getElem?
  intro i
  simp only [List.getElem?_set, cellsOf_len]
  by_cases hi : i < 32
  · rw [cellsOf_get (xs := xs.set j (UInt8.ofNat x)) (by rw [List.length_set]; omega), bt_set (by omega) hx]
    by_cases e : j = i
    · subst e; simp [show j < xs.length by omega]
    · rw [if_neg e, if_neg (Ne.symm e)]
      have := cellsOf_get (xs := xs) (j := i) (by omega)
      simpa using this
  · have h1 : (cellsOf xs)[i]? = none := List.getElem?_eq_none (by rw [cellsOf_len]; omega)
    have h2 : (cellsOf (xs.set j (UInt8.ofNat x)))[i]? = none := List.getElem?_eq_none (by rw [cellsOf_len, List.length_set]; omega)
    rw [if_neg (by omega)]
    simp only [h2]
    simpa using h1

set_option maxHeartbeats 2000000 in
theorem ekey_calls {x : Nat} {w : World} :
    Calls Tryd.prog 37 #[eV x] w fun e w' => e = .returned (.agg (cellsOf (kL x)).toArray) ∧ Ext w w' := by
  have XW : Hid (∀ j, j < 8 → wd (lbs 8 x) j = lb x j) := fun j hj => wd_lbs hj
  have XL := lbs_len 8 x
  have RB : Hid (∀ k, k < 32 → bt (kL x) k = lb x (k / 4) / 256 ^ (k % 4) % 256) := fun k hk => bt_kL hk
  have RL := kL_len x
  have LB : Hid (∀ i, lb x i < 4294967296) := lb_lt x
  unfold eV
  generalize kL x = rr at *
  generalize lbs 8 x = xs at *
  have hal := key_alloc
  have hz := zeros32_cells
  have zl : (List.replicate 32 (0 : UInt8)).length = 32 := rfl
  rw [← hz] at hal
  clear hz
  generalize List.replicate 32 (0 : UInt8) = zs at *
  have ZS : (cellsOf zs).toArray.size = 32 := by simp [cellsOf_len, zl]
  have B0 : Hid (Wr (((w.alloc (Obj.cells (wcells xs).toArray 57)).alloc (Obj.cells (cellsOf zs).toArray 23)).alloc (Obj.cells (cellsOf zs).toArray 23)) w.heap.size 57 xs ∧ Ky (((w.alloc (Obj.cells (wcells xs).toArray 57)).alloc (Obj.cells (cellsOf zs).toArray 23)).alloc (Obj.cells (cellsOf zs).toArray 23)) (w.heap.size + 1) zs ∧ Ky (((w.alloc (Obj.cells (wcells xs).toArray 57)).alloc (Obj.cells (cellsOf zs).toArray 23)).alloc (Obj.cells (cellsOf zs).toArray 23)) (w.heap.size + 1 + 1) zs ∧ Ext w (((w.alloc (Obj.cells (wcells xs).toArray 57)).alloc (Obj.cells (cellsOf zs).toArray 23)).alloc (Obj.cells (cellsOf zs).toArray 23))) := ⟨heap_alloc30 _ _ _ _, ⟨heap_alloc31 _ _ _ _, zl⟩, ⟨heap_alloc32 _ _ _ _, zl⟩, (((Ext.refl w).alloc _).alloc _).alloc _⟩
  go_enter Tryd.func37, Tryd.ntmps37
  go_upto_region 2 with fail
  refine wp_gen (fun W => Wr W w.heap.size 57 xs ∧ Ky W (w.heap.size + 1) zs ∧ Ky W (w.heap.size + 1 + 1) zs ∧ Ext w W) B0.out ?_
  clear B0
  rintro W0 ⟨wa, k1, k2, e0⟩
  replace wa := Lib.hid wa
  replace k1 := Lib.hid k1
  replace k2 := Lib.hid k2
  replace e0 := Lib.hid e0
  go_wp2_with fail
  go_loopw [5] (fun v wr => ∃ (k : Nat) (ys : List UInt8), k ≤ 32 ∧ v = .int .i64 (k : Int) ∧ ys.length = 32 ∧ (∀ j, j < k → bt ys j = bt rr j) ∧ Below (w.heap.size + 1 + 1) W0 wr ∧ Ky wr (w.heap.size + 1 + 1) ys) (fun v _ => 32 - (intOf v).toNat)
  case atStart => exact ⟨0, zs, Nat.zero_le _, rfl, zl, fun j hj => absurd hj (by omega), Below.refl _ _, k2.out⟩
  case round =>
    obtain ⟨k, ys, hk, rfl, yl, hv, hB, ky⟩ := hrel
    clear k2
    by_cases hlt : k < 32
    · obtain ⟨a, ha⟩ : ∃ a, a = k / 4 := ⟨_, rfl⟩
      obtain ⟨b, hb⟩ : ∃ b, b = k % 4 := ⟨_, rfl⟩
      obtain ⟨sh, hs⟩ : ∃ sh, sh = 8 * b := ⟨_, rfl⟩
      have ia : (k : Int) / 4 = (a : Int) := by omega
      have ib : (k : Int) % 4 = (b : Int) := by omega
      have ia' : Int.tdiv (k : Int) 4 = (a : Int) := by rw [Int.tdiv_eq_ediv_of_nonneg (by omega)]; omega
      have ib' : Int.tmod (k : Int) 4 = (b : Int) := by rw [Int.tmod_eq_emod_of_nonneg (by omega)]; omega
      have is : (8 : Int) * (b : Int) = (sh : Int) := by omega
      have a8 : a < 8 := by omega
      have a8' : (a : Int) < 8 := by omega
      have b4 : (b : Int) < 4 := by omega
      have s32 : (sh : Int) ≤ 32 := by omega
      have cv := (wa.out.kept hB (by omega)).cell (i := a) (by omega)
      rw [XW.out a a8] at cv
      have yb : bt rr k = lb x a / 2 ^ sh % 256 := by
        rw [RB.out k hlt, ← ha, ← hb, hs, show (256 : Nat) = 2 ^ 8 from rfl, ← Nat.pow_mul]
      have hl := LB.out a
      generalize lb x a = u at *
      obtain ⟨y, hy⟩ : ∃ y, y = u / 2 ^ sh := ⟨_, rfl⟩
      have q1 : Op.shift .shr .u32 (u : Int) .i64 (sh : Int) = pure (.int .u32 (y : Int)) := by
        have := shift_shr .u32 .i64 (u : Int) (sh : Int) (by omega) (by show (sh : Int) ≤ 32; exact s32)
        rw [this, hy]
        simp
      have y8 : IntKind.u8.wrap (y : Int) = ((y % 256 : Nat) : Int) := by rw [IntKind.wrap_u8]; omega
      have y8' : (y : Int) % 256 = ((y % 256 : Nat) : Int) := by omega
      rw [← hy] at yb
      have hlt8 : y % 256 < 256 := Nat.mod_lt _ (by decide)
      generalize y % 256 = z at *
      have g1 := ky.cell hlt
      have g2 := ky.frozen k
      have ik : (k : Int) < 32 := by omega
      replace yb := Lib.hid yb
      replace hy := Lib.hid hy
      replace ha := Lib.hid ha
      replace hb := Lib.hid hb
      replace hs := Lib.hid hs
      replace hv := Lib.hid hv
      replace hB := Lib.hid hB
      replace ky := Lib.hid ky
      clear hlt8
      go_wp2_with fail
      have hz : (u : Int) / 2 ^ sh % 256 = (z : Int) := by
        rw [← y8', hy.out, Int.natCast_ediv, Int.natCast_pow]; rfl
      rw [hz]
      have z256 : z < 256 := by rw [← yb.out]; exact bt_lt _ _
      refine ⟨⟨k + 1, ys.set k (UInt8.ofNat z), by omega, by go_num, by rw [List.length_set]; exact yl, fun j hj => ?_, Below.setCell hB.out (Nat.le_refl _) _, ky.out.setB6 hlt z256⟩, by simp [intOf]; omega⟩
      rw [bt_set (by omega) z256]
      by_cases e : j = k
      · rw [if_pos e, e]; exact yb.out.symm
      · rw [if_neg e]; exact hv.out j (by omega)
    · obtain rfl : k = 32 := by omega
      have hy : ys = rr := list_bt (by rw [yl, RL]) fun j hj => hv j (by omega)
      subst hy
      have KK : Hid (Ky wr (w.heap.size + 1) zs) := ⟨(hB.block _ (by omega)).trans k1.out.1, zl⟩
      have EE : Hid (Ext w wr) := Below.trans e0.out (hB.mono (by omega))
      have RS : (cellsOf ys).toArray.size = 32 := by simp [cellsOf_len, yl]
      have R1 := cellsOf_one ys
      replace ky := Lib.hid ky
      clear hv hB RB k1 wa e0
      go_wp2_with (first
        | (refine wpList_load_row rfl 23 _ rfl (w.heap.size + 1 + 1) rfl 23 (cellsOf ys).toArray (0, 0) _ ky.out.1 rfl rfl (by rw [RS]; rfl) ?_; simp only [Act.put, List.setIfInBounds_toArray, List.set_cons_zero, List.set_cons_succ])
        | refine wpList_store_row rfl 23 _ _ rfl (w.heap.size + 1) (cellsOf ys).toArray rfl rfl 23 _ KK.out.1 (by rw [RS]; rfl) (by rw [RS, ZS]) R1 ?_)
      (try simp only [Exit.inBlock, Exit.then])
      refine bodyPost_ret (results_cell_row rfl _ _ (w.heap.size + 1) 23 (cellsOf ys).toArray (0, 0) _ rfl (setRow_heap _ _ _ _ _ _ KK.out.1) rfl rfl (by rw [RS]; rfl)) rfl ?_
      exact ⟨rfl, below_setRow EE.out (by omega) _⟩
end Go.Proofs.YtadnmiedmcckkaaDoor
end
