import Derived.Test.YtadnmiedmcckkaaDoorFldOf
import Derived.Test.YtadnmiedmcckkaaDoorPkG
import Derived.Test.YtadnmiedmcckkaaDoorCommon
import Derived.Test.YtadnmiedmcckkaaDoorComp
import Derived.Test.YtadnmiedmcckkaaDoorMx
section
/-
  A number's bytes are those of the number. No conditions.
-/
namespace Go.Proofs.YtadnmiedmcckkaaDoor

theorem bt_kL_div {x k : Nat} (h : k < 32) : bt (kL x) k = x / 256 ^ k % 256 := by
  rw [bt_kL h]
  have e : 256 ^ k = 4294967296 ^ (k / 4) * 256 ^ (k % 4) := by
    rw [← pow_four]
    congr 1
    omega
  rw [e, ← Nat.div_div_eq_div_mul]
  unfold lb
  generalize x / 4294967296 ^ (k / 4) = X
  have : k % 4 = 0 ∨ k % 4 = 1 ∨ k % 4 = 2 ∨ k % 4 = 3 := by omega
  rcases this with h | h | h | h <;> rw [h] <;> simp only [Nat.pow_zero, Nat.pow_succ, Nat.one_mul, Nat.div_one] <;> omega
theorem ofN_kL (x : Nat) : ∀ i, i ≤ 32 → ofN (kL x) i = x % 256 ^ i
  | 0, _ => by rw [ofN, Nat.pow_zero, Nat.mod_one]
  | i + 1, h => by
    rw [ofN, ofN_kL x i (by omega), bt_kL_div (by omega), Nat.pow_succ, Nat.mod_mul, Nat.mul_comm (256 ^ i)]
theorem ofV_kL {x : Nat} (h : x < P25) : ofV (kL x) = x := by
  have hH : x < H8 := Nat.lt_trans h (by decide +kernel)
  have hM : x < 256 ^ 32 := Nat.lt_trans hH (by decide +kernel)
  unfold ofV
  rw [ofN_kL x 32 (Nat.le_refl _), Nat.mod_eq_of_lt hM, Nat.mod_eq_of_lt hH, Nat.mod_eq_of_lt h]
end Go.Proofs.YtadnmiedmcckkaaDoor
end

section
/-
  Bits of a secret, and the highest of a public key, that do not count. Plain mathematics; no conditions.
-/
namespace Go.Proofs.YtadnmiedmcckkaaDoor
open Go.ChangeShapes Go.WideShapes Go.ChangeAt Go.RowKit Go.Deep
set_option maxRecDepth 100000

theorem nat_u8 {a : Int} (h : (Lit.int .u8 a).wf = true) : ∃ z : Nat, a = (z : Int) ∧ z < 256 := by
  have hb : 0 ≤ a ∧ a ≤ 255 := by simpa [Lit.wf, IntKind.min, IntKind.max, IntKind.signed, IntKind.bits] using h
  exact ⟨a.toNat, by omega, by omega⟩
theorem ladN_congr {x : Nat} {f g : Nat → Bool} : ∀ m, (∀ j, j < m → f j = g j) → ladN x f m = ladN x g m
  | 0, _ => rfl
  | m + 1, h => by
    show swapN (f m) (stepN x (swapN (f m) (ladN x f m))) = swapN (g m) (stepN x (swapN (g m) (ladN x g m)))
    rw [h m (Nat.lt_succ_self m), ladN_congr m fun j hj => h j (by omega)]
theorem multN_congr {ks ls : List UInt8} (x : Nat) (h : ∀ i, i ≤ 254 → bitB ks i = bitB ls i) : multN ks x = multN ls x := by
  unfold multN
  rw [ladN_congr 255 fun j hj => h (254 - j) (by omega)]
theorem btS {xs : List UInt8} {i j x : Nat} (hi : i < xs.length) (hx : x < 256) : bt (xs.set i (UInt8.ofNat x)) j = if j = i then x else bt xs j := by
  unfold bt
  by_cases e : j = i
  · subst e; simp [List.getD, hi]; omega
  · rw [if_neg e]; simp [List.getD, List.getElem?_set, show ¬ i = j from fun q => e q.symm]
theorem mixLow (x n : Nat) {i : Nat} (h3 : 3 ≤ i) (h8 : i < 8) : ((x &&& 248) ||| (n &&& 7)) / 2 ^ i % 2 = x / 2 ^ i % 2 := by
  have e : ∀ y, y / 2 ^ i % 2 = (y.testBit i).toNat := fun y => by rw [Nat.testBit_eq_decide_div_mod_eq]; rcases Nat.mod_two_eq_zero_or_one (y / 2 ^ i) with q | q <;> simp [q]
  rw [e, e, Nat.testBit_or, Nat.testBit_and, Nat.testBit_and]
  have : i = 3 ∨ i = 4 ∨ i = 5 ∨ i = 6 ∨ i = 7 := by omega
  rcases this with rfl | rfl | rfl | rfl | rfl <;> simp [show Nat.testBit 248 3 = true from rfl, show Nat.testBit 248 4 = true from rfl, show Nat.testBit 248 5 = true from rfl, show Nat.testBit 248 6 = true from rfl, show Nat.testBit 248 7 = true from rfl, show Nat.testBit 7 3 = false from rfl, show Nat.testBit 7 4 = false from rfl, show Nat.testBit 7 5 = false from rfl, show Nat.testBit 7 6 = false from rfl, show Nat.testBit 7 7 = false from rfl]
theorem mixHigh (x n : Nat) {i : Nat} (h6 : i < 6) : ((x &&& 63) ||| (n &&& 192)) / 2 ^ i % 2 = x / 2 ^ i % 2 := by
  have e : ∀ y, y / 2 ^ i % 2 = (y.testBit i).toNat := fun y => by rw [Nat.testBit_eq_decide_div_mod_eq]; rcases Nat.mod_two_eq_zero_or_one (y / 2 ^ i) with q | q <;> simp [q]
  rw [e, e, Nat.testBit_or, Nat.testBit_and, Nat.testBit_and]
  have : i = 0 ∨ i = 1 ∨ i = 2 ∨ i = 3 ∨ i = 4 ∨ i = 5 := by omega
  rcases this with rfl | rfl | rfl | rfl | rfl | rfl <;> simp [show Nat.testBit 63 0 = true from rfl, show Nat.testBit 63 1 = true from rfl, show Nat.testBit 63 2 = true from rfl, show Nat.testBit 63 3 = true from rfl, show Nat.testBit 63 4 = true from rfl, show Nat.testBit 63 5 = true from rfl, show Nat.testBit 192 0 = false from rfl, show Nat.testBit 192 1 = false from rfl, show Nat.testBit 192 2 = false from rfl, show Nat.testBit 192 3 = false from rfl, show Nat.testBit 192 4 = false from rfl, show Nat.testBit 192 5 = false from rfl]
def lowB (x n : Nat) : Nat := (x &&& 248) ||| (n &&& 7)
def highB (x n : Nat) : Nat := (x &&& 63) ||| (n &&& 192)
theorem lowB_lt {x n : Nat} (hx : x < 256) (hn : n < 256) : lowB x n < 256 := Nat.or_lt_two_pow (n := 8) (Nat.lt_of_le_of_lt Nat.and_le_left hx) (Nat.lt_of_le_of_lt Nat.and_le_left hn)
theorem highB_lt {x n : Nat} (hx : x < 256) (hn : n < 256) : highB x n < 256 := Nat.or_lt_two_pow (n := 8) (Nat.lt_of_le_of_lt Nat.and_le_left hx) (Nat.lt_of_le_of_lt Nat.and_le_left hn)
def mixS (ks : List UInt8) (n : Nat) : List UInt8 := (ks.set 0 (UInt8.ofNat (lowB (bt ks 0) n))).set 31 (UInt8.ofNat (highB (bt ks 31) n))
theorem mixS_len {ks : List UInt8} (h : ks.length = 32) (n : Nat) : (mixS ks n).length = 32 := by simp [mixS, h]
theorem mult_mixS {ks : List UInt8} (h : ks.length = 32) {n : Nat} (hn : n < 256) (x : Nat) : multN (mixS ks n) x = multN ks x := by
  refine multN_congr x fun i hi => ?_
  unfold bitB
  by_cases a : i < 3 ∨ i = 255
  · rw [if_pos a, if_pos a]
  · rw [if_neg a, if_neg a]
    by_cases b : i = 254
    · rw [if_pos b, if_pos b]
    · rw [if_neg b, if_neg b]
      congr 2
      have hm := Nat.mod_lt i (show 0 < 8 by decide)
      have hd := Nat.div_add_mod i 8
      unfold mixS
      rw [btS (by simp [h]) (highB_lt (bt_lt ks 31) hn), btS (by simp [h]) (lowB_lt (bt_lt ks 0) hn)]
      by_cases c : i / 8 = 31
      · rw [if_pos c, c, highB, mixHigh _ _ (by omega)]
      · rw [if_neg c]
        by_cases d : i / 8 = 0
        · rw [if_pos d, d, lowB, mixLow _ _ (by omega) hm]
        · rw [if_neg d]
theorem ofV_top {ks ls : List UInt8} (h : ∀ j, j < 31 → bt ks j = bt ls j) (h31 : bt ks 31 % 128 = bt ls 31 % 128) : ofV ks = ofV ls := by
  have e : ∀ i, i ≤ 31 → ofN ks i = ofN ls i := by
    intro i
    induction i with
    | zero => intro _; rfl
    | succ i ih => intro hi; rw [ofN, ofN, ih (by omega), h i (by omega)]
  have key : ∀ xs : List UInt8, ofN xs 32 % H8 = (ofN xs 31 + bt xs 31 % 128 * 256 ^ 31) % H8 := fun xs => by
    have h8 : H8 = 128 * 256 ^ 31 := by decide +kernel
    rw [show ofN xs 32 = ofN xs 31 + bt xs 31 * 256 ^ 31 from rfl, h8]
    have hd := Nat.div_add_mod (bt xs 31) 128
    generalize bt xs 31 % 128 = r at *
    generalize bt xs 31 / 128 = q at *
    rw [← hd]
    generalize (256 : Nat) ^ 31 = M
    rw [Nat.add_mul, show 128 * q * M = 128 * M * q by rw [Nat.mul_assoc, Nat.mul_comm q, Nat.mul_assoc], show ofN xs 31 + (128 * M * q + r * M) = (ofN xs 31 + r * M) + 128 * M * q by omega, Nat.add_mul_mod_self_left]
  show ofN ks 32 % H8 % P25 = ofN ls 32 % H8 % P25
  rw [key, key, e 31 (Nat.le_refl _), h31]
def flipT (ks : List UInt8) : List UInt8 := ks.set 31 (UInt8.ofNat (bt ks 31 ^^^ 128))
theorem xor128 : ∀ x, x < 256 → x ^^^ 128 < 256 ∧ (x ^^^ 128) % 128 = x % 128 := by decide +kernel
theorem flipT_len {ks : List UInt8} (h : ks.length = 32) : (flipT ks).length = 32 := by simp [flipT, h]
theorem ofV_flipT {ks : List UInt8} (h : ks.length = 32) : ofV (flipT ks) = ofV ks := by
  obtain ⟨x1, x2⟩ := xor128 _ (bt_lt ks 31)
  refine ofV_top (fun j hj => ?_) ?_
  · unfold flipT; rw [btS (by omega) x1, if_neg (by omega)]
  · unfold flipT; rw [btS (by omega) x1, if_pos rfl]; exact x2
theorem kL_top {x : Nat} (h : x < P25) : bt (kL x) 31 < 128 := by
  rw [bt_kL_div (by decide)]
  have h2 : x < 128 * 256 ^ 31 := Nat.lt_of_lt_of_le h (by decide +kernel)
  have : x / 256 ^ 31 < 128 := (Nat.div_lt_iff_lt_mul (Nat.pow_pos (by decide))).mpr h2
  omega
theorem kL_nil : kL 0 = List.replicate 32 0 := by decide +kernel
theorem ofV_nil : ofV (List.replicate 32 0) = 0 := by decide +kernel
end Go.Proofs.YtadnmiedmcckkaaDoor
end

section
/-
  The law's awake (layer 8): a source tells a key.
-/
namespace Go.Proofs.YtadnmiedmcckkaaDoor
open Go.ChangeShapes Go.WideShapes Go.ChangeAt Go.RowKit Go.Deep
set_option maxRecDepth 100000

theorem aw8_key : decide (srcK [120] 0 = List.replicate 32 0) = false := by decide +kernel
theorem aw8_com : comL (List.replicate 32 0) (List.replicate 32 0) = List.replicate 32 0 := by unfold comL; rw [ofV_nil, mult_zero, kL_nil]
theorem rep64 : (List.replicate 64 (0 : UInt8)) = List.replicate 32 0 ++ List.replicate 32 0 := by rw [List.replicate_append_replicate]
set_option maxHeartbeats 4000000 in
theorem awake8_calls {w : World} {tg tp : TypeId × Nat × Nat} (hG : Gl w tg) (hP : Gp w tp) :
    Calls Tryd.prog 20 #[] w fun e w' => e = .returned (.bool true) ∧ Ext w w' := by
  have hcv := conv_const
  have bs : Hid (Bs (w.alloc (.cells #[.int .u8 120] 5 (1, 2))) (some ⟨w.heap.size, 0, none⟩) 1 1 [120] ∧ Ext w (w.alloc (.cells #[.int .u8 120] 5 (1, 2)))) := ⟨Bs.of_list rfl (heap_alloc_new _ _) ⟨rfl, by omega⟩, (Ext.refl w).alloc _⟩
  have NEW := Lib.hid (new_calls bs.out.1 (by omega) (hG.ext bs.out.2))
  have glt := hG.lt
  have plt := hP.lt
  have KEY_ : Hid (∀ (W : World) lo g, Ext w W → SrcSt W lo g [120] 0 → Calls Tryd.prog 28 #[.pointer (some ⟨g, 0, none⟩)] W fun e w' => e = .returned (.agg (cellsOf (srcK [120] 0)).toArray) ∧ W.grownBy w' (some g) ∧ SrcSt w' lo g [120] (0 + 1)) := fun W lo g e h => skey_calls h (by omega) (hG.ext e)
  have COM : Hid (∀ W, Ext w W → Calls Tryd.prog 21 #[.agg (cellsOf (List.replicate 64 0)).toArray, .agg (cellsOf (List.replicate 32 0)).toArray] W fun e w' => e = .returned (.tuple #[.agg (cellsOf (List.replicate 32 0)).toArray, .int .i64 12]) ∧ Ext W w') := fun W e => by
    rw [rep64]
    have := common_calls (w := W) (s := List.replicate 32 0) (q := List.replicate 32 0) (p := List.replicate 32 0) rfl rfl rfl (hP.ext e)
    rw [aw8_com, show comE (List.replicate 32 0) = 12 from if_pos rfl] at this
    exact this
  have hne : Hid ((!decide (srcK [120] 0 = List.replicate 32 0)) = true) := by unfold Hid; rw [aw8_key]; rfl
  clear hG hP
  have L_dk := srcK_len [120] 0
  generalize srcK [120] 0 = dk at *
  have S_dk : (cellsOf dk).toArray.size = 32 := by simp [cellsOf_len, L_dk]
  have O_dk := cellsOf_one dk
  have hal : ∀ w, (zeroValue 23).run Tryd.prog w = .ok (.agg (cellsOf (List.replicate 32 0)).toArray) w := fun w => by rw [zeros32_cells]; exact key_alloc w
  have hbz := Lib.hid zero_built
  have hbp := Lib.hid apair_zero
  have L_zk : (List.replicate 32 (0 : UInt8)).length = 32 := rfl
  generalize List.replicate 32 (0 : UInt8) = zk at *
  generalize List.replicate 64 (0 : UInt8) = zp at *
  have S_zk : (cellsOf zk).toArray.size = 32 := by simp [cellsOf_len, L_zk]
  have O_zk := cellsOf_one zk
  go_enter Tryd.func20, Tryd.ntmps20
  go_wp2_with fail
  refine NEW.out.mono ?_
  rintro e w1 ⟨g, rfl, s1, e1⟩
  obtain ⟨lo, hlo⟩ : ∃ lo, lo = (w.alloc (.cells #[.int .u8 120] 5 (1, 2))).heap.size := ⟨_, rfl⟩
  rw [← hlo] at s1
  have wlo : w.heap.size ≤ lo := by rw [hlo]; exact (Ext.size bs.out.2)
  clear hlo
  have x1 := bs.out.2.trans e1
  have s1' := Lib.hid s1
  have KC := Lib.hid (KEY_.out _ _ _ x1 s1)
  have wlt : w.heap.size ≤ g := Nat.le_trans wlo s1.1.2
  replace x1 := Lib.hid x1
  clear NEW KEY_ bs s1 e1
  go_wp2_with fail
  refine KC.out.mono ?_
  rintro e w2 ⟨rfl, g2, s2⟩
  have x2 : Ext w w2 := ext_grown x1.out g2 (by omega)
  have a1 : Hid ((w2.alloc (Obj.cells (cellsOf zk).toArray 23)).heap[w2.heap.size]? = some (.cells (cellsOf zk).toArray 23 (0, 0))) := heap_alloc_new _ _
  have E_ : Ext w2 ((w2.alloc (Obj.cells (cellsOf zk).toArray 23)).setRow w2.heap.size (cellsOf dk).toArray) := below_setRow ((Ext.refl w2).alloc _) (Nat.le_refl _) _
  replace x2 := Lib.hid x2
  replace s2 := Lib.hid s2
  clear x1 s1' KC g2
  go_upto_region 5 with (refine wpList_store_row rfl 23 _ _ rfl w2.heap.size (cellsOf dk).toArray rfl rfl 23 _ a1.out (by rw [S_dk]; rfl) (by rw [S_dk, S_zk]) O_dk ?_; simp only [Act.put])
  obtain ⟨g2, hg_⟩ : ∃ g, g = w2.heap.size := ⟨_, rfl⟩
  refine wp_gen (fun W => Ky W g2 dk ∧ SrcSt W lo g [120] 1 ∧ Ext w W) ⟨⟨by rw [hg_]; exact setRow_heap _ _ _ _ _ _ a1.out, L_dk⟩, s2.out.ext E_, x2.out.trans E_⟩ ?_
  rw [← hg_]
  clear hg_ a1 E_ x2 s2
  rintro w3 ⟨k3, s3, x3⟩
  replace k3 := Lib.hid k3
  replace s3 := Lib.hid s3
  replace x3 := Lib.hid x3
  go_wp2_with (first
    | (refine wpList_build_as rfl _ _ rfl (cellsOf zp).toArray (by simp only [List.map_toArray, List.map_nil]; exact hbp.out) ?_; simp only [Act.put, List.setIfInBounds_toArray, List.set_cons_zero, List.set_cons_succ])
    | (refine wpList_build_as rfl _ _ rfl (cellsOf zk).toArray (by simp only [List.map_toArray, List.map_nil]; exact hbz.out) ?_; simp only [Act.put, List.setIfInBounds_toArray, List.set_cons_zero, List.set_cons_succ]))
  refine (COM.out _ x3.out).mono ?_
  rintro e w4 ⟨rfl, e4⟩
  have a4 : Hid ((w4.alloc (Obj.cells (cellsOf zk).toArray 23)).heap[w4.heap.size]? = some (.cells (cellsOf zk).toArray 23 (0, 0))) := heap_alloc_new _ _
  have E4 : Ext w3 ((w4.alloc (Obj.cells (cellsOf zk).toArray 23)).setRow w4.heap.size (cellsOf zk).toArray) := e4.trans (below_setRow ((Ext.refl w4).alloc _) (Nat.le_refl _) _)
  clear COM e4
  go_upto_region 6 with (refine wpList_store_row rfl 23 _ _ rfl w4.heap.size (cellsOf zk).toArray rfl rfl 23 _ a4.out (by rw [S_zk]; rfl) rfl O_zk ?_; simp only [Act.put])
  obtain ⟨g4, hg_⟩ : ∃ g, g = w4.heap.size := ⟨_, rfl⟩
  refine wp_gen (fun W => Ky W g2 dk ∧ SrcSt W lo g [120] 1 ∧ Ext w W) ⟨k3.out.ext E4, s3.out.ext E4, x3.out.trans E4⟩ ?_
  rw [← hg_]
  clear hg_ a4 E4 k3 s3 x3
  rintro w5 ⟨k5, s5, x5⟩
  have MA := Lib.hid (many_calls s5)
  replace k5 := Lib.hid k5
  replace x5 := Lib.hid x5
  clear s5
  go_wp2_with (first
    | (refine wpList_load_row rfl 23 _ rfl g2 rfl 23 (cellsOf dk).toArray (0, 0) _ k5.out.1 rfl rfl (by rw [S_dk]; rfl) ?_; simp only [Act.put, List.setIfInBounds_toArray, List.set_cons_zero, List.set_cons_succ])
    | (refine wpList_build_as rfl _ _ rfl (cellsOf zk).toArray (by simp only [List.map_toArray, List.map_nil]; exact hbz.out) ?_; simp only [Act.put, List.setIfInBounds_toArray, List.set_cons_zero, List.set_cons_succ])
    | (refine wpList_neq_keyB rfl _ _ _ rfl dk zk true hne.out rfl rfl L_dk L_zk ?_; simp only [Act.put, List.setIfInBounds_toArray, List.set_cons_zero, List.set_cons_succ]))
  refine MA.out.mono ?_
  rintro e w6 ⟨rfl, e6⟩
  go_wp2_with fail
  go_ret
  exact ⟨rfl, x5.out.trans e6⟩
end Go.Proofs.YtadnmiedmcckkaaDoor
end

section
/-
  The document's rows of the order (layer 2).
-/
namespace Go.Proofs.YtadnmiedmcckkaaDoor
open Go.ChangeShapes Go.WideShapes Go.ChangeAt Go.RowKit Go.Deep

def allocs (w : World) (l : List Obj) : World := l.foldl World.alloc w
theorem allocs_ext : ∀ (l : List Obj) (w : World), Ext w (allocs w l)
  | [], w => Ext.refl w
  | o :: l, w => ((Ext.refl w).alloc o).trans (allocs_ext l (w.alloc o))
theorem allocs_at : ∀ (l : List Obj) (w : World) (j : Nat) (o : Obj), l[j]? = some o → (allocs w l).heap[w.heap.size + j]? = some o
  | [], w, j, o, h => by simp at h
  | p :: l, w, 0, o, h => by
    simp at h
    subst h
    exact ((allocs_ext l (w.alloc p)).block w.heap.size (by rw [size_alloc]; omega)).trans (heap_alloc_new w p)
  | p :: l, w, j + 1, o, h => by
    have := allocs_at l (w.alloc p) j o (by simpa using h)
    rw [size_alloc] at this
    rw [show w.heap.size + (j + 1) = w.heap.size + 1 + j by omega]
    exact this
def rowI (k : Nat) : Array Value := ((List.range 16).map fun j => Value.int .i64 (pm k j : Int)).toArray
def rowsI (s : Nat) : Array Value := ((List.range 10).map fun k => Value.slice (some ⟨s + k, 0, none⟩) 16 16).toArray
/-- The order's rows, in blocks from s on, and the block that lists them. -/
def Rws (w : World) (s : Nat) : Prop := s + 10 < w.heap.size ∧ ∀ k, k < 10 → w.cell? ⟨s + 10, k, none⟩ = some (.slice (some ⟨s + k, 0, none⟩) 16 16) ∧ ∀ j, j < 16 → w.cell? ⟨s + k, j, none⟩ = some (.int .i64 (pm k j : Int))
def rowsO (s : Nat) : List Obj := ((List.range 10).map fun k => Obj.cells (rowI k) 3) ++ [Obj.cells (rowsI s) 43]
theorem rows_of (w : World) : Rws (allocs w (rowsO w.heap.size)) w.heap.size := by
  have hl : ∀ k, k < 10 → (rowsO w.heap.size)[k]? = some (Obj.cells (rowI k) 3) := fun k hk => by
    unfold rowsO
    rw [List.getElem?_append_left (by simp; omega)]
    simp [hk]
  have h10 : (rowsO w.heap.size)[10]? = some (Obj.cells (rowsI w.heap.size) 43) := by
    unfold rowsO
    rw [List.getElem?_append_right (by simp)]
    simp
  have hb := allocs_at _ w 10 _ h10
  refine ⟨heap_lt hb, fun k hk => ⟨?_, fun j hj => ?_⟩⟩
  · rw [cell_of_row _ _ _ _ _ (0, 0) hb]
    simp [rowsI, hk]
  · rw [cell_of_row _ _ _ _ _ (0, 0) (allocs_at _ w k _ (hl k hk))]
    simp [rowI, hj]
theorem Rws.ext {w w' : World} {s : Nat} (h : Rws w s) (e : Ext w w') : Rws w' s :=
  ⟨Nat.lt_of_lt_of_le h.1 e.size, fun k hk => ⟨(e.cell (p := ⟨s + 10, k, none⟩) h.1).trans (h.2 k hk).1, fun j hj => (e.cell (p := ⟨s + k, j, none⟩) (show s + k < _ by have := h.1; omega)).trans ((h.2 k hk).2 j hj)⟩⟩

set_option maxRecDepth 100000 in
set_option maxHeartbeats 1000000 in
theorem refRows_calls {w : World} :
    Calls Tryd.prog 86 #[] w fun e w' => ∃ s, e = .returned (.slice (some ⟨s + 10, 0, none⟩) 10 10) ∧ w.heap.size ≤ s ∧ Rws w' s ∧ Ext w w' := by
  go_enter Tryd.func86, Tryd.ntmps86
  go_wp2_with fail
  go_ret
  exact ⟨w.heap.size, rfl, Nat.le_refl _, rows_of w, allocs_ext (rowsO w.heap.size) w⟩
end Go.Proofs.YtadnmiedmcckkaaDoor
end

section
/-
  The document's TURN.
-/
namespace Go.Proofs.YtadnmiedmcckkaaDoor
open Go.ChangeShapes Go.WideShapes Go.ChangeAt Go.RowKit Go.Deep

set_option maxHeartbeats 1000000 in
theorem refTurn_calls {n x : Nat} {w : World} (hx : x < 4294967296) (h1 : 1 ≤ n) (h2 : n ≤ 31) :
    Calls Tryd.prog 94 #[.int .u32 (x : Int), .int .i64 (n : Int)] w fun e w' => e = .returned (.int .u32 (rotr n x : Int)) ∧ ∃ k, w' = w.drewN k := by
  have hs : ∃ s : Nat, 32 - n = s ∧ s ≤ 31 ∧ n = 32 - s ∧ 1 ≤ s := ⟨32 - n, rfl, by omega, by omega, by omega⟩
  obtain ⟨s, e1, e2, e3, e4⟩ := hs
  have hf := Lib.hid (rotr_int (n := n) (by omega) hx)
  rw [e1] at hf
  have hd : IntKind.i64.wrap (32 - (n : Int)) = (s : Int) := by rw [IntWalk.i64_in _ (by omega)]; omega
  have hor : ∀ a b, a < 4294967296 → b < 4294967296 → bits .or .u32 ((b : Nat) : Int) ((a : Nat) : Int) = bits .or .u32 ((a : Nat) : Int) ((b : Nat) : Int) := fun a b ha hb => by
    rw [u32_or_nat _ _ hb ha, u32_or_nat _ _ ha hb, Nat.or_comm]
  have HO := Lib.hid hor
  clear hor
  have q1 : Op.shift .shr .u32 (x : Int) .i64 (n : Int) = pure (.int .u32 ((x : Int) / 2 ^ n)) := by
    have := shift_shr .u32 .i64 (x : Int) (n : Int) (by omega) (by show (n : Int) ≤ 32; omega)
    rw [this]
    simp
  have q2 : Op.shift .shl .u32 (x : Int) .i64 (s : Int) = pure (.int .u32 ((x : Int) * 2 ^ s % 4294967296)) := by
    have := shift_shl .u32 .i64 (x : Int) (s : Int) (by omega) (by show (s : Int) ≤ 32; omega)
    rw [this, IntKind.wrap_u32]
    simp
  clear e1 e3
  go_enter Tryd.func94, Tryd.ntmps94
  go_wp2_with fail
  refine wp_region_seq (R := Ext) Ext.refl (fun _ _ _ => Ext.trans) [0, 1, 2, 3, 4, 5, 6, 7, 8] [] [(0, 6, 2), (0, 7, 4), (3, 8, 192), (0, 9, 2), (0, 10, 4), (16, 11, 1024), (40, 12, 2560), (68, 13, 4352), (255, 5, 8192)] (by kernel_rfl) (by kernel_rfl) (by kernel_rfl) rfl (by kernel_rfl) (by kernel_rfl) (fun _ _ d _ _ h => by cases d <;> exact h) ?_
  repeat (first | (refine seq_read (fun _ => True) (fun _ _ => trivial) _ (v := ?_) rfl rfl (by rfl) ?_ ?_; rotate_left; (· intro w' hF; go_simp; (try with_reducible rfl)); simp only [Act.put, List.setIfInBounds_toArray, List.set_cons_zero, List.set_cons_succ]) | (refine seq_skip _ rfl rfl (by rfl) ?_; simp only [Act.put, List.setIfInBounds_toArray, List.set_cons_zero, List.set_cons_succ]))
  refine seq_done ?_
  go_wp2_with fail
  go_ret
  refine ⟨congrArg (fun v => Ending.returned (Value.int .u32 v)) (Eq.trans ?_ hf.out), 1, rfl⟩
  have p1 : (x : Int) / 2 ^ n = ((x / 2 ^ n : Nat) : Int) := by simp
  have p2 : (x : Int) * 2 ^ s % 4294967296 = ((x * 2 ^ s % 4294967296 : Nat) : Int) := by simp
  rw [p1, p2]
  exact HO.out (x * 2 ^ s % 4294967296) (x / 2 ^ n) (Nat.mod_lt _ (by decide)) (Nat.lt_of_le_of_lt (Nat.div_le_self _ _) hx)
end Go.Proofs.YtadnmiedmcckkaaDoor
end
