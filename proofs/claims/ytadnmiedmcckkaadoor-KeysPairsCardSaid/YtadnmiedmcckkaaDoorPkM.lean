import Derived.Test.YtadnmiedmcckkaaDoorWords
import Derived.Test.YtadnmiedmcckkaaDoorMix
import Derived.Test.YtadnmiedmcckkaaDoorSeq
import Derived.Test.YtadnmiedmcckkaaDoorRowOps
import Derived.Great.FillDense
section
/-
  Numbers as limbs of 32 bits: sums, differences, products. No conditions.
-/
namespace Go.Proofs.YtadnmiedmcckkaaDoor

/-- The i-th limb of a number. -/
def lb (x i : Nat) : Nat := x / 4294967296 ^ i % 4294967296
def lbs (n x : Nat) : List Nat := (List.range n).map (lb x)
theorem lb_lt (x i : Nat) : lb x i < 4294967296 := Nat.mod_lt _ (by decide)
theorem lbs_len (n x : Nat) : (lbs n x).length = n := by simp [lbs]
theorem wd_lbs {n x i : Nat} (h : i < n) : wd (lbs n x) i = lb x i := by simp [wd, lbs, List.getD, h]
theorem div_step (x i : Nat) : x / 4294967296 ^ (i + 1) = x / 4294967296 ^ i / 4294967296 := by rw [Nat.pow_succ, Nat.div_div_eq_div_mul]
/-- What is carried into the i-th limb of a sum. -/
def cA (x y : Nat) : Nat → Nat
  | 0 => 0
  | i + 1 => (lb x i + lb y i + cA x y i) / 4294967296
theorem cA_le (x y : Nat) : ∀ i, cA x y i ≤ 1
  | 0 => Nat.zero_le _
  | i + 1 => by have := cA_le x y i; have h1 := lb_lt x i; have h2 := lb_lt y i; rw [cA]; omega
theorem add_div (x y : Nat) : ∀ i, (x + y) / 4294967296 ^ i = x / 4294967296 ^ i + y / 4294967296 ^ i + cA x y i
  | 0 => by simp [cA]
  | i + 1 => by
    rw [div_step, add_div x y i, div_step x, div_step y, cA]
    unfold lb
    generalize x / 4294967296 ^ i = X
    generalize y / 4294967296 ^ i = Y
    generalize cA x y i = c
    omega
theorem lb_add (x y i : Nat) : lb (x + y) i = (lb x i + lb y i + cA x y i) % 4294967296 := by
  unfold lb
  rw [add_div]
  generalize x / 4294967296 ^ i = X
  generalize y / 4294967296 ^ i = Y
  generalize cA x y i = c
  omega
/-- What is borrowed from the i-th limb of a difference. -/
def bS (x y : Nat) : Nat → Nat
  | 0 => 0
  | i + 1 => if lb x i < lb y i + bS x y i then 1 else 0
theorem bS_le (x y : Nat) : ∀ i, bS x y i ≤ 1
  | 0 => Nat.zero_le _
  | i + 1 => by rw [bS]; split <;> omega
theorem sub_div {x y : Nat} (hy : y < 4294967296 ^ 8) : ∀ k i, i + k = 8 → (x + 4294967296 ^ 8 - y) / 4294967296 ^ i + y / 4294967296 ^ i + bS x y i = x / 4294967296 ^ i + 4294967296 ^ k
  | k, 0, h => by
    obtain rfl : k = 8 := by omega
    simp only [Nat.pow_zero, Nat.div_one, bS]
    generalize 4294967296 ^ 8 = M at *
    omega
  | k, i + 1, h => by
    have ih := sub_div (x := x) hy (k + 1) i (by omega)
    have hb := bS_le x y i
    rw [show (4294967296 : Nat) ^ (k + 1) = 4294967296 ^ k * 4294967296 from Nat.pow_succ _ _] at ih
    rw [div_step, div_step x, div_step y, bS]
    unfold lb
    generalize (x + 4294967296 ^ 8 - y) / 4294967296 ^ i = D at *
    generalize x / 4294967296 ^ i = X at *
    generalize y / 4294967296 ^ i = Y at *
    generalize bS x y i = b at *
    obtain ⟨M, hM⟩ : ∃ M, M = 4294967296 ^ k := ⟨_, rfl⟩
    rw [← hM] at ih ⊢
    clear hM hy
    split <;> omega
theorem lb_sub {x y : Nat} (hy : y < 4294967296 ^ 8) {i : Nat} (hi : i < 8) : lb (x + 4294967296 ^ 8 - y) i = (lb x i + 4294967296 - lb y i - bS x y i) % 4294967296 := by
  have h := sub_div (x := x) hy (8 - i) i (by omega)
  have hb := bS_le x y i
  obtain ⟨k, hk⟩ : ∃ k, 8 - i = k + 1 := ⟨8 - i - 1, by omega⟩
  rw [hk, show (4294967296 : Nat) ^ (k + 1) = 4294967296 ^ k * 4294967296 from Nat.pow_succ _ _] at h
  unfold lb
  generalize (x + 4294967296 ^ 8 - y) / 4294967296 ^ i = D at *
  generalize x / 4294967296 ^ i = X at *
  generalize y / 4294967296 ^ i = Y at *
  generalize bS x y i = b at *
  obtain ⟨M, hM⟩ : ∃ M, M = 4294967296 ^ k := ⟨_, rfl⟩
  rw [← hM] at h
  clear hM hy
  omega
theorem bS_eight {x y : Nat} (hx : x < 4294967296 ^ 8) (hy : y < 4294967296 ^ 8) : bS x y 8 = if x < y then 1 else 0 := by
  have h := sub_div (x := x) hy 0 8 rfl
  have hb := bS_le x y 8
  rw [Nat.div_eq_of_lt hx, Nat.div_eq_of_lt hy, Nat.pow_zero] at h
  by_cases q : x < y
  · rw [if_pos q]
    rw [Nat.div_eq_of_lt (show x + 4294967296 ^ 8 - y < 4294967296 ^ 8 by omega)] at h
    omega
  · rw [if_neg q]
    have : (x + 4294967296 ^ 8 - y) / 4294967296 ^ 8 = 1 := by
      generalize hM : 4294967296 ^ 8 = M at *
      have : 0 < M := by omega
      rw [show x + M - y = (x - y) + M by omega, Nat.add_div_right _ this, Nat.div_eq_of_lt (by omega)]
    omega
/-- What limbs come to. -/
def valL : List Nat → Nat
  | [] => 0
  | d :: ds => d + 4294967296 * valL ds
theorem lb_valL : ∀ (vs : List Nat), (∀ i, i < vs.length → wd vs i < 4294967296) → ∀ i, lb (valL vs) i = wd vs i
  | [], _, i => by simp [lb, valL, wd]
  | d :: ds, h, 0 => by
    have := h 0 (by simp)
    simp only [wd, List.getD, List.getElem?_cons_zero, Option.getD_some] at this
    simp [lb, valL, wd]; omega
  | d :: ds, h, i + 1 => by
    have h0 := h 0 (by simp)
    simp only [wd, List.getD, List.getElem?_cons_zero, Option.getD_some] at h0
    have ih := lb_valL ds (fun j hj => by
      have := h (j + 1) (by simp; omega)
      simpa [wd, List.getD] using this) i
    rw [show wd (d :: ds) (i + 1) = wd ds i by simp [wd, List.getD], ← ih]
    unfold lb
    rw [valL, Nat.pow_succ', ← Nat.div_div_eq_div_mul, show (d + 4294967296 * valL ds) / 4294967296 = valL ds by omega]
theorem lbs_valL {vs : List Nat} {n : Nat} (hl : vs.length = n) (h : ∀ i, i < n → wd vs i < 4294967296) : vs = lbs n (valL vs) := by
  subst hl
  refine List.ext_getElem (by rw [lbs_len]) fun i h1 h2 => ?_
  have := lb_valL vs h i
  simp [wd, List.getD, h1] at this
  simp [lbs, this]
theorem valL_set : ∀ {vs : List Nat} {k z : Nat}, k < vs.length → valL (vs.set k z) + wd vs k * 4294967296 ^ k = valL vs + z * 4294967296 ^ k
  | [], k, z, h => absurd h (by simp)
  | d :: ds, 0, z, _ => by simp [valL, wd, List.getD]; omega
  | d :: ds, k + 1, z, h => by
    have ih := valL_set (vs := ds) (k := k) (z := z) (by simpa using h)
    rw [show wd (d :: ds) (k + 1) = wd ds k by simp [wd, List.getD], List.set_cons_succ, valL, valL, Nat.pow_succ]
    have e1 : wd ds k * (4294967296 ^ k * 4294967296) = 4294967296 * (wd ds k * 4294967296 ^ k) := by rw [← Nat.mul_assoc, Nat.mul_comm]
    have e2 : z * (4294967296 ^ k * 4294967296) = 4294967296 * (z * 4294967296 ^ k) := by rw [← Nat.mul_assoc, Nat.mul_comm]
    rw [e1, e2]
    generalize wd ds k * 4294967296 ^ k = a at *
    generalize z * 4294967296 ^ k = b at *
    omega
theorem mod_step (x i : Nat) : x % 4294967296 ^ (i + 1) = x % 4294967296 ^ i + lb x i * 4294967296 ^ i := by
  unfold lb
  rw [Nat.pow_succ, Nat.mod_mul]
  rw [Nat.mul_comm (4294967296 ^ i)]
theorem valL_snoc : ∀ (vs : List Nat) (z : Nat), valL (vs ++ [z]) = valL vs + z * 4294967296 ^ vs.length
  | [], z => by simp [valL]
  | d :: ds, z => by
    rw [List.cons_append, valL, valL_snoc ds z, valL, List.length_cons, Nat.pow_succ]
    have e2 : z * (4294967296 ^ ds.length * 4294967296) = 4294967296 * (z * 4294967296 ^ ds.length) := by rw [← Nat.mul_assoc, Nat.mul_comm]
    rw [e2, Nat.mul_add, Nat.add_assoc]
theorem lbs_snoc (n x : Nat) : lbs (n + 1) x = lbs n x ++ [lb x n] := by simp [lbs, List.range_succ]
theorem valL_lbs (x : Nat) : ∀ n, valL (lbs n x) = x % 4294967296 ^ n
  | 0 => by rw [Nat.pow_zero, Nat.mod_one]; rfl
  | n + 1 => by rw [lbs_snoc, valL_snoc, valL_lbs x n, lbs_len, mod_step]
theorem lbs_add_big (n x : Nat) : lbs n (x + 4294967296 ^ n) = lbs n x := by
  have h := lbs_valL (vs := lbs n (x + 4294967296 ^ n)) (lbs_len _ _) (fun i hi => by rw [wd_lbs hi]; exact lb_lt _ _)
  have h' := lbs_valL (vs := lbs n x) (lbs_len _ _) (fun i hi => by rw [wd_lbs hi]; exact lb_lt _ _)
  rw [h, h', valL_lbs, valL_lbs, Nat.add_mod_right]
theorem lbs_mod (n x : Nat) : lbs n (x % 4294967296 ^ n) = lbs n x := by
  have h := lbs_valL (vs := lbs n (x % 4294967296 ^ n)) (lbs_len _ _) (fun i hi => by rw [wd_lbs hi]; exact lb_lt _ _)
  have h' := lbs_valL (vs := lbs n x) (lbs_len _ _) (fun i hi => by rw [wd_lbs hi]; exact lb_lt _ _)
  rw [h, h', valL_lbs, valL_lbs, Nat.mod_mod]
end Go.Proofs.YtadnmiedmcckkaaDoor
end

section
/-
  field.added.
-/
namespace Go.Proofs.YtadnmiedmcckkaaDoor
open Go.ChangeShapes Go.WideShapes Go.ChangeAt Go.RowKit Go.Deep
set_option maxRecDepth 100000

def zw8 : List Nat := List.replicate 8 0
theorem fld_alloc (w : World) : (zeroValue 55).run Tryd.prog w = .ok (.agg (wcells zw8).toArray) w := by kernel_rfl
theorem Wr.new (w : World) (t : TypeId) (vs : List Nat) : Wr (w.alloc (.cells (wcells vs).toArray t)) w.heap.size t vs := heap_alloc_new _ _
theorem words_lbs {vs : List Nat} {n x : Nat} (hl : vs.length = n) (h : ∀ j, j < n → wd vs j = lb x j) : vs = lbs n x := by
  refine List.ext_getElem (by rw [hl, lbs_len]) fun i h1 h2 => ?_
  have := h i (by omega)
  simp [wd, List.getD, h1] at this
  simp [lbs, this]
theorem wd_putN {vs : List Nat} {j k z : Nat} (hk : k < vs.length) : wd (vs.set k z) j = if j = k then z else wd vs j := by
  unfold wd
  by_cases h : j = k
  · subst h
    simp [List.getD, hk]
  · simp [List.getD, h, List.getElem?_set_ne (Ne.symm h)]

set_option maxHeartbeats 1000000 in
theorem added_calls {x y : Nat} {w : World} :
    Calls Tryd.prog 70 #[.agg (wcells (lbs 8 x)).toArray, .agg (wcells (lbs 8 y)).toArray] w fun e w' => e = .returned (.agg (wcells (lbs 8 (x + y))).toArray) ∧ Ext w w' := by
  have hal := fld_alloc
  have ZL : zw8.length = 8 := rfl
  generalize zw8 = zs at *
  have XA : Hid (∀ (o1 o2 o3 o4 : Obj), ((((w.alloc o1).alloc o2).alloc o3).alloc o4).heap[w.heap.size]? = some o1 ∧ ((((w.alloc o1).alloc o2).alloc o3).alloc o4).heap[w.heap.size + 1]? = some o2 ∧ ((((w.alloc o1).alloc o2).alloc o3).alloc o4).heap[w.heap.size + 1 + 1]? = some o3 ∧ ((((w.alloc o1).alloc o2).alloc o3).alloc o4).heap[w.heap.size + 1 + 1 + 1]? = some o4) := fun o1 o2 o3 o4 => by
    have e : Ext (((w.alloc o1).alloc o2).alloc o3) ((((w.alloc o1).alloc o2).alloc o3).alloc o4) := (Ext.refl _).alloc _
    refine ⟨(e.block _ ?_).trans (heap_alloc30 _ _ _ _), (e.block _ ?_).trans (heap_alloc31 _ _ _ _), (e.block _ ?_).trans (heap_alloc32 _ _ _ _), ?_⟩
    · rw [size_alloc, size_alloc, size_alloc]; omega
    · rw [size_alloc, size_alloc, size_alloc]; omega
    · rw [size_alloc, size_alloc, size_alloc]; omega
    · have := heap_alloc_new (((w.alloc o1).alloc o2).alloc o3) o4
      rwa [size_alloc, size_alloc, size_alloc] at this
  have B0 : Hid (∀ o1 o2 o3 o4, Ext w ((((w.alloc o1).alloc o2).alloc o3).alloc o4)) := fun o1 o2 o3 o4 => ((((Ext.refl w).alloc _).alloc _).alloc _).alloc _
  have XL := lbs_len 8 x
  have YL := lbs_len 8 y
  have WX : Hid (∀ j, j < 8 → wd (lbs 8 x) j = lb x j) := fun j hj => wd_lbs hj
  have WY : Hid (∀ j, j < 8 → wd (lbs 8 y) j = lb y j) := fun j hj => wd_lbs hj
  have RQ : Hid (∀ vs : List Nat, vs.length = 8 → (∀ j, j < 8 → wd vs j = lb (x + y) j) → vs = lbs 8 (x + y)) := fun vs h1 h2 => words_lbs h1 h2
  generalize lbs 8 (x + y) = rs at *
  generalize lbs 8 x = xs at *
  generalize lbs 8 y = ys at *
  go_enter Tryd.func70, Tryd.ntmps70
  go_upto_region 2 with fail
  refine wp_gen (fun W => Wr W w.heap.size 55 xs ∧ Wr W (w.heap.size + 1) 55 ys ∧ Wr W (w.heap.size + 1 + 1) 55 zs ∧ Wr W (w.heap.size + 1 + 1 + 1) 55 zs ∧ Ext w W) ⟨(XA.out _ _ _ _).1, (XA.out _ _ _ _).2.1, (XA.out _ _ _ _).2.2.1, (XA.out _ _ _ _).2.2.2, B0.out _ _ _ _⟩ ?_
  clear XA B0
  rintro W0 ⟨wa, wb, wc4, wc5, e0⟩
  replace wa := Lib.hid wa
  replace wb := Lib.hid wb
  replace wc4 := Lib.hid wc4
  replace wc5 := Lib.hid wc5
  replace e0 := Lib.hid e0
  go_wp2_with fail
  go_loopw [6, 9] (fun cv iv wr => ∃ (k : Nat) (vs : List Nat), k ≤ 8 ∧ iv = .int .i64 (k : Int) ∧ cv = .int .u64 (cA x y k : Int) ∧ vs.length = 8 ∧ (∀ j, j < k → wd vs j = lb (x + y) j) ∧ Below (w.heap.size + 1 + 1 + 1) W0 wr ∧ Wr wr (w.heap.size + 1 + 1 + 1) 55 vs) (fun _ iv _ => 8 - (intOf iv).toNat)
  case atStart => exact ⟨0, zs, Nat.zero_le _, rfl, rfl, ZL, fun j hj => absurd hj (by omega), Below.refl _ _, wc5.out⟩
  case round =>
    obtain ⟨k, vs, hk, rfl, rfl, vl, hv, hB, hw⟩ := hrel
    clear wc5
    by_cases hlt : k < 8
    · have ka := Lib.hid (wa.out.kept hB (by omega))
      have kb := Lib.hid (wb.out.kept hB (by omega))
      have ca : Hid (∀ s, Ext wr s → s.cell? ⟨w.heap.size, k, none⟩ = some (.int .u32 (lb x k : Int)) ∧ s.cell? ⟨w.heap.size + 1, k, none⟩ = some (.int .u32 (lb y k : Int))) := fun s e => by
        have h1 := (ka.out.kept e ka.out.lt).cell (i := k) (by rw [XL]; exact hlt)
        have h2 := (kb.out.kept e kb.out.lt).cell (i := k) (by rw [YL]; exact hlt)
        rw [WX.out k hlt] at h1
        rw [WY.out k hlt] at h2
        exact And.intro h1 h2
      have h1 := lb_lt x k
      have h2 := lb_lt y k
      have h3 := cA_le x y k
      have hz : Hid (lb (x + y) k = (lb x k + lb y k + cA x y k) % 4294967296) := lb_add x y k
      have hc : Hid (cA x y (k + 1) = (lb x k + lb y k + cA x y k) / 4294967296) := rfl
      generalize lb x k = a at *
      generalize lb y k = b at *
      generalize cA x y k = c at *
      obtain ⟨s, hs⟩ : ∃ s, s = a + b := ⟨_, rfl⟩
      obtain ⟨T, hT⟩ : ∃ T, T = a + b + c := ⟨_, rfl⟩
      obtain ⟨z, hzz⟩ : ∃ z, z = T % 4294967296 := ⟨_, rfl⟩
      obtain ⟨d, hd⟩ : ∃ d, d = T / 4294967296 := ⟨_, rfl⟩
      rw [← hT, ← hzz] at hz
      rw [← hT, ← hd] at hc
      have f1 : IntKind.u64.wrap (a : Int) = (a : Int) := by rw [IntKind.wrap_u64]; omega
      have f2 : IntKind.u64.wrap (b : Int) = (b : Int) := by rw [IntKind.wrap_u64]; omega
      have f3 : (a : Int) + (b : Int) = (s : Int) := by omega
      have f3w : IntKind.u64.wrap (s : Int) = (s : Int) := by rw [IntKind.wrap_u64]; omega
      have f4 : (s : Int) + (c : Int) = (T : Int) := by omega
      have f4w : IntKind.u64.wrap (T : Int) = (T : Int) := by rw [IntKind.wrap_u64]; omega
      have f5 : IntKind.u32.wrap (T : Int) = (z : Int) := by rw [IntKind.wrap_u32]; omega
      have f5m : (T : Int) % 4294967296 = (z : Int) := by omega
      have f6 : (T : Int) / 4294967296 = (d : Int) := by omega
      have f6' : (T : Int) / 2 ^ 32 = (d : Int) := f6
      have Tlt : T < 18446744073709551616 := by omega
      have q1 : Op.shift .shr .u64 (T : Int) .u64 32 = pure (.int .u64 (d : Int)) := by
        have := shift_shr .u64 .u64 (T : Int) 32 (by omega) (by decide)
        rw [this]
        congr 2
      have ik : (k : Int) < 8 := by omega
      have ik0 : (0 : Int) ≤ (k : Int) := by omega
      have cv := hw.cell (i := k) (by omega)
      have fv := hw.frozen k
      replace hs := Lib.hid hs
      replace hT := Lib.hid hT
      replace hzz := Lib.hid hzz
      replace hd := Lib.hid hd
      replace hv := Lib.hid hv
      replace hB := Lib.hid hB
      replace hw := Lib.hid hw
      clear h1 h2 h3
      go_wp2_with fail
      refine wp_region_seq (R := Ext) Ext.refl (fun _ _ _ => Ext.trans) [0, 1, 2, 3, 4, 5, 6, 7, 8, 9, 10, 11] [] [(0, 13, 256), (1, 14, 8200), (2, 15, 16384), (4, 16, 32768), (0, 17, 256), (16, 18, 131088), (32, 19, 262144), (64, 20, 524288), (136, 21, 1114112), (0, 22, 128), (768, 23, 6291456), (2047, 9, 8388608)] (by kernel_rfl) (by kernel_rfl) (by kernel_rfl) rfl (by kernel_rfl) (by kernel_rfl) (fun _ _ d _ _ h => by cases d <;> exact h) ?_
      repeat (first | (refine seq_read _ (fun w' e => ca.out w' ((Ext.refl _).drew.trans e)) _ (v := ?_) rfl rfl (by rfl) ?_ ?_; rotate_left; (· intro w' hF; go_simp; (try with_reducible rfl)); simp only [Act.put, List.setIfInBounds_toArray, List.set_cons_zero, List.set_cons_succ]) | (refine seq_skip _ rfl rfl (by rfl) ?_; simp only [Act.put, List.setIfInBounds_toArray, List.set_cons_zero, List.set_cons_succ]))
      refine seq_done ?_
      have hw2 := Lib.hid (hw.out.kept (Ext.refl wr).drew hw.out.lt)
      have hB2 : Hid (Below (w.heap.size + 1 + 1 + 1) W0 wr.drew) := Below.trans hB.out ((Ext.refl wr).drew.mono (Nat.le_of_lt hw.out.lt))
      have cv2 := hw2.out.cell (i := k) (by omega)
      have fv2 := hw2.out.frozen k
      clear cv fv hw hB ca ka kb
      generalize wr.drew = w2 at *
      go_wp2_with fail
      refine ⟨⟨k + 1, vs.set k z, by omega, by go_num, by rw [hc.out], by rw [List.length_set]; exact vl, fun j hj => ?_, Below.setCell hB2.out (Nat.le_refl _) _, hw2.out.set⟩, by simp [intOf]; omega⟩
      rw [wd_putN (by omega)]
      by_cases e : j = k
      · rw [if_pos e, e]; exact hz.out.symm
      · rw [if_neg e]; exact hv.out j (by omega)
    · obtain rfl : k = 8 := by omega
      have he := RQ.out vs vl hv
      subst he
      have RS := wcells_size vl
      have R1 := wcells_one vs
      have r4 := Lib.hid (wc4.out.kept hB (by omega))
      have ZS := wcells_size ZL
      have EE : Hid (Ext w wr) := Below.trans e0.out (hB.mono (by omega))
      replace hw := Lib.hid hw
      clear hv hB wc4 e0 wa wb
      go_wp2_with (first
        | (refine wpList_load_row rfl 55 _ rfl (w.heap.size + 1 + 1 + 1) rfl 55 (wcells vs).toArray (0, 0) _ hw.out rfl rfl (by rw [RS]; rfl) ?_; simp only [Act.put, List.setIfInBounds_toArray, List.set_cons_zero, List.set_cons_succ])
        | (refine wpList_store_row rfl 55 _ _ rfl (w.heap.size + 1 + 1) (wcells vs).toArray rfl rfl 55 _ r4.out (by rw [RS]; rfl) (by rw [RS, ZS]) R1 ?_; simp only [Act.put, List.setIfInBounds_toArray, List.set_cons_zero, List.set_cons_succ]))
      (try simp only [Exit.inBlock, Exit.then])
      refine bodyPost_ret (results_cell_row rfl _ _ (w.heap.size + 1 + 1) 55 (wcells vs).toArray (0, 0) _ rfl (setRow_heap _ _ _ _ _ _ r4.out) rfl rfl (by rw [RS]; rfl)) rfl ?_
      exact ⟨rfl, below_setRow EE.out (by omega) _⟩
end Go.Proofs.YtadnmiedmcckkaaDoor
end

section
/-
  field.subtracted.
-/
namespace Go.Proofs.YtadnmiedmcckkaaDoor
open Go.ChangeShapes Go.WideShapes Go.ChangeAt Go.RowKit Go.Deep
set_option maxRecDepth 100000

/-- What a difference hands back. -/
def RetSub (x y : Nat) (w : World) (e : Ending) (w' : World) : Prop := e = .returned (.tuple #[.agg (wcells (lbs 8 (x + 4294967296 ^ 8 - y))).toArray, .int .u64 (bS x y 8 : Int)]) ∧ Ext w w'

set_option maxHeartbeats 1000000 in
theorem subtracted_calls {x y : Nat} {w : World} (hy : y < 4294967296 ^ 8) :
    Calls Tryd.prog 69 #[.agg (wcells (lbs 8 x)).toArray, .agg (wcells (lbs 8 y)).toArray] w (RetSub x y w) := by
  have hal := fld_alloc
  have ZL : zw8.length = 8 := rfl
  generalize zw8 = zs at *
  have XA : Hid (∀ (o1 o2 o3 : Obj), (((w.alloc o1).alloc o2).alloc o3).heap[w.heap.size]? = some o1 ∧ (((w.alloc o1).alloc o2).alloc o3).heap[w.heap.size + 1]? = some o2 ∧ (((w.alloc o1).alloc o2).alloc o3).heap[w.heap.size + 1 + 1]? = some o3) := fun o1 o2 o3 => ⟨heap_alloc30 _ _ _ _, heap_alloc31 _ _ _ _, heap_alloc32 _ _ _ _⟩
  have B0 : Hid (∀ o1 o2 o3, Ext w (((w.alloc o1).alloc o2).alloc o3)) := fun o1 o2 o3 => (((Ext.refl w).alloc _).alloc _).alloc _
  have XL := lbs_len 8 x
  have YL := lbs_len 8 y
  have WX : Hid (∀ j, j < 8 → wd (lbs 8 x) j = lb x j) := fun j hj => wd_lbs hj
  have WY : Hid (∀ j, j < 8 → wd (lbs 8 y) j = lb y j) := fun j hj => wd_lbs hj
  obtain ⟨m, hm⟩ : ∃ m, m = x + 4294967296 ^ 8 - y := ⟨_, rfl⟩
  have LS : Hid (∀ i, i < 8 → lb m i = (lb x i + 4294967296 - lb y i - bS x y i) % 4294967296) := fun i hi => by rw [hm]; exact lb_sub hy hi
  unfold RetSub
  rw [← hm]
  clear hm hy
  have RQ : Hid (∀ vs : List Nat, vs.length = 8 → (∀ j, j < 8 → wd vs j = lb m j) → vs = lbs 8 m) := fun vs h1 h2 => words_lbs h1 h2
  generalize lbs 8 m = rs at *
  generalize lbs 8 x = xs at *
  generalize lbs 8 y = ys at *
  have BN : Hid (∀ i, bS x y (i + 1) = if lb x i < lb y i + bS x y i then 1 else 0) := fun i => rfl
  have BLE : Hid (∀ i, bS x y i ≤ 1) := bS_le x y
  obtain ⟨b8, hb8⟩ : ∃ b8, b8 = bS x y 8 := ⟨_, rfl⟩
  rw [← hb8]
  replace hb8 := Lib.hid hb8
  go_enter Tryd.func69, Tryd.ntmps69
  go_upto_region 1 with fail
  refine wp_gen (fun W => Wr W w.heap.size 55 xs ∧ Wr W (w.heap.size + 1) 55 ys ∧ Wr W (w.heap.size + 1 + 1) 55 zs ∧ Ext w W) ⟨(XA.out _ _ _).1, (XA.out _ _ _).2.1, (XA.out _ _ _).2.2, B0.out _ _ _⟩ ?_
  clear XA B0
  rintro W0 ⟨wa, wb, wc4, e0⟩
  replace wa := Lib.hid wa
  replace wb := Lib.hid wb
  replace wc4 := Lib.hid wc4
  replace e0 := Lib.hid e0
  go_wp2_with fail
  go_loopw [5, 8] (fun cv iv wr => ∃ (k : Nat) (vs : List Nat), k ≤ 8 ∧ iv = .int .i64 (k : Int) ∧ cv = .int .u64 (bS x y k : Int) ∧ vs.length = 8 ∧ (∀ j, j < k → wd vs j = lb m j) ∧ Below (w.heap.size + 1 + 1) W0 wr ∧ Wr wr (w.heap.size + 1 + 1) 55 vs) (fun _ iv _ => 8 - (intOf iv).toNat)
  case atStart => exact ⟨0, zs, Nat.zero_le _, rfl, rfl, ZL, fun j hj => absurd hj (by omega), Below.refl _ _, wc4.out⟩
  case round =>
    obtain ⟨k, vs, hk, rfl, rfl, vl, hv, hB, hw⟩ := hrel
    clear wc4
    by_cases hlt : k < 8
    · have ka := Lib.hid (wa.out.kept hB (by omega))
      have kb := Lib.hid (wb.out.kept hB (by omega))
      have ca : Hid (∀ s, Ext wr s → s.cell? ⟨w.heap.size, k, none⟩ = some (.int .u32 (lb x k : Int)) ∧ s.cell? ⟨w.heap.size + 1, k, none⟩ = some (.int .u32 (lb y k : Int))) := fun s e => by
        have h1 := (ka.out.kept e ka.out.lt).cell (i := k) (by rw [XL]; exact hlt)
        have h2 := (kb.out.kept e kb.out.lt).cell (i := k) (by rw [YL]; exact hlt)
        rw [WX.out k hlt] at h1
        rw [WY.out k hlt] at h2
        exact And.intro h1 h2
      have h1 := lb_lt x k
      have h2 := lb_lt y k
      have h3 := BLE.out k
      have hz := Lib.hid (LS.out k hlt)
      have hc := Lib.hid (BN.out k)
      generalize lb x k = a at *
      generalize lb y k = b at *
      generalize bS x y k = c at *
      obtain ⟨s, hs⟩ : ∃ s, s = (if a < b then a + 18446744073709551616 - b else a - b) := ⟨_, rfl⟩
      obtain ⟨T, hT⟩ : ∃ T, T = (if a < b + c then a + 18446744073709551616 - b - c else a - b - c) := ⟨_, rfl⟩
      obtain ⟨z, hzz⟩ : ∃ z, z = T % 4294967296 := ⟨_, rfl⟩
      obtain ⟨d, hd⟩ : ∃ d, d = (if a < b + c then 1 else 0) := ⟨_, rfl⟩
      have hz' : Hid (lb m k = z) := by
        unfold Hid
        rw [hz.out, hzz, hT]
        split <;> omega
      rw [← hd] at hc
      have f1 : IntKind.u64.wrap (a : Int) = (a : Int) := by rw [IntKind.wrap_u64]; omega
      have f2 : IntKind.u64.wrap (b : Int) = (b : Int) := by rw [IntKind.wrap_u64]; omega
      have f3 : IntKind.u64.wrap ((a : Int) - (b : Int)) = (s : Int) := by rw [IntKind.wrap_u64, hs]; split <;> omega
      have f4 : IntKind.u64.wrap ((s : Int) - (c : Int)) = (T : Int) := by rw [IntKind.wrap_u64, hs, hT]; split <;> split <;> omega
      have f3m : ((a : Int) - (b : Int)) % 18446744073709551616 = (s : Int) := by rw [hs]; split <;> omega
      have f4m : ((s : Int) - (c : Int)) % 18446744073709551616 = (T : Int) := by rw [hs, hT]; split <;> split <;> omega
      have f5 : IntKind.u32.wrap (T : Int) = (z : Int) := by rw [IntKind.wrap_u32]; omega
      have f5m : (T : Int) % 4294967296 = (z : Int) := by omega
      have Tlt : T < 18446744073709551616 := by rw [hT]; split <;> omega
      have f6 : (T : Int) / 9223372036854775808 = (d : Int) := by rw [hT, hd]; split <;> omega
      have f6' : (T : Int) / 2 ^ 63 = (d : Int) := f6
      have q1 : Op.shift .shr .u64 (T : Int) .u64 63 = pure (.int .u64 (d : Int)) := by
        have := shift_shr .u64 .u64 (T : Int) 63 (by omega) (by decide)
        rw [this]
        congr 2
      have ik : (k : Int) < 8 := by omega
      have ik0 : (0 : Int) ≤ (k : Int) := by omega
      have cv := hw.cell (i := k) (by omega)
      have fv := hw.frozen k
      replace hs := Lib.hid hs
      replace hT := Lib.hid hT
      replace hzz := Lib.hid hzz
      replace hd := Lib.hid hd
      replace hv := Lib.hid hv
      replace hB := Lib.hid hB
      replace hw := Lib.hid hw
      clear h1 h2 h3
      go_wp2_with fail
      refine wp_region_seq (R := Ext) Ext.refl (fun _ _ _ => Ext.trans) [0, 1, 2, 3, 4, 5, 6, 7, 8, 9, 10, 11] [] [(0, 12, 128), (1, 13, 4104), (2, 14, 8192), (4, 15, 16384), (0, 16, 128), (16, 17, 65552), (32, 18, 131072), (64, 19, 262144), (136, 20, 557056), (0, 21, 64), (768, 22, 3145728), (2047, 8, 4194304)] (by kernel_rfl) (by kernel_rfl) (by kernel_rfl) rfl (by kernel_rfl) (by kernel_rfl) (fun _ _ d _ _ h => by cases d <;> exact h) ?_
      repeat (first | (refine seq_read _ (fun w' e => ca.out w' ((Ext.refl _).drew.trans e)) _ (v := ?_) rfl rfl (by rfl) ?_ ?_; rotate_left; (· intro w' hF; go_simp; (try with_reducible rfl)); simp only [Act.put, List.setIfInBounds_toArray, List.set_cons_zero, List.set_cons_succ]) | (refine seq_skip _ rfl rfl (by rfl) ?_; simp only [Act.put, List.setIfInBounds_toArray, List.set_cons_zero, List.set_cons_succ]))
      refine seq_done ?_
      have hw2 := Lib.hid (hw.out.kept (Ext.refl wr).drew hw.out.lt)
      have hB2 : Hid (Below (w.heap.size + 1 + 1) W0 wr.drew) := Below.trans hB.out ((Ext.refl wr).drew.mono (Nat.le_of_lt hw.out.lt))
      have cv2 := hw2.out.cell (i := k) (by omega)
      have fv2 := hw2.out.frozen k
      clear cv fv hw hB ca ka kb
      generalize wr.drew = w2 at *
      go_wp2_with fail
      refine ⟨⟨k + 1, vs.set k z, by omega, by go_num, by rw [hc.out], by rw [List.length_set]; exact vl, fun j hj => ?_, Below.setCell hB2.out (Nat.le_refl _) _, hw2.out.set⟩, by simp [intOf]; omega⟩
      rw [wd_putN (by omega)]
      by_cases e : j = k
      · rw [if_pos e, e]; exact hz'.out.symm
      · rw [if_neg e]; exact hv.out j (by omega)
    · obtain rfl : k = 8 := by omega
      have he := RQ.out vs vl hv
      subst he
      rw [← hb8.out]
      have RS := wcells_size vl
      have R1 := wcells_one vs
      have EE : Hid (Ext w wr) := Below.trans e0.out (hB.mono (by omega))
      replace hw := Lib.hid hw
      clear hv hB e0 wa wb
      go_wp2_with (first
        | (refine wpList_load_row rfl 55 _ rfl (w.heap.size + 1 + 1) rfl 55 (wcells vs).toArray (0, 0) _ hw.out rfl rfl (by rw [RS]; rfl) ?_; simp only [Act.put, List.setIfInBounds_toArray, List.set_cons_zero, List.set_cons_succ])
        | (refine wpList_store_row rfl 55 _ _ rfl (w.heap.size + 1 + 1) (wcells vs).toArray rfl rfl 55 _ hw.out (by rw [RS]; rfl) (by rw [RS]) R1 ?_; simp only [Act.put, List.setIfInBounds_toArray, List.set_cons_zero, List.set_cons_succ]))
      (try simp only [Exit.inBlock, Exit.then])
      refine bodyPost_ret (v := .tuple #[.agg (wcells vs).toArray, .int .u64 (b8 : Int)]) ?_ rfl ?_
      · exact results_row_tmp rfl _ _ (w.heap.size + 1 + 1) 55 (wcells vs).toArray (0, 0) _ _ rfl rfl (setRow_heap _ _ _ _ _ _ hw.out) rfl rfl (by rw [RS]; rfl)
      · exact ⟨rfl, below_setRow EE.out (by omega) _⟩
end Go.Proofs.YtadnmiedmcckkaaDoor
end

section
/-
  field.reduced; the prime that is laid.
-/
namespace Go.Proofs.YtadnmiedmcckkaaDoor
open Go.ChangeShapes Go.WideShapes Go.ChangeAt Go.RowKit Go.Deep
set_option maxRecDepth 100000

/-- The prime. -/
def P25 : Nat := 57896044618658097711785492504343953926634992332820282019728792003956564819949
def primeL : List Nat := [4294967277, 4294967295, 4294967295, 4294967295, 4294967295, 4294967295, 4294967295, 2147483647]
theorem primeL_eq : primeL = lbs 8 P25 := by decide +kernel
theorem P25_lt : P25 < 4294967296 ^ 8 := by decide +kernel
/-- The variable field.prime holds the prime. -/
def Gp (w : World) (tg : TypeId × Nat × Nat) : Prop := w.heap[0]? = some (.cells (wcells (lbs 8 P25)).toArray tg.1 tg.2)
theorem Gp.lt {w : World} {tg : TypeId × Nat × Nat} (h : Gp w tg) : 0 < w.heap.size := heap_lt h
theorem Gp.ext {w w' : World} {tg : TypeId × Nat × Nat} (h : Gp w tg) (e : Ext w w') : Gp w' tg := (e.block _ h.lt).trans h

theorem fill_oneN {n : Nat} {K Z : Array Value} (hn : 0 < n) (pl : Nat → Option (Nat × Nat)) (hp : pl 0 = some (0, n)) (hK : K.size = n) (hZ : Z.size = n) : Instr.fill pl Z [(0, .agg K)] = some K := by
  have hc : (Value.agg K).cells = K := rfl
  simp only [Instr.fill, hp, hc, hK, hZ]
  simp only [ne_eq, not_true_eq_false, decide_false, Bool.false_or, Nat.zero_add, Nat.lt_irrefl, decide_false, Bool.false_eq_true, if_false]
  have := Great.fill_whole (s := n) hn [Value.agg K] Z (fun v hv => by
    simp only [List.mem_singleton] at hv
    subst hv
    exact hK) (by simp [hZ])
  simp only [List.zipIdx_cons, List.zipIdx_nil, List.map_cons, List.map_nil, List.flatMap_cons, List.flatMap_nil, List.append_nil, Instr.fill, hc, hK, hZ, Nat.zero_mul] at this
  simpa using this
theorem elem_alloc (w : World) : (zeroValue 57).run Tryd.prog w = .ok (.agg (wcells zw8).toArray) w := by kernel_rfl
theorem zw8_size : (wcells zw8).toArray.size = 8 := rfl
theorem elem_built {K : Array Value} (hK : K.size = 8) : Tryd.prog.built 57 [(0, .agg K)] = some K := by
  have h : ∃ pl : Nat → Option (Nat × Nat), pl 0 = some (0, 8) ∧ ∀ ps, Tryd.prog.built 57 ps = Instr.fill pl (wcells zw8).toArray ps := ⟨(#[(0, 8)][·]?), rfl, fun ps => by kernel_rfl⟩
  obtain ⟨pl, h0, h1⟩ := h
  rw [h1, fill_oneN (by omega) pl h0 hK zw8_size]

/-- Numbers below twice the prime, brought below it. -/
theorem red_lt {x : Nat} (hx : x < 2 * P25) : lbs 8 (x % P25) = if bS x P25 8 = 0 then lbs 8 (x + 4294967296 ^ 8 - P25) else lbs 8 x := by
  have h1 : x < 4294967296 ^ 8 := Nat.lt_trans hx (by decide +kernel)
  rw [bS_eight h1 P25_lt]
  by_cases q : x < P25
  · rw [if_pos q, if_neg (by omega), Nat.mod_eq_of_lt q]
  · rw [if_neg q, if_pos rfl]
    have h2 : x % P25 = x - P25 := by
      rw [Nat.mod_eq_sub_mod (by omega), Nat.mod_eq_of_lt (by omega)]
    have e : x - P25 + 4294967296 ^ 8 = x + 4294967296 ^ 8 - P25 := by
      generalize P25 = p at *
      generalize 4294967296 ^ 8 = M at *
      omega
    rw [h2, ← lbs_add_big 8 (x - P25), e]

set_option maxHeartbeats 1000000 in
theorem reduced_calls {x : Nat} {w : World} (hx : x < 2 * P25) {tg : TypeId × Nat × Nat} (hG : Gp w tg) :
    Calls Tryd.prog 56 #[.agg (wcells (lbs 8 x)).toArray] w fun e w' => e = .returned (.agg (wcells (lbs 8 (x % P25))).toArray) ∧ Ext w w' := by
  have SUB : Hid (∀ W, Calls Tryd.prog 69 #[.agg (wcells (lbs 8 x)).toArray, .agg (wcells (lbs 8 P25)).toArray] W (RetSub x P25 W)) := fun W => subtracted_calls P25_lt
  have HR := Lib.hid (red_lt hx)
  unfold RetSub at SUB
  obtain ⟨r, hr⟩ : ∃ r, r = lbs 8 (x % P25) := ⟨_, rfl⟩
  rw [← hr] at HR ⊢
  have RL : r.length = 8 := by rw [hr]; exact lbs_len _ _
  clear hr
  have XL := lbs_len 8 x
  have PL := lbs_len 8 P25
  have DL := lbs_len 8 (x + 4294967296 ^ 8 - P25)
  have BB : Hid (bS x P25 8 ≤ 1) := bS_le _ _ 8
  have GP : Hid (∀ W, Ext w W → W.heap[0]? = some (.cells (wcells (lbs 8 P25)).toArray tg.1 tg.2)) := fun W e => hG.ext e
  clear hG hx
  generalize lbs 8 (x + 4294967296 ^ 8 - P25) = ds at *
  generalize bS x P25 8 = b at *
  generalize lbs 8 P25 = ps at *
  generalize lbs 8 x = xs at *
  have XS := wcells_size XL
  have PS := wcells_size PL
  have DS := wcells_size DL
  have D1 := wcells_one ds
  have X1 := wcells_one xs
  have hal := fld_alloc
  have hal2 := elem_alloc
  have bD : Hid (Tryd.prog.built 57 [(0, .agg (wcells ds).toArray)] = some (wcells ds).toArray) := elem_built DS
  have bX : Hid (Tryd.prog.built 57 [(0, .agg (wcells xs).toArray)] = some (wcells xs).toArray) := elem_built XS
  have ZL : zw8.length = 8 := rfl
  generalize zw8 = zs at *
  have ZS := wcells_size ZL
  have B0 : Hid (∀ s, Ext ((w.alloc (Obj.cells (wcells xs).toArray 55)).alloc (Obj.cells (wcells zs).toArray 57)) s → s.heap[w.heap.size]? = some (.cells (wcells xs).toArray 55 (0, 0)) ∧ s.heap[w.heap.size + 1]? = some (.cells (wcells zs).toArray 57 (0, 0)) ∧ Ext w s) := fun s e => ⟨(e.block _ (by rw [size_alloc, size_alloc]; omega)).trans (heap_alloc1 _ _ _), (e.block _ (by rw [size_alloc, size_alloc]; omega)).trans (heap_alloc2 _ _ _), (((Ext.refl w).alloc _).alloc _).trans e⟩
  go_enter Tryd.func56, Tryd.ntmps56
  go_upto_region 1 with fail
  have k0 := Lib.hid (B0.out _ (Ext.refl _)).1
  have kp := Lib.hid (GP.out _ (B0.out _ (Ext.refl _)).2.2)
  go_wp2_with (first
    | (refine wpList_load_row rfl 55 _ rfl w.heap.size rfl 55 (wcells xs).toArray (0, 0) _ k0.out rfl rfl (by rw [XS]; rfl) ?_; simp only [Act.put, List.setIfInBounds_toArray, List.set_cons_zero, List.set_cons_succ])
    | (refine wpList_load_row rfl 55 _ rfl 0 rfl tg.1 (wcells ps).toArray tg.2 _ kp.out rfl rfl (by rw [PS]; rfl) ?_; simp only [Act.put, List.setIfInBounds_toArray, List.set_cons_zero, List.set_cons_succ]))
  refine (SUB.out _).mono ?_
  rintro e v ⟨rfl, e1⟩
  have B1 : Hid (∀ s, Ext v s → s.heap[w.heap.size]? = some (.cells (wcells xs).toArray 55 (0, 0)) ∧ s.heap[w.heap.size + 1]? = some (.cells (wcells zs).toArray 57 (0, 0)) ∧ Ext w s) := fun s e => B0.out s (e1.trans e)
  clear B0 k0 kp GP SUB e1
  have a1 : Hid ((v.alloc (Obj.cells (wcells zs).toArray 55)).heap[v.heap.size]? = some (.cells (wcells zs).toArray 55 (0, 0))) := heap_alloc_new _ _
  have e5 : Ext v ((v.alloc (Obj.cells (wcells zs).toArray 55)).setRow v.heap.size (wcells ds).toArray) := below_setRow ((Ext.refl v).alloc _) (Nat.le_refl _) _
  go_upto_region 2 with (refine wpList_store_row rfl 55 _ _ rfl v.heap.size (wcells ds).toArray rfl rfl 55 _ a1.out (by rw [DS]; rfl) (by rw [DS, ZS]) D1 ?_; simp only [Act.put, List.setIfInBounds_toArray, List.set_cons_zero, List.set_cons_succ])
  obtain ⟨f, hf⟩ : ∃ f, f = v.heap.size := ⟨_, rfl⟩
  refine wp_gen (fun W => W.heap[w.heap.size]? = some (.cells (wcells xs).toArray 55 (0, 0)) ∧ W.heap[w.heap.size + 1]? = some (.cells (wcells zs).toArray 57 (0, 0)) ∧ Ext w W ∧ W.heap[f]? = some (.cells (wcells ds).toArray 55 (0, 0))) (by
    have p := B1.out _ e5
    exact ⟨p.1, p.2.1, p.2.2, by rw [hf]; exact setRow_heap _ _ _ _ _ _ a1.out⟩) ?_
  rw [← hf]
  clear hf a1 e5 B1
  rintro w2 ⟨k0, k1, x2, kd⟩
  replace k0 := Lib.hid k0
  replace k1 := Lib.hid k1
  replace x2 := Lib.hid x2
  replace kd := Lib.hid kd
  have BC : b = 0 ∨ b = 1 := by have := BB.out; omega
  rcases BC with rfl | rfl
  · obtain rfl : r = ds := by have := HR.out; rw [if_pos rfl] at this; exact this
    go_wp2_with (first
      | (refine wpList_load_row rfl 55 _ rfl f rfl 55 (wcells r).toArray (0, 0) _ kd.out rfl rfl (by rw [DS]; rfl) ?_; simp only [Act.put, List.setIfInBounds_toArray, List.set_cons_zero, List.set_cons_succ])
      | (refine wpList_build_as rfl _ _ rfl (wcells r).toArray (by simp only [List.map_toArray, List.map_cons, List.map_nil]; exact bD.out) ?_; simp only [Act.put, List.setIfInBounds_toArray, List.set_cons_zero, List.set_cons_succ])
      | (refine wpList_store_row rfl 57 _ _ rfl (w.heap.size + 1) (wcells r).toArray rfl rfl 57 _ k1.out (by rw [DS]; rfl) (by rw [DS, ZS]) D1 ?_; simp only [Act.put, List.setIfInBounds_toArray, List.set_cons_zero, List.set_cons_succ]))
    (try simp only [Exit.inBlock, Exit.then])
    refine bodyPost_ret (results_cell_row rfl _ _ (w.heap.size + 1) 57 (wcells r).toArray (0, 0) _ rfl (setRow_heap _ _ _ _ _ _ k1.out) rfl rfl (by rw [DS]; rfl)) rfl ?_
    exact ⟨rfl, below_setRow x2.out (by omega) _⟩
  · obtain rfl : r = xs := by have := HR.out; rw [if_neg (by omega)] at this; exact this
    go_wp2_with (first
      | (refine wpList_load_row rfl 55 _ rfl w.heap.size rfl 55 (wcells r).toArray (0, 0) _ k0.out rfl rfl (by rw [XS]; rfl) ?_; simp only [Act.put, List.setIfInBounds_toArray, List.set_cons_zero, List.set_cons_succ])
      | (refine wpList_build_as rfl _ _ rfl (wcells r).toArray (by simp only [List.map_toArray, List.map_cons, List.map_nil]; exact bX.out) ?_; simp only [Act.put, List.setIfInBounds_toArray, List.set_cons_zero, List.set_cons_succ])
      | (refine wpList_store_row rfl 57 _ _ rfl (w.heap.size + 1) (wcells r).toArray rfl rfl 57 _ k1.out (by rw [XS]; rfl) (by rw [XS, ZS]) X1 ?_; simp only [Act.put, List.setIfInBounds_toArray, List.set_cons_zero, List.set_cons_succ]))
    (try simp only [Exit.inBlock, Exit.then])
    refine bodyPost_ret (results_cell_row rfl _ _ (w.heap.size + 1) 57 (wcells r).toArray (0, 0) _ rfl (setRow_heap _ _ _ _ _ _ k1.out) rfl rfl (by rw [XS]; rfl)) rfl ?_
    exact ⟨rfl, below_setRow x2.out (by omega) _⟩
end Go.Proofs.YtadnmiedmcckkaaDoor
end

section
/-
  field.plus.
-/
namespace Go.Proofs.YtadnmiedmcckkaaDoor
open Go.ChangeShapes Go.WideShapes Go.ChangeAt Go.RowKit Go.Deep
set_option maxRecDepth 100000

/-- What is carried into the i-th limb where a small number is added. -/
def cP (x n : Nat) : Nat → Nat
  | 0 => n
  | i + 1 => (lb x i + cP x n i) / 4294967296
theorem cP_lt {x n : Nat} (hn : n < 4294967296) : ∀ i, cP x n i < 4294967296
  | 0 => hn
  | i + 1 => by have := cP_lt (x := x) hn i; have h1 := lb_lt x i; rw [cP]; omega
theorem plus_div (x n : Nat) : ∀ i, (x + n) / 4294967296 ^ i = x / 4294967296 ^ i + cP x n i
  | 0 => by simp [cP]
  | i + 1 => by
    rw [div_step, plus_div x n i, div_step x, cP]
    unfold lb
    generalize x / 4294967296 ^ i = X
    generalize cP x n i = c
    omega
theorem lb_plus (x n i : Nat) : lb (x + n) i = (lb x i + cP x n i) % 4294967296 := by
  unfold lb
  rw [plus_div]
  generalize x / 4294967296 ^ i = X
  generalize cP x n i = c
  omega
theorem cP_eight {x n : Nat} (hx : x < 4294967296 ^ 8) : cP x n 8 = (x + n) / 4294967296 ^ 8 := by
  rw [plus_div, Nat.div_eq_of_lt hx, Nat.zero_add]
/-- What a small sum hands back. -/
def RetPlus (x n : Nat) (w : World) (e : Ending) (w' : World) : Prop := e = .returned (.tuple #[.agg (wcells (lbs 8 (x + n))).toArray, .int .u64 (cP x n 8 : Int)]) ∧ Ext w w'

set_option maxHeartbeats 1000000 in
theorem plus_calls {x n : Nat} {w : World} (hn : n < 4294967296) :
    Calls Tryd.prog 71 #[.agg (wcells (lbs 8 x)).toArray, .int .u64 (n : Int)] w (RetPlus x n w) := by
  have hal := fld_alloc
  have ZL : zw8.length = 8 := rfl
  generalize zw8 = zs at *
  have XA : Hid (∀ (o1 o2 : Obj), ((w.alloc o1).alloc o2).heap[w.heap.size]? = some o1 ∧ ((w.alloc o1).alloc o2).heap[w.heap.size + 1]? = some o2) := fun o1 o2 => ⟨heap_alloc1 _ _ _, heap_alloc2 _ _ _⟩
  have B0 : Hid (∀ o1 o2, Ext w ((w.alloc o1).alloc o2)) := fun o1 o2 => ((Ext.refl w).alloc _).alloc _
  have XL := lbs_len 8 x
  have WX : Hid (∀ j, j < 8 → wd (lbs 8 x) j = lb x j) := fun j hj => wd_lbs hj
  obtain ⟨m, hm⟩ : ∃ m, m = x + n := ⟨_, rfl⟩
  have LS : Hid (∀ i, lb m i = (lb x i + cP x n i) % 4294967296) := fun i => by rw [hm]; exact lb_plus x n i
  unfold RetPlus
  rw [← hm]
  clear hm
  have RQ : Hid (∀ vs : List Nat, vs.length = 8 → (∀ j, j < 8 → wd vs j = lb m j) → vs = lbs 8 m) := fun vs h1 h2 => words_lbs h1 h2
  generalize lbs 8 m = rs at *
  generalize lbs 8 x = xs at *
  have BN : Hid (∀ i, cP x n (i + 1) = (lb x i + cP x n i) / 4294967296) := fun i => rfl
  have BLE : Hid (∀ i, cP x n i < 4294967296) := cP_lt hn
  obtain ⟨b8, hb8⟩ : ∃ b8, b8 = cP x n 8 := ⟨_, rfl⟩
  rw [← hb8]
  replace hb8 := Lib.hid hb8
  go_enter Tryd.func71, Tryd.ntmps71
  go_upto_region 2 with fail
  refine wp_gen (fun W => Wr W w.heap.size 55 xs ∧ Wr W (w.heap.size + 1) 55 zs ∧ Ext w W) ⟨(XA.out _ _).1, (XA.out _ _).2, B0.out _ _⟩ ?_
  clear XA B0
  rintro W0 ⟨wa, wc4, e0⟩
  replace wa := Lib.hid wa
  replace wc4 := Lib.hid wc4
  replace e0 := Lib.hid e0
  go_wp2_with fail
  go_loopw [5, 9] (fun cv iv wr => ∃ (k : Nat) (vs : List Nat), k ≤ 8 ∧ iv = .int .i64 (k : Int) ∧ cv = .int .u64 (cP x n k : Int) ∧ vs.length = 8 ∧ (∀ j, j < k → wd vs j = lb m j) ∧ Below (w.heap.size + 1) W0 wr ∧ Wr wr (w.heap.size + 1) 55 vs) (fun _ iv _ => 8 - (intOf iv).toNat)
  case atStart => exact ⟨0, zs, Nat.zero_le _, rfl, rfl, ZL, fun j hj => absurd hj (by omega), Below.refl _ _, wc4.out⟩
  case round =>
    obtain ⟨k, vs, hk, rfl, rfl, vl, hv, hB, hw⟩ := hrel
    clear wc4
    by_cases hlt : k < 8
    · have ka := wa.out.kept hB (by omega)
      have ca := ka.cell (i := k) (by rw [XL]; exact hlt)
      rw [WX.out k hlt] at ca
      have h1 := lb_lt x k
      have h3 := BLE.out k
      have hz := Lib.hid (LS.out k)
      have hc := Lib.hid (BN.out k)
      generalize lb x k = a at *
      generalize cP x n k = c at *
      obtain ⟨T, hT⟩ : ∃ T, T = a + c := ⟨_, rfl⟩
      obtain ⟨z, hzz⟩ : ∃ z, z = T % 4294967296 := ⟨_, rfl⟩
      obtain ⟨d, hd⟩ : ∃ d, d = T / 4294967296 := ⟨_, rfl⟩
      rw [← hT, ← hzz] at hz
      rw [← hT, ← hd] at hc
      have f1 : IntKind.u64.wrap (a : Int) = (a : Int) := by rw [IntKind.wrap_u64]; omega
      have f4 : (a : Int) + (c : Int) = (T : Int) := by omega
      have f4w : IntKind.u64.wrap (T : Int) = (T : Int) := by rw [IntKind.wrap_u64]; omega
      have f5 : IntKind.u32.wrap (T : Int) = (z : Int) := by rw [IntKind.wrap_u32]; omega
      have f5m : (T : Int) % 4294967296 = (z : Int) := by omega
      have f6 : (T : Int) / 4294967296 = (d : Int) := by omega
      have f6' : (T : Int) / 2 ^ 32 = (d : Int) := f6
      have Tlt : T < 18446744073709551616 := by omega
      have q1 : Op.shift .shr .u64 (T : Int) .u64 32 = pure (.int .u64 (d : Int)) := by
        have := shift_shr .u64 .u64 (T : Int) 32 (by omega) (by decide)
        rw [this]
        congr 2
      have ik : (k : Int) < 8 := by omega
      have ik0 : (0 : Int) ≤ (k : Int) := by omega
      have cv := hw.cell (i := k) (by omega)
      have fv := hw.frozen k
      replace hT := Lib.hid hT
      replace hzz := Lib.hid hzz
      replace hd := Lib.hid hd
      replace hv := Lib.hid hv
      replace hB := Lib.hid hB
      replace hw := Lib.hid hw
      clear h1 h3 ka
      go_wp2_with fail
      refine ⟨⟨k + 1, vs.set k z, by omega, by go_num, by rw [hc.out], by rw [List.length_set]; exact vl, fun j hj => ?_, Below.setCell hB.out (Nat.le_refl _) _, hw.out.set⟩, by simp [intOf]; omega⟩
      rw [wd_putN (by omega)]
      by_cases e : j = k
      · rw [if_pos e, e]; exact hz.out.symm
      · rw [if_neg e]; exact hv.out j (by omega)
    · obtain rfl : k = 8 := by omega
      have he := RQ.out vs vl hv
      subst he
      rw [← hb8.out]
      have RS := wcells_size vl
      have R1 := wcells_one vs
      have EE : Hid (Ext w wr) := Below.trans e0.out (hB.mono (by omega))
      replace hw := Lib.hid hw
      clear hv hB e0 wa
      go_wp2_with (first
        | (refine wpList_load_row rfl 55 _ rfl (w.heap.size + 1) rfl 55 (wcells vs).toArray (0, 0) _ hw.out rfl rfl (by rw [RS]; rfl) ?_; simp only [Act.put, List.setIfInBounds_toArray, List.set_cons_zero, List.set_cons_succ])
        | (refine wpList_store_row rfl 55 _ _ rfl (w.heap.size + 1) (wcells vs).toArray rfl rfl 55 _ hw.out (by rw [RS]; rfl) (by rw [RS]) R1 ?_; simp only [Act.put, List.setIfInBounds_toArray, List.set_cons_zero, List.set_cons_succ]))
      (try simp only [Exit.inBlock, Exit.then])
      refine bodyPost_ret (v := .tuple #[.agg (wcells vs).toArray, .int .u64 (b8 : Int)]) ?_ rfl ?_
      · exact results_row_tmp rfl _ _ (w.heap.size + 1) 55 (wcells vs).toArray (0, 0) _ _ rfl rfl (setRow_heap _ _ _ _ _ _ hw.out) rfl rfl (by rw [RS]; rfl)
      · exact ⟨rfl, below_setRow EE.out (by omega) _⟩
end Go.Proofs.YtadnmiedmcckkaaDoor
end
