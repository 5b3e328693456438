import Derived.Test.YtfhafednnnfmbaaDoorPkF
import Derived.Test.YtfhafednnnfmbaaDoorSeqZ
section
/-
  palfreyref06.Add.
-/
namespace Go.Proofs.YtfhafednnnfmbaaDoor
open Go.ChangeShapes Go.WideShapes Go.ChangeAt Go.RowKit Go.Deep
set_option maxRecDepth 100000

/-- Digits that are summed one by one. -/
def sumL (x y : Nat) : List Nat := (List.range 16).map fun i => dg x i + dg y i
theorem wd_sumL {x y i : Nat} (h : i < 16) : wd (sumL x y) i = dg x i + dg y i := by simp [wd, sumL, List.getD, h]
theorem sumL_dig (x y : Nat) : Dig (sumL x y) := ⟨by simp [sumL], fun i hi => by rw [wd_sumL hi]; have := dg_lt x i; have := dg_lt y i; omega⟩
theorem pV_sumL (x y : Nat) : ∀ i, i ≤ 16 → pV (sumL x y) i = pV (dgs 16 x) i + pV (dgs 16 y) i
  | 0, _ => rfl
  | i + 1, h => by rw [pV, pV, pV, pV_sumL x y i (by omega), wd_sumL (by omega), wd_dgs (by omega), wd_dgs (by omega), Nat.add_mul]; omega
theorem words_sumL {vs : List Nat} {x y : Nat} (hl : vs.length = 16) (h : ∀ j, j < 16 → wd vs j = dg x j + dg y j) : vs = sumL x y := by
  refine List.ext_getElem (by simp [sumL, hl]) fun i h1 h2 => ?_
  have := h i (by omega)
  simp [wd, List.getD, h1] at this
  simp [sumL, this]
def addN (x y : Nat) : Nat := cN (sumL x y)
theorem addN_lt (x y : Nat) : addN x y < B16 := cN_lt (sumL_dig x y)
theorem addN_mod {x y : Nat} (hx : x < B16) (hy : y < B16) : addN x y % P25 = (x + y) % P25 := by
  unfold addN
  rw [cN_mod, pV_sumL x y 16 (Nat.le_refl _), pV_dgs 16 x 16 (Nat.le_refl _), pV_dgs 16 y 16 (Nat.le_refl _), B16_eq, Nat.mod_eq_of_lt hx, Nat.mod_eq_of_lt hy]

set_option maxHeartbeats 4000000 in
theorem rfadd_calls {x y : Nat} {w : World} :
    Calls Tryd.prog 35 #[.agg (ucells (dgs 16 x)).toArray, .agg (ucells (dgs 16 y)).toArray] w fun e w' => e = .returned (.agg (ucells (dgs 16 (addN x y))).toArray) ∧ Ext w w' := by
  have CA : Hid (∀ W, Calls Tryd.prog 56 #[.agg (ucells (sumL x y)).toArray] W fun e w' => e = .returned (.agg (ucells (dgs 16 (addN x y))).toArray) ∧ Ext W w') := fun W => carried_calls (sumL_dig x y)
  have hal := num_alloc
  have ZL : zd16.length = 16 := rfl
  generalize zd16 = zs at *
  have ZS := ucells_size ZL
  have RL := dgs_len 16 (addN x y)
  have XL := dgs_len 16 x
  have YL := dgs_len 16 y
  have WX : Hid (∀ j, j < 16 → wd (dgs 16 x) j = dg x j) := fun j hj => wd_dgs hj
  have WY : Hid (∀ j, j < 16 → wd (dgs 16 y) j = dg y j) := fun j hj => wd_dgs hj
  generalize dgs 16 (addN x y) = rs at *
  generalize dgs 16 x = xs at *
  generalize dgs 16 y = ys at *
  have RS := ucells_size RL
  have R1 := ucells_one rs
  have WS : Hid (∀ vs : List Nat, vs.length = 16 → (∀ j, j < 16 → wd vs j = dg x j + dg y j) → vs = sumL x y) := fun vs h1 h2 => words_sumL h1 h2
  have SL : Hid ((sumL x y).length = 16) := (sumL_dig x y).1
  generalize sumL x y = ss at *
  have B0 : Hid (Ur (((w.alloc (Obj.cells (ucells xs).toArray 68)).alloc (Obj.cells (ucells ys).toArray 68)).alloc (Obj.cells (ucells zs).toArray 68)) w.heap.size 68 xs ∧ Ur (((w.alloc (Obj.cells (ucells xs).toArray 68)).alloc (Obj.cells (ucells ys).toArray 68)).alloc (Obj.cells (ucells zs).toArray 68)) (w.heap.size + 1) 68 ys ∧ Ur (((w.alloc (Obj.cells (ucells xs).toArray 68)).alloc (Obj.cells (ucells ys).toArray 68)).alloc (Obj.cells (ucells zs).toArray 68)) (w.heap.size + 1 + 1) 68 zs ∧ Ext w (((w.alloc (Obj.cells (ucells xs).toArray 68)).alloc (Obj.cells (ucells ys).toArray 68)).alloc (Obj.cells (ucells zs).toArray 68))) := ⟨heap_alloc30 _ _ _ _, heap_alloc31 _ _ _ _, heap_alloc32 _ _ _ _, (((Ext.refl w).alloc _).alloc _).alloc _⟩
  go_enter Tryd.func35, Tryd.ntmps35
  go_upto_region 1 with fail
  refine wp_gen (fun W => Ur W w.heap.size 68 xs ∧ Ur W (w.heap.size + 1) 68 ys ∧ Ur W (w.heap.size + 1 + 1) 68 zs ∧ Ext w W) B0.out ?_
  clear B0
  rintro W0 ⟨k0, k1, k2, e0⟩
  replace k0 := Lib.hid k0
  replace k1 := Lib.hid k1
  replace k2 := Lib.hid k2
  replace e0 := Lib.hid e0
  go_wp2_with fail
  go_loopw [5] (fun jv wr => ∃ (i : Nat) (us : List Nat), i ≤ 16 ∧ jv = .int .i64 (i : Int) ∧ us.length = 16 ∧ (∀ j, j < i → wd us j = dg x j + dg y j) ∧ (∀ j, i ≤ j → j < 16 → wd us j = dg x j) ∧ Ur wr w.heap.size 68 us ∧ Ur wr (w.heap.size + 1) 68 ys ∧ Ur wr (w.heap.size + 1 + 1) 68 zs ∧ Ext w wr) (fun jv _ => 16 - (intOf jv).toNat)
  case atStart => exact ⟨0, xs, Nat.zero_le _, rfl, XL, fun j hj => absurd hj (by omega), fun j _ hj => WX.out j hj, k0.out, k1.out, k2.out, e0.out⟩
  case round =>
    clear k0 k1 k2 e0
    obtain ⟨i, us, hi, rfl, ul, ud, ur, k0, k1, k2, e0⟩ := hrel
    by_cases hlt2 : i < 16
    · have ii : (i : Int) < 16 := by omega
      have ii0 : (0 : Int) ≤ (i : Int) := by omega
      have KC : Hid (∀ s, Ext wr s → s.cell? ⟨w.heap.size, i, none⟩ = some (.int .u64 (dg x i : Int)) ∧ s.cell? ⟨w.heap.size + 1, i, none⟩ = some (.int .u64 (dg y i : Int))) := fun s e => by
        have h1 := (k0.kept e k0.lt).cell (i := i) (by omega)
        have h2 := (k1.kept e k1.lt).cell (i := i) (by omega)
        rw [ur i (Nat.le_refl _) hlt2] at h1
        rw [WY.out i hlt2] at h2
        exact And.intro h1 h2
      have cv := k0.cell (i := i) (by omega)
      have fv := k0.frozen i
      rw [ur i (Nat.le_refl _) hlt2] at cv
      have b1 := dg_lt x i
      have b2 := dg_lt y i
      have hz : Hid (∀ z, z = dg x i + dg y i → z = dg x i + dg y i) := fun _ h => h
      obtain ⟨a, ha⟩ : ∃ a, a = dg x i := ⟨_, rfl⟩
      obtain ⟨b, hb⟩ : ∃ b, b = dg y i := ⟨_, rfl⟩
      obtain ⟨T, hT⟩ : ∃ T, T = a + b := ⟨_, rfl⟩
      rw [← ha] at KC b1 cv
      rw [← hb] at KC b2
      have hTz : Hid (T = dg x i + dg y i) := by unfold Hid; rw [hT, ha, hb]
      clear hz
      have f4 : (a : Int) + (b : Int) = (T : Int) := by omega
      have f4w : IntKind.u64.wrap (T : Int) = (T : Int) := by rw [IntKind.wrap_u64]; omega
      have il : Hid (i < us.length) := by unfold Hid; omega
      have gne : Hid (¬ w.heap.size + 1 = w.heap.size ∧ ¬ w.heap.size + 1 + 1 = w.heap.size) := by unfold Hid; omega
      replace ha := Lib.hid ha
      replace hb := Lib.hid hb
      replace hT := Lib.hid hT
      replace ud := Lib.hid ud
      replace ur := Lib.hid ur
      have d0 : Ext wr wr.drew := (Ext.refl _).drew
      have m0 := Lib.hid (k0.kept d0 k0.lt)
      have m1 := Lib.hid (k1.kept d0 k1.lt)
      have m2 := Lib.hid (k2.kept d0 k2.lt)
      have m3 := Lib.hid (e0.trans d0)
      clear k0 k1 k2 e0 d0 b1 b2 WX WY WS CA
      go_wp2_with fail
      refine wp_region_seqZ (R := Ext) Ext.refl (fun _ _ _ => Ext.trans) 9 [0, 1, 2, 3, 4, 5, 6, 7, 8, 9] [9] [(0, 11, 64), (0, 12, 64), (2, 13, 4104), (4, 14, 8192), (0, 15, 64), (16, 16, 32784), (32, 17, 65536), (72, 18, 147456), (255, 19, 2056), (511, 0, 786432)] (by kernel_rfl) (by kernel_rfl) (by kernel_rfl) rfl (by kernel_rfl) (by kernel_rfl) (by kernel_rfl) (fun _ _ d _ _ h => by cases d <;> exact h) ?_
      repeat (refine seqZ_read _ (fun w' e => KC.out w' ((Ext.refl _).drew.trans e)) _ (v := ?_) rfl rfl (by rfl) ?_ ?_; rotate_left; (· intro w' hF; go_simp; (try with_reducible rfl)); simp only [Act.put, List.setIfInBounds_toArray, List.set_cons_zero, List.set_cons_succ])
      refine seqZ_do _ rfl rfl (by rfl) (fun K1 hK1 => ?_)
      go_simp
      refine hK1.out _ _ (.inl rfl) ?_
      clear hK1 K1
      refine seqZ_done ?_
      go_wp2_with fail
      refine ⟨⟨i + 1, us.set i T, by omega, by go_num, by rw [List.length_set]; exact ul, fun j hj => ?_, fun j hj hj2 => ?_, m0.out.set, (Below.heap_setCell _ _ _ _ gne.out.1).trans m1.out, (Below.heap_setCell _ _ _ _ gne.out.2).trans m2.out, Ext.setCell m3.out (Nat.le_refl _) _⟩, by simp [intOf]; omega⟩
      · rw [wd_set il.out]
        by_cases e : j = i
        · rw [if_pos e, e]; exact hTz.out
        · rw [if_neg e]; exact ud.out j (by omega)
      · rw [wd_set il.out, if_neg (by omega)]; exact ur.out j (by omega) hj2
    · obtain rfl : i = 16 := by omega
      have hu := WS.out us ul ud
      rw [hu] at k0
      have SS := ucells_size SL.out
      replace k0 := Lib.hid k0
      replace k1 := Lib.hid k1
      replace k2 := Lib.hid k2
      replace e0 := Lib.hid e0
      clear ud ur hu ul WX WY WS us SL
      go_wp2_with (refine wpList_load_row rfl 68 _ rfl w.heap.size rfl 68 (ucells ss).toArray (0, 0) _ k0.out rfl rfl (by rw [SS]; rfl) ?_; simp only [Act.put, List.setIfInBounds_toArray, List.set_cons_zero, List.set_cons_succ])
      refine (CA.out _).mono ?_
      rintro e w2 ⟨rfl, e1⟩
      have r2 := Lib.hid (k2.out.kept e1 k2.out.lt)
      have rx := Lib.hid (e0.out.trans e1)
      clear k0 k1 k2 e0 e1 CA
      go_wp2_with (refine wpList_store_row rfl 68 _ _ rfl (w.heap.size + 1 + 1) (ucells rs).toArray rfl rfl 68 _ r2.out (by rw [RS]; rfl) (by rw [RS, ZS]) R1 ?_; simp only [Act.put, List.setIfInBounds_toArray, List.set_cons_zero, List.set_cons_succ])
      (try simp only [Exit.inBlock, Exit.then])
      refine bodyPost_ret (results_cell_row rfl _ _ (w.heap.size + 1 + 1) 68 (ucells rs).toArray (0, 0) _ rfl (setRow_heap _ _ _ _ _ _ r2.out) rfl rfl (by rw [RS]; rfl)) rfl ?_
      exact ⟨rfl, below_setRow rx.out (by omega) _⟩
end Go.Proofs.YtfhafednnnfmbaaDoor
end

section
/-
  palfreyref06.Sub.
-/
namespace Go.Proofs.YtfhafednnnfmbaaDoor
open Go.ChangeShapes Go.WideShapes Go.ChangeAt Go.RowKit Go.Deep
set_option maxRecDepth 100000

/-- The digits of four times the prime. -/
def four6 (i : Nat) : Nat := if i = 0 then 130996 else 131070
theorem four6_pos (i : Nat) : 65536 ≤ four6 i ∧ four6 i ≤ 131070 := by unfold four6; split <;> omega
/-- Digits that are taken off one by one, with four times the prime more. -/
def difL (x y : Nat) : List Nat := (List.range 16).map fun i => dg x i + four6 i - dg y i
theorem wd_difL {x y i : Nat} (h : i < 16) : wd (difL x y) i = dg x i + four6 i - dg y i := by simp [wd, difL, List.getD, h]
theorem difL_dig (x y : Nat) : Dig (difL x y) := ⟨by simp [difL], fun i hi => by rw [wd_difL hi]; have := dg_lt x i; have := four6_pos i; omega⟩
def fourL : List Nat := (List.range 16).map four6
theorem wd_fourL {i : Nat} (h : i < 16) : wd fourL i = four6 i := by simp [wd, fourL, List.getD, h]
theorem pV_difL (x y : Nat) : ∀ i, i ≤ 16 → pV (difL x y) i + pV (dgs 16 y) i = pV (dgs 16 x) i + pV fourL i
  | 0, _ => rfl
  | i + 1, h => by
    have ih := pV_difL x y i (by omega)
    have h1 := dg_lt y i
    have h2 := four6_pos i
    rw [pV, pV, pV, pV, wd_difL (by omega), wd_dgs (by omega), wd_dgs (by omega), wd_fourL (by omega)]
    have : (dg x i + four6 i - dg y i) * 65536 ^ i + dg y i * 65536 ^ i = dg x i * 65536 ^ i + four6 i * 65536 ^ i := by
      rw [← Nat.add_mul, ← Nat.add_mul]
      congr 1
      omega
    omega
theorem fourL_val : pV fourL 16 = 4 * P25 := by decide +kernel
theorem words_difL {vs : List Nat} {x y : Nat} (hl : vs.length = 16) (h : ∀ j, j < 16 → wd vs j = dg x j + four6 j - dg y j) : vs = difL x y := by
  refine List.ext_getElem (by simp [difL, hl]) fun i h1 h2 => ?_
  have := h i (by omega)
  simp [wd, List.getD, h1] at this
  simp [difL, this]
def subN (x y : Nat) : Nat := cN (difL x y)
theorem subN_lt (x y : Nat) : subN x y < B16 := cN_lt (difL_dig x y)
theorem subN_val {x y : Nat} (hx : x < B16) (hy : y < B16) : pV (difL x y) 16 + y = x + 4 * P25 := by
  have := pV_difL x y 16 (Nat.le_refl _)
  rw [pV_dgs 16 x 16 (Nat.le_refl _), pV_dgs 16 y 16 (Nat.le_refl _), B16_eq, Nat.mod_eq_of_lt hx, Nat.mod_eq_of_lt hy, fourL_val] at this
  exact this
theorem subN_mod {x y : Nat} (hx : x < B16) (hy : y < B16) : subN x y % P25 = (x % P25 + (P25 - y % P25)) % P25 := by
  unfold subN
  rw [cN_mod]
  have h := subN_val hx hy
  generalize pV (difL x y) 16 = D at *
  have hp : 0 < P25 := by decide +kernel
  have h1 := Nat.mod_lt y hp
  have h2 := Nat.div_add_mod y P25
  generalize hq : y / P25 = q at *
  generalize y % P25 = r at *
  have e : D + P25 * q = x + (P25 - r) + P25 * 3 := by omega
  have e2 : (D + P25 * q) % P25 = D % P25 := Nat.add_mul_mod_self_left _ _ _
  rw [← e2, e, Nat.add_mul_mod_self_left, Nat.mod_add_mod]

set_option maxHeartbeats 4000000 in
theorem rfsub_calls {x y : Nat} {w : World} :
    Calls Tryd.prog 36 #[.agg (ucells (dgs 16 x)).toArray, .agg (ucells (dgs 16 y)).toArray] w fun e w' => e = .returned (.agg (ucells (dgs 16 (subN x y))).toArray) ∧ Ext w w' := by
  have CA : Hid (∀ W, Calls Tryd.prog 56 #[.agg (ucells (difL x y)).toArray] W fun e w' => e = .returned (.agg (ucells (dgs 16 (subN x y))).toArray) ∧ Ext W w') := fun W => carried_calls (difL_dig x y)
  have hal := num_alloc
  have ZL : zd16.length = 16 := rfl
  generalize zd16 = zs at *
  have ZS := ucells_size ZL
  have RL := dgs_len 16 (subN x y)
  have XL := dgs_len 16 x
  have YL := dgs_len 16 y
  have WX : Hid (∀ j, j < 16 → wd (dgs 16 x) j = dg x j) := fun j hj => wd_dgs hj
  have WY : Hid (∀ j, j < 16 → wd (dgs 16 y) j = dg y j) := fun j hj => wd_dgs hj
  generalize dgs 16 (subN x y) = rs at *
  generalize dgs 16 x = xs at *
  generalize dgs 16 y = ys at *
  have RS := ucells_size RL
  have R1 := ucells_one rs
  have WS : Hid (∀ vs : List Nat, vs.length = 16 → (∀ j, j < 16 → wd vs j = dg x j + four6 j - dg y j) → vs = difL x y) := fun vs h1 h2 => words_difL h1 h2
  have SL : Hid ((difL x y).length = 16) := (difL_dig x y).1
  generalize difL x y = ss at *
  have B0 : Hid (Ur (((w.alloc (Obj.cells (ucells xs).toArray 68)).alloc (Obj.cells (ucells ys).toArray 68)).alloc (Obj.cells (ucells zs).toArray 68)) w.heap.size 68 xs ∧ Ur (((w.alloc (Obj.cells (ucells xs).toArray 68)).alloc (Obj.cells (ucells ys).toArray 68)).alloc (Obj.cells (ucells zs).toArray 68)) (w.heap.size + 1) 68 ys ∧ Ur (((w.alloc (Obj.cells (ucells xs).toArray 68)).alloc (Obj.cells (ucells ys).toArray 68)).alloc (Obj.cells (ucells zs).toArray 68)) (w.heap.size + 1 + 1) 68 zs ∧ Ext w (((w.alloc (Obj.cells (ucells xs).toArray 68)).alloc (Obj.cells (ucells ys).toArray 68)).alloc (Obj.cells (ucells zs).toArray 68))) := ⟨heap_alloc30 _ _ _ _, heap_alloc31 _ _ _ _, heap_alloc32 _ _ _ _, (((Ext.refl w).alloc _).alloc _).alloc _⟩
  go_enter Tryd.func36, Tryd.ntmps36
  go_upto_region 1 with fail
  refine wp_gen (fun W => Ur W w.heap.size 68 xs ∧ Ur W (w.heap.size + 1) 68 ys ∧ Ur W (w.heap.size + 1 + 1) 68 zs ∧ Ext w W) B0.out ?_
  clear B0
  rintro W0 ⟨k0, k1, k2, e0⟩
  replace k0 := Lib.hid k0
  replace k1 := Lib.hid k1
  replace k2 := Lib.hid k2
  replace e0 := Lib.hid e0
  go_wp2_with fail
  go_loopw [5] (fun jv wr => ∃ (i : Nat) (us : List Nat), i ≤ 16 ∧ jv = .int .i64 (i : Int) ∧ us.length = 16 ∧ (∀ j, j < i → wd us j = dg x j + four6 j - dg y j) ∧ (∀ j, i ≤ j → j < 16 → wd us j = dg x j) ∧ Ur wr w.heap.size 68 us ∧ Ur wr (w.heap.size + 1) 68 ys ∧ Ur wr (w.heap.size + 1 + 1) 68 zs ∧ Ext w wr) (fun jv _ => 16 - (intOf jv).toNat)
  case atStart => exact ⟨0, xs, Nat.zero_le _, rfl, XL, fun j hj => absurd hj (by omega), fun j _ hj => WX.out j hj, k0.out, k1.out, k2.out, e0.out⟩
  case round =>
    clear k0 k1 k2 e0
    obtain ⟨i, us, hi, rfl, ul, ud, ur, k0, k1, k2, e0⟩ := hrel
    by_cases hlt2 : i < 16
    · have ii : (i : Int) < 16 := by omega
      have ii0 : (0 : Int) ≤ (i : Int) := by omega
      have KC : Hid (∀ s, Ext wr s → s.cell? ⟨w.heap.size, i, none⟩ = some (.int .u64 (dg x i : Int)) ∧ s.cell? ⟨w.heap.size + 1, i, none⟩ = some (.int .u64 (dg y i : Int))) := fun s e => by
        have h1 := (k0.kept e k0.lt).cell (i := i) (by omega)
        have h2 := (k1.kept e k1.lt).cell (i := i) (by omega)
        rw [ur i (Nat.le_refl _) hlt2] at h1
        rw [WY.out i hlt2] at h2
        exact And.intro h1 h2
      have cv := k0.cell (i := i) (by omega)
      have fv := k0.frozen i
      rw [ur i (Nat.le_refl _) hlt2] at cv
      have b1 := dg_lt x i
      have b2 := dg_lt y i
      obtain ⟨a, ha⟩ : ∃ a, a = dg x i := ⟨_, rfl⟩
      obtain ⟨b, hb⟩ : ∃ b, b = dg y i := ⟨_, rfl⟩
      obtain ⟨f, hf⟩ : ∃ f, f = four6 i := ⟨_, rfl⟩
      have b3 := four6_pos i
      obtain ⟨S, hS⟩ : ∃ S, S = a + f := ⟨_, rfl⟩
      obtain ⟨T, hT⟩ : ∃ T, T = S - b := ⟨_, rfl⟩
      rw [← ha] at KC b1 cv
      rw [← hb] at KC b2
      rw [← hf] at b3
      have hTz : Hid (T = dg x i + four6 i - dg y i) := by unfold Hid; rw [hT, hS, ha, hb, hf]
      have CASE : Hid ((((i : Int) == 0) = true ∧ (a : Int) + 130996 = (S : Int)) ∨ (((i : Int) == 0) = false ∧ (a : Int) + 131070 = (S : Int))) := by
        unfold Hid
        by_cases q : i = 0
        · have h7 : f = 130996 := by rw [hf, four6, if_pos q]
          exact .inl (And.intro (by simpa using q) (by omega))
        · have h7 : f = 131070 := by rw [hf, four6, if_neg q]
          exact .inr (And.intro (by simpa using q) (by omega))
      have f3w : IntKind.u64.wrap (S : Int) = (S : Int) := by rw [IntKind.wrap_u64]; omega
      have f4 : (S : Int) - (b : Int) = (T : Int) := by omega
      have f4w : IntKind.u64.wrap (T : Int) = (T : Int) := by rw [IntKind.wrap_u64]; omega
      replace hf := Lib.hid hf
      replace hS := Lib.hid hS
      have il : Hid (i < us.length) := by unfold Hid; omega
      have gne : Hid (¬ w.heap.size + 1 = w.heap.size ∧ ¬ w.heap.size + 1 + 1 = w.heap.size) := by unfold Hid; omega
      replace ha := Lib.hid ha
      replace hb := Lib.hid hb
      replace hT := Lib.hid hT
      replace ud := Lib.hid ud
      replace ur := Lib.hid ur
      have d0 : Ext wr wr.drew := (Ext.refl _).drew
      have m0 := Lib.hid (k0.kept d0 k0.lt)
      have m1 := Lib.hid (k1.kept d0 k1.lt)
      have m2 := Lib.hid (k2.kept d0 k2.lt)
      have m3 := Lib.hid (e0.trans d0)
      clear k0 k1 k2 e0 d0 b1 b2 WX WY WS CA
      rcases CASE.out with ⟨n0b, f3⟩ | ⟨n0b, f3⟩
      · clear CASE
        go_wp2_with fail
        refine wp_region_seqZ (R := Ext) Ext.refl (fun _ _ _ => Ext.trans) 11 [0, 1, 2, 3, 4, 5, 6, 7, 8, 9, 10, 11] [11] [(0, 14, 64), (0, 15, 64), (2, 16, 32776), (4, 17, 65536), (0, 18, 128), (24, 19, 393216), (0, 20, 64), (64, 21, 1048592), (128, 22, 2097152), (288, 23, 4718592), (1023, 24, 16392), (2047, 0, 25165824)] (by kernel_rfl) (by kernel_rfl) (by kernel_rfl) rfl (by kernel_rfl) (by kernel_rfl) (by kernel_rfl) (fun _ _ d _ _ h => by cases d <;> exact h) ?_
        repeat (refine seqZ_read _ (fun w' e => KC.out w' ((Ext.refl _).drew.trans e)) _ (v := ?_) rfl rfl (by rfl) ?_ ?_; rotate_left; (· intro w' hF; go_simp; (try with_reducible rfl)); simp only [Act.put, List.setIfInBounds_toArray, List.set_cons_zero, List.set_cons_succ])
        refine seqZ_do _ rfl rfl (by rfl) (fun K1 hK1 => ?_)
        go_simp
        refine hK1.out _ _ (.inl rfl) ?_
        clear hK1 K1
        refine seqZ_done ?_
        go_wp2_with fail
        refine ⟨⟨i + 1, us.set i T, by omega, by go_num, by rw [List.length_set]; exact ul, fun j hj => ?_, fun j hj hj2 => ?_, m0.out.set, (Below.heap_setCell _ _ _ _ gne.out.1).trans m1.out, (Below.heap_setCell _ _ _ _ gne.out.2).trans m2.out, Ext.setCell m3.out (Nat.le_refl _) _⟩, by simp [intOf]; omega⟩
        · rw [wd_set il.out]
          by_cases e : j = i
          · rw [if_pos e, e]; exact hTz.out
          · rw [if_neg e]; exact ud.out j (by omega)
        · rw [wd_set il.out, if_neg (by omega)]; exact ur.out j (by omega) hj2
      · clear CASE
        go_wp2_with fail
        refine wp_region_seqZ (R := Ext) Ext.refl (fun _ _ _ => Ext.trans) 11 [0, 1, 2, 3, 4, 5, 6, 7, 8, 9, 10, 11] [11] [(0, 14, 64), (0, 15, 64), (2, 16, 32776), (4, 17, 65536), (0, 18, 128), (24, 19, 393216), (0, 20, 64), (64, 21, 1048592), (128, 22, 2097152), (288, 23, 4718592), (1023, 24, 16392), (2047, 0, 25165824)] (by kernel_rfl) (by kernel_rfl) (by kernel_rfl) rfl (by kernel_rfl) (by kernel_rfl) (by kernel_rfl) (fun _ _ d _ _ h => by cases d <;> exact h) ?_
        repeat (refine seqZ_read _ (fun w' e => KC.out w' ((Ext.refl _).drew.trans e)) _ (v := ?_) rfl rfl (by rfl) ?_ ?_; rotate_left; (· intro w' hF; go_simp; (try with_reducible rfl)); simp only [Act.put, List.setIfInBounds_toArray, List.set_cons_zero, List.set_cons_succ])
        refine seqZ_do _ rfl rfl (by rfl) (fun K1 hK1 => ?_)
        go_simp
        refine hK1.out _ _ (.inl rfl) ?_
        clear hK1 K1
        refine seqZ_done ?_
        go_wp2_with fail
        refine ⟨⟨i + 1, us.set i T, by omega, by go_num, by rw [List.length_set]; exact ul, fun j hj => ?_, fun j hj hj2 => ?_, m0.out.set, (Below.heap_setCell _ _ _ _ gne.out.1).trans m1.out, (Below.heap_setCell _ _ _ _ gne.out.2).trans m2.out, Ext.setCell m3.out (Nat.le_refl _) _⟩, by simp [intOf]; omega⟩
        · rw [wd_set il.out]
          by_cases e : j = i
          · rw [if_pos e, e]; exact hTz.out
          · rw [if_neg e]; exact ud.out j (by omega)
        · rw [wd_set il.out, if_neg (by omega)]; exact ur.out j (by omega) hj2
    · obtain rfl : i = 16 := by omega
      have hu := WS.out us ul ud
      rw [hu] at k0
      have SS := ucells_size SL.out
      replace k0 := Lib.hid k0
      replace k1 := Lib.hid k1
      replace k2 := Lib.hid k2
      replace e0 := Lib.hid e0
      clear ud ur hu ul WX WY WS us SL
      go_wp2_with (refine wpList_load_row rfl 68 _ rfl w.heap.size rfl 68 (ucells ss).toArray (0, 0) _ k0.out rfl rfl (by rw [SS]; rfl) ?_; simp only [Act.put, List.setIfInBounds_toArray, List.set_cons_zero, List.set_cons_succ])
      refine (CA.out _).mono ?_
      rintro e w2 ⟨rfl, e1⟩
      have r2 := Lib.hid (k2.out.kept e1 k2.out.lt)
      have rx := Lib.hid (e0.out.trans e1)
      clear k0 k1 k2 e0 e1 CA
      go_wp2_with (refine wpList_store_row rfl 68 _ _ rfl (w.heap.size + 1 + 1) (ucells rs).toArray rfl rfl 68 _ r2.out (by rw [RS]; rfl) (by rw [RS, ZS]) R1 ?_; simp only [Act.put, List.setIfInBounds_toArray, List.set_cons_zero, List.set_cons_succ])
      (try simp only [Exit.inBlock, Exit.then])
      refine bodyPost_ret (results_cell_row rfl _ _ (w.heap.size + 1 + 1) 68 (ucells rs).toArray (0, 0) _ rfl (setRow_heap _ _ _ _ _ _ r2.out) rfl rfl (by rw [RS]; rfl)) rfl ?_
      exact ⟨rfl, below_setRow rx.out (by omega) _⟩
end Go.Proofs.YtfhafednnnfmbaaDoor
end
