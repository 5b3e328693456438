import Derived.Test.YtfhafednnnfmbaaDoorPkF
import Derived.Test.YtfhafednnnfmbaaDoorSeqZ
/-
  palfreyref06.Mul.
-/
namespace Go.Proofs.YtfhafednnnfmbaaDoor
open Go.ChangeShapes Go.WideShapes Go.ChangeAt Go.RowKit Go.Deep
set_option maxRecDepth 100000

theorem pV_set {ds : List Nat} {q z : Nat} (h : q < ds.length) : ∀ n, q < n → pV (ds.set q z) n + wd ds q * 65536 ^ q = pV ds n + z * 65536 ^ q
  | 0, hn => absurd hn (by omega)
  | n + 1, hn => by
    by_cases e : q = n
    · subst e
      have hp : ∀ i, i ≤ q → pV (ds.set q z) i = pV ds i := by
        intro i
        induction i with
        | zero => intro _; rfl
        | succ i ih => intro hi; rw [pV, pV, ih (by omega), wd_set h, if_neg (by omega)]
      rw [pV, pV, hp q (Nat.le_refl _), wd_set h, if_pos rfl]
      omega
    · have ih := pV_set (z := z) h n (by omega)
      rw [pV, pV, wd_set h, if_neg (by omega)]
      omega
theorem mod_step16 (y l : Nat) : y % 65536 ^ (l + 1) = y % 65536 ^ l + dg y l * 65536 ^ l := by
  rw [Nat.pow_succ, Nat.mod_mul, dg, Nat.mul_comm (65536 ^ l)]
/-- One product of digits more. -/
theorem mul_step {us : List Nat} {x y k l u T : Nat} (hl : k + l < us.length) (hl2 : k + l < 32) (hu : wd us (k + l) = u) (hT : T = u + dg x k * dg y l)
    (h : pV us 32 = x % 65536 ^ k * y + dg x k * (y % 65536 ^ l) * 65536 ^ k) : pV (us.set (k + l) T) 32 = x % 65536 ^ k * y + dg x k * (y % 65536 ^ (l + 1)) * 65536 ^ k := by
  subst hT
  have h1 := pV_set (z := u + dg x k * dg y l) hl 32 hl2
  rw [hu, h, Nat.add_mul] at h1
  rw [mod_step16, Nat.mul_add, Nat.add_mul, show dg x k * (dg y l * 65536 ^ l) * 65536 ^ k = dg x k * dg y l * 65536 ^ (k + l) by rw [Nat.pow_add, ← Nat.mul_assoc, Nat.mul_assoc (dg x k * dg y l), Nat.mul_comm (65536 ^ l)]]
  omega
theorem mul_row {us : List Nat} {x y k : Nat} (hy : y < 65536 ^ 16) (h : pV us 32 = x % 65536 ^ k * y + dg x k * (y % 65536 ^ 16) * 65536 ^ k) : pV us 32 = x % 65536 ^ (k + 1) * y := by
  rw [h, Nat.mod_eq_of_lt hy, mod_step16, Nat.add_mul]
  congr 1
  rw [Nat.mul_assoc, Nat.mul_comm y, ← Nat.mul_assoc]
/-- The upper digits come back 38 times. -/
def upL (us : List Nat) : List Nat := (List.range 16).map fun i => wd us i + 38 * wd us (i + 16)
theorem wd_upL {us : List Nat} {i : Nat} (h : i < 16) : wd (upL us) i = wd us i + 38 * wd us (i + 16) := by simp [wd, upL, List.getD, h]
theorem words_upL {vs us : List Nat} (hl : vs.length = 16) (h : ∀ j, j < 16 → wd vs j = wd us j + 38 * wd us (j + 16)) : vs = upL us := by
  refine List.ext_getElem (by simp [upL, hl]) fun i h1 h2 => ?_
  have := h i (by omega)
  simp only [wd, List.getD, h1, List.getElem?_eq_getElem, Option.getD_some] at this
  simp [upL, wd, List.getD, this]
theorem upL_dig {us : List Nat} (h : ∀ j, wd us j ≤ 68717379600) : Dig (upL us) := ⟨by simp [upL], fun i hi => by
  rw [wd_upL hi]
  have := h i
  have := h (i + 16)
  omega⟩
theorem upL_val (us : List Nat) {M : Nat} (hM : ∀ i, 65536 ^ (16 + i) = M * 65536 ^ i) : ∀ i, i ≤ 16 → ∃ H, pV us (16 + i) = pV us 16 + M * H ∧ pV (upL us) i = pV us i + 38 * H
  | 0, _ => ⟨0, by rw [Nat.mul_zero, Nat.add_zero, Nat.add_zero], by rw [pV, pV]⟩
  | i + 1, hi => by
    obtain ⟨H, h1, h2⟩ := upL_val us hM i (by omega)
    have hp := hM i
    refine ⟨H + wd us (i + 16) * 65536 ^ i, ?_, ?_⟩
    · show pV us (16 + i) + wd us (16 + i) * 65536 ^ (16 + i) = _
      rw [h1, hp, Nat.mul_add, Nat.add_assoc, Nat.add_comm 16 i, Nat.mul_left_comm]
    · rw [pV, pV, h2, wd_upL (by omega), Nat.add_mul, Nat.mul_add, Nat.mul_assoc]
      omega
theorem upL_mod (us : List Nat) : pV (upL us) 16 % P25 = pV us 32 % P25 := by
  have hb : (65536 : Nat) ^ 16 = 2 * P25 + 38 := by decide +kernel
  obtain ⟨H, h1, h2⟩ := upL_val us (M := 2 * P25 + 38) (fun i => by rw [Nat.pow_add, hb]) 16 (Nat.le_refl _)
  rw [show pV us 32 = pV us 16 + (2 * P25 + 38) * H from h1, h2, Nat.add_mul, show pV us 16 + (2 * P25 * H + 38 * H) = pV us 16 + 38 * H + P25 * (2 * H) by
    rw [← Nat.mul_assoc, Nat.mul_comm P25 2]; omega, Nat.add_mul_mod_self_left]

set_option maxHeartbeats 8000000 in
theorem rfmul_calls {x y : Nat} {w : World} (hx : x < B16) (hy : y < B16) :
    Calls Tryd.prog 37 #[.agg (ucells (dgs 16 x)).toArray, .agg (ucells (dgs 16 y)).toArray] w fun e w' => ∃ z, z < B16 ∧ z % P25 = x * y % P25 ∧ e = .returned (.agg (ucells (dgs 16 z)).toArray) ∧ Ext w w' := by
  have hx' : x < 65536 ^ 16 := by rw [B16_eq]; exact hx
  have hy' : y < 65536 ^ 16 := by rw [B16_eq]; exact hy
  have hal := num_alloc
  have hal3 : ∀ w, (zeroValue 96).run Tryd.prog w = .ok (.agg (ucells (List.replicate 32 0)).toArray) w := fun w => by kernel_rfl
  have ZL : zd16.length = 16 := rfl
  generalize zd16 = zs at *
  have ZS := ucells_size ZL
  have XL := dgs_len 16 x
  have YL := dgs_len 16 y
  have WX : Hid (∀ j, j < 16 → wd (dgs 16 x) j = dg x j) := fun j hj => wd_dgs hj
  have WY : Hid (∀ j, j < 16 → wd (dgs 16 y) j = dg y j) := fun j hj => wd_dgs hj
  generalize dgs 16 x = xs at *
  generalize dgs 16 y = ys at *
  have TL : (List.replicate 32 0 : List Nat).length = 32 := rfl
  have T0 : Hid (∀ j, wd (List.replicate 32 0) j = 0) := fun j => by
    unfold wd
    simp only [List.getD, List.getElem?_replicate]
    split <;> rfl
  have TV : Hid (pV (List.replicate 32 0) 32 = 0) := by unfold Hid; decide +kernel
  generalize (List.replicate 32 0 : List Nat) = ts at *
  have CA : Hid (∀ W us, (∀ j, wd us j ≤ 68717379600) → pV us 32 = x * y → Calls Tryd.prog 56 #[.agg (ucells (upL us)).toArray] W fun e w' => ∃ z, z < B16 ∧ z % P25 = x * y % P25 ∧ e = .returned (.agg (ucells (dgs 16 z)).toArray) ∧ Ext W w') := fun W us h1 h2 => (carried_calls (upL_dig h1)).mono fun e w' h => ⟨cN (upL us), cN_lt (upL_dig h1), by rw [cN_mod, upL_mod, h2], h.1, h.2⟩
  have ME : Hid (∀ us : List Nat, pV us 32 = x % 65536 ^ 16 * y → pV us 32 = x * y) := fun us h => by rw [h, Nat.mod_eq_of_lt hx']
  have MR : Hid (∀ (us : List Nat) k, pV us 32 = x % 65536 ^ k * y + dg x k * (y % 65536 ^ 16) * 65536 ^ k → pV us 32 = x % 65536 ^ (k + 1) * y) := fun us k h => mul_row hy' h
  have B0 : Hid (Ur ((((w.alloc (Obj.cells (ucells xs).toArray 68)).alloc (Obj.cells (ucells ys).toArray 68)).alloc (Obj.cells (ucells zs).toArray 68)).alloc (Obj.cells (ucells ts).toArray 96)) w.heap.size 68 xs ∧ Ur ((((w.alloc (Obj.cells (ucells xs).toArray 68)).alloc (Obj.cells (ucells ys).toArray 68)).alloc (Obj.cells (ucells zs).toArray 68)).alloc (Obj.cells (ucells ts).toArray 96)) (w.heap.size + 1) 68 ys ∧ Ur ((((w.alloc (Obj.cells (ucells xs).toArray 68)).alloc (Obj.cells (ucells ys).toArray 68)).alloc (Obj.cells (ucells zs).toArray 68)).alloc (Obj.cells (ucells ts).toArray 96)) (w.heap.size + 1 + 1) 68 zs ∧ Ur ((((w.alloc (Obj.cells (ucells xs).toArray 68)).alloc (Obj.cells (ucells ys).toArray 68)).alloc (Obj.cells (ucells zs).toArray 68)).alloc (Obj.cells (ucells ts).toArray 96)) (w.heap.size + 1 + 1 + 1) 96 ts ∧ Ext w ((((w.alloc (Obj.cells (ucells xs).toArray 68)).alloc (Obj.cells (ucells ys).toArray 68)).alloc (Obj.cells (ucells zs).toArray 68)).alloc (Obj.cells (ucells ts).toArray 96))) := by
    have e3 : Ext ((((w.alloc (Obj.cells (ucells xs).toArray 68)).alloc (Obj.cells (ucells ys).toArray 68)).alloc (Obj.cells (ucells zs).toArray 68))) ((((w.alloc (Obj.cells (ucells xs).toArray 68)).alloc (Obj.cells (ucells ys).toArray 68)).alloc (Obj.cells (ucells zs).toArray 68)).alloc (Obj.cells (ucells ts).toArray 96)) := (Ext.refl _).alloc _
    have u0 : Ur (((w.alloc (Obj.cells (ucells xs).toArray 68)).alloc (Obj.cells (ucells ys).toArray 68)).alloc (Obj.cells (ucells zs).toArray 68)) w.heap.size 68 xs := heap_alloc30 _ _ _ _
    have u1 : Ur (((w.alloc (Obj.cells (ucells xs).toArray 68)).alloc (Obj.cells (ucells ys).toArray 68)).alloc (Obj.cells (ucells zs).toArray 68)) (w.heap.size + 1) 68 ys := heap_alloc31 _ _ _ _
    have u2 : Ur (((w.alloc (Obj.cells (ucells xs).toArray 68)).alloc (Obj.cells (ucells ys).toArray 68)).alloc (Obj.cells (ucells zs).toArray 68)) (w.heap.size + 1 + 1) 68 zs := heap_alloc32 _ _ _ _
    refine ⟨u0.kept e3 u0.lt, u1.kept e3 u1.lt, u2.kept e3 u2.lt, ?_, ((((Ext.refl w).alloc _).alloc _).alloc _).alloc _⟩
    have := heap_alloc_new (((w.alloc (Obj.cells (ucells xs).toArray 68)).alloc (Obj.cells (ucells ys).toArray 68)).alloc (Obj.cells (ucells zs).toArray 68)) (Obj.cells (ucells ts).toArray 96)
    rw [size_alloc, size_alloc, size_alloc] at this
    exact this
  clear hx' hy' hx hy
  go_enter Tryd.func37, Tryd.ntmps37
  go_upto_region 2 with fail
  refine wp_gen (fun W => Ur W w.heap.size 68 xs ∧ Ur W (w.heap.size + 1) 68 ys ∧ Ur W (w.heap.size + 1 + 1) 68 zs ∧ Ur W (w.heap.size + 1 + 1 + 1) 96 ts ∧ Ext w W) B0.out ?_
  clear B0
  rintro W0 ⟨k0, k1, k2, k3, e0⟩
  replace k0 := Lib.hid k0
  replace k1 := Lib.hid k1
  replace k2 := Lib.hid k2
  replace k3 := Lib.hid k3
  replace e0 := Lib.hid e0
  have gne : Hid (¬ w.heap.size = w.heap.size + 1 + 1 + 1 ∧ ¬ w.heap.size + 1 = w.heap.size + 1 + 1 + 1 ∧ ¬ w.heap.size + 1 + 1 = w.heap.size + 1 + 1 + 1) := by unfold Hid; omega
  go_wp2_with fail
  go_loopw [6] (fun iv wr => ∃ (k : Nat) (vs : List Nat), k ≤ 16 ∧ iv = .int .i64 (k : Int) ∧ vs.length = 32 ∧ (∀ j, wd vs j ≤ k * 4294836225) ∧ pV vs 32 = x % 65536 ^ k * y ∧ Ur wr w.heap.size 68 xs ∧ Ur wr (w.heap.size + 1) 68 ys ∧ Ur wr (w.heap.size + 1 + 1) 68 zs ∧ Ur wr (w.heap.size + 1 + 1 + 1) 96 vs ∧ Ext w wr) (fun iv _ => 16 - (intOf iv).toNat)
  case atStart => exact ⟨0, ts, Nat.zero_le _, rfl, TL, fun j => by rw [T0.out]; omega, by rw [TV.out, Nat.pow_zero, Nat.mod_one, Nat.zero_mul], k0.out, k1.out, k2.out, k3.out, e0.out⟩
  case round =>
    clear k0 k1 k2 k3 e0
    obtain ⟨k, vs, hk, rfl, vl, vb, vv, k0, k1, k2, k3, e0⟩ := hrel
    by_cases hlt : k < 16
    · have ik : (k : Int) < 16 := by omega
      have ik0 : (0 : Int) ≤ (k : Int) := by omega
      replace vb := Lib.hid vb
      replace vv := Lib.hid (fun _ : Unit => vv)
      replace k0 := Lib.hid k0
      replace k1 := Lib.hid k1
      replace k2 := Lib.hid k2
      replace k3 := Lib.hid k3
      replace e0 := Lib.hid e0
      go_wp2_with fail
      go_loopw [7] (fun jv wr => ∃ (l : Nat) (us : List Nat), l ≤ 16 ∧ jv = .int .i64 (l : Int) ∧ us.length = 32 ∧ (∀ j, wd us j ≤ (k + 1) * 4294836225 ∧ (k + l ≤ j → wd us j ≤ k * 4294836225)) ∧ pV us 32 = x % 65536 ^ k * y + dg x k * (y % 65536 ^ l) * 65536 ^ k ∧ Ur wr w.heap.size 68 xs ∧ Ur wr (w.heap.size + 1) 68 ys ∧ Ur wr (w.heap.size + 1 + 1) 68 zs ∧ Ur wr (w.heap.size + 1 + 1 + 1) 96 us ∧ Ext w wr) (fun jv _ => 16 - (intOf jv).toNat)
      case atStart => exact ⟨0, vs, Nat.zero_le _, rfl, vl, fun j => ⟨Nat.le_trans (vb.out j) (Nat.mul_le_mul_right _ (Nat.le_succ k)), fun _ => vb.out j⟩, by rw [vv.out (), Nat.pow_zero, Nat.mod_one, Nat.mul_zero, Nat.zero_mul, Nat.add_zero], k0.out, k1.out, k2.out, k3.out, e0.out⟩
      case round =>
        clear vv vb vl k0 k1 k2 k3 e0
        obtain ⟨l, us, hl, rfl, ul, ub, uv, k0, k1, k2, k3, e0⟩ := hrel
        by_cases hlt2 : l < 16
        · have il : (l : Int) < 16 := by omega
          have il0 : (0 : Int) ≤ (l : Int) := by omega
          obtain ⟨q, hq⟩ : ∃ q, q = k + l := ⟨_, rfl⟩
          obtain ⟨u, hu⟩ : ∃ u, wd us (k + l) = u := ⟨_, rfl⟩
          have u1 := (ub (k + l)).2 (Nat.le_refl _)
          rw [hu] at u1
          have cv := k3.cell (i := q) (by omega)
          have fv := k3.frozen q
          rw [hq, hu, ← hq] at cv
          have b1 := dg_lt x k
          have b2 := dg_lt y l
          have KC : Hid (∀ s, Ext wr s → s.cell? ⟨w.heap.size, k, none⟩ = some (.int .u64 (dg x k : Int)) ∧ s.cell? ⟨w.heap.size + 1, l, none⟩ = some (.int .u64 (dg y l : Int)) ∧ s.cell? ⟨w.heap.size + 1 + 1 + 1, q, none⟩ = some (.int .u64 (u : Int))) := fun s e => by
            have h1 := (k0.kept e k0.lt).cell (i := k) (by omega)
            have h2 := (k1.kept e k1.lt).cell (i := l) (by omega)
            have h3 := (k3.kept e k3.lt).cell (i := q) (by omega)
            rw [WX.out k hlt] at h1
            rw [WY.out l hlt2] at h2
            rw [hq, hu, ← hq] at h3
            exact And.intro h1 (And.intro h2 h3)
          have hm1 : dg x k * dg y l ≤ 4294836225 := by
            have h1 : dg x k * dg y l ≤ 65535 * 65535 := Nat.mul_le_mul (by omega) (by omega)
            omega
          obtain ⟨T, hT⟩ : ∃ T, T = u + dg x k * dg y l := ⟨_, rfl⟩
          have hstep := Lib.hid (fun _ : Unit => mul_step (us := us) (x := x) (y := y) (k := k) (l := l) (by omega) (by omega) hu hT uv)
          generalize dg x k = a at *
          generalize dg y l = b at *
          obtain ⟨m, hm⟩ : ∃ m, m = a * b := ⟨_, rfl⟩
          rw [← hm] at hT hm1
          have f0 : (a : Int) * (b : Int) = (m : Int) := by rw [hm]; exact (Int.natCast_mul a b).symm
          have f0w : IntKind.u64.wrap (m : Int) = (m : Int) := by rw [IntKind.wrap_u64]; omega
          have f4 : (u : Int) + (m : Int) = (T : Int) := by omega
          have f4w : IntKind.u64.wrap (T : Int) = (T : Int) := by rw [IntKind.wrap_u64]; omega
          have fq : (k : Int) + (l : Int) = (q : Int) := by omega
          have fqw : IntKind.i64.wrap (q : Int) = (q : Int) := IntWalk.i64_in _ (by omega)
          have q32 : (q : Int) < 32 := by omega
          have q0 : (0 : Int) ≤ (q : Int) := by omega
          have ql : Hid (q < us.length) := by unfold Hid; omega
          have Tb : Hid (T ≤ (k + 1) * 4294836225) := by unfold Hid; omega
          rw [← hq] at hstep
          replace hq := Lib.hid hq
          replace hu := Lib.hid hu
          replace hT := Lib.hid hT
          replace hm := Lib.hid hm
          replace ub := Lib.hid ub
          have d0 : Ext wr wr.drew := (Ext.refl _).drew
          have m0 := Lib.hid (k0.kept d0 k0.lt)
          have m1 := Lib.hid (k1.kept d0 k1.lt)
          have m2 := Lib.hid (k2.kept d0 k2.lt)
          have m3 := Lib.hid (k3.kept d0 k3.lt)
          have m4 := Lib.hid (e0.trans d0)
          clear k0 k1 k2 k3 e0 d0 b1 b2 hm1 u1 uv WX WY CA ME MR
          go_wp2_with fail
          refine wp_region_seqZ (R := Ext) Ext.refl (fun _ _ _ => Ext.trans) 17 [0, 1, 2, 3, 4, 5, 6, 7, 8, 9, 10, 11, 12, 13, 14, 15, 16, 17] [17] [(0, 19, 128), (0, 20, 256), (3, 21, 1572864), (0, 22, 128), (0, 23, 256), (24, 24, 12582912), (32, 25, 16777280), (64, 26, 33554432), (0, 27, 128), (256, 28, 134217736), (512, 29, 268435456), (0, 30, 256), (2048, 31, 1073741840), (4096, 32, 2147483648), (9216, 33, 4831838208), (16512, 34, 8657043456), (65535, 35, 2097216), (131071, 0, 51539607552)] (by kernel_rfl) (by kernel_rfl) (by kernel_rfl) rfl (by kernel_rfl) (by kernel_rfl) (by kernel_rfl) (fun _ _ d _ _ h => by cases d <;> exact h) ?_
          repeat (refine seqZ_read _ (fun w' e => KC.out w' ((Ext.refl _).drew.trans e)) _ (v := ?_) rfl rfl (by rfl) ?_ ?_; rotate_left; (· intro w' hF; go_simp; (try with_reducible rfl)); simp only [Act.put, List.setIfInBounds_toArray, List.set_cons_zero, List.set_cons_succ])
          refine seqZ_do _ rfl rfl (by rfl) (fun K1 hK1 => ?_)
          go_simp
          refine hK1.out _ _ (.inl rfl) ?_
          clear hK1 K1
          refine seqZ_done ?_
          go_wp2_with fail
          refine ⟨⟨l + 1, us.set q T, by omega, by go_num, by rw [List.length_set]; exact ul, fun j => ?_, hstep.out (), (Below.heap_setCell _ _ _ _ gne.out.1).trans m0.out, (Below.heap_setCell _ _ _ _ gne.out.2.1).trans m1.out, (Below.heap_setCell _ _ _ _ gne.out.2.2).trans m2.out, m3.out.set, Ext.setCell m4.out (show w.heap.size ≤ w.heap.size + 1 + 1 + 1 by omega) _⟩, by simp [intOf]; omega⟩
          rw [wd_set ql.out]
          have h1 := ub.out j
          by_cases e : j = q
          · rw [if_pos e]
            have := hq.out
            exact ⟨Tb.out, fun h => absurd h (by omega)⟩
          · rw [if_neg e]; exact ⟨h1.1, fun h => h1.2 (by omega)⟩
        · obtain rfl : l = 16 := by omega
          have hend := Lib.hid (fun _ : Unit => MR.out us k uv)
          replace ub := Lib.hid ub
          replace k0 := Lib.hid k0
          replace k1 := Lib.hid k1
          replace k2 := Lib.hid k2
          replace k3 := Lib.hid k3
          replace e0 := Lib.hid e0
          clear uv WX WY CA ME MR hlt2 hl
          go_wp2_with fail
          refine ⟨⟨k + 1, us, by omega, by go_num, ul, fun j => (ub.out j).1, hend.out (), k0.out, k1.out, k2.out, k3.out, e0.out⟩, by simp [intOf]; omega⟩
    · obtain rfl : k = 16 := by omega
      have CAu := Lib.hid (fun W => CA.out W vs (fun j => by have := vb j; omega) (ME.out vs vv))
      have VBD : Hid (∀ j, wd vs j ≤ 68717379600) := fun j => by have := vb j; omega
      have WU : Hid (∀ us : List Nat, us.length = 16 → (∀ j, j < 16 → wd us j = wd vs j + 38 * wd vs (j + 16)) → us = upL vs) := fun us h1 h2 => words_upL h1 h2
      have UL : (upL vs).length = 16 := by simp [upL]
      generalize upL vs = uu at *
      have US := ucells_size UL
      replace k0 := Lib.hid k0
      replace k1 := Lib.hid k1
      replace k2 := Lib.hid k2
      replace k3 := Lib.hid k3
      replace e0 := Lib.hid e0
      clear vv vb CA ME MR WX WY k0 k1 hk hlt
      have a1 := Lib.hid (heap_alloc_new wr (Obj.cells (ucells zs).toArray 68))
      have e5 := Lib.hid ((Ext.refl wr).alloc (Obj.cells (ucells zs).toArray 68))
      go_upto_region 10 with fail
      obtain ⟨g, hg⟩ : ∃ g, g = wr.heap.size := ⟨_, rfl⟩
      have lg : w.heap.size + 1 + 1 + 1 < g := by rw [hg]; exact k3.out.lt
      rw [← hg]
      rw [← hg] at a1
      refine wp_gen (fun W => Ur W (w.heap.size + 1 + 1) 68 zs ∧ Ur W (w.heap.size + 1 + 1 + 1) 96 vs ∧ Ur W g 68 zs ∧ Ext w W) ⟨k2.out.kept e5.out k2.out.lt, k3.out.kept e5.out k3.out.lt, a1.out, e0.out.trans e5.out⟩ ?_
      clear hg a1 e5 k2 k3 e0
      rintro W3 ⟨k2, k3, k4, e0⟩
      replace k2 := Lib.hid k2
      replace k3 := Lib.hid k3
      replace k4 := Lib.hid k4
      replace e0 := Lib.hid e0
      go_wp2_with fail
      rw [show ((16 : Nat) : Int) = 16 from rfl]
      go_loopw [9] (fun jv wr => ∃ (i : Nat) (us : List Nat), i ≤ 16 ∧ jv = .int .i64 (i : Int) ∧ us.length = 16 ∧ (∀ j, j < i → wd us j = wd vs j + 38 * wd vs (j + 16)) ∧ Ur wr (w.heap.size + 1 + 1) 68 zs ∧ Ur wr (w.heap.size + 1 + 1 + 1) 96 vs ∧ Ur wr g 68 us ∧ Ext w wr) (fun jv _ => 16 - (intOf jv).toNat)
      case atStart => exact ⟨0, zs, Nat.zero_le _, rfl, ZL, fun j hj => absurd hj (by omega), k2.out, k3.out, k4.out, e0.out⟩
      case round =>
        clear k2 k3 k4 e0
        obtain ⟨i, us, hi, rfl, ul, ud, k2, k3, k4, e0⟩ := hrel
        by_cases hlt2 : i < 16
        · have il : (i : Int) < 16 := by omega
          have il0 : (0 : Int) ≤ (i : Int) := by omega
          obtain ⟨q, hq⟩ : ∃ q, q = i + 16 := ⟨_, rfl⟩
          have cv := k4.cell (i := i) (by omega)
          have fv := k4.frozen i
          have b1 := VBD.out i
          have b2 := VBD.out q
          have KC : Hid (∀ s, Ext wr s → s.cell? ⟨w.heap.size + 1 + 1 + 1, i, none⟩ = some (.int .u64 (wd vs i : Int)) ∧ s.cell? ⟨w.heap.size + 1 + 1 + 1, q, none⟩ = some (.int .u64 (wd vs q : Int))) := fun s e => And.intro ((k3.kept e k3.lt).cell (by omega)) ((k3.kept e k3.lt).cell (by omega))
          obtain ⟨T, hT⟩ : ∃ T, T = wd vs i + 38 * wd vs q := ⟨_, rfl⟩
          have hTz : Hid (∀ j, j = i → T = wd vs j + 38 * wd vs (j + 16)) := fun j e => by rw [hT, hq, e]
          generalize wd vs i = a at *
          generalize wd vs q = b at *
          generalize wd us i = old at *
          obtain ⟨m, hm⟩ : ∃ m, m = 38 * b := ⟨_, rfl⟩
          rw [← hm] at hT
          have f3 : (38 : Int) * (b : Int) = (m : Int) := by omega
          have f3w : IntKind.u64.wrap (m : Int) = (m : Int) := by rw [IntKind.wrap_u64]; omega
          have f4 : (a : Int) + (m : Int) = (T : Int) := by omega
          have f4w : IntKind.u64.wrap (T : Int) = (T : Int) := by rw [IntKind.wrap_u64]; omega
          have fq : (i : Int) + 16 = (q : Int) := by omega
          have fqw : IntKind.i64.wrap (q : Int) = (q : Int) := IntWalk.i64_in _ (by omega)
          have q32 : (q : Int) < 32 := by omega
          have q0 : (0 : Int) ≤ (q : Int) := by omega
          have i32 : (i : Int) < 32 := by omega
          have lg2 : w.heap.size ≤ g := by omega
          have ql : Hid (i < us.length) := by unfold Hid; omega
          have gn2 : Hid (¬ w.heap.size + 1 + 1 = g ∧ ¬ w.heap.size + 1 + 1 + 1 = g) := by unfold Hid; omega
          replace hq := Lib.hid hq
          replace hT := Lib.hid hT
          replace hm := Lib.hid hm
          replace ud := Lib.hid ud
          have d0 : Ext wr wr.drew := (Ext.refl _).drew
          have m2 := Lib.hid (k2.kept d0 k2.lt)
          have m3 := Lib.hid (k3.kept d0 k3.lt)
          have m4 := Lib.hid (k4.kept d0 k4.lt)
          have m5 := Lib.hid (e0.trans d0)
          clear k2 k3 k4 e0 d0 b1 b2 CAu VBD WU
          go_wp2_with fail
          refine wp_region_seqZ (R := Ext) Ext.refl (fun _ _ _ => Ext.trans) 11 [0, 1, 2, 3, 4, 5, 6, 7, 8, 9, 10, 11] [11] [(0, 40, 1024), (0, 41, 1024), (2, 42, 2199023255616), (4, 43, 4398046511104), (0, 44, 1024), (16, 45, 17592186044416), (32, 46, 35184372088896), (64, 47, 70368744177664), (128, 48, 140737488355328), (264, 49, 290271069732864), (1023, 50, 1099511628288), (2047, 0, 1688849860263936)] (by kernel_rfl) (by kernel_rfl) (by kernel_rfl) rfl (by kernel_rfl) (by kernel_rfl) (by kernel_rfl) (fun _ _ d _ _ h => by cases d <;> exact h) ?_
          repeat (refine seqZ_read _ (fun w' e => KC.out w' ((Ext.refl _).drew.trans e)) _ (v := ?_) rfl rfl (by rfl) ?_ ?_; rotate_left; (· intro w' hF; go_simp; (try with_reducible rfl)); simp only [Act.put, List.setIfInBounds_toArray, List.set_cons_zero, List.set_cons_succ])
          refine seqZ_do _ rfl rfl (by rfl) (fun K1 hK1 => ?_)
          go_simp
          refine hK1.out _ _ (.inl rfl) ?_
          clear hK1 K1
          refine seqZ_done ?_
          go_wp2_with fail
          refine ⟨⟨i + 1, us.set i T, by omega, by go_num, by rw [List.length_set]; exact ul, fun j hj => ?_, (Below.heap_setCell _ _ _ _ gn2.out.1).trans m2.out, (Below.heap_setCell _ _ _ _ gn2.out.2).trans m3.out, m4.out.set, Ext.setCell m5.out lg2 _⟩, by simp [intOf]; omega⟩
          rw [wd_set ql.out]
          by_cases e : j = i
          · rw [if_pos e]; exact hTz.out j e
          · rw [if_neg e]; exact ud.out j (by omega)
        · obtain rfl : i = 16 := by omega
          have hu := WU.out us ul ud
          rw [hu] at k4
          replace k2 := Lib.hid k2
          replace k4 := Lib.hid k4
          replace e0 := Lib.hid e0
          clear ud hu ul us WU VBD k3
          go_wp2_with (refine wpList_load_row rfl 68 _ rfl g rfl 68 (ucells uu).toArray (0, 0) _ k4.out rfl rfl (by rw [US]; rfl) ?_; simp only [Act.put, List.setIfInBounds_toArray, List.set_cons_zero, List.set_cons_succ])
          refine (CAu.out _).mono ?_
          rintro e w2 ⟨z, hz, hzm, rfl, e1⟩
          have RL := dgs_len 16 z
          have r2 := Lib.hid (k2.out.kept e1 k2.out.lt)
          have rx := Lib.hid (e0.out.trans e1)
          obtain ⟨rs, hrs⟩ : ∃ rs, rs = dgs 16 z := ⟨_, rfl⟩
          rw [← hrs] at RL ⊢
          have RS := ucells_size RL
          have R1 := ucells_one rs
          replace hrs := Lib.hid hrs
          replace hz := Lib.hid hz
          replace hzm := Lib.hid hzm
          clear k2 k4 e0 e1 CAu
          go_wp2_with (refine wpList_store_row rfl 68 _ _ rfl (w.heap.size + 1 + 1) (ucells rs).toArray rfl rfl 68 _ r2.out (by rw [RS]; rfl) (by rw [RS, ZS]) R1 ?_; simp only [Act.put, List.setIfInBounds_toArray, List.set_cons_zero, List.set_cons_succ])
          (try simp only [Exit.inBlock, Exit.then])
          refine bodyPost_ret (results_cell_row rfl _ _ (w.heap.size + 1 + 1) 68 (ucells rs).toArray (0, 0) _ rfl (setRow_heap _ _ _ _ _ _ r2.out) rfl rfl (by rw [RS]; rfl)) rfl ?_
          exact ⟨z, hz.out, hzm.out, by rw [hrs.out], below_setRow rx.out (by omega) _⟩
end Go.Proofs.YtfhafednnnfmbaaDoor
