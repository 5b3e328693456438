/-
  palfreyref06.Of.
-/
import Derived.Test.YtadnmiedmcckkaaDoorRfCarry
import Derived.Test.YtadnmiedmcckkaaDoorFldOf
import Derived.Test.YtadnmiedmcckkaaDoorSeqZ
namespace Go.Proofs.YtadnmiedmcckkaaDoor
open Go.ChangeShapes Go.WideShapes Go.ChangeAt Go.RowKit Go.Deep
set_option maxRecDepth 100000

theorem cR_none {ds : List Nat} {n : Nat} (h : ∀ i, i < n → wd ds i < 65536) : ∀ i, i ≤ n → cR ds i = 0
  | 0, _ => cR_zero ds
  | i + 1, hi => by
    rw [cR_succ, cR_none h i (by omega)]
    have := h i (by omega)
    omega
/-- Digits that are small are those of what they come to. -/
theorem small_dgs {vs : List Nat} (hl : vs.length = 16) (h : ∀ i, i < 16 → wd vs i < 65536) : vs = dgs 16 (pV vs 16) :=
  words_dgs hl fun j hj => by
    rw [dg_pV vs hj, cR_none h j (by omega)]
    have := h j hj
    omega
theorem pV_lt {vs : List Nat} {n : Nat} (h : ∀ i, i < n → wd vs i < 65536) : ∀ i, i ≤ n → pV vs i < 65536 ^ i
  | 0, _ => by simp [pV]
  | i + 1, hi => by
    have h1 := pV_lt h i (by omega)
    have h2 := h i (by omega)
    rw [pV, show (65536 : Nat) ^ (i + 1) = 65536 ^ i * 65536 from Nat.pow_succ _ _]
    have : wd vs i * 65536 ^ i ≤ 65535 * 65536 ^ i := Nat.mul_le_mul_right _ (by omega)
    generalize wd vs i * 65536 ^ i = t at *
    generalize 65536 ^ i = P at *
    omega
/-- The number of 32 bytes without the highest bit. -/
def ofM (ks : List UInt8) : Nat := ofN ks 32 % H8
theorem ofM_lt (ks : List UInt8) : ofM ks < B16 := Nat.lt_of_lt_of_le (Nat.mod_lt _ (by decide +kernel)) (by decide +kernel)
theorem ofV_ofM (ks : List UInt8) : ofV ks = ofM ks % P25 := rfl
theorem pV_of {ks : List UInt8} {vs : List Nat} (h : ∀ j, j < 16 → wd vs j = bt ks (2 * j) + 256 * bt ks (2 * j + 1)) : ∀ i, i ≤ 16 → pV vs i = ofN ks (2 * i)
  | 0, _ => rfl
  | i + 1, hi => by
    have e : (65536 : Nat) ^ i = 256 ^ (2 * i) := by rw [Nat.pow_mul]
    rw [pV, pV_of h i (by omega), h i (by omega), show 2 * (i + 1) = 2 * i + 1 + 1 by omega, ofN, ofN, e, show (256 : Nat) ^ (2 * i + 1) = 256 ^ (2 * i) * 256 from Nat.pow_succ _ _, Nat.add_mul]
    generalize 256 ^ (2 * i) = P
    rw [show bt ks (2 * i + 1) * (P * 256) = 256 * bt ks (2 * i + 1) * P by rw [Nat.mul_comm 256, Nat.mul_assoc, Nat.mul_comm 256 P]]
    omega
theorem of_words {ks : List UInt8} {vs : List Nat} (hl : vs.length = 16) (h : ∀ j, j < 16 → wd vs j = bt ks (2 * j) + 256 * bt ks (2 * j + 1)) : vs.set 15 (wd vs 15 % 32768) = dgs 16 (ofM ks) := by
  have h16 : ∀ i, i < 16 → wd vs i < 65536 := fun i hi => by
    rw [h i hi]
    have := bt_lt ks (2 * i)
    have := bt_lt ks (2 * i + 1)
    omega
  have l15 : 15 < vs.length := by omega
  have hs : ∀ i, i < 16 → wd (vs.set 15 (wd vs 15 % 32768)) i < 65536 := fun i hi => by
    rw [wd_set l15]
    split
    · omega
    · exact h16 i hi
  rw [small_dgs (vs := vs.set 15 (wd vs 15 % 32768)) (by simp [hl]) hs]
  congr 1
  have hp : ∀ i, i ≤ 15 → pV (vs.set 15 (wd vs 15 % 32768)) i = pV vs i := by
    intro i
    induction i with
    | zero => intro _; rfl
    | succ i ih => intro hi; rw [pV, pV, ih (by omega), wd_set l15, if_neg (by omega)]
  have e1 : pV (vs.set 15 (wd vs 15 % 32768)) 16 = pV vs 15 + wd vs 15 % 32768 * 65536 ^ 15 := by
    rw [show pV (vs.set 15 (wd vs 15 % 32768)) 16 = pV (vs.set 15 (wd vs 15 % 32768)) 15 + wd (vs.set 15 (wd vs 15 % 32768)) 15 * 65536 ^ 15 from rfl, hp 15 (Nat.le_refl _), wd_set l15, if_pos rfl]
  have e2 : pV vs 15 + wd vs 15 * 65536 ^ 15 = ofN ks 32 := pV_of h 16 (Nat.le_refl _)
  have h3 := pV_lt h16 15 (by omega)
  have hH : H8 = 32768 * 65536 ^ 15 := by decide +kernel
  rw [e1, ofM, ← e2, hH]
  have h4 := Nat.div_add_mod (wd vs 15) 32768
  have h5 : wd vs 15 % 32768 < 32768 := Nat.mod_lt _ (by decide)
  generalize wd vs 15 % 32768 = r at *
  generalize wd vs 15 / 32768 = q at *
  rw [← h4]
  generalize pV vs 15 = t at *
  generalize (65536 : Nat) ^ 15 = M at *
  clear hH
  rw [Nat.add_mul, show 32768 * q * M = 32768 * M * q by rw [Nat.mul_assoc, Nat.mul_comm q, Nat.mul_assoc], show t + (32768 * M * q + r * M) = (t + r * M) + 32768 * M * q by omega, Nat.add_mul_mod_self_left]
  refine (Nat.mod_eq_of_lt ?_).symm
  have : r * M ≤ 32767 * M := Nat.mul_le_mul_right _ (by omega)
  generalize r * M = u at *
  omega

set_option maxHeartbeats 4000000 in
theorem rfof_calls {ks : List UInt8} {w : World} (hk : ks.length = 32) :
    Calls Tryd.prog 19 #[.agg (cellsOf ks).toArray] w fun e w' => e = .returned (.agg (ucells (dgs 16 (ofM ks))).toArray) ∧ Ext w w' := by
  have hal := num_alloc
  have ZL : zd16.length = 16 := rfl
  generalize zd16 = zs at *
  have ZS := ucells_size ZL
  have RL := dgs_len 16 (ofM ks)
  have WS : Hid (∀ vs : List Nat, vs.length = 16 → (∀ j, j < 16 → wd vs j = bt ks (2 * j) + 256 * bt ks (2 * j + 1)) → vs.set 15 (wd vs 15 % 32768) = dgs 16 (ofM ks)) := fun vs h1 h2 => of_words h1 h2
  generalize dgs 16 (ofM ks) = rs at *
  have RS := ucells_size RL
  have R1 := ucells_one rs
  have B0 : Hid (Ky (((w.alloc (Obj.cells (cellsOf ks).toArray 23)).alloc (Obj.cells (ucells zs).toArray 33)).alloc (Obj.cells (ucells zs).toArray 33)) w.heap.size ks ∧ Ur (((w.alloc (Obj.cells (cellsOf ks).toArray 23)).alloc (Obj.cells (ucells zs).toArray 33)).alloc (Obj.cells (ucells zs).toArray 33)) (w.heap.size + 1) 33 zs ∧ Ur (((w.alloc (Obj.cells (cellsOf ks).toArray 23)).alloc (Obj.cells (ucells zs).toArray 33)).alloc (Obj.cells (ucells zs).toArray 33)) (w.heap.size + 1 + 1) 33 zs ∧ Ext w (((w.alloc (Obj.cells (cellsOf ks).toArray 23)).alloc (Obj.cells (ucells zs).toArray 33)).alloc (Obj.cells (ucells zs).toArray 33))) := ⟨⟨heap_alloc30 _ _ _ _, hk⟩, heap_alloc31 _ _ _ _, heap_alloc32 _ _ _ _, (((Ext.refl w).alloc _).alloc _).alloc _⟩
  go_enter Tryd.func19, Tryd.ntmps19
  go_upto_region 2 with fail
  refine wp_gen (fun W => Ky W w.heap.size ks ∧ Ur W (w.heap.size + 1) 33 zs ∧ Ur W (w.heap.size + 1 + 1) 33 zs ∧ Ext w W) B0.out ?_
  clear B0
  rintro W0 ⟨k0, k1, k2, e0⟩
  replace k0 := Lib.hid k0
  replace k1 := Lib.hid k1
  replace k2 := Lib.hid k2
  replace e0 := Lib.hid e0
  go_wp2_with fail
  go_loopw [4] (fun jv wr => ∃ (i : Nat) (us : List Nat), i ≤ 16 ∧ jv = .int .i64 (i : Int) ∧ us.length = 16 ∧ (∀ j, j < i → wd us j = bt ks (2 * j) + 256 * bt ks (2 * j + 1)) ∧ Ky wr w.heap.size ks ∧ Ur wr (w.heap.size + 1) 33 zs ∧ Ur wr (w.heap.size + 1 + 1) 33 us ∧ Ext w wr) (fun jv _ => 16 - (intOf jv).toNat)
  case atStart => exact ⟨0, zs, Nat.zero_le _, rfl, ZL, fun j hj => absurd hj (by omega), k0.out, k1.out, k2.out, e0.out⟩
  case round =>
    clear k0 k1 k2 e0
    obtain ⟨i, us, hi, rfl, ul, ud, k0, k1, k2, e0⟩ := hrel
    by_cases hlt2 : i < 16
    · have ii : (i : Int) < 16 := by omega
      have ii0 : (0 : Int) ≤ (i : Int) := by omega
      obtain ⟨p, hp⟩ : ∃ p, p = 2 * i := ⟨_, rfl⟩
      obtain ⟨q, hq⟩ : ∃ q, q = p + 1 := ⟨_, rfl⟩
      have KC : Hid (∀ s, Ext wr s → s.cell? ⟨w.heap.size, p, none⟩ = some (.int .u8 (bt ks p : Int)) ∧ s.cell? ⟨w.heap.size, q, none⟩ = some (.int .u8 (bt ks q : Int))) := fun s e => And.intro (Ky.cell (k0.ext e) (by omega)) (Ky.cell (k0.ext e) (by omega))
      have cv := k2.cell (i := i) (by omega)
      have fv := k2.frozen i
      have b1 := bt_lt ks p
      have b2 := bt_lt ks q
      obtain ⟨a, ha⟩ : ∃ a, a = bt ks p := ⟨_, rfl⟩
      obtain ⟨b, hb⟩ : ∃ b, b = bt ks q := ⟨_, rfl⟩
      obtain ⟨m, hm⟩ : ∃ m, m = 256 * b := ⟨_, rfl⟩
      obtain ⟨T, hT⟩ : ∃ T, T = a + m := ⟨_, rfl⟩
      have hTz : Hid (T = bt ks (2 * i) + 256 * bt ks (2 * i + 1)) := by unfold Hid; rw [hT, hm, ha, hb, hq, hp]
      rw [← ha] at KC b1
      rw [← hb] at KC b2
      generalize wd us i = old at *
      have g1 : (2 : Int) * (i : Int) = (p : Int) := by omega
      have g1w : IntKind.i64.wrap (p : Int) = (p : Int) := IntWalk.i64_in _ (by omega)
      have g2 : (p : Int) + 1 = (q : Int) := by omega
      have g2w : IntKind.i64.wrap (q : Int) = (q : Int) := IntWalk.i64_in _ (by omega)
      have p0 : (0 : Int) ≤ (p : Int) := by omega
      have p32 : (p : Int) < 32 := by omega
      have q0 : (0 : Int) ≤ (q : Int) := by omega
      have q32 : (q : Int) < 32 := by omega
      have f1 : IntKind.u64.wrap (a : Int) = (a : Int) := by rw [IntKind.wrap_u64]; omega
      have f2 : IntKind.u64.wrap (b : Int) = (b : Int) := by rw [IntKind.wrap_u64]; omega
      have f3 : (256 : Int) * (b : Int) = (m : Int) := by omega
      have f3w : IntKind.u64.wrap (m : Int) = (m : Int) := by rw [IntKind.wrap_u64]; omega
      have f4 : (a : Int) + (m : Int) = (T : Int) := by omega
      have f4w : IntKind.u64.wrap (T : Int) = (T : Int) := by rw [IntKind.wrap_u64]; omega
      have il : Hid (i < us.length) := by unfold Hid; omega
      have gne : Hid (¬ w.heap.size = w.heap.size + 1 + 1 ∧ ¬ w.heap.size + 1 = w.heap.size + 1 + 1) := by unfold Hid; omega
      replace hp := Lib.hid hp
      replace hq := Lib.hid hq
      replace ha := Lib.hid ha
      replace hb := Lib.hid hb
      replace hm := Lib.hid hm
      replace hT := Lib.hid hT
      replace ud := Lib.hid ud
      have d0 : Ext wr wr.drew := (Ext.refl _).drew
      have m0 := Lib.hid (k0.ext d0)
      have m1 := Lib.hid (k1.kept d0 k1.lt)
      have m2 := Lib.hid (k2.kept d0 k2.lt)
      have m3 := Lib.hid (e0.trans d0)
      clear k0 k1 k2 e0 d0 b1 b2 WS
      go_wp2_with fail
      refine wp_region_seqZ (R := Ext) Ext.refl (fun _ _ _ => Ext.trans) 15 [0, 1, 2, 3, 4, 5, 6, 7, 8, 9, 10, 11, 12, 13, 14, 15] [15] [(0, 10, 32), (0, 11, 32), (2, 12, 2048), (4, 13, 4100), (8, 14, 8192), (16, 15, 16384), (0, 16, 32), (64, 17, 65536), (128, 18, 131072), (256, 19, 262148), (512, 20, 524288), (1024, 21, 1048576), (2048, 22, 2097152), (4128, 23, 4227072), (16383, 24, 1040), (32767, 0, 25165824)] (by kernel_rfl) (by kernel_rfl) (by kernel_rfl) rfl (by kernel_rfl) (by kernel_rfl) (by kernel_rfl) (fun _ _ d _ _ h => by cases d <;> exact h) ?_
      repeat (refine seqZ_read _ (fun w' e => KC.out w' ((Ext.refl _).drew.trans e)) _ (v := ?_) rfl rfl (by rfl) ?_ ?_; rotate_left; (· intro w' hF; go_simp; (try with_reducible rfl)); simp only [Act.put, List.setIfInBounds_toArray, List.set_cons_zero, List.set_cons_succ])
      refine seqZ_do _ rfl rfl (by rfl) (fun K1 hK1 => ?_)
      go_simp
      refine hK1.out _ _ (.inl rfl) ?_
      clear hK1 K1
      refine seqZ_done ?_
      go_wp2_with fail
      refine ⟨⟨i + 1, us.set i T, by omega, by go_num, by rw [List.length_set]; exact ul, fun j hj => ?_, ⟨(Below.heap_setCell _ _ _ _ gne.out.1).trans m0.out.1, hk⟩, (Below.heap_setCell _ _ _ _ gne.out.2).trans m1.out, m2.out.set, Ext.setCell m3.out (show w.heap.size ≤ w.heap.size + 1 + 1 by omega) _⟩, by simp [intOf]; omega⟩
      rw [wd_set il.out]
      by_cases e : j = i
      · rw [if_pos e, e]; exact hTz.out
      · rw [if_neg e]; exact ud.out j (by omega)
    · obtain rfl : i = 16 := by omega
      have hu : Hid (∀ _ : Unit, us.set 15 (wd us 15 % 32768) = rs) := fun _ => WS.out us ul ud
      have c0 := k2.cell (i := 15) (by omega)
      have fv := k2.frozen 15
      have b1 : wd us 15 < 65536 := by rw [ud 15 (by omega)]; have := bt_lt ks (2 * 15); have := bt_lt ks (2 * 15 + 1); omega
      generalize wd us 15 = a at *
      obtain ⟨z, hz⟩ : ∃ z, z = a % 32768 := ⟨_, rfl⟩
      rw [← hz] at hu
      have f5 : (a : Int) % 32768 = (z : Int) := by omega
      have f5t : Int.tmod (a : Int) 32768 = (z : Int) := by rw [Int.tmod_eq_emod_of_nonneg (by omega)]; exact f5
      have f5w : IntKind.u64.wrap (z : Int) = (z : Int) := by rw [IntKind.wrap_u64]; omega
      replace hz := Lib.hid hz
      have gne : Hid (¬ w.heap.size + 1 = w.heap.size + 1 + 1) := by unfold Hid; omega
      replace k1 := Lib.hid k1
      replace k2 := Lib.hid k2
      replace e0 := Lib.hid e0
      clear ud b1 WS k0
      go_upto_region 7 with fail
      refine wp_gen (fun W => Ur W (w.heap.size + 1) 33 zs ∧ Ur W (w.heap.size + 1 + 1) 33 rs ∧ Ext w W) ⟨(Below.heap_setCell _ _ _ _ gne.out).trans k1.out, by rw [← hu.out ()]; exact k2.out.set, Ext.setCell e0.out (show w.heap.size ≤ w.heap.size + 1 + 1 by omega) _⟩ ?_
      clear k1 k2 e0 c0 fv hu f5 f5t f5w hz ul
      rintro W2 ⟨k1, k2, e0⟩
      go_wp2_with (first
        | (refine wpList_load_row rfl 33 _ rfl (w.heap.size + 1 + 1) rfl 33 (ucells rs).toArray (0, 0) _ k2 rfl rfl (by rw [RS]; rfl) ?_; simp only [Act.put, List.setIfInBounds_toArray, List.set_cons_zero, List.set_cons_succ])
        | (refine wpList_store_row rfl 33 _ _ rfl (w.heap.size + 1) (ucells rs).toArray rfl rfl 33 _ k1 (by rw [RS]; rfl) (by rw [RS, ZS]) R1 ?_; simp only [Act.put, List.setIfInBounds_toArray, List.set_cons_zero, List.set_cons_succ]))
      (try simp only [Exit.inBlock, Exit.then])
      refine bodyPost_ret (results_cell_row rfl _ _ (w.heap.size + 1) 33 (ucells rs).toArray (0, 0) _ rfl (setRow_heap _ _ _ _ _ _ k1) rfl rfl (by rw [RS]; rfl)) rfl ?_
      exact ⟨rfl, below_setRow e0 (by omega) _⟩
end Go.Proofs.YtadnmiedmcckkaaDoor
