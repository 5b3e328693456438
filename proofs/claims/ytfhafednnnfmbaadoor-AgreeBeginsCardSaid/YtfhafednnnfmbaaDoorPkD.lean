import Derived.Test.YtfhafednnnfmbaaDoorPkF
import Derived.Test.YtfhafednnnfmbaaDoorFldOf
import Derived.Test.YtfhafednnnfmbaaDoorSeqZ
import Derived.Test.YtfhafednnnfmbaaDoorRfMul
import Derived.Test.YtfhafednnnfmbaaDoorPkP
import Derived.Test.YtfhafednnnfmbaaDoorRfKey
import Derived.Test.YtfhafednnnfmbaaDoorPkE
import Derived.Test.YtfhafednnnfmbaaDoorPkM
section
/-
  palfreyref06.Of.
-/
namespace Go.Proofs.YtfhafednnnfmbaaDoor
open Go.ChangeShapes Go.WideShapes Go.ChangeAt Go.RowKit Go.Deep
set_option maxRecDepth 100000

theorem cR_none {ds : List Nat} {n : Nat} (h : ∀ i, i < n → wd ds i < 65536) : ∀ i, i ≤ n → cR ds i = 0
  | 0, _ => cR_zero ds
  | i + 1, hi => by
    rw [cR_succ, cR_none h i (by omega)]
    have := h i (by omega)
    omega
/-- Digits that are small are those of what they come to. -/
theorem small_dgs {vs : List Nat} (hl : vs.length = 16) (h : ∀ i, i < 16 → wd vs i < 65536) : vs = dgs 16 (pV vs 16) :=
  words_dgs hl fun j hj => by
    rw [dg_pV vs hj, cR_none h j (by omega)]
    have := h j hj
    omega
theorem pV_lt {vs : List Nat} {n : Nat} (h : ∀ i, i < n → wd vs i < 65536) : ∀ i, i ≤ n → pV vs i < 65536 ^ i
  | 0, _ => by simp [pV]
  | i + 1, hi => by
    have h1 := pV_lt h i (by omega)
    have h2 := h i (by omega)
    rw [pV, show (65536 : Nat) ^ (i + 1) = 65536 ^ i * 65536 from Nat.pow_succ _ _]
    have : wd vs i * 65536 ^ i ≤ 65535 * 65536 ^ i := Nat.mul_le_mul_right _ (by omega)
    generalize wd vs i * 65536 ^ i = t at *
    generalize 65536 ^ i = P at *
    omega
/-- The number of 32 bytes without the highest bit. -/
def ofM (ks : List UInt8) : Nat := ofN ks 32 % H8
theorem ofM_lt (ks : List UInt8) : ofM ks < B16 := Nat.lt_of_lt_of_le (Nat.mod_lt _ (by decide +kernel)) (by decide +kernel)
theorem ofV_ofM (ks : List UInt8) : ofV ks = ofM ks % P25 := rfl
theorem pV_of {ks : List UInt8} {vs : List Nat} (h : ∀ j, j < 16 → wd vs j = bt ks (2 * j) + 256 * bt ks (2 * j + 1)) : ∀ i, i ≤ 16 → pV vs i = ofN ks (2 * i)
  | 0, _ => rfl
  | i + 1, hi => by
    have e : (65536 : Nat) ^ i = 256 ^ (2 * i) := by rw [Nat.pow_mul]
    rw [pV, pV_of h i (by omega), h i (by omega), show 2 * (i + 1) = 2 * i + 1 + 1 by omega, ofN, ofN, e, show (256 : Nat) ^ (2 * i + 1) = 256 ^ (2 * i) * 256 from Nat.pow_succ _ _, Nat.add_mul]
    generalize 256 ^ (2 * i) = P
    rw [show bt ks (2 * i + 1) * (P * 256) = 256 * bt ks (2 * i + 1) * P by rw [Nat.mul_comm 256, Nat.mul_assoc, Nat.mul_comm 256 P]]
    omega
theorem of_words {ks : List UInt8} {vs : List Nat} (hl : vs.length = 16) (h : ∀ j, j < 16 → wd vs j = bt ks (2 * j) + 256 * bt ks (2 * j + 1)) : vs.set 15 (wd vs 15 % 32768) = dgs 16 (ofM ks) := by
  have h16 : ∀ i, i < 16 → wd vs i < 65536 := fun i hi => by
    rw [h i hi]
    have := bt_lt ks (2 * i)
    have := bt_lt ks (2 * i + 1)
    omega
  have l15 : 15 < vs.length := by omega
  have hs : ∀ i, i < 16 → wd (vs.set 15 (wd vs 15 % 32768)) i < 65536 := fun i hi => by
    rw [wd_set l15]
    split
    · omega
    · exact h16 i hi
  rw [small_dgs (vs := vs.set 15 (wd vs 15 % 32768)) (by simp [hl]) hs]
  congr 1
  have hp : ∀ i, i ≤ 15 → pV (vs.set 15 (wd vs 15 % 32768)) i = pV vs i := by
    intro i
    induction i with
    | zero => intro _; rfl
    | succ i ih => intro hi; rw [pV, pV, ih (by omega), wd_set l15, if_neg (by omega)]
  have e1 : pV (vs.set 15 (wd vs 15 % 32768)) 16 = pV vs 15 + wd vs 15 % 32768 * 65536 ^ 15 := by
    rw [show pV (vs.set 15 (wd vs 15 % 32768)) 16 = pV (vs.set 15 (wd vs 15 % 32768)) 15 + wd (vs.set 15 (wd vs 15 % 32768)) 15 * 65536 ^ 15 from rfl, hp 15 (Nat.le_refl _), wd_set l15, if_pos rfl]
  have e2 : pV vs 15 + wd vs 15 * 65536 ^ 15 = ofN ks 32 := pV_of h 16 (Nat.le_refl _)
  have h3 := pV_lt h16 15 (by omega)
  have hH : H8 = 32768 * 65536 ^ 15 := by decide +kernel
  rw [e1, ofM, ← e2, hH]
  have h4 := Nat.div_add_mod (wd vs 15) 32768
  have h5 : wd vs 15 % 32768 < 32768 := Nat.mod_lt _ (by decide)
  generalize wd vs 15 % 32768 = r at *
  generalize wd vs 15 / 32768 = q at *
  rw [← h4]
  generalize pV vs 15 = t at *
  generalize (65536 : Nat) ^ 15 = M at *
  clear hH
  rw [Nat.add_mul, show 32768 * q * M = 32768 * M * q by rw [Nat.mul_assoc, Nat.mul_comm q, Nat.mul_assoc], show t + (32768 * M * q + r * M) = (t + r * M) + 32768 * M * q by omega, Nat.add_mul_mod_self_left]
  refine (Nat.mod_eq_of_lt ?_).symm
  have : r * M ≤ 32767 * M := Nat.mul_le_mul_right _ (by omega)
  generalize r * M = u at *
  omega

set_option maxHeartbeats 4000000 in
theorem rfof_calls {ks : List UInt8} {w : World} (hk : ks.length = 32) :
    Calls Tryd.prog 33 #[.agg (cellsOf ks).toArray] w fun e w' => e = .returned (.agg (ucells (dgs 16 (ofM ks))).toArray) ∧ Ext w w' := by
  have hal := num_alloc
  have ZL : zd16.length = 16 := rfl
  generalize zd16 = zs at *
  have ZS := ucells_size ZL
  have RL := dgs_len 16 (ofM ks)
  have WS : Hid (∀ vs : List Nat, vs.length = 16 → (∀ j, j < 16 → wd vs j = bt ks (2 * j) + 256 * bt ks (2 * j + 1)) → vs.set 15 (wd vs 15 % 32768) = dgs 16 (ofM ks)) := fun vs h1 h2 => of_words h1 h2
  generalize dgs 16 (ofM ks) = rs at *
  have RS := ucells_size RL
  have R1 := ucells_one rs
  have B0 : Hid (Ky (((w.alloc (Obj.cells (cellsOf ks).toArray 23)).alloc (Obj.cells (ucells zs).toArray 68)).alloc (Obj.cells (ucells zs).toArray 68)) w.heap.size ks ∧ Ur (((w.alloc (Obj.cells (cellsOf ks).toArray 23)).alloc (Obj.cells (ucells zs).toArray 68)).alloc (Obj.cells (ucells zs).toArray 68)) (w.heap.size + 1) 68 zs ∧ Ur (((w.alloc (Obj.cells (cellsOf ks).toArray 23)).alloc (Obj.cells (ucells zs).toArray 68)).alloc (Obj.cells (ucells zs).toArray 68)) (w.heap.size + 1 + 1) 68 zs ∧ Ext w (((w.alloc (Obj.cells (cellsOf ks).toArray 23)).alloc (Obj.cells (ucells zs).toArray 68)).alloc (Obj.cells (ucells zs).toArray 68))) := ⟨⟨heap_alloc30 _ _ _ _, hk⟩, heap_alloc31 _ _ _ _, heap_alloc32 _ _ _ _, (((Ext.refl w).alloc _).alloc _).alloc _⟩
  go_enter Tryd.func33, Tryd.ntmps33
  go_upto_region 2 with fail
  refine wp_gen (fun W => Ky W w.heap.size ks ∧ Ur W (w.heap.size + 1) 68 zs ∧ Ur W (w.heap.size + 1 + 1) 68 zs ∧ Ext w W) B0.out ?_
  clear B0
  rintro W0 ⟨k0, k1, k2, e0⟩
  replace k0 := Lib.hid k0
  replace k1 := Lib.hid k1
  replace k2 := Lib.hid k2
  replace e0 := Lib.hid e0
  go_wp2_with fail
  go_loopw [4] (fun jv wr => ∃ (i : Nat) (us : List Nat), i ≤ 16 ∧ jv = .int .i64 (i : Int) ∧ us.length = 16 ∧ (∀ j, j < i → wd us j = bt ks (2 * j) + 256 * bt ks (2 * j + 1)) ∧ Ky wr w.heap.size ks ∧ Ur wr (w.heap.size + 1) 68 zs ∧ Ur wr (w.heap.size + 1 + 1) 68 us ∧ Ext w wr) (fun jv _ => 16 - (intOf jv).toNat)
  case atStart => exact ⟨0, zs, Nat.zero_le _, rfl, ZL, fun j hj => absurd hj (by omega), k0.out, k1.out, k2.out, e0.out⟩
  case round =>
    clear k0 k1 k2 e0
    obtain ⟨i, us, hi, rfl, ul, ud, k0, k1, k2, e0⟩ := hrel
    by_cases hlt2 : i < 16
    · have ii : (i : Int) < 16 := by omega
      have ii0 : (0 : Int) ≤ (i : Int) := by omega
      obtain ⟨p, hp⟩ : ∃ p, p = 2 * i := ⟨_, rfl⟩
      obtain ⟨q, hq⟩ : ∃ q, q = p + 1 := ⟨_, rfl⟩
      have KC : Hid (∀ s, Ext wr s → s.cell? ⟨w.heap.size, p, none⟩ = some (.int .u8 (bt ks p : Int)) ∧ s.cell? ⟨w.heap.size, q, none⟩ = some (.int .u8 (bt ks q : Int))) := fun s e => And.intro (Ky.cell (k0.ext e) (by omega)) (Ky.cell (k0.ext e) (by omega))
      have cv := k2.cell (i := i) (by omega)
      have fv := k2.frozen i
      have b1 := bt_lt ks p
      have b2 := bt_lt ks q
      obtain ⟨a, ha⟩ : ∃ a, a = bt ks p := ⟨_, rfl⟩
      obtain ⟨b, hb⟩ : ∃ b, b = bt ks q := ⟨_, rfl⟩
      obtain ⟨m, hm⟩ : ∃ m, m = 256 * b := ⟨_, rfl⟩
      obtain ⟨T, hT⟩ : ∃ T, T = a + m := ⟨_, rfl⟩
      have hTz : Hid (T = bt ks (2 * i) + 256 * bt ks (2 * i + 1)) := by unfold Hid; rw [hT, hm, ha, hb, hq, hp]
      rw [← ha] at KC b1
      rw [← hb] at KC b2
      generalize wd us i = old at *
      have g1 : (2 : Int) * (i : Int) = (p : Int) := by omega
      have g1w : IntKind.i64.wrap (p : Int) = (p : Int) := IntWalk.i64_in _ (by omega)
      have g2 : (p : Int) + 1 = (q : Int) := by omega
      have g2w : IntKind.i64.wrap (q : Int) = (q : Int) := IntWalk.i64_in _ (by omega)
      have p0 : (0 : Int) ≤ (p : Int) := by omega
      have p32 : (p : Int) < 32 := by omega
      have q0 : (0 : Int) ≤ (q : Int) := by omega
      have q32 : (q : Int) < 32 := by omega
      have f1 : IntKind.u64.wrap (a : Int) = (a : Int) := by rw [IntKind.wrap_u64]; omega
      have f2 : IntKind.u64.wrap (b : Int) = (b : Int) := by rw [IntKind.wrap_u64]; omega
      have f3 : (256 : Int) * (b : Int) = (m : Int) := by omega
      have f3w : IntKind.u64.wrap (m : Int) = (m : Int) := by rw [IntKind.wrap_u64]; omega
      have f4 : (a : Int) + (m : Int) = (T : Int) := by omega
      have f4w : IntKind.u64.wrap (T : Int) = (T : Int) := by rw [IntKind.wrap_u64]; omega
      have il : Hid (i < us.length) := by unfold Hid; omega
      have gne : Hid (¬ w.heap.size = w.heap.size + 1 + 1 ∧ ¬ w.heap.size + 1 = w.heap.size + 1 + 1) := by unfold Hid; omega
      replace hp := Lib.hid hp
      replace hq := Lib.hid hq
      replace ha := Lib.hid ha
      replace hb := Lib.hid hb
      replace hm := Lib.hid hm
      replace hT := Lib.hid hT
      replace ud := Lib.hid ud
      have d0 : Ext wr wr.drew := (Ext.refl _).drew
      have m0 := Lib.hid (k0.ext d0)
      have m1 := Lib.hid (k1.kept d0 k1.lt)
      have m2 := Lib.hid (k2.kept d0 k2.lt)
      have m3 := Lib.hid (e0.trans d0)
      clear k0 k1 k2 e0 d0 b1 b2 WS
      go_wp2_with fail
      refine wp_region_seqZ (R := Ext) Ext.refl (fun _ _ _ => Ext.trans) 15 [0, 1, 2, 3, 4, 5, 6, 7, 8, 9, 10, 11, 12, 13, 14, 15] [15] [(0, 10, 32), (0, 11, 32), (2, 12, 2048), (4, 13, 4100), (8, 14, 8192), (16, 15, 16384), (0, 16, 32), (64, 17, 65536), (128, 18, 131072), (256, 19, 262148), (512, 20, 524288), (1024, 21, 1048576), (2048, 22, 2097152), (4128, 23, 4227072), (16383, 24, 1040), (32767, 0, 25165824)] (by kernel_rfl) (by kernel_rfl) (by kernel_rfl) rfl (by kernel_rfl) (by kernel_rfl) (by kernel_rfl) (fun _ _ d _ _ h => by cases d <;> exact h) ?_
      repeat (refine seqZ_read _ (fun w' e => KC.out w' ((Ext.refl _).drew.trans e)) _ (v := ?_) rfl rfl (by rfl) ?_ ?_; rotate_left; (· intro w' hF; go_simp; (try with_reducible rfl)); simp only [Act.put, List.setIfInBounds_toArray, List.set_cons_zero, List.set_cons_succ])
      refine seqZ_do _ rfl rfl (by rfl) (fun K1 hK1 => ?_)
      go_simp
      refine hK1.out _ _ (.inl rfl) ?_
      clear hK1 K1
      refine seqZ_done ?_
      go_wp2_with fail
      refine ⟨⟨i + 1, us.set i T, by omega, by go_num, by rw [List.length_set]; exact ul, fun j hj => ?_, ⟨(Below.heap_setCell _ _ _ _ gne.out.1).trans m0.out.1, hk⟩, (Below.heap_setCell _ _ _ _ gne.out.2).trans m1.out, m2.out.set, Ext.setCell m3.out (show w.heap.size ≤ w.heap.size + 1 + 1 by omega) _⟩, by simp [intOf]; omega⟩
      rw [wd_set il.out]
      by_cases e : j = i
      · rw [if_pos e, e]; exact hTz.out
      · rw [if_neg e]; exact ud.out j (by omega)
    · obtain rfl : i = 16 := by omega
      have hu : Hid (∀ _ : Unit, us.set 15 (wd us 15 % 32768) = rs) := fun _ => WS.out us ul ud
      have c0 := k2.cell (i := 15) (by omega)
      have fv := k2.frozen 15
      have b1 : wd us 15 < 65536 := by rw [ud 15 (by omega)]; have := bt_lt ks (2 * 15); have := bt_lt ks (2 * 15 + 1); omega
      generalize wd us 15 = a at *
      obtain ⟨z, hz⟩ : ∃ z, z = a % 32768 := ⟨_, rfl⟩
      rw [← hz] at hu
      have f5 : (a : Int) % 32768 = (z : Int) := by omega
      have f5t : Int.tmod (a : Int) 32768 = (z : Int) := by rw [Int.tmod_eq_emod_of_nonneg (by omega)]; exact f5
      have f5w : IntKind.u64.wrap (z : Int) = (z : Int) := by rw [IntKind.wrap_u64]; omega
      replace hz := Lib.hid hz
      have gne : Hid (¬ w.heap.size + 1 = w.heap.size + 1 + 1) := by unfold Hid; omega
      replace k1 := Lib.hid k1
      replace k2 := Lib.hid k2
      replace e0 := Lib.hid e0
      clear ud b1 WS k0
      go_upto_region 7 with fail
      refine wp_gen (fun W => Ur W (w.heap.size + 1) 68 zs ∧ Ur W (w.heap.size + 1 + 1) 68 rs ∧ Ext w W) ⟨(Below.heap_setCell _ _ _ _ gne.out).trans k1.out, by rw [← hu.out ()]; exact k2.out.set, Ext.setCell e0.out (show w.heap.size ≤ w.heap.size + 1 + 1 by omega) _⟩ ?_
      clear k1 k2 e0 c0 fv hu f5 f5t f5w hz ul
      rintro W2 ⟨k1, k2, e0⟩
      go_wp2_with (first
        | (refine wpList_load_row rfl 68 _ rfl (w.heap.size + 1 + 1) rfl 68 (ucells rs).toArray (0, 0) _ k2 rfl rfl (by rw [RS]; rfl) ?_; simp only [Act.put, List.setIfInBounds_toArray, List.set_cons_zero, List.set_cons_succ])
        | (refine wpList_store_row rfl 68 _ _ rfl (w.heap.size + 1) (ucells rs).toArray rfl rfl 68 _ k1 (by rw [RS]; rfl) (by rw [RS, ZS]) R1 ?_; simp only [Act.put, List.setIfInBounds_toArray, List.set_cons_zero, List.set_cons_succ]))
      (try simp only [Exit.inBlock, Exit.then])
      refine bodyPost_ret (results_cell_row rfl _ _ (w.heap.size + 1) 68 (ucells rs).toArray (0, 0) _ rfl (setRow_heap _ _ _ _ _ _ k1) rfl rfl (by rw [RS]; rfl)) rfl ?_
      exact ⟨rfl, below_setRow e0 (by omega) _⟩
end Go.Proofs.YtfhafednnnfmbaaDoor
end

section
/-
  palfreyref06.Inv.
-/
namespace Go.Proofs.YtfhafednnnfmbaaDoor
open Go.ChangeShapes Go.WideShapes Go.ChangeAt Go.RowKit Go.Deep
set_option maxRecDepth 100000

def oneD : List Nat := [1, 0, 0, 0, 0, 0, 0, 0, 0, 0, 0, 0, 0, 0, 0, 0]
theorem oneD_eq : oneD = dgs 16 1 := by decide +kernel
theorem oneD_built : Tryd.prog.built 68 [(0, .int .u64 1)] = some (ucells oneD).toArray := by kernel_rfl

set_option maxHeartbeats 8000000 in
theorem rfinv_calls {x : Nat} {w : World} (hx : x < B16) :
    Calls Tryd.prog 39 #[.agg (ucells (dgs 16 x)).toArray] w fun e w' => ∃ z, z < B16 ∧ z % P25 = invF (x % P25) ∧ e = .returned (.agg (ucells (dgs 16 z)).toArray) ∧ Ext w w' := by
  have SQ : Hid (∀ (W : World) (a m : Nat), a < B16 → a % P25 = iA (x % P25) m → Calls Tryd.prog 37 #[.agg (ucells (dgs 16 a)).toArray, .agg (ucells (dgs 16 a)).toArray] W fun e w' => ∃ cs : List Nat, cs.length = 16 ∧ (∃ c, c < B16 ∧ c % P25 = iA (x % P25) m * iA (x % P25) m % P25 ∧ cs = dgs 16 c) ∧ e = .returned (.agg (ucells cs).toArray) ∧ Ext W w') := fun W a m h hm => by
    refine (rfmul_calls h h).mono ?_
    rintro e w' ⟨z, hz, hzm, rfl, e1⟩
    exact ⟨dgs 16 z, dgs_len 16 z, ⟨z, hz, by rw [hzm, Nat.mul_mod, hm], rfl⟩, rfl, e1⟩
  have MX : Hid (∀ (W : World) (a t : Nat), a < B16 → a % P25 = t → Calls Tryd.prog 37 #[.agg (ucells (dgs 16 a)).toArray, .agg (ucells (dgs 16 x)).toArray] W fun e w' => ∃ cs : List Nat, cs.length = 16 ∧ (∃ c, c < B16 ∧ c % P25 = t * (x % P25) % P25 ∧ cs = dgs 16 c) ∧ e = .returned (.agg (ucells cs).toArray) ∧ Ext W w') := fun W a t h hm => by
    refine (rfmul_calls h hx).mono ?_
    rintro e w' ⟨z, hz, hzm, rfl, e1⟩
    exact ⟨dgs 16 z, dgs_len 16 z, ⟨z, hz, by rw [hzm, Nat.mul_mod, hm], rfl⟩, rfl, e1⟩
  have hxP : Hid (x % P25 * 1 % P25 = x % P25) := by unfold Hid; rw [Nat.mul_one, Nat.mod_mod]
  obtain ⟨X, hX⟩ : ∃ X, X = x % P25 := ⟨_, rfl⟩
  rw [← hX] at SQ MX hxP ⊢
  have IS : Hid (∀ m, (m = 252 ∨ m = 250) → iA X (m + 1) = iA X m * iA X m % P25) := fun m h => by rw [iA, if_pos h]
  have IN : Hid (∀ m, ¬ (m = 252 ∨ m = 250) → iA X (m + 1) = iA X m * iA X m % P25 * X % P25) := fun m h => by rw [iA, if_neg h]
  have I0 : Hid (1 % P25 = iA X 0) := by unfold Hid; rw [iA]; decide +kernel
  have IE : Hid (iA X 255 = invF X) := rfl
  generalize invF X = R at *
  obtain ⟨f, hf⟩ : ∃ f : Nat → Nat, f = iA X := ⟨_, rfl⟩
  rw [← hf] at SQ IS IN I0 IE
  clear hf hX hxP hx
  have hal := num_alloc
  have ZL : zd16.length = 16 := rfl
  generalize zd16 = zs at *
  have ZS := ucells_size ZL
  have XL := dgs_len 16 x
  have XS := ucells_size XL
  generalize dgs 16 x = xs at *
  have O1L : oneD.length = 16 := rfl
  have hb1 := Lib.hid oneD_built
  have o1e : Hid (∀ _ : Unit, oneD = dgs 16 1) := fun _ => oneD_eq
  generalize oneD = ow at *
  have OS := ucells_size O1L
  have O1 := ucells_one ow
  have B0 : Hid (Ur (((w.alloc (Obj.cells (ucells xs).toArray 68)).alloc (Obj.cells (ucells zs).toArray 68)).alloc (Obj.cells (ucells zs).toArray 68)) w.heap.size 68 xs ∧ Ur (((w.alloc (Obj.cells (ucells xs).toArray 68)).alloc (Obj.cells (ucells zs).toArray 68)).alloc (Obj.cells (ucells zs).toArray 68)) (w.heap.size + 1) 68 zs ∧ Ur (((w.alloc (Obj.cells (ucells xs).toArray 68)).alloc (Obj.cells (ucells zs).toArray 68)).alloc (Obj.cells (ucells zs).toArray 68)) (w.heap.size + 1 + 1) 68 zs ∧ Ext w (((w.alloc (Obj.cells (ucells xs).toArray 68)).alloc (Obj.cells (ucells zs).toArray 68)).alloc (Obj.cells (ucells zs).toArray 68))) := ⟨heap_alloc30 _ _ _ _, heap_alloc31 _ _ _ _, heap_alloc32 _ _ _ _, (((Ext.refl w).alloc _).alloc _).alloc _⟩
  go_enter Tryd.func39, Tryd.ntmps39
  go_upto_region 2 with (first
    | (refine wpList_build_as rfl _ _ rfl (ucells ow).toArray (by simp only [List.map_toArray, List.map_cons, List.map_nil]; exact hb1.out) ?_; simp only [Act.put, List.setIfInBounds_toArray, List.set_cons_zero, List.set_cons_succ])
    | (refine wpList_store_row rfl 68 _ _ rfl (w.heap.size + 1 + 1) (ucells ow).toArray rfl rfl 68 _ B0.out.2.2.1 (by rw [OS]; rfl) (by rw [OS, ZS]) O1 ?_; simp only [Act.put, List.setIfInBounds_toArray, List.set_cons_zero, List.set_cons_succ]))
  refine wp_gen (fun W => Ur W w.heap.size 68 xs ∧ Ur W (w.heap.size + 1) 68 zs ∧ Ur W (w.heap.size + 1 + 1) 68 ow ∧ Ext w W) ⟨(setRow_other _ _ _ _ (by omega)).trans B0.out.1, (setRow_other _ _ _ _ (by omega)).trans B0.out.2.1, setRow_heap _ _ _ _ _ _ B0.out.2.2.1, below_setRow B0.out.2.2.2 (by omega) _⟩ ?_
  clear B0
  rintro W0 ⟨k0, k1, k2, e0⟩
  replace k0 := Lib.hid k0
  replace k1 := Lib.hid k1
  replace k2 := Lib.hid k2
  replace e0 := Lib.hid e0
  go_wp2_with fail
  go_loopw [4] (fun iv wr => ∃ (m z : Nat), m ≤ 255 ∧ iv = .int .i64 (254 - (m : Int)) ∧ z < B16 ∧ z % P25 = f m ∧ Ur wr w.heap.size 68 xs ∧ Ur wr (w.heap.size + 1) 68 zs ∧ Ur wr (w.heap.size + 1 + 1) 68 (dgs 16 z) ∧ Ext w wr) (fun iv _ => (intOf iv + 1).toNat)
  case atStart => exact ⟨0, 1, Nat.zero_le _, rfl, by decide +kernel, I0.out, k0.out, k1.out, by rw [← o1e.out ()]; exact k2.out, e0.out⟩
  case round =>
    clear k0 k1 k2 e0 I0 o1e
    obtain ⟨m, z, hm, rfl, hz, hzm, k0, k1, k2, e0⟩ := hrel
    have L_z := dgs_len 16 z
    have S_z := ucells_size L_z
    by_cases hlt : m < 255
    · obtain ⟨b, hb⟩ : ∃ b : Int, b = 254 - (m : Int) := ⟨_, rfl⟩
      rw [← hb]
      have b0 : (0 : Int) ≤ b := by omega
      have b1 : b ≤ 254 := by omega
      have bw : IntKind.i64.wrap (b - 1) = b - 1 := IntWalk.i64_in _ (by omega)
      have hbn : Hid (b - 1 = 254 - ((m + 1 : Nat) : Int)) := by unfold Hid; omega
      have SQm := Lib.hid (fun W => SQ.out W z m hz hzm)
      have CASE : Hid (((b = 2 ∨ b = 4) ∧ f (m + 1) = f m * f m % P25) ∨ ((¬ b = 2 ∧ ¬ b = 4) ∧ f (m + 1) = f m * f m % P25 * X % P25)) := by
        unfold Hid
        by_cases q : m = 252 ∨ m = 250
        · exact .inl ⟨by omega, IS.out m q⟩
        · exact .inr ⟨by omega, IN.out m q⟩
      clear IS IN IE SQ hz hzm
      replace hb := Lib.hid hb
      generalize dgs 16 z = zz at *
      replace k0 := Lib.hid k0
      replace k1 := Lib.hid k1
      replace k2 := Lib.hid k2
      replace e0 := Lib.hid e0
      go_wp2_with (refine wpList_load_row rfl 68 _ rfl (w.heap.size + 1 + 1) rfl 68 (ucells zz).toArray (0, 0) _ k2.out rfl rfl (by rw [S_z]; rfl) ?_; simp only [Act.put, List.setIfInBounds_toArray, List.set_cons_zero, List.set_cons_succ])
      refine (SQm.out _).mono ?_
      rintro e w1 ⟨cs, cl, hc, rfl, e1⟩
      replace hc := Lib.hid hc
      have S_c := ucells_size cl
      have O_c := ucells_one cs
      have m0 := Lib.hid (k0.out.kept e1 k0.out.lt)
      have m1 := Lib.hid (k1.out.kept e1 k1.out.lt)
      have m2 := Lib.hid (k2.out.kept e1 k2.out.lt)
      have m3 := Lib.hid (e0.out.trans e1)
      clear k0 k1 k2 e0 e1 SQm
      go_upto_region 6 with (refine wpList_store_row rfl 68 _ _ rfl (w.heap.size + 1 + 1) (ucells cs).toArray rfl rfl 68 _ m2.out (by rw [S_c]; rfl) (by rw [S_c, S_z]) O_c ?_; simp only [Act.put, List.setIfInBounds_toArray, List.set_cons_zero, List.set_cons_succ])
      refine wp_gen (fun W => Ur W w.heap.size 68 xs ∧ Ur W (w.heap.size + 1) 68 zs ∧ Ur W (w.heap.size + 1 + 1) 68 cs ∧ Ext w W) ⟨(setRow_other _ _ _ _ (by omega)).trans m0.out, (setRow_other _ _ _ _ (by omega)).trans m1.out, setRow_heap _ _ _ _ _ _ m2.out, below_setRow m3.out (by omega) _⟩ ?_
      clear m0 m1 m2 m3 S_z L_z
      rintro w2 ⟨k0, k1, k2, e0⟩
      replace k0 := Lib.hid k0
      replace k1 := Lib.hid k1
      replace k2 := Lib.hid k2
      replace e0 := Lib.hid e0
      rcases CASE.out with ⟨hbb, hfe⟩ | ⟨⟨n2, n4⟩, hfe⟩
      · clear CASE MX
        have hfe' := Lib.hid (fun _ : Unit => hfe)
        clear hfe
        rcases hbb with rfl | rfl <;>
        · go_wp2_with fail
          obtain ⟨c, hcB, hcm, hce⟩ := hc.out
          exact ⟨⟨m + 1, c, by omega, by rw [← hbn.out]; rfl, hcB, by rw [hfe'.out ()]; exact hcm, k0.out, k1.out, by rw [← hce]; exact k2.out, e0.out⟩, by simp [intOf]⟩
      · clear CASE
        have hfe' := Lib.hid (fun _ : Unit => hfe)
        clear hfe
        have n2b : (b != 2) = true := by simpa using n2
        have n4b : (b != 4) = true := by simpa using n4
        have MXc : Hid (∀ W, Calls Tryd.prog 37 #[.agg (ucells cs).toArray, .agg (ucells xs).toArray] W fun e w' => ∃ ds : List Nat, ds.length = 16 ∧ (∃ c, c < B16 ∧ c % P25 = f m * f m % P25 * X % P25 ∧ ds = dgs 16 c) ∧ e = .returned (.agg (ucells ds).toArray) ∧ Ext W w') := fun W => by
          obtain ⟨c, hcB, hcm, hce⟩ := hc.out
          rw [hce]
          exact MX.out W c _ hcB hcm
        clear MX hc
        go_wp2_with (first
          | (refine wpList_load_row rfl 68 _ rfl (w.heap.size + 1 + 1) rfl 68 (ucells cs).toArray (0, 0) _ k2.out rfl rfl (by rw [S_c]; rfl) ?_; simp only [Act.put, List.setIfInBounds_toArray, List.set_cons_zero, List.set_cons_succ])
          | (refine wpList_load_row rfl 68 _ rfl w.heap.size rfl 68 (ucells xs).toArray (0, 0) _ k0.out rfl rfl (by rw [XS]; rfl) ?_; simp only [Act.put, List.setIfInBounds_toArray, List.set_cons_zero, List.set_cons_succ]))
        refine (MXc.out _).mono ?_
        rintro e w3 ⟨ds, dl, hd, rfl, e1⟩
        replace hd := Lib.hid hd
        have S_d := ucells_size dl
        have O_d := ucells_one ds
        have m0 := Lib.hid (k0.out.kept e1 k0.out.lt)
        have m1 := Lib.hid (k1.out.kept e1 k1.out.lt)
        have m2 := Lib.hid (k2.out.kept e1 k2.out.lt)
        have m3 := Lib.hid (e0.out.trans e1)
        clear k0 k1 k2 e0 e1 MXc
        go_wp2_with (refine wpList_store_row rfl 68 _ _ rfl (w.heap.size + 1 + 1) (ucells ds).toArray rfl rfl 68 _ m2.out (by rw [S_d]; rfl) (by rw [S_d, S_c]) O_d ?_; simp only [Act.put, List.setIfInBounds_toArray, List.set_cons_zero, List.set_cons_succ])
        obtain ⟨c, hcB, hcm, hce⟩ := hd.out
        exact ⟨⟨m + 1, c, by omega, by rw [← hbn.out], hcB, by rw [hfe'.out ()]; exact hcm, (setRow_other _ _ _ _ (by omega)).trans m0.out, (setRow_other _ _ _ _ (by omega)).trans m1.out, by rw [← hce]; exact setRow_heap _ _ _ _ _ _ m2.out, below_setRow m3.out (by omega) _⟩, by simp [intOf]; omega⟩
    · obtain rfl : m = 255 := by omega
      rw [IE.out] at hzm
      have O_z := ucells_one (dgs 16 z)
      obtain ⟨zz, hzz⟩ : ∃ zz, zz = dgs 16 z := ⟨_, rfl⟩
      rw [← hzz] at k2 L_z S_z O_z
      replace hzz := Lib.hid (fun _ : Unit => hzz)
      replace hz := Lib.hid hz
      replace hzm := Lib.hid hzm
      replace k1 := Lib.hid k1
      replace k2 := Lib.hid k2
      replace e0 := Lib.hid e0
      clear k0 IS IN IE SQ MX
      go_wp2_with (first
        | (refine wpList_load_row rfl 68 _ rfl (w.heap.size + 1 + 1) rfl 68 (ucells zz).toArray (0, 0) _ k2.out rfl rfl (by rw [S_z]; rfl) ?_; simp only [Act.put, List.setIfInBounds_toArray, List.set_cons_zero, List.set_cons_succ])
        | (refine wpList_store_row rfl 68 _ _ rfl (w.heap.size + 1) (ucells zz).toArray rfl rfl 68 _ k1.out (by rw [S_z]; rfl) (by rw [S_z, ZS]) O_z ?_; simp only [Act.put, List.setIfInBounds_toArray, List.set_cons_zero, List.set_cons_succ]))
      (try simp only [Exit.inBlock, Exit.then])
      refine bodyPost_ret (results_cell_row rfl _ _ (w.heap.size + 1) 68 (ucells zz).toArray (0, 0) _ rfl (setRow_heap _ _ _ _ _ _ k1.out) rfl rfl (by rw [S_z]; rfl)) rfl ?_
      exact ⟨z, hz.out, hzm.out, by rw [hzz.out ()], below_setRow e0.out (by omega) _⟩
end Go.Proofs.YtfhafednnnfmbaaDoor
end

section
/-
  The document's numbers, by what they are modulo p: contracts of palfreyref06 in one form.
-/
namespace Go.Proofs.YtfhafednnnfmbaaDoor
open Go.ChangeShapes Go.WideShapes Go.ChangeAt Go.RowKit Go.Deep
set_option maxRecDepth 100000

/-- Sixteen digits of a number that is v modulo p. -/
def IsN (cs : List Nat) (v : Nat) : Prop := ∃ c, c < B16 ∧ c % P25 = v ∧ cs = dgs 16 c
theorem IsN.len {cs : List Nat} {v : Nat} (h : IsN cs v) : cs.length = 16 := by obtain ⟨c, _, _, rfl⟩ := h; exact dgs_len 16 c
/-- Block g holds such digits. -/
def Un (w : World) (g v : Nat) : Prop := ∃ cs, Ur w g 68 cs ∧ IsN cs v
theorem Un.lt {w : World} {g v : Nat} (h : Un w g v) : g < w.heap.size := by obtain ⟨cs, h, _⟩ := h; exact h.lt
theorem Un.kept {B : Nat} {w w' : World} {g v : Nat} (h : Un w g v) (e : Below B w w') (hB : g < B) : Un w' g v := by obtain ⟨cs, h, hn⟩ := h; exact ⟨cs, h.kept e hB, hn⟩
section
variable {cs ds : List Nat} {x y : Nat} {w : World}
theorem nadd_calls (hx : IsN cs x) (hy : IsN ds y) : Calls Tryd.prog 35 #[.agg (ucells cs).toArray, .agg (ucells ds).toArray] w fun e w' => ∃ es, IsN es (addP x y) ∧ e = .returned (.agg (ucells es).toArray) ∧ Ext w w' := by
  obtain ⟨a, ha, hm, rfl⟩ := hx
  obtain ⟨b, hb, hn, rfl⟩ := hy
  refine rfadd_calls.mono ?_
  rintro e w' ⟨rfl, e1⟩
  exact ⟨_, ⟨addN a b, addN_lt a b, by rw [addN_mod ha hb, Nat.add_mod, hm, hn]; rfl, rfl⟩, rfl, e1⟩
theorem nsub_calls (hx : IsN cs x) (hy : IsN ds y) : Calls Tryd.prog 36 #[.agg (ucells cs).toArray, .agg (ucells ds).toArray] w fun e w' => ∃ es, IsN es (subP x y) ∧ e = .returned (.agg (ucells es).toArray) ∧ Ext w w' := by
  obtain ⟨a, ha, hm, rfl⟩ := hx
  obtain ⟨b, hb, hn, rfl⟩ := hy
  refine rfsub_calls.mono ?_
  rintro e w' ⟨rfl, e1⟩
  exact ⟨_, ⟨subN a b, subN_lt a b, by rw [subN_mod ha hb, hm, hn]; rfl, rfl⟩, rfl, e1⟩
theorem nmul_calls (hx : IsN cs x) (hy : IsN ds y) : Calls Tryd.prog 37 #[.agg (ucells cs).toArray, .agg (ucells ds).toArray] w fun e w' => ∃ es, IsN es (mulP x y) ∧ e = .returned (.agg (ucells es).toArray) ∧ Ext w w' := by
  obtain ⟨a, ha, hm, rfl⟩ := hx
  obtain ⟨b, hb, hn, rfl⟩ := hy
  refine (rfmul_calls ha hb).mono ?_
  rintro e w' ⟨z, hz, hzm, rfl, e1⟩
  exact ⟨_, ⟨z, hz, by rw [hzm, Nat.mul_mod, hm, hn]; rfl, rfl⟩, rfl, e1⟩
theorem ninv_calls (hx : IsN cs x) : Calls Tryd.prog 39 #[.agg (ucells cs).toArray] w fun e w' => ∃ es, IsN es (invF x) ∧ e = .returned (.agg (ucells es).toArray) ∧ Ext w w' := by
  obtain ⟨a, ha, hm, rfl⟩ := hx
  refine (rfinv_calls ha).mono ?_
  rintro e w' ⟨z, hz, hzm, rfl, e1⟩
  exact ⟨_, ⟨z, hz, by rw [hzm, hm], rfl⟩, rfl, e1⟩
theorem nkey_calls (hx : IsN cs x) : Calls Tryd.prog 38 #[.agg (ucells cs).toArray] w fun e w' => e = .returned (.agg (cellsOf (kL x)).toArray) ∧ Ext w w' := by
  obtain ⟨a, ha, hm, rfl⟩ := hx
  have := rfkey_calls (w := w) ha
  rwa [hm] at this
theorem nof_calls {ks : List UInt8} (hk : ks.length = 32) : Calls Tryd.prog 33 #[.agg (cellsOf ks).toArray] w fun e w' => ∃ es, IsN es (ofV ks) ∧ e = .returned (.agg (ucells es).toArray) ∧ Ext w w' := by
  refine (rfof_calls hk).mono ?_
  rintro e w' ⟨rfl, e1⟩
  exact ⟨_, ⟨ofM ks, ofM_lt ks, (ofV_ofM ks).symm, rfl⟩, rfl, e1⟩
end
def facD : List Nat := [56129, 1, 0, 0, 0, 0, 0, 0, 0, 0, 0, 0, 0, 0, 0, 0]
theorem facD_built : Tryd.prog.built 68 [(0, .int .u64 56129), (1, .int .u64 1)] = some (ucells facD).toArray := by kernel_rfl
theorem zeroD_built : Tryd.prog.built 68 [] = some (ucells zd16).toArray := by kernel_rfl
theorem facD_is : IsN facD 121665 := ⟨121665, by decide +kernel, by decide +kernel, by decide +kernel⟩
theorem oneD_is : IsN oneD 1 := ⟨1, by decide +kernel, by decide +kernel, by decide +kernel⟩
theorem zd16_is : IsN zd16 0 := ⟨0, by decide +kernel, by decide +kernel, by decide +kernel⟩
end Go.Proofs.YtfhafednnnfmbaaDoor
end

section
/-
  palfreyref07.bit.
-/
namespace Go.Proofs.YtfhafednnnfmbaaDoor
open Go.ChangeShapes Go.WideShapes Go.ChangeAt Go.RowKit Go.Deep
set_option maxRecDepth 100000

set_option maxHeartbeats 2000000 in
theorem rbit_calls {ks : List UInt8} {n : Nat} {w : World} (hk : ks.length = 32) (hn : n ≤ 254) :
    Calls Tryd.prog 34 #[.agg (cellsOf ks).toArray, .int .i64 (n : Int)] w fun e w' => e = .returned (.bool (bitB ks n)) ∧ Ext w w' := by
  have B0 : Hid (Ky (w.alloc (Obj.cells (cellsOf ks).toArray 23)) w.heap.size ks ∧ Ext w (w.alloc (Obj.cells (cellsOf ks).toArray 23))) := ⟨Ky.boxed w hk, (Ext.refl w).alloc _⟩
  by_cases h3 : n < 3
  · have hb : Hid (bitB ks n = false) := by unfold Hid bitB; rw [if_pos (by omega)]
    have t1 : decide ((n : Int) < 3) = true := decide_eq_true (by omega)
    go_enter Tryd.func34, Tryd.ntmps34
    go_wp2_with fail
    go_ret
    exact ⟨by rw [hb.out]; rfl, B0.out.2⟩
  · have t1 : decide ((n : Int) < 3) = false := decide_eq_false (by omega)
    have t2 : ((n : Int) == 255) = false := by simp; omega
    by_cases h4 : n = 254
    · have hb : Hid (bitB ks n = true) := by unfold Hid bitB; rw [if_neg (by omega), if_pos h4]
      have t3 : ((n : Int) == 254) = true := by simp; omega
      replace h4 := Lib.hid (fun _ : Unit => h4)
      go_enter Tryd.func34, Tryd.ntmps34
      go_wp2_with fail
      go_ret
      exact ⟨by rw [hb.out]; rfl, B0.out.2⟩
    · have t3 : ((n : Int) == 254) = false := by simp; omega
      obtain ⟨q, hq⟩ : ∃ q, q = n / 8 := ⟨_, rfl⟩
      obtain ⟨r, hr⟩ : ∃ r, r = n % 8 := ⟨_, rfl⟩
      have hb : Hid (bitB ks n = decide (bt ks q / 2 ^ r % 2 = 1)) := by unfold Hid bitB; rw [if_neg (by omega), if_neg h4, hq, hr]
      have iq : (n : Int) / 8 = (q : Int) := by omega
      have ir : (n : Int) % 8 = (r : Int) := by omega
      have iq' : Int.tdiv (n : Int) 8 = (q : Int) := by rw [Int.tdiv_eq_ediv_of_nonneg (by omega)]; omega
      have ir' : Int.tmod (n : Int) 8 = (r : Int) := by rw [Int.tmod_eq_emod_of_nonneg (by omega)]; omega
      have q32 : q < 32 := by omega
      have q32' : (q : Int) < 32 := by omega
      have q0 : (0 : Int) ≤ (q : Int) := by omega
      have r8 : (r : Int) < 8 := by omega
      have c6 := B0.out.1.cell q32
      have b256 := bt_lt ks q
      generalize bt ks q = u at *
      obtain ⟨y, hy⟩ : ∃ y, y = u / 2 ^ r := ⟨_, rfl⟩
      have y8 : y < 256 := by rw [hy]; exact Nat.lt_of_le_of_lt (Nat.div_le_self _ _) b256
      have s1 : Op.shift .shr .u8 (u : Int) .i64 (r : Int) = pure (.int .u8 (y : Int)) := by
        have := shift_shr .u8 .i64 (u : Int) (r : Int) (by omega) (by show (r : Int) ≤ 8; omega)
        rw [this, hy]
        simp
      have s3 : (u : Int) / 2 ^ r = (y : Int) := by rw [hy]; simp
      rw [← hy] at hb
      obtain ⟨t, ht⟩ : ∃ t, t = y % 2 := ⟨_, rfl⟩
      have s4 : (y : Int) % 2 = (t : Int) := by omega
      have s4' : Int.tmod (y : Int) 2 = (t : Int) := by rw [Int.tmod_eq_emod_of_nonneg (by omega)]; omega
      rw [← ht] at hb
      have t01 : t = 0 ∨ t = 1 := by omega
      clear hy ht hq hr y8 b256 h3 h4 hn
      rcases t01 with h | h
      · have t5 : ((t : Int) == 1) = false := by rw [h]; rfl
        have hb' : Hid (bitB ks n = false) := by unfold Hid; rw [hb.out, h]; rfl
        clear h hb
        go_enter Tryd.func34, Tryd.ntmps34
        go_wp2_with fail
        go_ret
        exact ⟨by rw [hb'.out]; rfl, B0.out.2⟩
      · have t5 : ((t : Int) == 1) = true := by rw [h]; rfl
        have hb' : Hid (bitB ks n = true) := by unfold Hid; rw [hb.out, h]; rfl
        clear h hb
        go_enter Tryd.func34, Tryd.ntmps34
        go_wp2_with fail
        go_ret
        exact ⟨by rw [hb'.out]; rfl, B0.out.2⟩
end Go.Proofs.YtfhafednnnfmbaaDoor
end
