/-
  field.folded.
-/
import Derived.Test.YtfhafednnnfmbaaDoorFldFold
namespace Go.Proofs.YtfhafednnnfmbaaDoor
open Go.ChangeShapes Go.WideShapes Go.ChangeAt Go.RowKit Go.Deep
set_option maxRecDepth 100000

theorem plusM {z n : Nat} {w : World} (hn : n < 4294967296) : Calls Tryd.prog 74 #[.agg (wcells (lbs 8 z)).toArray, .int .u64 (n : Int)] w fun e w' => e = .returned (.tuple #[.agg (wcells (lbs 8 (z % M8 + n))).toArray, .int .u64 ((z % M8 + n) / M8 : Nat)]) ∧ Ext w w' := by
  have := plus_calls (x := z % M8) (n := n) (w := w) hn
  unfold RetPlus at this
  rw [show cP (z % M8) n 8 = (z % M8 + n) / M8 from cP_eight (Nat.mod_lt z M8_pos), show lbs 8 (z % M8) = lbs 8 z from lbs_mod 8 z] at this
  exact this

set_option maxHeartbeats 4000000 in
theorem folded_calls {z : Nat} {w : World} (hz : z < M8 * M8) {tg : TypeId × Nat × Nat} (hG : Gp w tg) :
    Calls Tryd.prog 66 #[.agg (wcells (lbs 16 z)).toArray] w fun e w' => e = .returned (.agg (wcells (lbs 8 (z % P25))).toArray) ∧ Ext w w' := by
  have hS := fA_one hz
  obtain ⟨hS1, hh1⟩ := fA_two hS
  obtain ⟨hS2, hh2⟩ := fA_three (show fA (fA z) < M8 + 1445 from hS1)
  have hS3 := fB_lt hS2
  have htop := (top_bit hS2).1
  have hset := (top_bit hS2).2
  have hq : fA (fA (fA z)) / H8 < 2 := Nat.div_lt_of_lt_mul (by rw [Nat.mul_comm]; exact Nat.lt_of_lt_of_eq hS2 (by decide +kernel))
  have PL1 : Hid (∀ (W : World) (n : Nat), n = 38 * (fA z / M8) → Calls Tryd.prog 74 #[.agg (wcells (lbs 8 (fA z))).toArray, .int .u64 (n : Int)] W fun e w' => e = .returned (.tuple #[.agg (wcells (lbs 8 (fA (fA z)))).toArray, .int .u64 (fA (fA z) / M8 : Nat)]) ∧ Ext W w') := fun W n hn => by
    subst hn
    exact plusM (by omega)
  have PL2 : Hid (∀ (W : World) (n : Nat), n = 38 * (fA (fA z) / M8) → Calls Tryd.prog 74 #[.agg (wcells (lbs 8 (fA (fA z)))).toArray, .int .u64 (n : Int)] W fun e w' => e = .returned (.tuple #[.agg (wcells (lbs 8 (fA (fA (fA z))))).toArray, .int .u64 (fA (fA (fA z)) / M8 : Nat)]) ∧ Ext W w') := fun W n hn => by
    subst hn
    exact plusM (by omega)
  have PL3 : Hid (∀ (W : World) (n : Nat), n = 19 * (fA (fA (fA z)) / H8) → Calls Tryd.prog 74 #[.agg (wcells (lbs 8 (fA (fA (fA z)) % H8))).toArray, .int .u64 (n : Int)] W fun e w' => ∃ c : Nat, e = .returned (.tuple #[.agg (wcells (lbs 8 (fB (fA (fA (fA z)))))).toArray, .int .u64 (c : Int)]) ∧ Ext W w') := fun W n hn => by
    subst hn
    refine (plusM (w := W) (z := fA (fA (fA z)) % H8) (n := 19 * (fA (fA (fA z)) / H8)) (by omega)).mono ?_
    rintro e w' ⟨rfl, x⟩
    rw [Nat.mod_eq_of_lt (show fA (fA (fA z)) % H8 < M8 from Nat.lt_of_le_of_lt (Nat.mod_le _ _) hS2)]
    exact ⟨_, rfl, x⟩
  have RED : Hid (∀ (W : World), Ext w W → Calls Tryd.prog 62 #[.agg (wcells (lbs 8 (fB (fA (fA (fA z)))))).toArray] W fun e w' => e = .returned (.agg (wcells (lbs 8 (z % P25))).toArray) ∧ Ext W w') := fun W e => by
    rw [← fold_mod z]
    exact reduced_calls hS3 (hG.ext e)
  have ZX : Hid (∀ j, j < 16 → wd (lbs 16 z) j = lb z j) := fun j hj => wd_lbs hj
  have XL := lbs_len 16 z
  obtain ⟨x, hx⟩ : ∃ x, x = z % M8 := ⟨_, rfl⟩
  obtain ⟨y, hy⟩ : ∃ y, y = z / M8 := ⟨_, rfl⟩
  have LX : Hid (∀ j, j < 8 → lb z j = lb x j) := fun j hj => by rw [hx]; exact (lb_low hj).symm
  have LY : Hid (∀ j, lb z (j + 8) = lb y j) := fun j => by rw [hy]; exact (lb_high z j).symm
  have C8 : Hid (cM x y 8 = fA z / M8) := by unfold Hid; rw [hx, hy]; exact cM_eight hz
  have LS : Hid (∀ i, lb (fA z) i = (lb x i + 38 * lb y i + cM x y i) % 4294967296) := fun i => by unfold fA; rw [← hx, ← hy]; exact lb_mul x y i
  have RQ : Hid (∀ vs : List Nat, vs.length = 8 → (∀ j, j < 8 → wd vs j = lb (fA z) j) → vs = lbs 8 (fA z)) := fun vs h1 h2 => words_lbs h1 h2
  have L0 := lbs_len 8 (fA z)
  have L1 := lbs_len 8 (fA (fA z))
  have L2 := lbs_len 8 (fA (fA (fA z)))
  have L2b := lbs_len 8 (fA (fA (fA z)) % H8)
  have L3 := lbs_len 8 (fB (fA (fA (fA z))))
  have LR := lbs_len 8 (z % P25)
  have W7 : Hid (wd (lbs 8 (fA (fA (fA z)))) 7 = lb (fA (fA (fA z))) 7) := wd_lbs (by omega)
  have h7 := lb_lt (fA (fA (fA z))) 7
  clear hG hS hS1 hS2 hS3 hx hy hz
  generalize lbs 8 (fB (fA (fA (fA z)))) = l3 at *
  generalize lbs 8 (fA (fA (fA z)) % H8) = l2b at *
  generalize fA (fA (fA z)) / H8 = tp at *
  generalize lb (fA (fA (fA z))) 7 = w7 at *
  generalize lbs 8 (fA (fA (fA z))) = l2 at *
  generalize fA (fA (fA z)) / M8 = h3 at *
  generalize fA (fA z) / M8 = h2 at *
  generalize lbs 8 (fA (fA z)) = l1 at *
  generalize fA z / M8 = h1 at *
  generalize hm : fA z = m at *
  clear hm
  generalize lbs 8 m = l0 at *
  generalize lbs 8 (z % P25) = lr at *
  generalize lbs 16 z = zz at *
  have BN : Hid (∀ i, cM x y (i + 1) = (lb x i + 38 * lb y i + cM x y i) / 4294967296) := fun i => rfl
  have BLE : Hid (∀ i, cM x y i ≤ 38) := cM_le x y
  replace htop := Lib.hid htop
  replace hset := Lib.hid hset
  have hal := fld_alloc
  have hal2 := elem_alloc
  have ZL : zw8.length = 8 := rfl
  generalize zw8 = zs at *
  have ZS := wcells_size ZL
  have XA : Hid (∀ (o1 o2 o3 : Obj), (((w.alloc o1).alloc o2).alloc o3).heap[w.heap.size]? = some o1 ∧ (((w.alloc o1).alloc o2).alloc o3).heap[w.heap.size + 1]? = some o2 ∧ (((w.alloc o1).alloc o2).alloc o3).heap[w.heap.size + 1 + 1]? = some o3) := fun o1 o2 o3 => ⟨heap_alloc30 _ _ _ _, heap_alloc31 _ _ _ _, heap_alloc32 _ _ _ _⟩
  have B0 : Hid (∀ o1 o2 o3, Ext w (((w.alloc o1).alloc o2).alloc o3)) := fun o1 o2 o3 => (((Ext.refl w).alloc _).alloc _).alloc _
  go_enter Tryd.func66, Tryd.ntmps66
  go_upto_region 2 with fail
  refine wp_gen (fun W => Wr W w.heap.size 106 zz ∧ Wr W (w.heap.size + 1) 81 zs ∧ Wr W (w.heap.size + 1 + 1) 79 zs ∧ Ext w W) ⟨(XA.out _ _ _).1, (XA.out _ _ _).2.1, (XA.out _ _ _).2.2, B0.out _ _ _⟩ ?_
  clear XA B0
  rintro W0 ⟨wa, we, wc4, e0⟩
  replace wa := Lib.hid wa
  replace we := Lib.hid we
  replace wc4 := Lib.hid wc4
  replace e0 := Lib.hid e0
  go_wp2_with fail
  go_loopw [4, 8] (fun cv iv wr => ∃ (k : Nat) (vs : List Nat), k ≤ 8 ∧ iv = .int .i64 (k : Int) ∧ cv = .int .u64 (cM x y k : Int) ∧ vs.length = 8 ∧ (∀ j, j < k → wd vs j = lb m j) ∧ Below (w.heap.size + 1 + 1) W0 wr ∧ Wr wr (w.heap.size + 1 + 1) 79 vs) (fun _ iv _ => 8 - (intOf iv).toNat)
  case atStart => exact ⟨0, zs, Nat.zero_le _, rfl, rfl, ZL, fun j hj => absurd hj (by omega), Below.refl _ _, wc4.out⟩
  case round =>
    obtain ⟨k, vs, hk, rfl, rfl, vl, hv, hB, hw⟩ := hrel
    clear wc4
    by_cases hlt : k < 8
    · have ka := Lib.hid (wa.out.kept hB (by omega))
      obtain ⟨q, hqq⟩ : ∃ q, q = k + 8 := ⟨_, rfl⟩
      have ca : Hid (∀ s, Ext wr s → s.cell? ⟨w.heap.size, k, none⟩ = some (.int .u32 (lb x k : Int)) ∧ s.cell? ⟨w.heap.size, q, none⟩ = some (.int .u32 (lb y k : Int))) := fun s e => by
        have g1 := (ka.out.kept e ka.out.lt).cell (i := k) (by omega)
        have g2 := (ka.out.kept e ka.out.lt).cell (i := q) (by omega)
        rw [ZX.out k (by omega), LX.out k hlt] at g1
        rw [ZX.out q (by omega), hqq, LY.out k, ← hqq] at g2
        exact And.intro g1 g2
      have g1 := lb_lt x k
      have g2 := lb_lt y k
      have g3 := BLE.out k
      have hzq := Lib.hid (LS.out k)
      have hc := Lib.hid (BN.out k)
      generalize lb x k = a at *
      generalize lb y k = b at *
      generalize cM x y k = c at *
      obtain ⟨n38, hn38⟩ : ∃ n38, n38 = 38 * b := ⟨_, rfl⟩
      obtain ⟨s, hs⟩ : ∃ s, s = a + n38 := ⟨_, rfl⟩
      obtain ⟨T, hT⟩ : ∃ T, T = a + 38 * b + c := ⟨_, rfl⟩
      obtain ⟨v, hvv⟩ : ∃ v, v = T % 4294967296 := ⟨_, rfl⟩
      obtain ⟨d, hd⟩ : ∃ d, d = T / 4294967296 := ⟨_, rfl⟩
      rw [← hT, ← hvv] at hzq
      rw [← hT, ← hd] at hc
      have f1 : IntKind.u64.wrap (a : Int) = (a : Int) := by rw [IntKind.wrap_u64]; omega
      have f2 : IntKind.u64.wrap (b : Int) = (b : Int) := by rw [IntKind.wrap_u64]; omega
      have f0 : (38 : Int) * (b : Int) = (n38 : Int) := by omega
      have f0w : IntKind.u64.wrap (n38 : Int) = (n38 : Int) := by rw [IntKind.wrap_u64]; omega
      have f3 : (a : Int) + (n38 : Int) = (s : Int) := by omega
      have f3w : IntKind.u64.wrap (s : Int) = (s : Int) := by rw [IntKind.wrap_u64]; omega
      have f4 : (s : Int) + (c : Int) = (T : Int) := by omega
      have f4w : IntKind.u64.wrap (T : Int) = (T : Int) := by rw [IntKind.wrap_u64]; omega
      have f5 : IntKind.u32.wrap (T : Int) = (v : Int) := by rw [IntKind.wrap_u32]; omega
      have f5m : (T : Int) % 4294967296 = (v : Int) := by omega
      have f6 : (T : Int) / 4294967296 = (d : Int) := by omega
      have f6' : (T : Int) / 2 ^ 32 = (d : Int) := f6
      have Tlt : T < 18446744073709551616 := by omega
      have q1 : Op.shift .shr .u64 (T : Int) .u64 32 = pure (.int .u64 (d : Int)) := by
        have := shift_shr .u64 .u64 (T : Int) 32 (by omega) (by decide)
        rw [this]
        congr 2
      have fq : (k : Int) + 8 = (q : Int) := by omega
      have fqw : IntKind.i64.wrap (q : Int) = (q : Int) := IntWalk.i64_in _ (by omega)
      have q16 : (q : Int) < 16 := by omega
      have q0 : (0 : Int) ≤ (q : Int) := by omega
      have ik : (k : Int) < 8 := by omega
      have ik16 : (k : Int) < 16 := by omega
      have ik0 : (0 : Int) ≤ (k : Int) := by omega
      have cv := hw.cell (i := k) (by omega)
      have fv := hw.frozen k
      replace hqq := Lib.hid hqq
      replace hn38 := Lib.hid hn38
      replace hs := Lib.hid hs
      replace hT := Lib.hid hT
      replace hvv := Lib.hid hvv
      replace hd := Lib.hid hd
      replace hv := Lib.hid hv
      replace hB := Lib.hid hB
      replace hw := Lib.hid hw
      clear g1 g2 g3
      go_wp2_with fail
      refine wp_region_seq (R := Ext) Ext.refl (fun _ _ _ => Ext.trans) [0, 1, 2, 3, 4, 5, 6, 7, 8, 9, 10, 11, 12, 13] [] [(0, 12, 64), (1, 13, 4100), (2, 14, 8192), (4, 15, 16384), (0, 16, 64), (16, 17, 65536), (32, 18, 131076), (64, 19, 262144), (128, 20, 524288), (256, 21, 1048576), (520, 22, 2129920), (0, 23, 32), (3072, 24, 12582912), (8191, 7, 16777216)] (by kernel_rfl) (by kernel_rfl) (by kernel_rfl) rfl (by kernel_rfl) (by kernel_rfl) (fun _ _ d _ _ h => by cases d <;> exact h) ?_
      repeat (first | (refine seq_read _ (fun w' e => ca.out w' ((Ext.refl _).drew.trans e)) _ (v := ?_) rfl rfl (by rfl) ?_ ?_; rotate_left; (· intro w' hF; go_simp; (try with_reducible rfl)); simp only [Act.put, List.setIfInBounds_toArray, List.set_cons_zero, List.set_cons_succ]) | (refine seq_skip _ rfl rfl (by rfl) ?_; simp only [Act.put, List.setIfInBounds_toArray, List.set_cons_zero, List.set_cons_succ]))
      refine seq_done ?_
      have hw2 := Lib.hid (hw.out.kept (Ext.refl wr).drew hw.out.lt)
      have hB2 : Hid (Below (w.heap.size + 1 + 1) W0 wr.drew) := Below.trans hB.out ((Ext.refl wr).drew.mono (Nat.le_of_lt hw.out.lt))
      have cv2 := hw2.out.cell (i := k) (by omega)
      have fv2 := hw2.out.frozen k
      clear cv fv hw hB ca ka
      generalize wr.drew = w2 at *
      go_wp2_with fail
      refine ⟨⟨k + 1, vs.set k v, by omega, by go_num, by rw [hc.out], by rw [List.length_set]; exact vl, fun j hj => ?_, Below.setCell hB2.out (Nat.le_refl _) _, hw2.out.set⟩, by simp [intOf]; omega⟩
      rw [wd_putN (by omega)]
      by_cases e : j = k
      · rw [if_pos e, e]; exact hzq.out.symm
      · rw [if_neg e]; exact hv.out j (by omega)
    · obtain rfl : k = 8 := by omega
      have he := RQ.out vs vl hv
      subst he
      rw [C8.out]
      have r4 := Lib.hid (we.out.kept hB (by omega))
      have EE : Hid (Ext w wr) := Below.trans e0.out (hB.mono (by omega))
      clear hv hB e0 wa we C8 LS BN BLE LX LY ZX RQ XL hk hlt
      have S0 := wcells_size vl
      have S1 := wcells_size L1
      have S2 := wcells_size L2
      have S2b := wcells_size L2b
      have S3 := wcells_size L3
      have SR := wcells_size LR
      have O1 := wcells_one l1
      have O2 := wcells_one l2
      have O3 := wcells_one l3
      have OR := wcells_one lr
      obtain ⟨n1, hn1⟩ : ∃ n1, n1 = 38 * h1 := ⟨_, rfl⟩
      have g1 : (38 : Int) * (h1 : Int) = (n1 : Int) := by omega
      have g1w : IntKind.u64.wrap (n1 : Int) = (n1 : Int) := by rw [IntKind.wrap_u64]; omega
      obtain ⟨n2, hn2⟩ : ∃ n2, n2 = 38 * h2 := ⟨_, rfl⟩
      have g2 : (38 : Int) * (h2 : Int) = (n2 : Int) := by omega
      have g2w : IntKind.u64.wrap (n2 : Int) = (n2 : Int) := by rw [IntKind.wrap_u64]; omega
      obtain ⟨n3, hn3⟩ : ∃ n3, n3 = 19 * tp := ⟨_, rfl⟩
      have g3 : (19 : Int) * (tp : Int) = (n3 : Int) := by omega
      have g3w : IntKind.u64.wrap (n3 : Int) = (n3 : Int) := by rw [IntKind.wrap_u64]; omega
      have t1 : (w7 : Int) / 2147483648 = (tp : Int) := by have := htop.out; omega
      have t1' : (w7 : Int) / 2 ^ 31 = (tp : Int) := t1
      have t1w : IntKind.u64.wrap (tp : Int) = (tp : Int) := by rw [IntKind.wrap_u64]; omega
      have q1 : Op.shift .shr .u32 (w7 : Int) .u64 31 = pure (.int .u32 (tp : Int)) := by
        have := shift_shr .u32 .u64 (w7 : Int) 31 (by omega) (by decide)
        rw [this]
        congr 2
      obtain ⟨v7, hv7⟩ : ∃ v7, v7 = w7 % 2147483648 := ⟨_, rfl⟩
      rw [← hv7] at hset
      have t2 : bits .andNot .u32 (w7 : Int) 2147483648 = (v7 : Int) := by
        have := u32_andNot_nat w7 2147483648 (by omega) (by omega)
        rw [hv7, ← Nat.and_two_pow_sub_one_eq_mod w7 31]
        exact this
      replace hn1 := Lib.hid hn1
      replace hn2 := Lib.hid hn2
      replace hn3 := Lib.hid hn3
      replace hv7 := Lib.hid hv7
      replace hw := Lib.hid hw
      have K0 : Hid (Wr wr (w.heap.size + 1 + 1) 79 vs ∧ Wr wr (w.heap.size + 1) 81 zs ∧ Ext w wr) := ⟨hw.out, r4.out, EE.out⟩
      clear hw r4 EE
      have k0 := Lib.hid K0.out.1
      go_wp2_with (refine wpList_load_row rfl 79 _ rfl (w.heap.size + 1 + 1) rfl 79 (wcells vs).toArray (0, 0) _ k0.out rfl rfl (by rw [S0]; rfl) ?_; simp only [Act.put, List.setIfInBounds_toArray, List.set_cons_zero, List.set_cons_succ])
      refine (PL1.out _ n1 hn1.out).mono ?_
      rintro e v1 ⟨rfl, e1⟩
      have r1 := Lib.hid ((e1.block _ k0.out.lt).trans k0.out)
      have re1 := Lib.hid (K0.out.2.1.kept e1 K0.out.2.1.lt)
      have rx1 : Hid (Ext w v1) := K0.out.2.2.trans e1
      clear K0 k0 e1
      go_upto_region 11 with (refine wpList_store_row rfl 79 _ _ rfl (w.heap.size + 1 + 1) (wcells l1).toArray rfl rfl 79 _ r1.out (by rw [S1]; rfl) (by rw [S1, S0]) O1 ?_; simp only [Act.put, List.setIfInBounds_toArray, List.set_cons_zero, List.set_cons_succ])
      refine wp_gen (fun W => Wr W (w.heap.size + 1 + 1) 79 l1 ∧ Wr W (w.heap.size + 1) 81 zs ∧ Ext w W) ⟨setRow_heap _ _ _ _ _ _ r1.out, (setRow_other _ _ _ _ (by omega)).trans re1.out, below_setRow rx1.out (by omega) _⟩ ?_
      clear r1 re1 rx1
      rintro u1 K1'
      have K1 := Lib.hid K1'
      clear K1'
      have k0 := Lib.hid K1.out.1
      go_wp2_with (refine wpList_load_row rfl 79 _ rfl (w.heap.size + 1 + 1) rfl 79 (wcells l1).toArray (0, 0) _ k0.out rfl rfl (by rw [S1]; rfl) ?_; simp only [Act.put, List.setIfInBounds_toArray, List.set_cons_zero, List.set_cons_succ])
      refine (PL2.out _ n2 hn2.out).mono ?_
      rintro e v2 ⟨rfl, e1⟩
      have r2 := Lib.hid ((e1.block _ k0.out.lt).trans k0.out)
      have re2 := Lib.hid (K1.out.2.1.kept e1 K1.out.2.1.lt)
      have rx2 : Hid (Ext w v2) := K1.out.2.2.trans e1
      clear K1 k0 e1
      go_upto_region 12 with (refine wpList_store_row rfl 79 _ _ rfl (w.heap.size + 1 + 1) (wcells l2).toArray rfl rfl 79 _ r2.out (by rw [S2]; rfl) (by rw [S2, S1]) O2 ?_; simp only [Act.put, List.setIfInBounds_toArray, List.set_cons_zero, List.set_cons_succ])
      refine wp_gen (fun W => Wr W (w.heap.size + 1 + 1) 79 l2 ∧ Wr W (w.heap.size + 1) 81 zs ∧ Ext w W) ⟨setRow_heap _ _ _ _ _ _ r2.out, (setRow_other _ _ _ _ (by omega)).trans re2.out, below_setRow rx2.out (by omega) _⟩ ?_
      clear r2 re2 rx2
      rintro u2 K2'
      have K2 := Lib.hid K2'
      clear K2'
      have c7 := K2.out.1.cell (i := 7) (by omega)
      have z7 := K2.out.1.frozen 7
      rw [W7.out] at c7
      have KB : Hid (Wr (u2.setCell ⟨w.heap.size + 1 + 1, 7, none⟩ (.int .u32 (v7 : Int))) (w.heap.size + 1 + 1) 79 l2b ∧ Wr (u2.setCell ⟨w.heap.size + 1 + 1, 7, none⟩ (.int .u32 (v7 : Int))) (w.heap.size + 1) 81 zs ∧ Ext w (u2.setCell ⟨w.heap.size + 1 + 1, 7, none⟩ (.int .u32 (v7 : Int)))) := by
        refine ⟨?_, (Below.heap_setCell _ _ _ _ (show w.heap.size + 1 ≠ w.heap.size + 1 + 1 by omega)).trans K2.out.2.1, K2.out.2.2.setCell (show w.heap.size ≤ w.heap.size + 1 + 1 by omega) _⟩
        have := K2.out.1.set (k := 7) (x := v7)
        rwa [hset.out] at this
      go_upto_region 14 with fail
      refine wp_gen (fun W => Wr W (w.heap.size + 1 + 1) 79 l2b ∧ Wr W (w.heap.size + 1) 81 zs ∧ Ext w W) KB.out ?_
      clear KB c7 z7 K2
      rintro u2 K2'
      have K2 := Lib.hid K2'
      clear K2'
      have k0 := Lib.hid K2.out.1
      go_wp2_with (refine wpList_load_row rfl 79 _ rfl (w.heap.size + 1 + 1) rfl 79 (wcells l2b).toArray (0, 0) _ k0.out rfl rfl (by rw [S2b]; rfl) ?_; simp only [Act.put, List.setIfInBounds_toArray, List.set_cons_zero, List.set_cons_succ])
      refine (PL3.out _ n3 hn3.out).mono ?_
      rintro e v3 ⟨cc, rfl, e1⟩
      have r3 := Lib.hid ((e1.block _ k0.out.lt).trans k0.out)
      have re3 := Lib.hid (K2.out.2.1.kept e1 K2.out.2.1.lt)
      have rx3 : Hid (Ext w v3) := K2.out.2.2.trans e1
      clear K2 k0 e1
      go_upto_region 15 with (refine wpList_store_row rfl 79 _ _ rfl (w.heap.size + 1 + 1) (wcells l3).toArray rfl rfl 79 _ r3.out (by rw [S3]; rfl) (by rw [S3, S2b]) O3 ?_; simp only [Act.put, List.setIfInBounds_toArray, List.set_cons_zero, List.set_cons_succ])
      refine wp_gen (fun W => Wr W (w.heap.size + 1 + 1) 79 l3 ∧ Wr W (w.heap.size + 1) 81 zs ∧ Ext w W) ⟨setRow_heap _ _ _ _ _ _ r3.out, (setRow_other _ _ _ _ (by omega)).trans re3.out, below_setRow rx3.out (by omega) _⟩ ?_
      clear r3 re3 rx3
      rintro u3 K3'
      have K3 := Lib.hid K3'
      clear K3'
      have k0 := Lib.hid K3.out.1
      go_wp2_with (refine wpList_load_row rfl 79 _ rfl (w.heap.size + 1 + 1) rfl 79 (wcells l3).toArray (0, 0) _ k0.out rfl rfl (by rw [S3]; rfl) ?_; simp only [Act.put, List.setIfInBounds_toArray, List.set_cons_zero, List.set_cons_succ])
      refine (RED.out _ K3.out.2.2).mono ?_
      rintro e v4 ⟨rfl, e1⟩
      have re := Lib.hid (K3.out.2.1.kept e1 K3.out.2.1.lt)
      have rx : Hid (Ext w v4) := K3.out.2.2.trans e1
      clear K3 k0 e1
      go_wp2_with (refine wpList_store_row rfl 81 _ _ rfl (w.heap.size + 1) (wcells lr).toArray rfl rfl 81 _ re.out (by rw [SR]; rfl) (by rw [SR, ZS]) OR ?_; simp only [Act.put, List.setIfInBounds_toArray, List.set_cons_zero, List.set_cons_succ])
      (try simp only [Exit.inBlock, Exit.then])
      refine bodyPost_ret (results_cell_row rfl _ _ (w.heap.size + 1) 81 (wcells lr).toArray (0, 0) _ rfl (setRow_heap _ _ _ _ _ _ re.out) rfl rfl (by rw [SR]; rfl)) rfl ?_
      exact ⟨rfl, below_setRow rx.out (by omega) _⟩
end Go.Proofs.YtfhafednnnfmbaaDoor
