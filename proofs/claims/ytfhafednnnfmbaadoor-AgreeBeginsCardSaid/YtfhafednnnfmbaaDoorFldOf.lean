import Derived.Test.YtfhafednnnfmbaaDoorPkQ
/-
  field.Of.
-/
namespace Go.Proofs.YtfhafednnnfmbaaDoor
open Go.ChangeShapes Go.WideShapes Go.ChangeAt Go.RowKit Go.Deep
set_option maxRecDepth 100000

/-- The number of the first bytes. -/
def ofN (ks : List UInt8) : Nat → Nat
  | 0 => 0
  | i + 1 => ofN ks i + bt ks i * 256 ^ i
theorem ofN_lt (ks : List UInt8) : ∀ i, ofN ks i < 256 ^ i
  | 0 => by simp [ofN]
  | i + 1 => by
    have ih := ofN_lt ks i
    have hb := bt_lt ks i
    rw [ofN, Nat.pow_succ]
    have : bt ks i * 256 ^ i ≤ 255 * 256 ^ i := Nat.mul_le_mul_right _ (by omega)
    generalize bt ks i * 256 ^ i = t at *
    generalize 256 ^ i = P at *
    omega
theorem pow_four (a b : Nat) : 256 ^ (4 * a + b) = 4294967296 ^ a * 256 ^ b := by rw [Nat.pow_add, Nat.pow_mul]
theorem of_hit {ks : List UInt8} {i a b : Nat} (hi : i = 4 * a + b) (hb : b < 4) : lb (ofN ks (i + 1)) a = lb (ofN ks i) a + bt ks i * 256 ^ b ∧ lb (ofN ks i) a < 256 ^ b := by
  have h1 := ofN_lt ks i
  have hp : 0 < 4294967296 ^ a := Nat.pow_pos (by decide)
  have e : 256 ^ i = 4294967296 ^ a * 256 ^ b := by rw [hi]; exact pow_four a b
  rw [e] at h1
  have h2 : ofN ks i / 4294967296 ^ a < 256 ^ b := Nat.div_lt_of_lt_mul h1
  have h3 : 256 ^ b ≤ 16777216 := by
    have : b = 0 ∨ b = 1 ∨ b = 2 ∨ b = 3 := by omega
    rcases this with rfl | rfl | rfl | rfl <;> decide
  have hbt := bt_lt ks i
  have h4 : bt ks i * 256 ^ b ≤ 255 * 256 ^ b := Nat.mul_le_mul_right _ (by omega)
  have e2 : ofN ks (i + 1) / 4294967296 ^ a = ofN ks i / 4294967296 ^ a + bt ks i * 256 ^ b := by
    rw [ofN, e, Nat.mul_left_comm, Nat.add_mul_div_left _ _ hp]
  unfold lb
  rw [e2]
  generalize ofN ks i / 4294967296 ^ a = X at *
  generalize bt ks i * 256 ^ b = t at *
  generalize 256 ^ b = Q at *
  omega
theorem of_low {ks : List UInt8} {i a b j : Nat} (hi : i = 4 * a + b) (hj : j < a) : lb (ofN ks (i + 1)) j = lb (ofN ks i) j := by
  have hp : 0 < 4294967296 ^ j := Nat.pow_pos (by decide)
  obtain ⟨d, hd⟩ : ∃ d, a = j + 1 + d := ⟨a - (j + 1), by omega⟩
  have e : bt ks i * 256 ^ i = 4294967296 ^ j * (4294967296 * (4294967296 ^ d * 256 ^ b * bt ks i)) := by
    rw [hi, pow_four, hd, Nat.pow_add, Nat.pow_succ, Nat.mul_comm (bt _ _)]
    simp only [Nat.mul_assoc]
  unfold lb
  rw [ofN, e, Nat.add_mul_div_left _ _ hp, Nat.add_mul_mod_self_left]
theorem of_high {ks : List UInt8} {i a b j : Nat} (hi : i ≤ 4 * a + b) (hb : b ≤ 4) (hj : a < j) : lb (ofN ks i) j = 0 := by
  have h1 := ofN_lt ks i
  have h2 : 256 ^ i ≤ 4294967296 ^ j := by
    have : (4294967296 : Nat) ^ j = 256 ^ (4 * j) := by rw [Nat.pow_mul]
    rw [this]
    exact Nat.pow_le_pow_right (by decide) (by omega)
  unfold lb
  rw [Nat.div_eq_of_lt (Nat.lt_of_lt_of_le h1 h2)]
/-- The number of a key. -/
def ofV (ks : List UInt8) : Nat := ofN ks 32 % H8 % P25
theorem ofV_lt (ks : List UInt8) : ofV ks < P25 := Nat.mod_lt _ P25_pos
theorem index_byte {xs : List UInt8} {w : World} {k : Nat} (hl : xs.length = 32) (hk : k < 32) :
    (Instr.index 23 (.agg (cellsOf xs).toArray) (.int .i64 (k : Int))).run Tryd.prog w = .ok (.int .u8 (bt xs k : Int)) w := by
  have h1 : (0 : Int) ≤ (k : Int) ∧ (k : Int) < ((32 : Nat) : Int) := by omega
  have hs : (sizeOf 5).run Tryd.prog w = .ok 1 w := rfl
  have hg : (cellsOf xs).toArray[k]? = some (.int .u8 (bt xs k : Int)) := by
    rw [List.getElem?_toArray]; exact cellsOf_get (by omega)
  have ht : Tryd.prog.underlying 23 = some (.array 32 5) := rfl
  unfold Instr.index
  simp only [Sem.run_bind, asIntOf, Sem.run_pure, Result.andThen_ok, run_underlying ht]
  rw [if_pos h1]
  simp only [Sem.run_bind, hs, Result.andThen_ok]
  have ha : (isAgg 5).run Tryd.prog w = .ok false w := rfl
  unfold part
  simp only [Sem.run_bind, ha, Result.andThen_ok, Int.toNat_natCast, Nat.mul_one, Bool.false_eq_true, if_false, hg, Sem.run_pure]

set_option maxHeartbeats 4000000 in
theorem of_calls {ks : List UInt8} {w : World} (hk : ks.length = 32) {tg : TypeId × Nat × Nat} (hG : Gp w tg) :
    Calls Tryd.prog 43 #[.agg (cellsOf ks).toArray] w fun e w' => e = .returned (eV (ofV ks)) ∧ Ext w w' := by
  have hN : ofN ks 32 < M8 := by
    have := ofN_lt ks 32
    rwa [show (256 : Nat) ^ 32 = M8 by decide +kernel] at this
  have hset := (top_bit hN).2
  have h7 := lb_lt (ofN ks 32) 7
  have RED : Hid (∀ (W : World), Ext w W → Calls Tryd.prog 62 #[.agg (wcells (lbs 8 (ofN ks 32 % H8))).toArray] W fun e w' => e = .returned (.agg (wcells (lbs 8 (ofV ks))).toArray) ∧ Ext W w') := fun W e => by
    refine reduced_calls ?_ (hG.ext e)
    have h1 := Nat.mod_lt (ofN ks 32) (show 0 < H8 by decide +kernel)
    have h2 : H8 < 2 * P25 := by decide +kernel
    omega
  have RQ : Hid (∀ vs : List Nat, vs.length = 8 → (∀ j, j < 8 → wd vs j = lb (ofN ks 32) j) → vs = lbs 8 (ofN ks 32)) := fun vs h1 h2 => words_lbs h1 h2
  have W7 : Hid (wd (lbs 8 (ofN ks 32)) 7 = lb (ofN ks 32) 7) := wd_lbs (by omega)
  have L0 := lbs_len 8 (ofN ks 32)
  have L1 := lbs_len 8 (ofN ks 32 % H8)
  have LR := lbs_len 8 (ofV ks)
  have HIT : Hid (∀ i a b, i = 4 * a + b → b < 4 → lb (ofN ks (i + 1)) a = lb (ofN ks i) a + bt ks i * 256 ^ b ∧ lb (ofN ks i) a < 256 ^ b) := fun i a b h1 h2 => of_hit h1 h2
  have LOW : Hid (∀ i a b j, i = 4 * a + b → j < a → lb (ofN ks (i + 1)) j = lb (ofN ks i) j) := fun i a b j h1 h2 => of_low h1 h2
  have HIGH : Hid (∀ i a b j, i ≤ 4 * a + b → b ≤ 4 → a < j → lb (ofN ks i) j = 0) := fun i a b j h1 h2 h3 => of_high h1 h2 h3
  unfold eV
  clear hG hN
  generalize lbs 8 (ofN ks 32 % H8) = l1 at *
  generalize lbs 8 (ofV ks) = lr at *
  have hix := fun (w : World) (k : Nat) (h : k < 32) => index_byte (xs := ks) (w := w) hk h
  have IX := Lib.hid hix
  clear hix
  have KS : (cellsOf ks).toArray.size = 32 := by simp [cellsOf_len, hk]
  have hal := fld_alloc
  have hal2 := elem_alloc
  have ZL : zw8.length = 8 := rfl
  have ZZ : Hid (∀ j, wd zw8 j = lb (ofN ks 0) j) := fun j => by
    rw [show lb (ofN ks 0) j = 0 by simp [lb, ofN]]
    by_cases q : j < 8
    · have h : ∀ j, j < 8 → wd zw8 j = 0 := by decide
      exact h j q
    · unfold wd zw8
      simp [List.getD, List.getElem?_replicate, q]
  generalize zw8 = zs at *
  have ZS := wcells_size ZL
  generalize hKK : (cellsOf ks).toArray = KA at *
  replace hKK := Lib.hid hKK
  have B0 : Hid ((((w.alloc (Obj.cells KA 23)).alloc (Obj.cells (wcells zs).toArray 81)).alloc (Obj.cells (wcells zs).toArray 79)).heap[w.heap.size]? = some (.cells KA 23 (0, 0)) ∧ Wr (((w.alloc (Obj.cells KA 23)).alloc (Obj.cells (wcells zs).toArray 81)).alloc (Obj.cells (wcells zs).toArray 79)) (w.heap.size + 1) 81 zs ∧ Wr (((w.alloc (Obj.cells KA 23)).alloc (Obj.cells (wcells zs).toArray 81)).alloc (Obj.cells (wcells zs).toArray 79)) (w.heap.size + 1 + 1) 79 zs ∧ Ext w (((w.alloc (Obj.cells KA 23)).alloc (Obj.cells (wcells zs).toArray 81)).alloc (Obj.cells (wcells zs).toArray 79))) := ⟨heap_alloc30 _ _ _ _, heap_alloc31 _ _ _ _, heap_alloc32 _ _ _ _, (((Ext.refl w).alloc _).alloc _).alloc _⟩
  go_enter Tryd.func43, Tryd.ntmps43
  go_upto_region 2 with fail
  refine wp_gen (fun W => W.heap[w.heap.size]? = some (.cells KA 23 (0, 0)) ∧ Wr W (w.heap.size + 1) 81 zs ∧ Wr W (w.heap.size + 1 + 1) 79 zs ∧ Ext w W) B0.out ?_
  clear B0
  rintro W0 ⟨kk, we, wc4, e0⟩
  replace kk := Lib.hid kk
  replace we := Lib.hid we
  replace wc4 := Lib.hid wc4
  replace e0 := Lib.hid e0
  go_wp2_with (refine wpList_load_row rfl 23 _ rfl w.heap.size rfl 23 KA (0, 0) _ kk.out rfl rfl (by rw [KS]; rfl) ?_; simp only [Act.put, List.setIfInBounds_toArray, List.set_cons_zero, List.set_cons_succ])
  go_loopw [7] (fun iv wr => ∃ (k : Nat) (vs : List Nat), k ≤ 32 ∧ iv = .int .i64 (k : Int) ∧ vs.length = 8 ∧ (∀ j, j < 8 → wd vs j = lb (ofN ks k) j) ∧ Below (w.heap.size + 1 + 1) W0 wr ∧ Wr wr (w.heap.size + 1 + 1) 79 vs) (fun iv _ => 32 - (intOf iv).toNat)
  case atStart => exact ⟨0, zs, Nat.zero_le _, rfl, ZL, fun j hj => ZZ.out j, Below.refl _ _, wc4.out⟩
  case round =>
    obtain ⟨k, vs, hk', rfl, vl, hv, hB, hw⟩ := hrel
    clear wc4 ZZ
    by_cases hlt : k < 32
    · obtain ⟨a, ha⟩ : ∃ a, a = k / 4 := ⟨_, rfl⟩
      obtain ⟨b, hb⟩ : ∃ b, b = k % 4 := ⟨_, rfl⟩
      obtain ⟨sh, hs⟩ : ∃ sh, sh = 8 * b := ⟨_, rfl⟩
      have kab : k = 4 * a + b := by omega
      have ia : (k : Int) / 4 = (a : Int) := by omega
      have ib : (k : Int) % 4 = (b : Int) := by omega
      have ia' : Int.tdiv (k : Int) 4 = (a : Int) := by rw [Int.tdiv_eq_ediv_of_nonneg (by omega)]; omega
      have ib' : Int.tmod (k : Int) 4 = (b : Int) := by rw [Int.tmod_eq_emod_of_nonneg (by omega)]; omega
      have iaw : IntKind.i64.wrap (a : Int) = (a : Int) := IntWalk.i64_in _ (by omega)
      have is : (8 : Int) * (b : Int) = (sh : Int) := by omega
      have isw : IntKind.i64.wrap (sh : Int) = (sh : Int) := IntWalk.i64_in _ (by omega)
      have sh0 : (0 : Int) ≤ (sh : Int) := by omega
      have a8 : a < 8 := by omega
      have a8' : (a : Int) < 8 := by omega
      have a0 : (0 : Int) ≤ (a : Int) := by omega
      have b4 : b < 4 := by omega
      obtain ⟨hit, hlw⟩ := HIT.out k a b kab b4
      have hvL := fun j (hj : j < a) => LOW.out k a b j kab hj
      have hvH := fun j (hj : a < j) => HIGH.out (k + 1) a (b + 1) j (by omega) (by omega) hj
      have hvH' := fun j (hj : a < j) => HIGH.out k a b j (by omega) (by omega) hj
      have hbt := bt_lt ks k
      have ix := IX.out
      have ixk : ∀ w : World, (Instr.index 23 (.agg KA) (.int .i64 (k : Int))).run Tryd.prog w = .ok (.int .u8 (bt ks k : Int)) w := fun w => IX.out w k hlt
      clear ix
      have cl : Hid (∀ s, Ext wr s → s.cell? ⟨w.heap.size + 1 + 1, a, none⟩ = some (.int .u32 (lb (ofN ks k) a : Int))) := fun s e => by
        have g1 := (hw.kept e hw.lt).cell (i := a) (by omega)
        rwa [hv a a8] at g1
      have h3 : 256 ^ b ≤ 16777216 := by
        have : b = 0 ∨ b = 1 ∨ b = 2 ∨ b = 3 := by omega
        rcases this with rfl | rfl | rfl | rfl <;> decide
      have e256 : (256 : Nat) ^ b = 2 ^ sh := by rw [hs, show (256 : Nat) = 2 ^ 8 from rfl, ← Nat.pow_mul]
      have hh : Hid (∀ j, j < 8 → j ≠ a → lb (ofN ks k) j = lb (ofN ks (k + 1)) j) := fun j hj hne => by
        rcases Nat.lt_or_ge j a with q | q
        · exact (hvL j q).symm
        · rw [hvH j (by omega), hvH' j (by omega)]
      obtain ⟨t, ht⟩ : ∃ t, t = bt ks k * 256 ^ b := ⟨_, rfl⟩
      have ht4 : t ≤ 255 * 256 ^ b := by rw [ht]; exact Nat.mul_le_mul_right _ (by omega)
      rw [← ht] at hit
      generalize lb (ofN ks k) a = u at *
      generalize bt ks k = c at *
      obtain ⟨v, hvv⟩ : ∃ v, v = u + t := ⟨_, rfl⟩
      rw [← hvv] at hit
      have f1 : IntKind.u32.wrap (c : Int) = (c : Int) := by rw [IntKind.wrap_u32]; omega
      have q1 : Op.shift .shl .u32 (c : Int) .i64 (sh : Int) = pure (.int .u32 (t : Int)) := by
        have h9 := shift_shl .u32 .i64 (c : Int) (sh : Int) (by omega) (by show (sh : Int) ≤ 32; omega)
        rw [h9]
        congr 2
        have : ((c : Int) * 2 ^ (sh : Int).toNat) = (t : Int) := by
          rw [Int.toNat_natCast, ht, e256]
          simp
        rw [this, IntKind.wrap_u32]
        omega
      have f5 : bits .or .u32 (u : Int) (t : Int) = (v : Int) := by
        rw [u32_or_nat u t (by omega) (by omega)]
        congr 1
        rw [hvv, ht, Nat.or_comm, Nat.mul_comm, e256, ← Nat.two_pow_add_eq_or_of_lt (by rw [← e256]; exact hlw), Nat.add_comm]
      have t32 : t < 4294967296 := by omega
      have cv := hw.cell (i := a) (by omega)
      have fv := hw.frozen a
      rw [hv a a8] at cv
      have ik : (k : Int) < 32 := by omega
      replace hit := Lib.hid hit
      replace kab := Lib.hid kab
      replace ha := Lib.hid ha
      replace hb := Lib.hid hb
      replace hs := Lib.hid hs
      replace ht := Lib.hid ht
      replace hvv := Lib.hid hvv
      replace e256 := Lib.hid e256
      replace hv := Lib.hid hv
      replace hB := Lib.hid hB
      replace hw := Lib.hid hw
      clear hvL hvH hvH' hlw h3 ht4
      go_wp2_with fail
      refine wp_region_seqZ (R := Ext) Ext.refl (fun _ _ _ => Ext.trans) 12 [0, 1, 2, 3, 4, 5, 6, 7, 8, 9, 10, 11, 12] [12] [(0, 12, 32), (1, 13, 4096), (2, 14, 8208), (4, 15, 16384), (0, 16, 64), (16, 17, 65536), (0, 18, 32), (64, 19, 262144), (128, 20, 524288), (288, 21, 1179648), (520, 22, 2129920), (2047, 23, 8208), (4095, 0, 12582912)] (by kernel_rfl) (by kernel_rfl) (by kernel_rfl) rfl (by kernel_rfl) (by kernel_rfl) (by kernel_rfl) (fun _ _ d _ _ h => by cases d <;> exact h) ?_
      repeat (refine seqZ_read _ (fun w' e => cl.out w' ((Ext.refl _).drew.trans e)) _ (v := ?_) rfl rfl (by rfl) ?_ ?_; rotate_left; (· intro w' hF; go_simp; (try with_reducible rfl)); simp only [Act.put, List.setIfInBounds_toArray, List.set_cons_zero, List.set_cons_succ])
      refine seqZ_do _ rfl rfl (by rfl) (fun K1 hK1 => ?_)
      go_simp
      refine hK1.out _ _ (.inl rfl) ?_
      clear hK1 K1
      refine seqZ_done ?_
      go_wp2_with fail
      have hz2 : (c : Int) * 2 ^ sh % 4294967296 = (t : Int) := by
        have e1 : (c : Int) * 2 ^ sh = (t : Int) := by rw [ht.out, e256.out]; simp
        rw [e1]; omega
      rw [hz2, f5]
      refine ⟨⟨k + 1, vs.set a v, by omega, by go_num, by rw [List.length_set]; exact vl, fun j hj => ?_, Below.setCell (Below.trans hB.out ((Ext.refl wr).drew.mono (Nat.le_of_lt hw.out.lt))) (Nat.le_refl _) _, (hw.out.set).kept (Ext.refl _).drew hw.out.set.lt⟩, by simp [intOf]; omega⟩
      rw [wd_putN (by omega)]
      by_cases e : j = a
      · rw [if_pos e, e]; exact hit.out.symm
      · rw [if_neg e, hv.out j hj]; exact hh.out j hj e
    · obtain rfl : k = 32 := by omega
      have he := RQ.out vs vl hv
      have we1 := Lib.hid (we.out.kept hB (by omega))
      have EE : Hid (Ext w wr) := Below.trans e0.out (hB.mono (by omega))
      rw [← he] at W7 hset
      clear hv hB e0 we kk IX RQ HIT LOW HIGH he L0
      generalize lb (ofN ks 32) 7 = w7 at *
      obtain ⟨v7, hv7⟩ : ∃ v7, v7 = w7 % 2147483648 := ⟨_, rfl⟩
      rw [← hv7] at hset
      have t2 : bits .andNot .u32 (w7 : Int) 2147483648 = (v7 : Int) := by
        have := u32_andNot_nat w7 2147483648 (by omega) (by omega)
        rw [hv7, ← Nat.and_two_pow_sub_one_eq_mod w7 31]
        exact this
      have c7 := hw.cell (i := 7) (by omega)
      have z7 := hw.frozen 7
      rw [W7.out] at c7
      replace hset := Lib.hid hset
      replace hv7 := Lib.hid hv7
      have S1 := wcells_size L1
      have SR := wcells_size LR
      have OR := wcells_one lr
      have KB : Hid (Wr (wr.setCell ⟨w.heap.size + 1 + 1, 7, none⟩ (.int .u32 (v7 : Int))) (w.heap.size + 1 + 1) 79 l1 ∧ Wr (wr.setCell ⟨w.heap.size + 1 + 1, 7, none⟩ (.int .u32 (v7 : Int))) (w.heap.size + 1) 81 zs ∧ Ext w (wr.setCell ⟨w.heap.size + 1 + 1, 7, none⟩ (.int .u32 (v7 : Int)))) := by
        refine ⟨?_, (Below.heap_setCell _ _ _ _ (show w.heap.size + 1 ≠ w.heap.size + 1 + 1 by omega)).trans we1.out, EE.out.setCell (show w.heap.size ≤ w.heap.size + 1 + 1 by omega) _⟩
        have := hw.set (k := 7) (x := v7)
        rwa [hset.out] at this
      replace hw := Lib.hid hw
      go_upto_region 8 with fail
      refine wp_gen (fun W => Wr W (w.heap.size + 1 + 1) 79 l1 ∧ Wr W (w.heap.size + 1) 81 zs ∧ Ext w W) KB.out ?_
      clear KB c7 z7 hw we1 EE t2 hset
      rintro u2 K2'
      have K2 := Lib.hid K2'
      clear K2'
      have k0 := Lib.hid K2.out.1
      go_wp2_with (refine wpList_load_row rfl 79 _ rfl (w.heap.size + 1 + 1) rfl 79 (wcells l1).toArray (0, 0) _ k0.out rfl rfl (by rw [S1]; rfl) ?_; simp only [Act.put, List.setIfInBounds_toArray, List.set_cons_zero, List.set_cons_succ])
      refine (RED.out _ K2.out.2.2).mono ?_
      rintro e v4 ⟨rfl, e1⟩
      have re := Lib.hid (K2.out.2.1.kept e1 K2.out.2.1.lt)
      have rx : Hid (Ext w v4) := K2.out.2.2.trans e1
      clear K2 k0 e1
      go_wp2_with (refine wpList_store_row rfl 81 _ _ rfl (w.heap.size + 1) (wcells lr).toArray rfl rfl 81 _ re.out (by rw [SR]; rfl) (by rw [SR, ZS]) OR ?_; simp only [Act.put, List.setIfInBounds_toArray, List.set_cons_zero, List.set_cons_succ])
      (try simp only [Exit.inBlock, Exit.then])
      refine bodyPost_ret (results_cell_row rfl _ _ (w.heap.size + 1) 81 (wcells lr).toArray (0, 0) _ rfl (setRow_heap _ _ _ _ _ _ re.out) rfl rfl (by rw [SR]; rfl)) rfl ?_
      exact ⟨rfl, below_setRow rx.out (by omega) _⟩
end Go.Proofs.YtfhafednnnfmbaaDoor
