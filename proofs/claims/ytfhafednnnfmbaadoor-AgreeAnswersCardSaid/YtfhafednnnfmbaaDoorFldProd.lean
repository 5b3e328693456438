import Derived.Test.YtfhafednnnfmbaaDoorPkS
/-
  field.product.
-/
namespace Go.Proofs.YtfhafednnnfmbaaDoor
open Go.ChangeShapes Go.WideShapes Go.ChangeAt Go.RowKit Go.Deep
set_option maxRecDepth 100000

theorem prod_step {us : List Nat} {k l a b c u T R Yl : Nat} (hq : k + l < us.length) (hu : wd us (k + l) = u) (hT : T = a * b + u + c) (h : valL us + c * 4294967296 ^ (k + l) = R + a * Yl * 4294967296 ^ k) :
    valL (us.set (k + l) (T % 4294967296)) + T / 4294967296 * 4294967296 ^ (k + (l + 1)) = R + a * (Yl + b * 4294967296 ^ l) * 4294967296 ^ k := by
  have h1 := valL_set (vs := us) (k := k + l) (z := T % 4294967296) hq
  rw [hu] at h1
  have e1 : (4294967296 : Nat) ^ (k + (l + 1)) = 4294967296 ^ (k + l) * 4294967296 := by rw [← Nat.add_assoc, Nat.pow_succ]
  have e2 : a * (Yl + b * 4294967296 ^ l) * 4294967296 ^ k = a * Yl * 4294967296 ^ k + a * b * 4294967296 ^ (k + l) := by
    rw [Nat.mul_add, Nat.add_mul, Nat.pow_add, Nat.mul_comm (4294967296 ^ k), ← Nat.mul_assoc a b, Nat.mul_assoc (a * b)]
  rw [e1, e2]
  generalize (4294967296 : Nat) ^ (k + l) = P at *
  generalize a * Yl * 4294967296 ^ k = Q at *
  have e3 : T % 4294967296 * P + T / 4294967296 * (P * 4294967296) = a * b * P + u * P + c * P := by
    have : T % 4294967296 * P + T / 4294967296 * (P * 4294967296) = T * P := by
      rw [Nat.mul_comm P, ← Nat.mul_assoc, ← Nat.add_mul]
      congr 1
      omega
    rw [this, hT, Nat.add_mul, Nat.add_mul]
  generalize T % 4294967296 * P = X2 at *
  generalize T / 4294967296 * (P * 4294967296) = X3 at *
  generalize a * b * P = X5 at *
  generalize u * P = X1 at *
  generalize c * P = X4 at *
  omega
theorem prod_end {us : List Nat} {k c x y : Nat} (hq : k + 8 < us.length) (hu : wd us (k + 8) = 0) (hy : y < 4294967296 ^ 8) (h : valL us + c * 4294967296 ^ (k + 8) = x % 4294967296 ^ k * y + lb x k * (y % 4294967296 ^ 8) * 4294967296 ^ k) :
    valL (us.set (k + 8) c) = x % 4294967296 ^ (k + 1) * y := by
  have h1 := valL_set (vs := us) (k := k + 8) (z := c) hq
  rw [hu, Nat.zero_mul, Nat.add_zero] at h1
  rw [h1, h, Nat.mod_eq_of_lt hy, mod_step, Nat.add_mul, Nat.mul_assoc, Nat.mul_assoc, Nat.mul_comm y]
theorem prod_zero {vs : List Nat} {k x y : Nat} (hb : ∀ i, i < vs.length → wd vs i < 4294967296) (hy : y < 4294967296 ^ 8) (h : valL vs = x % 4294967296 ^ k * y) : wd vs (k + 8) = 0 := by
  rw [← lb_valL vs hb, h]
  unfold lb
  have h1 : x % 4294967296 ^ k < 4294967296 ^ k := Nat.mod_lt _ (Nat.pow_pos (by decide))
  have h2 : x % 4294967296 ^ k * y < 4294967296 ^ (k + 8) := by
    rw [Nat.pow_add]
    exact Nat.mul_lt_mul'' h1 hy
  rw [Nat.div_eq_of_lt h2]
theorem wd_set_lt {vs : List Nat} {k z : Nat} (h : ∀ i, i < vs.length → wd vs i < 4294967296) (hz : z < 4294967296) (hk : k < vs.length) : ∀ i, i < (vs.set k z).length → wd (vs.set k z) i < 4294967296 := fun i hi => by
  rw [List.length_set] at hi
  rw [wd_putN hk]
  split
  · exact hz
  · exact h i hi
def zw16 : List Nat := List.replicate 16 0
theorem wide_alloc (w : World) : (zeroValue 106).run Tryd.prog w = .ok (.agg (wcells zw16).toArray) w := by kernel_rfl
theorem zw16_lt : ∀ i, i < zw16.length → wd zw16 i < 4294967296 := fun i hi => by
  have h : ∀ i, i < 16 → wd zw16 i < 4294967296 := by decide
  exact h i hi
theorem zw16_val : valL zw16 = 0 := by decide

set_option maxHeartbeats 4000000 in
theorem product_calls {x y : Nat} {w : World} (hx : x < 4294967296 ^ 8) (hy : y < 4294967296 ^ 8) :
    Calls Tryd.prog 67 #[.agg (wcells (lbs 8 x)).toArray, .agg (wcells (lbs 8 y)).toArray] w fun e w' => e = .returned (.agg (wcells (lbs 16 (x * y))).toArray) ∧ Ext w w' := by
  have hal := wide_alloc
  have ZL : zw16.length = 16 := rfl
  have ZB := Lib.hid zw16_lt
  have ZV := Lib.hid (fun _ : Unit => zw16_val)
  generalize zw16 = zs at *
  have XA : Hid (∀ (o1 o2 o3 o4 : Obj), ((((w.alloc o1).alloc o2).alloc o3).alloc o4).heap[w.heap.size]? = some o1 ∧ ((((w.alloc o1).alloc o2).alloc o3).alloc o4).heap[w.heap.size + 1]? = some o2 ∧ ((((w.alloc o1).alloc o2).alloc o3).alloc o4).heap[w.heap.size + 1 + 1]? = some o3 ∧ ((((w.alloc o1).alloc o2).alloc o3).alloc o4).heap[w.heap.size + 1 + 1 + 1]? = some o4) := fun o1 o2 o3 o4 => by
    have e : Ext (((w.alloc o1).alloc o2).alloc o3) ((((w.alloc o1).alloc o2).alloc o3).alloc o4) := (Ext.refl _).alloc _
    refine ⟨(e.block _ ?_).trans (heap_alloc30 _ _ _ _), (e.block _ ?_).trans (heap_alloc31 _ _ _ _), (e.block _ ?_).trans (heap_alloc32 _ _ _ _), ?_⟩
    · rw [size_alloc, size_alloc, size_alloc]; omega
    · rw [size_alloc, size_alloc, size_alloc]; omega
    · rw [size_alloc, size_alloc, size_alloc]; omega
    · have := heap_alloc_new (((w.alloc o1).alloc o2).alloc o3) o4
      rwa [size_alloc, size_alloc, size_alloc] at this
  have B0 : Hid (∀ o1 o2 o3 o4, Ext w ((((w.alloc o1).alloc o2).alloc o3).alloc o4)) := fun o1 o2 o3 o4 => ((((Ext.refl w).alloc _).alloc _).alloc _).alloc _
  have XL := lbs_len 8 x
  have YL := lbs_len 8 y
  have WX : Hid (∀ j, j < 8 → wd (lbs 8 x) j = lb x j) := fun j hj => wd_lbs hj
  have WY : Hid (∀ j, j < 8 → wd (lbs 8 y) j = lb y j) := fun j hj => wd_lbs hj
  have RQ : Hid (∀ vs : List Nat, vs.length = 16 → (∀ j, j < vs.length → wd vs j < 4294967296) → valL vs = x % 4294967296 ^ 8 * y → vs = lbs 16 (x * y)) := fun vs h1 h2 h3 => by
    rw [Nat.mod_eq_of_lt hx] at h3
    rw [← h3]
    exact lbs_valL h1 (fun i hi => h2 i (by omega))
  generalize lbs 16 (x * y) = rs at *
  generalize lbs 8 x = xs at *
  generalize lbs 8 y = ys at *
  have PE : Hid (∀ (us : List Nat) (k c : Nat), k + 8 < us.length → wd us (k + 8) = 0 → valL us + c * 4294967296 ^ (k + 8) = x % 4294967296 ^ k * y + lb x k * (y % 4294967296 ^ 8) * 4294967296 ^ k → valL (us.set (k + 8) c) = x % 4294967296 ^ (k + 1) * y) := fun us k c h1 h2 h3 => prod_end h1 h2 hy h3
  have PZ : Hid (∀ (vs : List Nat) (k : Nat), (∀ i, i < vs.length → wd vs i < 4294967296) → valL vs = x % 4294967296 ^ k * y → wd vs (k + 8) = 0) := fun vs k h1 h2 => prod_zero h1 hy h2
  have LX : Hid (∀ i, lb x i < 4294967296) := lb_lt x
  have LY : Hid (∀ i, lb y i < 4294967296) := lb_lt y
  clear hx hy
  go_enter Tryd.func67, Tryd.ntmps67
  go_upto_region 2 with fail
  refine wp_gen (fun W => Wr W w.heap.size 79 xs ∧ Wr W (w.heap.size + 1) 79 ys ∧ Wr W (w.heap.size + 1 + 1) 106 zs ∧ Wr W (w.heap.size + 1 + 1 + 1) 106 zs ∧ Ext w W) ⟨(XA.out _ _ _ _).1, (XA.out _ _ _ _).2.1, (XA.out _ _ _ _).2.2.1, (XA.out _ _ _ _).2.2.2, B0.out _ _ _ _⟩ ?_
  clear XA B0
  rintro W0 ⟨wa, wb, wc4, wc5, e0⟩
  replace wa := Lib.hid wa
  replace wb := Lib.hid wb
  replace wc4 := Lib.hid wc4
  replace wc5 := Lib.hid wc5
  replace e0 := Lib.hid e0
  go_wp2_with fail
  go_loopw [10] (fun iv wr => ∃ (k : Nat) (vs : List Nat), k ≤ 8 ∧ iv = .int .i64 (k : Int) ∧ vs.length = 16 ∧ (∀ j, j < vs.length → wd vs j < 4294967296) ∧ valL vs = x % 4294967296 ^ k * y ∧ Below (w.heap.size + 1 + 1 + 1) W0 wr ∧ Wr wr (w.heap.size + 1 + 1 + 1) 106 vs) (fun iv _ => 8 - (intOf iv).toNat)
  case atStart => exact ⟨0, zs, Nat.zero_le _, rfl, ZL, ZB.out, by rw [ZV.out ()]; simp [Nat.mod_one], Below.refl _ _, wc5.out⟩
  case round =>
    obtain ⟨k, vs, hk, rfl, vl, vb, vv, hB, hw⟩ := hrel
    clear wc5
    by_cases hlt : k < 8
    · have ik : (k : Int) < 8 := by omega
      have ik0 : (0 : Int) ≤ (k : Int) := by omega
      have v0 := Lib.hid (PZ.out vs k vb vv)
      replace vv := Lib.hid (fun _ : Unit => vv)
      replace vb := Lib.hid vb
      replace hB := Lib.hid hB
      replace hw := Lib.hid hw
      go_wp2_with fail
      go_loopw [7, 13] (fun cv jv wr => ∃ (l c : Nat) (us : List Nat), l ≤ 8 ∧ jv = .int .i64 (l : Int) ∧ cv = .int .u64 (c : Int) ∧ c < 4294967296 ∧ us.length = 16 ∧ (∀ j, j < us.length → wd us j < 4294967296) ∧ valL us + c * 4294967296 ^ (k + l) = x % 4294967296 ^ k * y + lb x k * (y % 4294967296 ^ l) * 4294967296 ^ k ∧ wd us (k + 8) = 0 ∧ Below (w.heap.size + 1 + 1 + 1) W0 wr ∧ Wr wr (w.heap.size + 1 + 1 + 1) 106 us) (fun _ jv _ => 8 - (intOf jv).toNat)
      case atStart => exact ⟨0, 0, vs, Nat.zero_le _, rfl, rfl, by omega, vl, vb.out, by rw [vv.out ()]; simp [Nat.mod_one], v0.out, hB.out, hw.out⟩
      case round =>
        obtain ⟨l, c, us, hl, rfl, rfl, hc, ul, ub, uv, u0, hB2, hw2⟩ := hrel
        clear vv vb v0 hB hw
        by_cases hlt2 : l < 8
        · have ka := Lib.hid (wa.out.kept hB2 (by omega))
          have kb := Lib.hid (wb.out.kept hB2 (by omega))
          obtain ⟨q, hq⟩ : ∃ q, q = k + l := ⟨_, rfl⟩
          obtain ⟨u, hu⟩ : ∃ u, wd us (k + l) = u := ⟨_, rfl⟩
          have u32 : u < 4294967296 := by rw [← hu]; exact ub _ (by omega)
          have ca : Hid (∀ s, Ext wr s → s.cell? ⟨w.heap.size, k, none⟩ = some (.int .u32 (lb x k : Int)) ∧ s.cell? ⟨w.heap.size + 1, l, none⟩ = some (.int .u32 (lb y l : Int)) ∧ s.cell? ⟨w.heap.size + 1 + 1 + 1, q, none⟩ = some (.int .u32 (u : Int))) := fun s e => by
            have h1 := (ka.out.kept e ka.out.lt).cell (i := k) (by rw [XL]; exact hlt)
            have h2 := (kb.out.kept e kb.out.lt).cell (i := l) (by rw [YL]; exact hlt2)
            have h3 := (hw2.kept e hw2.lt).cell (i := q) (by omega)
            rw [WX.out k hlt] at h1
            rw [WY.out l hlt2] at h2
            rw [hq, hu, ← hq] at h3
            exact And.intro h1 (And.intro h2 h3)
          have h1 := LX.out k
          have h2 := LY.out l
          obtain ⟨T, hT⟩ : ∃ T, T = lb x k * lb y l + u + c := ⟨_, rfl⟩
          have hstep := Lib.hid (fun _ : Unit => prod_step (us := us) (by omega) hu hT uv)
          have hmod : Hid (∀ _ : Unit, y % 4294967296 ^ (l + 1) = y % 4294967296 ^ l + lb y l * 4294967296 ^ l) := fun _ => mod_step y l
          have hm1 : lb x k * lb y l ≤ 18446744065119617025 := Nat.mul_le_mul (by omega : lb x k ≤ 4294967295) (by omega : lb y l ≤ 4294967295)
          generalize lb x k = a at *
          generalize lb y l = b at *
          obtain ⟨m, hm⟩ : ∃ m, m = a * b := ⟨_, rfl⟩
          rw [← hm] at hT hm1
          obtain ⟨s, hs⟩ : ∃ s, s = m + u := ⟨_, rfl⟩
          obtain ⟨z, hzz⟩ : ∃ z, z = T % 4294967296 := ⟨_, rfl⟩
          obtain ⟨d, hd⟩ : ∃ d, d = T / 4294967296 := ⟨_, rfl⟩
          rw [← hzz, ← hd] at hstep
          have f1 : IntKind.u64.wrap (a : Int) = (a : Int) := by rw [IntKind.wrap_u64]; omega
          have f2 : IntKind.u64.wrap (b : Int) = (b : Int) := by rw [IntKind.wrap_u64]; omega
          have f2u : IntKind.u64.wrap (u : Int) = (u : Int) := by rw [IntKind.wrap_u64]; omega
          have f0 : (a : Int) * (b : Int) = (m : Int) := by rw [hm]; exact (Int.natCast_mul a b).symm
          have f0w : IntKind.u64.wrap (m : Int) = (m : Int) := by rw [IntKind.wrap_u64]; omega
          have f3 : (m : Int) + (u : Int) = (s : Int) := by omega
          have f3w : IntKind.u64.wrap (s : Int) = (s : Int) := by rw [IntKind.wrap_u64]; omega
          have f4 : (s : Int) + (c : Int) = (T : Int) := by omega
          have f4w : IntKind.u64.wrap (T : Int) = (T : Int) := by rw [IntKind.wrap_u64]; omega
          have f5 : IntKind.u32.wrap (T : Int) = (z : Int) := by rw [IntKind.wrap_u32]; omega
          have f5m : (T : Int) % 4294967296 = (z : Int) := by omega
          have f6 : (T : Int) / 4294967296 = (d : Int) := by omega
          have f6' : (T : Int) / 2 ^ 32 = (d : Int) := f6
          have Tlt : T < 18446744073709551616 := by omega
          have q1 : Op.shift .shr .u64 (T : Int) .u64 32 = pure (.int .u64 (d : Int)) := by
            have := shift_shr .u64 .u64 (T : Int) 32 (by omega) (by decide)
            rw [this]
            congr 2
          have fq : (k : Int) + (l : Int) = (q : Int) := by omega
          have fqw : IntKind.i64.wrap (q : Int) = (q : Int) := IntWalk.i64_in _ (by omega)
          have q16 : (q : Int) < 16 := by omega
          have q0 : (0 : Int) ≤ (q : Int) := by omega
          have il : (l : Int) < 8 := by omega
          have il0 : (0 : Int) ≤ (l : Int) := by omega
          have z32 : Hid (z < 4294967296) := by unfold Hid; omega
          have d32 : d < 4294967296 := by omega
          have ql : Hid (q < us.length) := by unfold Hid; omega
          have cv := hw2.cell (i := q) (by omega)
          have fv := hw2.frozen q
          rw [← hq] at hstep
          replace hq := Lib.hid hq
          replace hu := Lib.hid hu
          replace hT := Lib.hid hT
          replace hm := Lib.hid hm
          replace hs := Lib.hid hs
          replace hzz := Lib.hid hzz
          replace hd := Lib.hid hd
          replace ub := Lib.hid ub
          replace u0 := Lib.hid u0
          replace hB2 := Lib.hid hB2
          replace hw2 := Lib.hid hw2
          clear h1 h2 uv u32 hm1
          go_wp2_with fail
          refine wp_region_seq (R := Ext) Ext.refl (fun _ _ _ => Ext.trans) [0, 1, 2, 3, 4, 5, 6, 7, 8, 9, 10, 11, 12, 13, 14, 15, 16, 17, 18] [] [(0, 17, 128), (1, 18, 131080), (2, 19, 262144), (4, 20, 524288), (0, 21, 512), (16, 22, 2097168), (32, 23, 4194304), (64, 24, 8388608), (136, 25, 17825792), (0, 26, 128), (0, 27, 512), (1536, 28, 201326592), (2048, 29, 268435520), (4096, 30, 536870912), (8192, 31, 1073741824), (16640, 32, 2181038080), (0, 33, 256), (98304, 34, 12884901888), (262143, 10, 17179869184)] (by kernel_rfl) (by kernel_rfl) (by kernel_rfl) rfl (by kernel_rfl) (by kernel_rfl) (fun _ _ d _ _ h => by cases d <;> exact h) ?_
          repeat (first | (refine seq_read _ (fun w' e => ca.out w' ((Ext.refl _).drew.trans e)) _ (v := ?_) rfl rfl (by rfl) ?_ ?_; rotate_left; (· intro w' hF; go_simp; (try with_reducible rfl)); simp only [Act.put, List.setIfInBounds_toArray, List.set_cons_zero, List.set_cons_succ]) | (refine seq_skip _ rfl rfl (by rfl) ?_; simp only [Act.put, List.setIfInBounds_toArray, List.set_cons_zero, List.set_cons_succ]))
          refine seq_done ?_
          have hw3 := Lib.hid (hw2.out.kept (Ext.refl wr).drew hw2.out.lt)
          have hB3 : Hid (Below (w.heap.size + 1 + 1 + 1) W0 wr.drew) := Below.trans hB2.out ((Ext.refl wr).drew.mono (Nat.le_of_lt hw2.out.lt))
          have cv2 := hw3.out.cell (i := q) ql.out
          have fv2 := hw3.out.frozen q
          clear cv fv hw2 hB2 ca ka kb
          generalize wr.drew = w2 at *
          go_wp2_with fail
          refine ⟨⟨l + 1, d, us.set q z, by omega, by go_num, rfl, d32, by rw [List.length_set]; exact ul, wd_set_lt ub.out z32.out ql.out, ?_, ?_, Below.setCell hB3.out (Nat.le_refl _) _, hw3.out.set⟩, by simp [intOf]; omega⟩
          · rw [hmod.out ()]; exact hstep.out ()
          · rw [wd_putN ql.out, if_neg (by have := hq.out; omega)]; exact u0.out
        · obtain rfl : l = 8 := by omega
          obtain ⟨r, hr⟩ : ∃ r, r = k + 8 := ⟨_, rfl⟩
          have hend := Lib.hid (fun _ : Unit => PE.out us k c (by omega) u0 uv)
          rw [← hr] at hend u0
          have fr : (k : Int) + 8 = (r : Int) := by omega
          have frw : IntKind.i64.wrap (r : Int) = (r : Int) := IntWalk.i64_in _ (by omega)
          have r16 : (r : Int) < 16 := by omega
          have r0 : (0 : Int) ≤ (r : Int) := by omega
          have rl : Hid (r < us.length) := by unfold Hid; omega
          have fc : IntKind.u32.wrap (c : Int) = (c : Int) := by rw [IntKind.wrap_u32]; omega
          have fcm : (c : Int) % 4294967296 = (c : Int) := by omega
          have cv := hw2.cell (i := r) (by omega)
          have fv := hw2.frozen r
          replace hr := Lib.hid hr
          replace ub := Lib.hid ub
          replace hB2 := Lib.hid hB2
          replace hw2 := Lib.hid hw2
          have hc' := Lib.hid hc
          clear uv u0 hlt2 hl
          go_wp2_with fail
          refine ⟨⟨k + 1, us.set r c, by omega, by go_num, by rw [List.length_set]; exact ul, wd_set_lt ub.out hc'.out rl.out, hend.out (), Below.setCell hB2.out (Nat.le_refl _) _, hw2.out.set⟩, by simp [intOf]; omega⟩
    · obtain rfl : k = 8 := by omega
      have he := RQ.out vs vl vb vv
      subst he
      have RS := wcells_size vl
      have R1 := wcells_one vs
      have r4 := Lib.hid (wc4.out.kept hB (by omega))
      have ZS := wcells_size ZL
      have EE : Hid (Ext w wr) := Below.trans e0.out (hB.mono (by omega))
      replace hw := Lib.hid hw
      clear vb vv hB wc4 e0 wa wb
      go_wp2_with (first
        | (refine wpList_load_row rfl 106 _ rfl (w.heap.size + 1 + 1 + 1) rfl 106 (wcells vs).toArray (0, 0) _ hw.out rfl rfl (by rw [RS]; rfl) ?_; simp only [Act.put, List.setIfInBounds_toArray, List.set_cons_zero, List.set_cons_succ])
        | (refine wpList_store_row rfl 106 _ _ rfl (w.heap.size + 1 + 1) (wcells vs).toArray rfl rfl 106 _ r4.out (by rw [RS]; rfl) (by rw [RS, ZS]) R1 ?_; simp only [Act.put, List.setIfInBounds_toArray, List.set_cons_zero, List.set_cons_succ]))
      (try simp only [Exit.inBlock, Exit.then])
      refine bodyPost_ret (results_cell_row rfl _ _ (w.heap.size + 1 + 1) 106 (wcells vs).toArray (0, 0) _ rfl (setRow_heap _ _ _ _ _ _ r4.out) rfl rfl (by rw [RS]; rfl)) rfl ?_
      exact ⟨rfl, below_setRow EE.out (by omega) _⟩
end Go.Proofs.YtfhafednnnfmbaaDoor
