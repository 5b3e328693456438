import Derived.Test.YtfhafednnnfmbaaDoorPkT
import Derived.Test.YtfhafednnnfmbaaDoorPkU
import Derived.Test.YtfhafednnnfmbaaDoorSeq
import Derived.Great.FillDense
section
/-
  field.added.
-/
namespace Go.Proofs.YtfhafednnnfmbaaDoor
open Go.ChangeShapes Go.WideShapes Go.ChangeAt Go.RowKit Go.Deep
set_option maxRecDepth 100000

def zw8 : List Nat := List.replicate 8 0
theorem fld_alloc (w : World) : (zeroValue 79).run Tryd.prog w = .ok (.agg (wcells zw8).toArray) w := by kernel_rfl
theorem Wr.new (w : World) (t : TypeId) (vs : List Nat) : Wr (w.alloc (.cells (wcells vs).toArray t)) w.heap.size t vs := heap_alloc_new _ _
theorem words_lbs {vs : List Nat} {n x : Nat} (hl : vs.length = n) (h : ∀ j, j < n → wd vs j = lb x j) : vs = lbs n x := by
  refine List.ext_getElem (by rw [hl, lbs_len]) fun i h1 h2 => ?_
  have := h i (by omega)
  simp [wd, List.getD, h1] at this
  simp [lbs, this]
theorem wd_putN {vs : List Nat} {j k z : Nat} (hk : k < vs.length) : wd (vs.set k z) j = if j = k then z else wd vs j := by
  unfold wd
  by_cases h : j = k
  · subst h
    simp [List.getD, hk]
  · simp [List.getD, h, List.getElem?_set_ne (Ne.symm h)]

set_option maxHeartbeats 1000000 in
theorem added_calls {x y : Nat} {w : World} :
    Calls Tryd.prog 73 #[.agg (wcells (lbs 8 x)).toArray, .agg (wcells (lbs 8 y)).toArray] w fun e w' => e = .returned (.agg (wcells (lbs 8 (x + y))).toArray) ∧ Ext w w' := by
  have hal := fld_alloc
  have ZL : zw8.length = 8 := rfl
  generalize zw8 = zs at *
  have XA : Hid (∀ (o1 o2 o3 o4 : Obj), ((((w.alloc o1).alloc o2).alloc o3).alloc o4).heap[w.heap.size]? = some o1 ∧ ((((w.alloc o1).alloc o2).alloc o3).alloc o4).heap[w.heap.size + 1]? = some o2 ∧ ((((w.alloc o1).alloc o2).alloc o3).alloc o4).heap[w.heap.size + 1 + 1]? = some o3 ∧ ((((w.alloc o1).alloc o2).alloc o3).alloc o4).heap[w.heap.size + 1 + 1 + 1]? = some o4) := fun o1 o2 o3 o4 => by
    have e : Ext (((w.alloc o1).alloc o2).alloc o3) ((((w.alloc o1).alloc o2).alloc o3).alloc o4) := (Ext.refl _).alloc _
    refine ⟨(e.block _ ?_).trans (heap_alloc30 _ _ _ _), (e.block _ ?_).trans (heap_alloc31 _ _ _ _), (e.block _ ?_).trans (heap_alloc32 _ _ _ _), ?_⟩
    · rw [size_alloc, size_alloc, size_alloc]; omega
    · rw [size_alloc, size_alloc, size_alloc]; omega
    · rw [size_alloc, size_alloc, size_alloc]; omega
    · have := heap_alloc_new (((w.alloc o1).alloc o2).alloc o3) o4
      rwa [size_alloc, size_alloc, size_alloc] at this
  have B0 : Hid (∀ o1 o2 o3 o4, Ext w ((((w.alloc o1).alloc o2).alloc o3).alloc o4)) := fun o1 o2 o3 o4 => ((((Ext.refl w).alloc _).alloc _).alloc _).alloc _
  have XL := lbs_len 8 x
  have YL := lbs_len 8 y
  have WX : Hid (∀ j, j < 8 → wd (lbs 8 x) j = lb x j) := fun j hj => wd_lbs hj
  have WY : Hid (∀ j, j < 8 → wd (lbs 8 y) j = lb y j) := fun j hj => wd_lbs hj
  have RQ : Hid (∀ vs : List Nat, vs.length = 8 → (∀ j, j < 8 → wd vs j = lb (x + y) j) → vs = lbs 8 (x + y)) := fun vs h1 h2 => words_lbs h1 h2
  generalize lbs 8 (x + y) = rs at *
  generalize lbs 8 x = xs at *
  generalize lbs 8 y = ys at *
  go_enter Tryd.func73, Tryd.ntmps73
  go_upto_region 2 with fail
  refine wp_gen (fun W => Wr W w.heap.size 79 xs ∧ Wr W (w.heap.size + 1) 79 ys ∧ Wr W (w.heap.size + 1 + 1) 79 zs ∧ Wr W (w.heap.size + 1 + 1 + 1) 79 zs ∧ Ext w W) ⟨(XA.out _ _ _ _).1, (XA.out _ _ _ _).2.1, (XA.out _ _ _ _).2.2.1, (XA.out _ _ _ _).2.2.2, B0.out _ _ _ _⟩ ?_
  clear XA B0
  rintro W0 ⟨wa, wb, wc4, wc5, e0⟩
  replace wa := Lib.hid wa
  replace wb := Lib.hid wb
  replace wc4 := Lib.hid wc4
  replace wc5 := Lib.hid wc5
  replace e0 := Lib.hid e0
  go_wp2_with fail
  go_loopw [6, 9] (fun cv iv wr => ∃ (k : Nat) (vs : List Nat), k ≤ 8 ∧ iv = .int .i64 (k : Int) ∧ cv = .int .u64 (cA x y k : Int) ∧ vs.length = 8 ∧ (∀ j, j < k → wd vs j = lb (x + y) j) ∧ Below (w.heap.size + 1 + 1 + 1) W0 wr ∧ Wr wr (w.heap.size + 1 + 1 + 1) 79 vs) (fun _ iv _ => 8 - (intOf iv).toNat)
  case atStart => exact ⟨0, zs, Nat.zero_le _, rfl, rfl, ZL, fun j hj => absurd hj (by omega), Below.refl _ _, wc5.out⟩
  case round =>
    obtain ⟨k, vs, hk, rfl, rfl, vl, hv, hB, hw⟩ := hrel
    clear wc5
    by_cases hlt : k < 8
    · have ka := Lib.hid (wa.out.kept hB (by omega))
      have kb := Lib.hid (wb.out.kept hB (by omega))
      have ca : Hid (∀ s, Ext wr s → s.cell? ⟨w.heap.size, k, none⟩ = some (.int .u32 (lb x k : Int)) ∧ s.cell? ⟨w.heap.size + 1, k, none⟩ = some (.int .u32 (lb y k : Int))) := fun s e => by
        have h1 := (ka.out.kept e ka.out.lt).cell (i := k) (by rw [XL]; exact hlt)
        have h2 := (kb.out.kept e kb.out.lt).cell (i := k) (by rw [YL]; exact hlt)
        rw [WX.out k hlt] at h1
        rw [WY.out k hlt] at h2
        exact And.intro h1 h2
      have h1 := lb_lt x k
      have h2 := lb_lt y k
      have h3 := cA_le x y k
      have hz : Hid (lb (x + y) k = (lb x k + lb y k + cA x y k) % 4294967296) := lb_add x y k
      have hc : Hid (cA x y (k + 1) = (lb x k + lb y k + cA x y k) / 4294967296) := rfl
      generalize lb x k = a at *
      generalize lb y k = b at *
      generalize cA x y k = c at *
      obtain ⟨s, hs⟩ : ∃ s, s = a + b := ⟨_, rfl⟩
      obtain ⟨T, hT⟩ : ∃ T, T = a + b + c := ⟨_, rfl⟩
      obtain ⟨z, hzz⟩ : ∃ z, z = T % 4294967296 := ⟨_, rfl⟩
      obtain ⟨d, hd⟩ : ∃ d, d = T / 4294967296 := ⟨_, rfl⟩
      rw [← hT, ← hzz] at hz
      rw [← hT, ← hd] at hc
      have f1 : IntKind.u64.wrap (a : Int) = (a : Int) := by rw [IntKind.wrap_u64]; omega
      have f2 : IntKind.u64.wrap (b : Int) = (b : Int) := by rw [IntKind.wrap_u64]; omega
      have f3 : (a : Int) + (b : Int) = (s : Int) := by omega
      have f3w : IntKind.u64.wrap (s : Int) = (s : Int) := by rw [IntKind.wrap_u64]; omega
      have f4 : (s : Int) + (c : Int) = (T : Int) := by omega
      have f4w : IntKind.u64.wrap (T : Int) = (T : Int) := by rw [IntKind.wrap_u64]; omega
      have f5 : IntKind.u32.wrap (T : Int) = (z : Int) := by rw [IntKind.wrap_u32]; omega
      have f5m : (T : Int) % 4294967296 = (z : Int) := by omega
      have f6 : (T : Int) / 4294967296 = (d : Int) := by omega
      have f6' : (T : Int) / 2 ^ 32 = (d : Int) := f6
      have Tlt : T < 18446744073709551616 := by omega
      have q1 : Op.shift .shr .u64 (T : Int) .u64 32 = pure (.int .u64 (d : Int)) := by
        have := shift_shr .u64 .u64 (T : Int) 32 (by omega) (by decide)
        rw [this]
        congr 2
      have ik : (k : Int) < 8 := by omega
      have ik0 : (0 : Int) ≤ (k : Int) := by omega
      have cv := hw.cell (i := k) (by omega)
      have fv := hw.frozen k
      replace hs := Lib.hid hs
      replace hT := Lib.hid hT
      replace hzz := Lib.hid hzz
      replace hd := Lib.hid hd
      replace hv := Lib.hid hv
      replace hB := Lib.hid hB
      replace hw := Lib.hid hw
      clear h1 h2 h3
      go_wp2_with fail
      refine wp_region_seq (R := Ext) Ext.refl (fun _ _ _ => Ext.trans) [0, 1, 2, 3, 4, 5, 6, 7, 8, 9, 10, 11] [] [(0, 13, 256), (1, 14, 8200), (2, 15, 16384), (4, 16, 32768), (0, 17, 256), (16, 18, 131088), (32, 19, 262144), (64, 20, 524288), (136, 21, 1114112), (0, 22, 128), (768, 23, 6291456), (2047, 9, 8388608)] (by kernel_rfl) (by kernel_rfl) (by kernel_rfl) rfl (by kernel_rfl) (by kernel_rfl) (fun _ _ d _ _ h => by cases d <;> exact h) ?_
      repeat (first | (refine seq_read _ (fun w' e => ca.out w' ((Ext.refl _).drew.trans e)) _ (v := ?_) rfl rfl (by rfl) ?_ ?_; rotate_left; (· intro w' hF; go_simp; (try with_reducible rfl)); simp only [Act.put, List.setIfInBounds_toArray, List.set_cons_zero, List.set_cons_succ]) | (refine seq_skip _ rfl rfl (by rfl) ?_; simp only [Act.put, List.setIfInBounds_toArray, List.set_cons_zero, List.set_cons_succ]))
      refine seq_done ?_
      have hw2 := Lib.hid (hw.out.kept (Ext.refl wr).drew hw.out.lt)
      have hB2 : Hid (Below (w.heap.size + 1 + 1 + 1) W0 wr.drew) := Below.trans hB.out ((Ext.refl wr).drew.mono (Nat.le_of_lt hw.out.lt))
      have cv2 := hw2.out.cell (i := k) (by omega)
      have fv2 := hw2.out.frozen k
      clear cv fv hw hB ca ka kb
      generalize wr.drew = w2 at *
      go_wp2_with fail
      refine ⟨⟨k + 1, vs.set k z, by omega, by go_num, by rw [hc.out], by rw [List.length_set]; exact vl, fun j hj => ?_, Below.setCell hB2.out (Nat.le_refl _) _, hw2.out.set⟩, by simp [intOf]; omega⟩
      rw [wd_putN (by omega)]
      by_cases e : j = k
      · rw [if_pos e, e]; exact hz.out.symm
      · rw [if_neg e]; exact hv.out j (by omega)
    · obtain rfl : k = 8 := by omega
      have he := RQ.out vs vl hv
      subst he
      have RS := wcells_size vl
      have R1 := wcells_one vs
      have r4 := Lib.hid (wc4.out.kept hB (by omega))
      have ZS := wcells_size ZL
      have EE : Hid (Ext w wr) := Below.trans e0.out (hB.mono (by omega))
      replace hw := Lib.hid hw
      clear hv hB wc4 e0 wa wb
      go_wp2_with (first
        | (refine wpList_load_row rfl 79 _ rfl (w.heap.size + 1 + 1 + 1) rfl 79 (wcells vs).toArray (0, 0) _ hw.out rfl rfl (by rw [RS]; rfl) ?_; simp only [Act.put, List.setIfInBounds_toArray, List.set_cons_zero, List.set_cons_succ])
        | (refine wpList_store_row rfl 79 _ _ rfl (w.heap.size + 1 + 1) (wcells vs).toArray rfl rfl 79 _ r4.out (by rw [RS]; rfl) (by rw [RS, ZS]) R1 ?_; simp only [Act.put, List.setIfInBounds_toArray, List.set_cons_zero, List.set_cons_succ]))
      (try simp only [Exit.inBlock, Exit.then])
      refine bodyPost_ret (results_cell_row rfl _ _ (w.heap.size + 1 + 1) 79 (wcells vs).toArray (0, 0) _ rfl (setRow_heap _ _ _ _ _ _ r4.out) rfl rfl (by rw [RS]; rfl)) rfl ?_
      exact ⟨rfl, below_setRow EE.out (by omega) _⟩
end Go.Proofs.YtfhafednnnfmbaaDoor
end

section
/-
  field.subtracted.
-/
namespace Go.Proofs.YtfhafednnnfmbaaDoor
open Go.ChangeShapes Go.WideShapes Go.ChangeAt Go.RowKit Go.Deep
set_option maxRecDepth 100000

/-- What a difference hands back. -/
def RetSub (x y : Nat) (w : World) (e : Ending) (w' : World) : Prop := e = .returned (.tuple #[.agg (wcells (lbs 8 (x + 4294967296 ^ 8 - y))).toArray, .int .u64 (bS x y 8 : Int)]) ∧ Ext w w'

set_option maxHeartbeats 1000000 in
theorem subtracted_calls {x y : Nat} {w : World} (hy : y < 4294967296 ^ 8) :
    Calls Tryd.prog 72 #[.agg (wcells (lbs 8 x)).toArray, .agg (wcells (lbs 8 y)).toArray] w (RetSub x y w) := by
  have hal := fld_alloc
  have ZL : zw8.length = 8 := rfl
  generalize zw8 = zs at *
  have XA : Hid (∀ (o1 o2 o3 : Obj), (((w.alloc o1).alloc o2).alloc o3).heap[w.heap.size]? = some o1 ∧ (((w.alloc o1).alloc o2).alloc o3).heap[w.heap.size + 1]? = some o2 ∧ (((w.alloc o1).alloc o2).alloc o3).heap[w.heap.size + 1 + 1]? = some o3) := fun o1 o2 o3 => ⟨heap_alloc30 _ _ _ _, heap_alloc31 _ _ _ _, heap_alloc32 _ _ _ _⟩
  have B0 : Hid (∀ o1 o2 o3, Ext w (((w.alloc o1).alloc o2).alloc o3)) := fun o1 o2 o3 => (((Ext.refl w).alloc _).alloc _).alloc _
  have XL := lbs_len 8 x
  have YL := lbs_len 8 y
  have WX : Hid (∀ j, j < 8 → wd (lbs 8 x) j = lb x j) := fun j hj => wd_lbs hj
  have WY : Hid (∀ j, j < 8 → wd (lbs 8 y) j = lb y j) := fun j hj => wd_lbs hj
  obtain ⟨m, hm⟩ : ∃ m, m = x + 4294967296 ^ 8 - y := ⟨_, rfl⟩
  have LS : Hid (∀ i, i < 8 → lb m i = (lb x i + 4294967296 - lb y i - bS x y i) % 4294967296) := fun i hi => by rw [hm]; exact lb_sub hy hi
  unfold RetSub
  rw [← hm]
  clear hm hy
  have RQ : Hid (∀ vs : List Nat, vs.length = 8 → (∀ j, j < 8 → wd vs j = lb m j) → vs = lbs 8 m) := fun vs h1 h2 => words_lbs h1 h2
  generalize lbs 8 m = rs at *
  generalize lbs 8 x = xs at *
  generalize lbs 8 y = ys at *
  have BN : Hid (∀ i, bS x y (i + 1) = if lb x i < lb y i + bS x y i then 1 else 0) := fun i => rfl
  have BLE : Hid (∀ i, bS x y i ≤ 1) := bS_le x y
  obtain ⟨b8, hb8⟩ : ∃ b8, b8 = bS x y 8 := ⟨_, rfl⟩
  rw [← hb8]
  replace hb8 := Lib.hid hb8
  go_enter Tryd.func72, Tryd.ntmps72
  go_upto_region 1 with fail
  refine wp_gen (fun W => Wr W w.heap.size 79 xs ∧ Wr W (w.heap.size + 1) 79 ys ∧ Wr W (w.heap.size + 1 + 1) 79 zs ∧ Ext w W) ⟨(XA.out _ _ _).1, (XA.out _ _ _).2.1, (XA.out _ _ _).2.2, B0.out _ _ _⟩ ?_
  clear XA B0
  rintro W0 ⟨wa, wb, wc4, e0⟩
  replace wa := Lib.hid wa
  replace wb := Lib.hid wb
  replace wc4 := Lib.hid wc4
  replace e0 := Lib.hid e0
  go_wp2_with fail
  go_loopw [5, 8] (fun cv iv wr => ∃ (k : Nat) (vs : List Nat), k ≤ 8 ∧ iv = .int .i64 (k : Int) ∧ cv = .int .u64 (bS x y k : Int) ∧ vs.length = 8 ∧ (∀ j, j < k → wd vs j = lb m j) ∧ Below (w.heap.size + 1 + 1) W0 wr ∧ Wr wr (w.heap.size + 1 + 1) 79 vs) (fun _ iv _ => 8 - (intOf iv).toNat)
  case atStart => exact ⟨0, zs, Nat.zero_le _, rfl, rfl, ZL, fun j hj => absurd hj (by omega), Below.refl _ _, wc4.out⟩
  case round =>
    obtain ⟨k, vs, hk, rfl, rfl, vl, hv, hB, hw⟩ := hrel
    clear wc4
    by_cases hlt : k < 8
    · have ka := Lib.hid (wa.out.kept hB (by omega))
      have kb := Lib.hid (wb.out.kept hB (by omega))
      have ca : Hid (∀ s, Ext wr s → s.cell? ⟨w.heap.size, k, none⟩ = some (.int .u32 (lb x k : Int)) ∧ s.cell? ⟨w.heap.size + 1, k, none⟩ = some (.int .u32 (lb y k : Int))) := fun s e => by
        have h1 := (ka.out.kept e ka.out.lt).cell (i := k) (by rw [XL]; exact hlt)
        have h2 := (kb.out.kept e kb.out.lt).cell (i := k) (by rw [YL]; exact hlt)
        rw [WX.out k hlt] at h1
        rw [WY.out k hlt] at h2
        exact And.intro h1 h2
      have h1 := lb_lt x k
      have h2 := lb_lt y k
      have h3 := BLE.out k
      have hz := Lib.hid (LS.out k hlt)
      have hc := Lib.hid (BN.out k)
      generalize lb x k = a at *
      generalize lb y k = b at *
      generalize bS x y k = c at *
      obtain ⟨s, hs⟩ : ∃ s, s = (if a < b then a + 18446744073709551616 - b else a - b) := ⟨_, rfl⟩
      obtain ⟨T, hT⟩ : ∃ T, T = (if a < b + c then a + 18446744073709551616 - b - c else a - b - c) := ⟨_, rfl⟩
      obtain ⟨z, hzz⟩ : ∃ z, z = T % 4294967296 := ⟨_, rfl⟩
      obtain ⟨d, hd⟩ : ∃ d, d = (if a < b + c then 1 else 0) := ⟨_, rfl⟩
      have hz' : Hid (lb m k = z) := by
        unfold Hid
        rw [hz.out, hzz, hT]
        split <;> omega
      rw [← hd] at hc
      have f1 : IntKind.u64.wrap (a : Int) = (a : Int) := by rw [IntKind.wrap_u64]; omega
      have f2 : IntKind.u64.wrap (b : Int) = (b : Int) := by rw [IntKind.wrap_u64]; omega
      have f3 : IntKind.u64.wrap ((a : Int) - (b : Int)) = (s : Int) := by rw [IntKind.wrap_u64, hs]; split <;> omega
      have f4 : IntKind.u64.wrap ((s : Int) - (c : Int)) = (T : Int) := by rw [IntKind.wrap_u64, hs, hT]; split <;> split <;> omega
      have f3m : ((a : Int) - (b : Int)) % 18446744073709551616 = (s : Int) := by rw [hs]; split <;> omega
      have f4m : ((s : Int) - (c : Int)) % 18446744073709551616 = (T : Int) := by rw [hs, hT]; split <;> split <;> omega
      have f5 : IntKind.u32.wrap (T : Int) = (z : Int) := by rw [IntKind.wrap_u32]; omega
      have f5m : (T : Int) % 4294967296 = (z : Int) := by omega
      have Tlt : T < 18446744073709551616 := by rw [hT]; split <;> omega
      have f6 : (T : Int) / 9223372036854775808 = (d : Int) := by rw [hT, hd]; split <;> omega
      have f6' : (T : Int) / 2 ^ 63 = (d : Int) := f6
      have q1 : Op.shift .shr .u64 (T : Int) .u64 63 = pure (.int .u64 (d : Int)) := by
        have := shift_shr .u64 .u64 (T : Int) 63 (by omega) (by decide)
        rw [this]
        congr 2
      have ik : (k : Int) < 8 := by omega
      have ik0 : (0 : Int) ≤ (k : Int) := by omega
      have cv := hw.cell (i := k) (by omega)
      have fv := hw.frozen k
      replace hs := Lib.hid hs
      replace hT := Lib.hid hT
      replace hzz := Lib.hid hzz
      replace hd := Lib.hid hd
      replace hv := Lib.hid hv
      replace hB := Lib.hid hB
      replace hw := Lib.hid hw
      clear h1 h2 h3
      go_wp2_with fail
      refine wp_region_seq (R := Ext) Ext.refl (fun _ _ _ => Ext.trans) [0, 1, 2, 3, 4, 5, 6, 7, 8, 9, 10, 11] [] [(0, 12, 128), (1, 13, 4104), (2, 14, 8192), (4, 15, 16384), (0, 16, 128), (16, 17, 65552), (32, 18, 131072), (64, 19, 262144), (136, 20, 557056), (0, 21, 64), (768, 22, 3145728), (2047, 8, 4194304)] (by kernel_rfl) (by kernel_rfl) (by kernel_rfl) rfl (by kernel_rfl) (by kernel_rfl) (fun _ _ d _ _ h => by cases d <;> exact h) ?_
      repeat (first | (refine seq_read _ (fun w' e => ca.out w' ((Ext.refl _).drew.trans e)) _ (v := ?_) rfl rfl (by rfl) ?_ ?_; rotate_left; (· intro w' hF; go_simp; (try with_reducible rfl)); simp only [Act.put, List.setIfInBounds_toArray, List.set_cons_zero, List.set_cons_succ]) | (refine seq_skip _ rfl rfl (by rfl) ?_; simp only [Act.put, List.setIfInBounds_toArray, List.set_cons_zero, List.set_cons_succ]))
      refine seq_done ?_
      have hw2 := Lib.hid (hw.out.kept (Ext.refl wr).drew hw.out.lt)
      have hB2 : Hid (Below (w.heap.size + 1 + 1) W0 wr.drew) := Below.trans hB.out ((Ext.refl wr).drew.mono (Nat.le_of_lt hw.out.lt))
      have cv2 := hw2.out.cell (i := k) (by omega)
      have fv2 := hw2.out.frozen k
      clear cv fv hw hB ca ka kb
      generalize wr.drew = w2 at *
      go_wp2_with fail
      refine ⟨⟨k + 1, vs.set k z, by omega, by go_num, by rw [hc.out], by rw [List.length_set]; exact vl, fun j hj => ?_, Below.setCell hB2.out (Nat.le_refl _) _, hw2.out.set⟩, by simp [intOf]; omega⟩
      rw [wd_putN (by omega)]
      by_cases e : j = k
      · rw [if_pos e, e]; exact hz'.out.symm
      · rw [if_neg e]; exact hv.out j (by omega)
    · obtain rfl : k = 8 := by omega
      have he := RQ.out vs vl hv
      subst he
      rw [← hb8.out]
      have RS := wcells_size vl
      have R1 := wcells_one vs
      have EE : Hid (Ext w wr) := Below.trans e0.out (hB.mono (by omega))
      replace hw := Lib.hid hw
      clear hv hB e0 wa wb
      go_wp2_with (first
        | (refine wpList_load_row rfl 79 _ rfl (w.heap.size + 1 + 1) rfl 79 (wcells vs).toArray (0, 0) _ hw.out rfl rfl (by rw [RS]; rfl) ?_; simp only [Act.put, List.setIfInBounds_toArray, List.set_cons_zero, List.set_cons_succ])
        | (refine wpList_store_row rfl 79 _ _ rfl (w.heap.size + 1 + 1) (wcells vs).toArray rfl rfl 79 _ hw.out (by rw [RS]; rfl) (by rw [RS]) R1 ?_; simp only [Act.put, List.setIfInBounds_toArray, List.set_cons_zero, List.set_cons_succ]))
      (try simp only [Exit.inBlock, Exit.then])
      refine bodyPost_ret (v := .tuple #[.agg (wcells vs).toArray, .int .u64 (b8 : Int)]) ?_ rfl ?_
      · exact results_row_tmp rfl _ _ (w.heap.size + 1 + 1) 79 (wcells vs).toArray (0, 0) _ _ rfl rfl (setRow_heap _ _ _ _ _ _ hw.out) rfl rfl (by rw [RS]; rfl)
      · exact ⟨rfl, below_setRow EE.out (by omega) _⟩
end Go.Proofs.YtfhafednnnfmbaaDoor
end

section
/-
  field.reduced; the prime that is laid.
-/
namespace Go.Proofs.YtfhafednnnfmbaaDoor
open Go.ChangeShapes Go.WideShapes Go.ChangeAt Go.RowKit Go.Deep
set_option maxRecDepth 100000

/-- The prime. -/
def P25 : Nat := 57896044618658097711785492504343953926634992332820282019728792003956564819949
def primeL : List Nat := [4294967277, 4294967295, 4294967295, 4294967295, 4294967295, 4294967295, 4294967295, 2147483647]
theorem primeL_eq : primeL = lbs 8 P25 := by decide +kernel
theorem P25_lt : P25 < 4294967296 ^ 8 := by decide +kernel
/-- The variable field.prime holds the prime. -/
def Gp (w : World) (tg : TypeId × Nat × Nat) : Prop := w.heap[1]? = some (.cells (wcells (lbs 8 P25)).toArray tg.1 tg.2)
theorem Gp.lt {w : World} {tg : TypeId × Nat × Nat} (h : Gp w tg) : 1 < w.heap.size := heap_lt h
theorem Gp.ext {w w' : World} {tg : TypeId × Nat × Nat} (h : Gp w tg) (e : Ext w w') : Gp w' tg := (e.block _ h.lt).trans h

theorem fill_oneN {n : Nat} {K Z : Array Value} (hn : 0 < n) (pl : Nat → Option (Nat × Nat)) (hp : pl 0 = some (0, n)) (hK : K.size = n) (hZ : Z.size = n) : Instr.fill pl Z [(0, .agg K)] = some K := by
  have hc : (Value.agg K).cells = K := rfl
  simp only [Instr.fill, hp, hc, hK, hZ]
  simp only [ne_eq, not_true_eq_false, decide_false, Bool.false_or, Nat.zero_add, Nat.lt_irrefl, decide_false, Bool.false_eq_true, if_false]
  have := Great.fill_whole (s := n) hn [Value.agg K] Z (fun v hv => by
    simp only [List.mem_singleton] at hv
    subst hv
    exact hK) (by simp [hZ])
  simp only [List.zipIdx_cons, List.zipIdx_nil, List.map_cons, List.map_nil, List.flatMap_cons, List.flatMap_nil, List.append_nil, Instr.fill, hc, hK, hZ, Nat.zero_mul] at this
  simpa using this
theorem elem_alloc (w : World) : (zeroValue 81).run Tryd.prog w = .ok (.agg (wcells zw8).toArray) w := by kernel_rfl
theorem zw8_size : (wcells zw8).toArray.size = 8 := rfl
theorem elem_built {K : Array Value} (hK : K.size = 8) : Tryd.prog.built 81 [(0, .agg K)] = some K := by
  have h : ∃ pl : Nat → Option (Nat × Nat), pl 0 = some (0, 8) ∧ ∀ ps, Tryd.prog.built 81 ps = Instr.fill pl (wcells zw8).toArray ps := ⟨(#[(0, 8)][·]?), rfl, fun ps => by kernel_rfl⟩
  obtain ⟨pl, h0, h1⟩ := h
  rw [h1, fill_oneN (by omega) pl h0 hK zw8_size]

/-- Numbers below twice the prime, brought below it. -/
theorem red_lt {x : Nat} (hx : x < 2 * P25) : lbs 8 (x % P25) = if bS x P25 8 = 0 then lbs 8 (x + 4294967296 ^ 8 - P25) else lbs 8 x := by
  have h1 : x < 4294967296 ^ 8 := Nat.lt_trans hx (by decide +kernel)
  rw [bS_eight h1 P25_lt]
  by_cases q : x < P25
  · rw [if_pos q, if_neg (by omega), Nat.mod_eq_of_lt q]
  · rw [if_neg q, if_pos rfl]
    have h2 : x % P25 = x - P25 := by
      rw [Nat.mod_eq_sub_mod (by omega), Nat.mod_eq_of_lt (by omega)]
    have e : x - P25 + 4294967296 ^ 8 = x + 4294967296 ^ 8 - P25 := by
      generalize P25 = p at *
      generalize 4294967296 ^ 8 = M at *
      omega
    rw [h2, ← lbs_add_big 8 (x - P25), e]

set_option maxHeartbeats 1000000 in
theorem reduced_calls {x : Nat} {w : World} (hx : x < 2 * P25) {tg : TypeId × Nat × Nat} (hG : Gp w tg) :
    Calls Tryd.prog 62 #[.agg (wcells (lbs 8 x)).toArray] w fun e w' => e = .returned (.agg (wcells (lbs 8 (x % P25))).toArray) ∧ Ext w w' := by
  have SUB : Hid (∀ W, Calls Tryd.prog 72 #[.agg (wcells (lbs 8 x)).toArray, .agg (wcells (lbs 8 P25)).toArray] W (RetSub x P25 W)) := fun W => subtracted_calls P25_lt
  have HR := Lib.hid (red_lt hx)
  unfold RetSub at SUB
  obtain ⟨r, hr⟩ : ∃ r, r = lbs 8 (x % P25) := ⟨_, rfl⟩
  rw [← hr] at HR ⊢
  have RL : r.length = 8 := by rw [hr]; exact lbs_len _ _
  clear hr
  have XL := lbs_len 8 x
  have PL := lbs_len 8 P25
  have DL := lbs_len 8 (x + 4294967296 ^ 8 - P25)
  have BB : Hid (bS x P25 8 ≤ 1) := bS_le _ _ 8
  have GP : Hid (∀ W, Ext w W → W.heap[1]? = some (.cells (wcells (lbs 8 P25)).toArray tg.1 tg.2)) := fun W e => hG.ext e
  clear hG hx
  generalize lbs 8 (x + 4294967296 ^ 8 - P25) = ds at *
  generalize bS x P25 8 = b at *
  generalize lbs 8 P25 = ps at *
  generalize lbs 8 x = xs at *
  have XS := wcells_size XL
  have PS := wcells_size PL
  have DS := wcells_size DL
  have D1 := wcells_one ds
  have X1 := wcells_one xs
  have hal := fld_alloc
  have hal2 := elem_alloc
  have bD : Hid (Tryd.prog.built 81 [(0, .agg (wcells ds).toArray)] = some (wcells ds).toArray) := elem_built DS
  have bX : Hid (Tryd.prog.built 81 [(0, .agg (wcells xs).toArray)] = some (wcells xs).toArray) := elem_built XS
  have ZL : zw8.length = 8 := rfl
  generalize zw8 = zs at *
  have ZS := wcells_size ZL
  have B0 : Hid (∀ s, Ext ((w.alloc (Obj.cells (wcells xs).toArray 79)).alloc (Obj.cells (wcells zs).toArray 81)) s → s.heap[w.heap.size]? = some (.cells (wcells xs).toArray 79 (0, 0)) ∧ s.heap[w.heap.size + 1]? = some (.cells (wcells zs).toArray 81 (0, 0)) ∧ Ext w s) := fun s e => ⟨(e.block _ (by rw [size_alloc, size_alloc]; omega)).trans (heap_alloc1 _ _ _), (e.block _ (by rw [size_alloc, size_alloc]; omega)).trans (heap_alloc2 _ _ _), (((Ext.refl w).alloc _).alloc _).trans e⟩
  go_enter Tryd.func62, Tryd.ntmps62
  go_upto_region 1 with fail
  have k0 := Lib.hid (B0.out _ (Ext.refl _)).1
  have kp := Lib.hid (GP.out _ (B0.out _ (Ext.refl _)).2.2)
  go_wp2_with (first
    | (refine wpList_load_row rfl 79 _ rfl w.heap.size rfl 79 (wcells xs).toArray (0, 0) _ k0.out rfl rfl (by rw [XS]; rfl) ?_; simp only [Act.put, List.setIfInBounds_toArray, List.set_cons_zero, List.set_cons_succ])
    | (refine wpList_load_row rfl 79 _ rfl 1 rfl tg.1 (wcells ps).toArray tg.2 _ kp.out rfl rfl (by rw [PS]; rfl) ?_; simp only [Act.put, List.setIfInBounds_toArray, List.set_cons_zero, List.set_cons_succ]))
  refine (SUB.out _).mono ?_
  rintro e v ⟨rfl, e1⟩
  have B1 : Hid (∀ s, Ext v s → s.heap[w.heap.size]? = some (.cells (wcells xs).toArray 79 (0, 0)) ∧ s.heap[w.heap.size + 1]? = some (.cells (wcells zs).toArray 81 (0, 0)) ∧ Ext w s) := fun s e => B0.out s (e1.trans e)
  clear B0 k0 kp GP SUB e1
  have a1 : Hid ((v.alloc (Obj.cells (wcells zs).toArray 79)).heap[v.heap.size]? = some (.cells (wcells zs).toArray 79 (0, 0))) := heap_alloc_new _ _
  have e5 : Ext v ((v.alloc (Obj.cells (wcells zs).toArray 79)).setRow v.heap.size (wcells ds).toArray) := below_setRow ((Ext.refl v).alloc _) (Nat.le_refl _) _
  go_upto_region 2 with (refine wpList_store_row rfl 79 _ _ rfl v.heap.size (wcells ds).toArray rfl rfl 79 _ a1.out (by rw [DS]; rfl) (by rw [DS, ZS]) D1 ?_; simp only [Act.put, List.setIfInBounds_toArray, List.set_cons_zero, List.set_cons_succ])
  obtain ⟨f, hf⟩ : ∃ f, f = v.heap.size := ⟨_, rfl⟩
  refine wp_gen (fun W => W.heap[w.heap.size]? = some (.cells (wcells xs).toArray 79 (0, 0)) ∧ W.heap[w.heap.size + 1]? = some (.cells (wcells zs).toArray 81 (0, 0)) ∧ Ext w W ∧ W.heap[f]? = some (.cells (wcells ds).toArray 79 (0, 0))) (by
    have p := B1.out _ e5
    exact ⟨p.1, p.2.1, p.2.2, by rw [hf]; exact setRow_heap _ _ _ _ _ _ a1.out⟩) ?_
  rw [← hf]
  clear hf a1 e5 B1
  rintro w2 ⟨k0, k1, x2, kd⟩
  replace k0 := Lib.hid k0
  replace k1 := Lib.hid k1
  replace x2 := Lib.hid x2
  replace kd := Lib.hid kd
  have BC : b = 0 ∨ b = 1 := by have := BB.out; omega
  rcases BC with rfl | rfl
  · obtain rfl : r = ds := by have := HR.out; rw [if_pos rfl] at this; exact this
    go_wp2_with (first
      | (refine wpList_load_row rfl 79 _ rfl f rfl 79 (wcells r).toArray (0, 0) _ kd.out rfl rfl (by rw [DS]; rfl) ?_; simp only [Act.put, List.setIfInBounds_toArray, List.set_cons_zero, List.set_cons_succ])
      | (refine wpList_build_as rfl _ _ rfl (wcells r).toArray (by simp only [List.map_toArray, List.map_cons, List.map_nil]; exact bD.out) ?_; simp only [Act.put, List.setIfInBounds_toArray, List.set_cons_zero, List.set_cons_succ])
      | (refine wpList_store_row rfl 81 _ _ rfl (w.heap.size + 1) (wcells r).toArray rfl rfl 81 _ k1.out (by rw [DS]; rfl) (by rw [DS, ZS]) D1 ?_; simp only [Act.put, List.setIfInBounds_toArray, List.set_cons_zero, List.set_cons_succ]))
    (try simp only [Exit.inBlock, Exit.then])
    refine bodyPost_ret (results_cell_row rfl _ _ (w.heap.size + 1) 81 (wcells r).toArray (0, 0) _ rfl (setRow_heap _ _ _ _ _ _ k1.out) rfl rfl (by rw [DS]; rfl)) rfl ?_
    exact ⟨rfl, below_setRow x2.out (by omega) _⟩
  · obtain rfl : r = xs := by have := HR.out; rw [if_neg (by omega)] at this; exact this
    go_wp2_with (first
      | (refine wpList_load_row rfl 79 _ rfl w.heap.size rfl 79 (wcells r).toArray (0, 0) _ k0.out rfl rfl (by rw [XS]; rfl) ?_; simp only [Act.put, List.setIfInBounds_toArray, List.set_cons_zero, List.set_cons_succ])
      | (refine wpList_build_as rfl _ _ rfl (wcells r).toArray (by simp only [List.map_toArray, List.map_cons, List.map_nil]; exact bX.out) ?_; simp only [Act.put, List.setIfInBounds_toArray, List.set_cons_zero, List.set_cons_succ])
      | (refine wpList_store_row rfl 81 _ _ rfl (w.heap.size + 1) (wcells r).toArray rfl rfl 81 _ k1.out (by rw [XS]; rfl) (by rw [XS, ZS]) X1 ?_; simp only [Act.put, List.setIfInBounds_toArray, List.set_cons_zero, List.set_cons_succ]))
    (try simp only [Exit.inBlock, Exit.then])
    refine bodyPost_ret (results_cell_row rfl _ _ (w.heap.size + 1) 81 (wcells r).toArray (0, 0) _ rfl (setRow_heap _ _ _ _ _ _ k1.out) rfl rfl (by rw [XS]; rfl)) rfl ?_
    exact ⟨rfl, below_setRow x2.out (by omega) _⟩
end Go.Proofs.YtfhafednnnfmbaaDoor
end

section
/-
  The structs of layer 9: a bundle, one's own keys, an exchange, a row, a secret.
-/
namespace Go.Proofs.YtfhafednnnfmbaaDoor
open Go.ChangeShapes Go.WideShapes Go.ChangeAt Go.RowKit Go.Deep
set_option maxRecDepth 100000

/-- Bytes, and a bool behind them. -/
def bbC (xs : List UInt8) (b : Bool) : List Value := cellsOf xs ++ [.bool b]
theorem bbC_len (xs : List UInt8) (b : Bool) : (bbC xs b).length = xs.length + 1 := by simp [bbC, cellsOf_len]
theorem bbC_one (xs : List UInt8) (b : Bool) : (bbC xs b).toArray.all (·.oneCell') = true := one_cells fun v hv => by
  rcases List.mem_append.1 hv with h | h
  · exact one_mem xs v h
  · simp at h; subst h; rfl
def Z96x : Array Value := (cellsOf (List.replicate 96 0)).toArray
theorem Z96x_size : Z96x.size = 96 := by simp [Z96x, cellsOf_len]
theorem exch_built {o p : List UInt8} (ho : o.length = 64) (hp : p.length = 32) : Tryd.prog.built 49 [(0, .agg (cellsOf o).toArray), (1, .agg (cellsOf p).toArray)] = some (cellsOf (o ++ p)).toArray := by
  have h : ∃ pl : Nat → Option (Nat × Nat), pl 0 = some (0, 64) ∧ pl 1 = some (64, 32) ∧ ∀ ps, Tryd.prog.built 49 ps = Instr.fill pl Z96x ps := ⟨(#[(0, 64), (64, 32)][·]?), rfl, rfl, fun ps => by kernel_rfl⟩
  obtain ⟨pl, h0, h1, h2⟩ := h
  rw [h2, fill_two pl h0 h1 (by simp [cellsOf_len, ho]) (by simp [cellsOf_len, hp]) Z96x_size, cellsOf_app, List.append_toArray]
theorem row_built {o p : List UInt8} (ho : o.length = 64) (hp : p.length = 32) : Tryd.prog.built 36 [(0, .agg (cellsOf o).toArray), (1, .agg (cellsOf p).toArray)] = some (cellsOf (o ++ p)).toArray := by
  have h : ∃ pl : Nat → Option (Nat × Nat), pl 0 = some (0, 64) ∧ pl 1 = some (64, 32) ∧ ∀ ps, Tryd.prog.built 36 ps = Instr.fill pl Z96x ps := ⟨(#[(0, 64), (64, 32)][·]?), rfl, rfl, fun ps => by kernel_rfl⟩
  obtain ⟨pl, h0, h1, h2⟩ := h
  rw [h2, fill_two pl h0 h1 (by simp [cellsOf_len, ho]) (by simp [cellsOf_len, hp]) Z96x_size, cellsOf_app, List.append_toArray]
theorem exch_alloc (w : World) : (zeroValue 49).run Tryd.prog w = .ok (.agg Z96x) w := by kernel_rfl
theorem info_exch : (Tryd.prog.info? 49).map (fun i => (i.zero, i.size, i.bytes)) = some (some (.agg Z96x), 96, 96) := by kernel_rfl
theorem info_row : (Tryd.prog.info? 36).map (fun i => (i.zero, i.size, i.bytes)) = some (some (.agg Z96x), 96, 96) := by kernel_rfl
/-- a bundle -/
def zb97 : List Value := bbC (List.replicate 96 0) false
theorem bundle_alloc (w : World) : (zeroValue 27).run Tryd.prog w = .ok (.agg (bbC (List.replicate 96 0) false).toArray) w := by kernel_rfl
theorem zb_split : bbC (List.replicate 96 0) false = cellsOf (List.replicate 32 0) ++ (cellsOf (List.replicate 32 0) ++ (cellsOf (List.replicate 32 0) ++ [.bool false])) := by
  rw [bbC, show List.replicate 96 (0 : UInt8) = List.replicate 32 0 ++ (List.replicate 32 0 ++ List.replicate 32 0) by decide, cellsOf_app, cellsOf_app, List.append_assoc, List.append_assoc]
theorem bundle_fill : ∃ pl : Nat → Option (Nat × Nat), (pl 0 = some (0, 32) ∧ pl 1 = some (32, 32) ∧ pl 2 = some (64, 32) ∧ pl 3 = some (96, 1)) ∧ ∀ ps, Tryd.prog.built 27 ps = Instr.fill pl (bbC (List.replicate 96 0) false).toArray ps :=
  ⟨(#[(0, 32), (32, 32), (64, 32), (96, 1)][·]?), ⟨rfl, rfl, rfl, rfl⟩, fun ps => by kernel_rfl⟩
theorem cl32 {x : List UInt8} (h : x.length = 32) : (cellsOf (List.replicate 32 0)).length = (cellsOf x).length := by rw [cellsOf_len, cellsOf_len, h]; rfl
theorem sz32 {x : List UInt8} (h : x.length = 32) : (Value.agg (cellsOf x).toArray).cells.size = 32 := by rw [cells_agg, List.size_toArray, cellsOf_len, h]
theorem bundle2 {i s : List UInt8} (hi : i.length = 32) (hs : s.length = 32) : Tryd.prog.built 27 [(0, .agg (cellsOf i).toArray), (1, .agg (cellsOf s).toArray)] = some (bbC (i ++ (s ++ List.replicate 32 0)) false).toArray := by
  obtain ⟨pl, ⟨q0, q1, q2, q3⟩, hp⟩ := bundle_fill
  have lz : (cellsOf (List.replicate 32 0)).length = 32 := by rw [cellsOf_len]; rfl
  rw [hp, zb_split, fill_step q0 (sz32 hi) (by simp [cellsOf_len]), cells_agg, splice_zero (by simpa using cl32 hi), fill_step q1 (sz32 hs) (by simp [cellsOf_len, hi]), cells_agg,
    splice_mid (by simp [cellsOf_len, hi]) (by simpa using cl32 hs)]
  simp [Instr.fill, bbC, cellsOf_app]
theorem bundle3 {i s : List UInt8} {h : Bool} (hi : i.length = 32) (hs : s.length = 32) : Tryd.prog.built 27 [(0, .agg (cellsOf i).toArray), (1, .agg (cellsOf s).toArray), (3, .bool h)] = some (bbC (i ++ (s ++ List.replicate 32 0)) h).toArray := by
  obtain ⟨pl, ⟨q0, q1, q2, q3⟩, hp⟩ := bundle_fill
  rw [hp, zb_split, fill_step q0 (sz32 hi) (by simp [cellsOf_len]), cells_agg, splice_zero (by simpa using cl32 hi), fill_step q1 (sz32 hs) (by simp [cellsOf_len, hi]), cells_agg,
    splice_mid (by simp [cellsOf_len, hi]) (by simpa using cl32 hs)]
  have e : cellsOf i ++ (cellsOf s ++ (cellsOf (List.replicate 32 0) ++ [Value.bool false])) = (cellsOf i ++ (cellsOf s ++ cellsOf (List.replicate 32 0))) ++ ([Value.bool false] ++ []) := by simp
  simp only [List.toList_toArray]
  rw [e, fill_step q3 rfl (by simp [cellsOf_len, hi, hs]), cells_bool, splice_mid (by simp [cellsOf_len, hi, hs]) (by simp)]
  simp [Instr.fill, bbC, cellsOf_app]
/-- one's own keys -/
theorem own_fill : ∃ pl : Nat → Option (Nat × Nat), (pl 0 = some (0, 64) ∧ pl 1 = some (64, 64) ∧ pl 2 = some (128, 64) ∧ pl 3 = some (192, 1)) ∧ ∀ ps, Tryd.prog.built 34 ps = Instr.fill pl (bbC (List.replicate 192 0) false).toArray ps :=
  ⟨(#[(0, 64), (64, 64), (128, 64), (192, 1)][·]?), ⟨rfl, rfl, rfl, rfl⟩, fun ps => by kernel_rfl⟩
theorem zo_split : bbC (List.replicate 192 0) false = cellsOf (List.replicate 64 0) ++ (cellsOf (List.replicate 64 0) ++ (cellsOf (List.replicate 64 0) ++ ([.bool false] ++ []))) := by
  rw [bbC, show List.replicate 192 (0 : UInt8) = List.replicate 64 0 ++ (List.replicate 64 0 ++ List.replicate 64 0) by decide, cellsOf_app, cellsOf_app, List.append_assoc, List.append_assoc, List.append_nil]
theorem cl64 {x : List UInt8} (h : x.length = 64) : (cellsOf (List.replicate 64 0)).length = (cellsOf x).length := by rw [cellsOf_len, cellsOf_len, h]; rfl
theorem sz64 {x : List UInt8} (h : x.length = 64) : (Value.agg (cellsOf x).toArray).cells.size = 64 := by rw [cells_agg, List.size_toArray, cellsOf_len, h]
theorem own_built {a b c : List UInt8} {h : Bool} (ha : a.length = 64) (hb : b.length = 64) (hc : c.length = 64) : Tryd.prog.built 34 [(0, .agg (cellsOf a).toArray), (1, .agg (cellsOf b).toArray), (2, .agg (cellsOf c).toArray), (3, .bool h)] = some (bbC (a ++ (b ++ c)) h).toArray := by
  obtain ⟨pl, ⟨q0, q1, q2, q3⟩, hp⟩ := own_fill
  rw [hp, zo_split, fill_step q0 (sz64 ha) (by simp [cellsOf_len]), cells_agg, splice_zero (by simpa using cl64 ha), fill_step q1 (sz64 hb) (by simp [cellsOf_len, ha]), cells_agg,
    splice_mid (by simp [cellsOf_len, ha]) (by simpa using cl64 hb)]
  simp only [List.toList_toArray]
  rw [← List.append_assoc (cellsOf a), fill_step q2 (sz64 hc) (by simp [cellsOf_len, ha, hb]), cells_agg, splice_mid (by simp [cellsOf_len, ha, hb]) (by simpa using cl64 hc)]
  simp only [List.toList_toArray]
  rw [← List.append_assoc (cellsOf a ++ cellsOf b), fill_step q3 rfl (by simp [cellsOf_len, ha, hb, hc]), cells_bool, splice_mid (by simp [cellsOf_len, ha, hb, hc]) (by simp)]
  simp [Instr.fill, bbC, cellsOf_app]
/-- a secret -/
theorem sec_built {k : List UInt8} (hk : k.length = 32) : Tryd.prog.built 59 [(0, .agg (cellsOf k).toArray)] = some (cellsOf k).toArray := by
  have h : ∃ pl : Nat → Option (Nat × Nat), pl 0 = some (0, 32) ∧ ∀ ps, Tryd.prog.built 59 ps = Instr.fill pl (cellsOf (List.replicate 32 0)).toArray ps := ⟨(#[(0, 32)][·]?), rfl, fun ps => by kernel_rfl⟩
  obtain ⟨pl, h0, h2⟩ := h
  rw [h2, fill_oneN (by omega) pl h0 (by simp [cellsOf_len, hk]) (by simp [cellsOf_len])]
theorem sec_zero : Tryd.prog.built 59 [] = some (cellsOf (List.replicate 32 0)).toArray := by kernel_rfl
theorem sec_alloc (w : World) : (zeroValue 59).run Tryd.prog w = .ok (.agg (cellsOf (List.replicate 32 0)).toArray) w := by kernel_rfl
theorem sec_fields : ∃ f : Field, (Tryd.prog.fieldsOf 59).toList = [f] ∧ f.type = 23 ∧ f.offset = 0 ∧ f.name ≠ "_" := by
  have h : ((Tryd.prog.fieldsOf 59).toList.map fun f => (f.name, f.type, f.offset)) = [("key", 23, 0)] := by kernel_rfl
  match hl : (Tryd.prog.fieldsOf 59).toList with
  | [] => rw [hl] at h; simp at h
  | [f] =>
    rw [hl] at h
    simp only [List.map_cons, List.map_nil, List.cons.injEq, and_true, Prod.mk.injEq] at h
    exact ⟨f, rfl, h.2.1, h.2.2, by rw [h.1]; decide⟩
  | f :: g :: r => rw [hl] at h; simp at h
theorem ext_all {xs : List UInt8} (hx : xs.length = 32) : (cellsOf xs).toArray.extract 0 (0 + 32) = (cellsOf xs).toArray := by
  rw [List.extract_toArray, List.extract, List.drop_zero, List.take_of_length_le (by simp [cellsOf_len, hx])]
theorem sec_equal {xs ys : List UInt8} (hx : xs.length = 32) (hy : ys.length = 32) (w : World) :
    (Op.equalIn 10000 59 (.agg (cellsOf xs).toArray) (.agg (cellsOf ys).toArray)).run Tryd.prog w = .ok (decide (xs = ys)) w := by
  obtain ⟨f, hf, ht, ho, hn⟩ := sec_fields
  rw [run_equalIn_struct w 9999 59 _ _ (by kernel_rfl) (by kernel_rfl), hf]
  simp only [Op.eqFields, ht, ho, if_pos hn, Sem.run_bind, part_key0, Result.andThen_ok, ext_all hx, ext_all hy, key_equal1 (d := 9997) hx hy]
  cases decide (xs = ys) <;> rfl
theorem sec_guard : Tryd.prog.eqGuardType Tryd.prog.depth 59 = false := by kernel_rfl
theorem exec_eql_secB {o : Oper} {a : Act} {w : World} {x y : Operand} {t' : TypeId} {xs ys : List UInt8} {b : Bool} (hb : decide (xs = ys) = b) (lx : xs.length = 32) (ly : ys.length = 32) (ho : o.op = .binOp .eql 59 x y t') (hx : a.eval x = .agg (cellsOf xs).toArray) (hy : a.eval y = .agg (cellsOf ys).toArray) :
    (execOp a.eval o).run Tryd.prog w = .ok (.value (.bool b)) w := by
  unfold execOp
  simp only [ho, hx, hy, Sem.run_bind, run_eqGuard_agg _ _ _ _ _ _ _ sec_guard, Result.andThen_ok, run_eql_struct, sec_equal lx ly, Sem.run_pure, hb]
end Go.Proofs.YtfhafednnnfmbaaDoor
end
