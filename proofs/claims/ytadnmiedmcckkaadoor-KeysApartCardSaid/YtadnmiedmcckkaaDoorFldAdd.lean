import Derived.Test.YtadnmiedmcckkaaDoorFldMath
import Derived.Test.YtadnmiedmcckkaaDoorMix
import Derived.Test.YtadnmiedmcckkaaDoorSeq
import Derived.Test.YtadnmiedmcckkaaDoorPkO
/-
  field.added.
-/
namespace Go.Proofs.YtadnmiedmcckkaaDoor
open Go.ChangeShapes Go.WideShapes Go.ChangeAt Go.RowKit Go.Deep
set_option maxRecDepth 100000

def zw8 : List Nat := List.replicate 8 0
theorem fld_alloc (w : World) : (zeroValue 55).run Tryd.prog w = .ok (.agg (wcells zw8).toArray) w := by kernel_rfl
theorem Wr.new (w : World) (t : TypeId) (vs : List Nat) : Wr (w.alloc (.cells (wcells vs).toArray t)) w.heap.size t vs := heap_alloc_new _ _
theorem words_lbs {vs : List Nat} {n x : Nat} (hl : vs.length = n) (h : ∀ j, j < n → wd vs j = lb x j) : vs = lbs n x := by
  refine List.ext_getElem (by rw [hl, lbs_len]) fun i h1 h2 => ?_
  have := h i (by omega)
  simp [wd, List.getD, h1] at this
  simp [lbs, this]
theorem wd_putN {vs : List Nat} {j k z : Nat} (hk : k < vs.length) : wd (vs.set k z) j = if j = k then z else wd vs j := by
  unfold wd
  by_cases h : j = k
  · subst h
    simp [List.getD, hk]
  · simp [List.getD, h, List.getElem?_set_ne (Ne.symm h)]

set_option maxHeartbeats 1000000 in
theorem added_calls {x y : Nat} {w : World} :
    Calls Tryd.prog 70 #[.agg (wcells (lbs 8 x)).toArray, .agg (wcells (lbs 8 y)).toArray] w fun e w' => e = .returned (.agg (wcells (lbs 8 (x + y))).toArray) ∧ Ext w w' := by
  have hal := fld_alloc
  have ZL : zw8.length = 8 := rfl
  generalize zw8 = zs at *
  have XA : Hid (∀ (o1 o2 o3 o4 : Obj), ((((w.alloc o1).alloc o2).alloc o3).alloc o4).heap[w.heap.size]? = some o1 ∧ ((((w.alloc o1).alloc o2).alloc o3).alloc o4).heap[w.heap.size + 1]? = some o2 ∧ ((((w.alloc o1).alloc o2).alloc o3).alloc o4).heap[w.heap.size + 1 + 1]? = some o3 ∧ ((((w.alloc o1).alloc o2).alloc o3).alloc o4).heap[w.heap.size + 1 + 1 + 1]? = some o4) := fun o1 o2 o3 o4 => by
    have e : Ext (((w.alloc o1).alloc o2).alloc o3) ((((w.alloc o1).alloc o2).alloc o3).alloc o4) := (Ext.refl _).alloc _
    refine ⟨(e.block _ ?_).trans (heap_alloc30 _ _ _ _), (e.block _ ?_).trans (heap_alloc31 _ _ _ _), (e.block _ ?_).trans (heap_alloc32 _ _ _ _), ?_⟩
    · rw [size_alloc, size_alloc, size_alloc]; omega
    · rw [size_alloc, size_alloc, size_alloc]; omega
    · rw [size_alloc, size_alloc, size_alloc]; omega
    · have := heap_alloc_new (((w.alloc o1).alloc o2).alloc o3) o4
      rwa [size_alloc, size_alloc, size_alloc] at this
  have B0 : Hid (∀ o1 o2 o3 o4, Ext w ((((w.alloc o1).alloc o2).alloc o3).alloc o4)) := fun o1 o2 o3 o4 => ((((Ext.refl w).alloc _).alloc _).alloc _).alloc _
  have XL := lbs_len 8 x
  have YL := lbs_len 8 y
  have WX : Hid (∀ j, j < 8 → wd (lbs 8 x) j = lb x j) := fun j hj => wd_lbs hj
  have WY : Hid (∀ j, j < 8 → wd (lbs 8 y) j = lb y j) := fun j hj => wd_lbs hj
  have RQ : Hid (∀ vs : List Nat, vs.length = 8 → (∀ j, j < 8 → wd vs j = lb (x + y) j) → vs = lbs 8 (x + y)) := fun vs h1 h2 => words_lbs h1 h2
  generalize lbs 8 (x + y) = rs at *
  generalize lbs 8 x = xs at *
  generalize lbs 8 y = ys at *
  go_enter Tryd.func70, Tryd.ntmps70
  go_upto_region 2 with fail
  refine wp_gen (fun W => Wr W w.heap.size 55 xs ∧ Wr W (w.heap.size + 1) 55 ys ∧ Wr W (w.heap.size + 1 + 1) 55 zs ∧ Wr W (w.heap.size + 1 + 1 + 1) 55 zs ∧ Ext w W) ⟨(XA.out _ _ _ _).1, (XA.out _ _ _ _).2.1, (XA.out _ _ _ _).2.2.1, (XA.out _ _ _ _).2.2.2, B0.out _ _ _ _⟩ ?_
  clear XA B0
  rintro W0 ⟨wa, wb, wc4, wc5, e0⟩
  replace wa := Lib.hid wa
  replace wb := Lib.hid wb
  replace wc4 := Lib.hid wc4
  replace wc5 := Lib.hid wc5
  replace e0 := Lib.hid e0
  go_wp2_with fail
  go_loopw [6, 9] (fun cv iv wr => ∃ (k : Nat) (vs : List Nat), k ≤ 8 ∧ iv = .int .i64 (k : Int) ∧ cv = .int .u64 (cA x y k : Int) ∧ vs.length = 8 ∧ (∀ j, j < k → wd vs j = lb (x + y) j) ∧ Below (w.heap.size + 1 + 1 + 1) W0 wr ∧ Wr wr (w.heap.size + 1 + 1 + 1) 55 vs) (fun _ iv _ => 8 - (intOf iv).toNat)
  case atStart => exact ⟨0, zs, Nat.zero_le _, rfl, rfl, ZL, fun j hj => absurd hj (by omega), Below.refl _ _, wc5.out⟩
  case round =>
    obtain ⟨k, vs, hk, rfl, rfl, vl, hv, hB, hw⟩ := hrel
    clear wc5
    by_cases hlt : k < 8
    · have ka := Lib.hid (wa.out.kept hB (by omega))
      have kb := Lib.hid (wb.out.kept hB (by omega))
      have ca : Hid (∀ s, Ext wr s → s.cell? ⟨w.heap.size, k, none⟩ = some (.int .u32 (lb x k : Int)) ∧ s.cell? ⟨w.heap.size + 1, k, none⟩ = some (.int .u32 (lb y k : Int))) := fun s e => by
        have h1 := (ka.out.kept e ka.out.lt).cell (i := k) (by rw [XL]; exact hlt)
        have h2 := (kb.out.kept e kb.out.lt).cell (i := k) (by rw [YL]; exact hlt)
        rw [WX.out k hlt] at h1
        rw [WY.out k hlt] at h2
        exact And.intro h1 h2
      have h1 := lb_lt x k
      have h2 := lb_lt y k
      have h3 := cA_le x y k
      have hz : Hid (lb (x + y) k = (lb x k + lb y k + cA x y k) % 4294967296) := lb_add x y k
      have hc : Hid (cA x y (k + 1) = (lb x k + lb y k + cA x y k) / 4294967296) := rfl
      generalize lb x k = a at *
      generalize lb y k = b at *
      generalize cA x y k = c at *
      obtain ⟨s, hs⟩ : ∃ s, s = a + b := ⟨_, rfl⟩
      obtain ⟨T, hT⟩ : ∃ T, T = a + b + c := ⟨_, rfl⟩
      obtain ⟨z, hzz⟩ : ∃ z, z = T % 4294967296 := ⟨_, rfl⟩
      obtain ⟨d, hd⟩ : ∃ d, d = T / 4294967296 := ⟨_, rfl⟩
      rw [← hT, ← hzz] at hz
      rw [← hT, ← hd] at hc
      have f1 : IntKind.u64.wrap (a : Int) = (a : Int) := by rw [IntKind.wrap_u64]; omega
      have f2 : IntKind.u64.wrap (b : Int) = (b : Int) := by rw [IntKind.wrap_u64]; omega
      have f3 : (a : Int) + (b : Int) = (s : Int) := by omega
      have f3w : IntKind.u64.wrap (s : Int) = (s : Int) := by rw [IntKind.wrap_u64]; omega
      have f4 : (s : Int) + (c : Int) = (T : Int) := by omega
      have f4w : IntKind.u64.wrap (T : Int) = (T : Int) := by rw [IntKind.wrap_u64]; omega
      have f5 : IntKind.u32.wrap (T : Int) = (z : Int) := by rw [IntKind.wrap_u32]; omega
      have f5m : (T : Int) % 4294967296 = (z : Int) := by omega
      have f6 : (T : Int) / 4294967296 = (d : Int) := by omega
      have f6' : (T : Int) / 2 ^ 32 = (d : Int) := f6
      have Tlt : T < 18446744073709551616 := by omega
      have q1 : Op.shift .shr .u64 (T : Int) .u64 32 = pure (.int .u64 (d : Int)) := by
        have := shift_shr .u64 .u64 (T : Int) 32 (by omega) (by decide)
        rw [this]
        congr 2
      have ik : (k : Int) < 8 := by omega
      have ik0 : (0 : Int) ≤ (k : Int) := by omega
      have cv := hw.cell (i := k) (by omega)
      have fv := hw.frozen k
      replace hs := Lib.hid hs
      replace hT := Lib.hid hT
      replace hzz := Lib.hid hzz
      replace hd := Lib.hid hd
      replace hv := Lib.hid hv
      replace hB := Lib.hid hB
      replace hw := Lib.hid hw
      clear h1 h2 h3
      go_wp2_with fail
      refine wp_region_seq (R := Ext) Ext.refl (fun _ _ _ => Ext.trans) [0, 1, 2, 3, 4, 5, 6, 7, 8, 9, 10, 11] [] [(0, 13, 256), (1, 14, 8200), (2, 15, 16384), (4, 16, 32768), (0, 17, 256), (16, 18, 131088), (32, 19, 262144), (64, 20, 524288), (136, 21, 1114112), (0, 22, 128), (768, 23, 6291456), (2047, 9, 8388608)] (by kernel_rfl) (by kernel_rfl) (by kernel_rfl) rfl (by kernel_rfl) (by kernel_rfl) (fun _ _ d _ _ h => by cases d <;> exact h) ?_
      repeat (first | (refine seq_read _ (fun w' e => ca.out w' ((Ext.refl _).drew.trans e)) _ (v := ?_) rfl rfl (by rfl) ?_ ?_; rotate_left; (· intro w' hF; go_simp; (try with_reducible rfl)); simp only [Act.put, List.setIfInBounds_toArray, List.set_cons_zero, List.set_cons_succ]) | (refine seq_skip _ rfl rfl (by rfl) ?_; simp only [Act.put, List.setIfInBounds_toArray, List.set_cons_zero, List.set_cons_succ]))
      refine seq_done ?_
      have hw2 := Lib.hid (hw.out.kept (Ext.refl wr).drew hw.out.lt)
      have hB2 : Hid (Below (w.heap.size + 1 + 1 + 1) W0 wr.drew) := Below.trans hB.out ((Ext.refl wr).drew.mono (Nat.le_of_lt hw.out.lt))
      have cv2 := hw2.out.cell (i := k) (by omega)
      have fv2 := hw2.out.frozen k
      clear cv fv hw hB ca ka kb
      generalize wr.drew = w2 at *
      go_wp2_with fail
      refine ⟨⟨k + 1, vs.set k z, by omega, by go_num, by rw [hc.out], by rw [List.length_set]; exact vl, fun j hj => ?_, Below.setCell hB2.out (Nat.le_refl _) _, hw2.out.set⟩, by simp [intOf]; omega⟩
      rw [wd_putN (by omega)]
      by_cases e : j = k
      · rw [if_pos e, e]; exact hz.out.symm
      · rw [if_neg e]; exact hv.out j (by omega)
    · obtain rfl : k = 8 := by omega
      have he := RQ.out vs vl hv
      subst he
      have RS := wcells_size vl
      have R1 := wcells_one vs
      have r4 := Lib.hid (wc4.out.kept hB (by omega))
      have ZS := wcells_size ZL
      have EE : Hid (Ext w wr) := Below.trans e0.out (hB.mono (by omega))
      replace hw := Lib.hid hw
      clear hv hB wc4 e0 wa wb
      go_wp2_with (first
        | (refine wpList_load_row rfl 55 _ rfl (w.heap.size + 1 + 1 + 1) rfl 55 (wcells vs).toArray (0, 0) _ hw.out rfl rfl (by rw [RS]; rfl) ?_; simp only [Act.put, List.setIfInBounds_toArray, List.set_cons_zero, List.set_cons_succ])
        | (refine wpList_store_row rfl 55 _ _ rfl (w.heap.size + 1 + 1) (wcells vs).toArray rfl rfl 55 _ r4.out (by rw [RS]; rfl) (by rw [RS, ZS]) R1 ?_; simp only [Act.put, List.setIfInBounds_toArray, List.set_cons_zero, List.set_cons_succ]))
      (try simp only [Exit.inBlock, Exit.then])
      refine bodyPost_ret (results_cell_row rfl _ _ (w.heap.size + 1 + 1) 55 (wcells vs).toArray (0, 0) _ rfl (setRow_heap _ _ _ _ _ _ r4.out) rfl rfl (by rw [RS]; rfl)) rfl ?_
      exact ⟨rfl, below_setRow EE.out (by omega) _⟩
end Go.Proofs.YtadnmiedmcckkaaDoor
