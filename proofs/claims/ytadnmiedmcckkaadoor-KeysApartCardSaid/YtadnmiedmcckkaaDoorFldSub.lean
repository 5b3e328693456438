/-
  field.subtracted.
-/
import Derived.Test.YtadnmiedmcckkaaDoorFldAdd
namespace Go.Proofs.YtadnmiedmcckkaaDoor
open Go.ChangeShapes Go.WideShapes Go.ChangeAt Go.RowKit Go.Deep
set_option maxRecDepth 100000

/-- What a difference hands back. -/
def RetSub (x y : Nat) (w : World) (e : Ending) (w' : World) : Prop := e = .returned (.tuple #[.agg (wcells (lbs 8 (x + 4294967296 ^ 8 - y))).toArray, .int .u64 (bS x y 8 : Int)]) ∧ Ext w w'

set_option maxHeartbeats 1000000 in
theorem subtracted_calls {x y : Nat} {w : World} (hy : y < 4294967296 ^ 8) :
    Calls Tryd.prog 69 #[.agg (wcells (lbs 8 x)).toArray, .agg (wcells (lbs 8 y)).toArray] w (RetSub x y w) := by
  have hal := fld_alloc
  have ZL : zw8.length = 8 := rfl
  generalize zw8 = zs at *
  have XA : Hid (∀ (o1 o2 o3 : Obj), (((w.alloc o1).alloc o2).alloc o3).heap[w.heap.size]? = some o1 ∧ (((w.alloc o1).alloc o2).alloc o3).heap[w.heap.size + 1]? = some o2 ∧ (((w.alloc o1).alloc o2).alloc o3).heap[w.heap.size + 1 + 1]? = some o3) := fun o1 o2 o3 => ⟨heap_alloc30 _ _ _ _, heap_alloc31 _ _ _ _, heap_alloc32 _ _ _ _⟩
  have B0 : Hid (∀ o1 o2 o3, Ext w (((w.alloc o1).alloc o2).alloc o3)) := fun o1 o2 o3 => (((Ext.refl w).alloc _).alloc _).alloc _
  have XL := lbs_len 8 x
  have YL := lbs_len 8 y
  have WX : Hid (∀ j, j < 8 → wd (lbs 8 x) j = lb x j) := fun j hj => wd_lbs hj
  have WY : Hid (∀ j, j < 8 → wd (lbs 8 y) j = lb y j) := fun j hj => wd_lbs hj
  obtain ⟨m, hm⟩ : ∃ m, m = x + 4294967296 ^ 8 - y := ⟨_, rfl⟩
  have LS : Hid (∀ i, i < 8 → lb m i = (lb x i + 4294967296 - lb y i - bS x y i) % 4294967296) := fun i hi => by rw [hm]; exact lb_sub hy hi
  unfold RetSub
  rw [← hm]
  clear hm hy
  have RQ : Hid (∀ vs : List Nat, vs.length = 8 → (∀ j, j < 8 → wd vs j = lb m j) → vs = lbs 8 m) := fun vs h1 h2 => words_lbs h1 h2
  generalize lbs 8 m = rs at *
  generalize lbs 8 x = xs at *
  generalize lbs 8 y = ys at *
  have BN : Hid (∀ i, bS x y (i + 1) = if lb x i < lb y i + bS x y i then 1 else 0) := fun i => rfl
  have BLE : Hid (∀ i, bS x y i ≤ 1) := bS_le x y
  obtain ⟨b8, hb8⟩ : ∃ b8, b8 = bS x y 8 := ⟨_, rfl⟩
  rw [← hb8]
  replace hb8 := Lib.hid hb8
  go_enter Tryd.func69, Tryd.ntmps69
  go_upto_region 1 with fail
  refine wp_gen (fun W => Wr W w.heap.size 55 xs ∧ Wr W (w.heap.size + 1) 55 ys ∧ Wr W (w.heap.size + 1 + 1) 55 zs ∧ Ext w W) ⟨(XA.out _ _ _).1, (XA.out _ _ _).2.1, (XA.out _ _ _).2.2, B0.out _ _ _⟩ ?_
  clear XA B0
  rintro W0 ⟨wa, wb, wc4, e0⟩
  replace wa := Lib.hid wa
  replace wb := Lib.hid wb
  replace wc4 := Lib.hid wc4
  replace e0 := Lib.hid e0
  go_wp2_with fail
  go_loopw [5, 8] (fun cv iv wr => ∃ (k : Nat) (vs : List Nat), k ≤ 8 ∧ iv = .int .i64 (k : Int) ∧ cv = .int .u64 (bS x y k : Int) ∧ vs.length = 8 ∧ (∀ j, j < k → wd vs j = lb m j) ∧ Below (w.heap.size + 1 + 1) W0 wr ∧ Wr wr (w.heap.size + 1 + 1) 55 vs) (fun _ iv _ => 8 - (intOf iv).toNat)
  case atStart => exact ⟨0, zs, Nat.zero_le _, rfl, rfl, ZL, fun j hj => absurd hj (by omega), Below.refl _ _, wc4.out⟩
  case round =>
    obtain ⟨k, vs, hk, rfl, rfl, vl, hv, hB, hw⟩ := hrel
    clear wc4
    by_cases hlt : k < 8
    · have ka := Lib.hid (wa.out.kept hB (by omega))
      have kb := Lib.hid (wb.out.kept hB (by omega))
      have ca : Hid (∀ s, Ext wr s → s.cell? ⟨w.heap.size, k, none⟩ = some (.int .u32 (lb x k : Int)) ∧ s.cell? ⟨w.heap.size + 1, k, none⟩ = some (.int .u32 (lb y k : Int))) := fun s e => by
        have h1 := (ka.out.kept e ka.out.lt).cell (i := k) (by rw [XL]; exact hlt)
        have h2 := (kb.out.kept e kb.out.lt).cell (i := k) (by rw [YL]; exact hlt)
        rw [WX.out k hlt] at h1
        rw [WY.out k hlt] at h2
        exact And.intro h1 h2
      have h1 := lb_lt x k
      have h2 := lb_lt y k
      have h3 := BLE.out k
      have hz := Lib.hid (LS.out k hlt)
      have hc := Lib.hid (BN.out k)
      generalize lb x k = a at *
      generalize lb y k = b at *
      generalize bS x y k = c at *
      obtain ⟨s, hs⟩ : ∃ s, s = (if a < b then a + 18446744073709551616 - b else a - b) := ⟨_, rfl⟩
      obtain ⟨T, hT⟩ : ∃ T, T = (if a < b + c then a + 18446744073709551616 - b - c else a - b - c) := ⟨_, rfl⟩
      obtain ⟨z, hzz⟩ : ∃ z, z = T % 4294967296 := ⟨_, rfl⟩
      obtain ⟨d, hd⟩ : ∃ d, d = (if a < b + c then 1 else 0) := ⟨_, rfl⟩
      have hz' : Hid (lb m k = z) := by
        unfold Hid
        rw [hz.out, hzz, hT]
        split <;> omega
      rw [← hd] at hc
      have f1 : IntKind.u64.wrap (a : Int) = (a : Int) := by rw [IntKind.wrap_u64]; omega
      have f2 : IntKind.u64.wrap (b : Int) = (b : Int) := by rw [IntKind.wrap_u64]; omega
      have f3 : IntKind.u64.wrap ((a : Int) - (b : Int)) = (s : Int) := by rw [IntKind.wrap_u64, hs]; split <;> omega
      have f4 : IntKind.u64.wrap ((s : Int) - (c : Int)) = (T : Int) := by rw [IntKind.wrap_u64, hs, hT]; split <;> split <;> omega
      have f3m : ((a : Int) - (b : Int)) % 18446744073709551616 = (s : Int) := by rw [hs]; split <;> omega
      have f4m : ((s : Int) - (c : Int)) % 18446744073709551616 = (T : Int) := by rw [hs, hT]; split <;> split <;> omega
      have f5 : IntKind.u32.wrap (T : Int) = (z : Int) := by rw [IntKind.wrap_u32]; omega
      have f5m : (T : Int) % 4294967296 = (z : Int) := by omega
      have Tlt : T < 18446744073709551616 := by rw [hT]; split <;> omega
      have f6 : (T : Int) / 9223372036854775808 = (d : Int) := by rw [hT, hd]; split <;> omega
      have f6' : (T : Int) / 2 ^ 63 = (d : Int) := f6
      have q1 : Op.shift .shr .u64 (T : Int) .u64 63 = pure (.int .u64 (d : Int)) := by
        have := shift_shr .u64 .u64 (T : Int) 63 (by omega) (by decide)
        rw [this]
        congr 2
      have ik : (k : Int) < 8 := by omega
      have ik0 : (0 : Int) ≤ (k : Int) := by omega
      have cv := hw.cell (i := k) (by omega)
      have fv := hw.frozen k
      replace hs := Lib.hid hs
      replace hT := Lib.hid hT
      replace hzz := Lib.hid hzz
      replace hd := Lib.hid hd
      replace hv := Lib.hid hv
      replace hB := Lib.hid hB
      replace hw := Lib.hid hw
      clear h1 h2 h3
      go_wp2_with fail
      refine wp_region_seq (R := Ext) Ext.refl (fun _ _ _ => Ext.trans) [0, 1, 2, 3, 4, 5, 6, 7, 8, 9, 10, 11] [] [(0, 12, 128), (1, 13, 4104), (2, 14, 8192), (4, 15, 16384), (0, 16, 128), (16, 17, 65552), (32, 18, 131072), (64, 19, 262144), (136, 20, 557056), (0, 21, 64), (768, 22, 3145728), (2047, 8, 4194304)] (by kernel_rfl) (by kernel_rfl) (by kernel_rfl) rfl (by kernel_rfl) (by kernel_rfl) (fun _ _ d _ _ h => by cases d <;> exact h) ?_
      repeat (first | (refine seq_read _ (fun w' e => ca.out w' ((Ext.refl _).drew.trans e)) _ (v := ?_) rfl rfl (by rfl) ?_ ?_; rotate_left; (· intro w' hF; go_simp; (try with_reducible rfl)); simp only [Act.put, List.setIfInBounds_toArray, List.set_cons_zero, List.set_cons_succ]) | (refine seq_skip _ rfl rfl (by rfl) ?_; simp only [Act.put, List.setIfInBounds_toArray, List.set_cons_zero, List.set_cons_succ]))
      refine seq_done ?_
      have hw2 := Lib.hid (hw.out.kept (Ext.refl wr).drew hw.out.lt)
      have hB2 : Hid (Below (w.heap.size + 1 + 1) W0 wr.drew) := Below.trans hB.out ((Ext.refl wr).drew.mono (Nat.le_of_lt hw.out.lt))
      have cv2 := hw2.out.cell (i := k) (by omega)
      have fv2 := hw2.out.frozen k
      clear cv fv hw hB ca ka kb
      generalize wr.drew = w2 at *
      go_wp2_with fail
      refine ⟨⟨k + 1, vs.set k z, by omega, by go_num, by rw [hc.out], by rw [List.length_set]; exact vl, fun j hj => ?_, Below.setCell hB2.out (Nat.le_refl _) _, hw2.out.set⟩, by simp [intOf]; omega⟩
      rw [wd_putN (by omega)]
      by_cases e : j = k
      · rw [if_pos e, e]; exact hz'.out.symm
      · rw [if_neg e]; exact hv.out j (by omega)
    · obtain rfl : k = 8 := by omega
      have he := RQ.out vs vl hv
      subst he
      rw [← hb8.out]
      have RS := wcells_size vl
      have R1 := wcells_one vs
      have EE : Hid (Ext w wr) := Below.trans e0.out (hB.mono (by omega))
      replace hw := Lib.hid hw
      clear hv hB e0 wa wb
      go_wp2_with (first
        | (refine wpList_load_row rfl 55 _ rfl (w.heap.size + 1 + 1) rfl 55 (wcells vs).toArray (0, 0) _ hw.out rfl rfl (by rw [RS]; rfl) ?_; simp only [Act.put, List.setIfInBounds_toArray, List.set_cons_zero, List.set_cons_succ])
        | (refine wpList_store_row rfl 55 _ _ rfl (w.heap.size + 1 + 1) (wcells vs).toArray rfl rfl 55 _ hw.out (by rw [RS]; rfl) (by rw [RS]) R1 ?_; simp only [Act.put, List.setIfInBounds_toArray, List.set_cons_zero, List.set_cons_succ]))
      (try simp only [Exit.inBlock, Exit.then])
      refine bodyPost_ret (v := .tuple #[.agg (wcells vs).toArray, .int .u64 (b8 : Int)]) ?_ rfl ?_
      · exact results_row_tmp rfl _ _ (w.heap.size + 1 + 1) 55 (wcells vs).toArray (0, 0) _ _ rfl rfl (setRow_heap _ _ _ _ _ _ hw.out) rfl rfl (by rw [RS]; rfl)
      · exact ⟨rfl, below_setRow EE.out (by omega) _⟩
end Go.Proofs.YtadnmiedmcckkaaDoor
