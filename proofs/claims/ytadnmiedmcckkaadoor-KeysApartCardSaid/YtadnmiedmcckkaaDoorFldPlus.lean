/-
  field.plus.
-/
import Derived.Test.YtadnmiedmcckkaaDoorFldAdd
namespace Go.Proofs.YtadnmiedmcckkaaDoor
open Go.ChangeShapes Go.WideShapes Go.ChangeAt Go.RowKit Go.Deep
set_option maxRecDepth 100000

/-- What is carried into the i-th limb where a small number is added. -/
def cP (x n : Nat) : Nat → Nat
  | 0 => n
  | i + 1 => (lb x i + cP x n i) / 4294967296
theorem cP_lt {x n : Nat} (hn : n < 4294967296) : ∀ i, cP x n i < 4294967296
  | 0 => hn
  | i + 1 => by have := cP_lt (x := x) hn i; have h1 := lb_lt x i; rw [cP]; omega
theorem plus_div (x n : Nat) : ∀ i, (x + n) / 4294967296 ^ i = x / 4294967296 ^ i + cP x n i
  | 0 => by simp [cP]
  | i + 1 => by
    rw [div_step, plus_div x n i, div_step x, cP]
    unfold lb
    generalize x / 4294967296 ^ i = X
    generalize cP x n i = c
    omega
theorem lb_plus (x n i : Nat) : lb (x + n) i = (lb x i + cP x n i) % 4294967296 := by
  unfold lb
  rw [plus_div]
  generalize x / 4294967296 ^ i = X
  generalize cP x n i = c
  omega
theorem cP_eight {x n : Nat} (hx : x < 4294967296 ^ 8) : cP x n 8 = (x + n) / 4294967296 ^ 8 := by
  rw [plus_div, Nat.div_eq_of_lt hx, Nat.zero_add]
/-- What a small sum hands back. -/
def RetPlus (x n : Nat) (w : World) (e : Ending) (w' : World) : Prop := e = .returned (.tuple #[.agg (wcells (lbs 8 (x + n))).toArray, .int .u64 (cP x n 8 : Int)]) ∧ Ext w w'

set_option maxHeartbeats 1000000 in
theorem plus_calls {x n : Nat} {w : World} (hn : n < 4294967296) :
    Calls Tryd.prog 71 #[.agg (wcells (lbs 8 x)).toArray, .int .u64 (n : Int)] w (RetPlus x n w) := by
  have hal := fld_alloc
  have ZL : zw8.length = 8 := rfl
  generalize zw8 = zs at *
  have XA : Hid (∀ (o1 o2 : Obj), ((w.alloc o1).alloc o2).heap[w.heap.size]? = some o1 ∧ ((w.alloc o1).alloc o2).heap[w.heap.size + 1]? = some o2) := fun o1 o2 => ⟨heap_alloc1 _ _ _, heap_alloc2 _ _ _⟩
  have B0 : Hid (∀ o1 o2, Ext w ((w.alloc o1).alloc o2)) := fun o1 o2 => ((Ext.refl w).alloc _).alloc _
  have XL := lbs_len 8 x
  have WX : Hid (∀ j, j < 8 → wd (lbs 8 x) j = lb x j) := fun j hj => wd_lbs hj
  obtain ⟨m, hm⟩ : ∃ m, m = x + n := ⟨_, rfl⟩
  have LS : Hid (∀ i, lb m i = (lb x i + cP x n i) % 4294967296) := fun i => by rw [hm]; exact lb_plus x n i
  unfold RetPlus
  rw [← hm]
  clear hm
  have RQ : Hid (∀ vs : List Nat, vs.length = 8 → (∀ j, j < 8 → wd vs j = lb m j) → vs = lbs 8 m) := fun vs h1 h2 => words_lbs h1 h2
  generalize lbs 8 m = rs at *
  generalize lbs 8 x = xs at *
  have BN : Hid (∀ i, cP x n (i + 1) = (lb x i + cP x n i) / 4294967296) := fun i => rfl
  have BLE : Hid (∀ i, cP x n i < 4294967296) := cP_lt hn
  obtain ⟨b8, hb8⟩ : ∃ b8, b8 = cP x n 8 := ⟨_, rfl⟩
  rw [← hb8]
  replace hb8 := Lib.hid hb8
  go_enter Tryd.func71, Tryd.ntmps71
  go_upto_region 2 with fail
  refine wp_gen (fun W => Wr W w.heap.size 55 xs ∧ Wr W (w.heap.size + 1) 55 zs ∧ Ext w W) ⟨(XA.out _ _).1, (XA.out _ _).2, B0.out _ _⟩ ?_
  clear XA B0
  rintro W0 ⟨wa, wc4, e0⟩
  replace wa := Lib.hid wa
  replace wc4 := Lib.hid wc4
  replace e0 := Lib.hid e0
  go_wp2_with fail
  go_loopw [5, 9] (fun cv iv wr => ∃ (k : Nat) (vs : List Nat), k ≤ 8 ∧ iv = .int .i64 (k : Int) ∧ cv = .int .u64 (cP x n k : Int) ∧ vs.length = 8 ∧ (∀ j, j < k → wd vs j = lb m j) ∧ Below (w.heap.size + 1) W0 wr ∧ Wr wr (w.heap.size + 1) 55 vs) (fun _ iv _ => 8 - (intOf iv).toNat)
  case atStart => exact ⟨0, zs, Nat.zero_le _, rfl, rfl, ZL, fun j hj => absurd hj (by omega), Below.refl _ _, wc4.out⟩
  case round =>
    obtain ⟨k, vs, hk, rfl, rfl, vl, hv, hB, hw⟩ := hrel
    clear wc4
    by_cases hlt : k < 8
    · have ka := wa.out.kept hB (by omega)
      have ca := ka.cell (i := k) (by rw [XL]; exact hlt)
      rw [WX.out k hlt] at ca
      have h1 := lb_lt x k
      have h3 := BLE.out k
      have hz := Lib.hid (LS.out k)
      have hc := Lib.hid (BN.out k)
      generalize lb x k = a at *
      generalize cP x n k = c at *
      obtain ⟨T, hT⟩ : ∃ T, T = a + c := ⟨_, rfl⟩
      obtain ⟨z, hzz⟩ : ∃ z, z = T % 4294967296 := ⟨_, rfl⟩
      obtain ⟨d, hd⟩ : ∃ d, d = T / 4294967296 := ⟨_, rfl⟩
      rw [← hT, ← hzz] at hz
      rw [← hT, ← hd] at hc
      have f1 : IntKind.u64.wrap (a : Int) = (a : Int) := by rw [IntKind.wrap_u64]; omega
      have f4 : (a : Int) + (c : Int) = (T : Int) := by omega
      have f4w : IntKind.u64.wrap (T : Int) = (T : Int) := by rw [IntKind.wrap_u64]; omega
      have f5 : IntKind.u32.wrap (T : Int) = (z : Int) := by rw [IntKind.wrap_u32]; omega
      have f5m : (T : Int) % 4294967296 = (z : Int) := by omega
      have f6 : (T : Int) / 4294967296 = (d : Int) := by omega
      have f6' : (T : Int) / 2 ^ 32 = (d : Int) := f6
      have Tlt : T < 18446744073709551616 := by omega
      have q1 : Op.shift .shr .u64 (T : Int) .u64 32 = pure (.int .u64 (d : Int)) := by
        have := shift_shr .u64 .u64 (T : Int) 32 (by omega) (by decide)
        rw [this]
        congr 2
      have ik : (k : Int) < 8 := by omega
      have ik0 : (0 : Int) ≤ (k : Int) := by omega
      have cv := hw.cell (i := k) (by omega)
      have fv := hw.frozen k
      replace hT := Lib.hid hT
      replace hzz := Lib.hid hzz
      replace hd := Lib.hid hd
      replace hv := Lib.hid hv
      replace hB := Lib.hid hB
      replace hw := Lib.hid hw
      clear h1 h3 ka
      go_wp2_with fail
      refine ⟨⟨k + 1, vs.set k z, by omega, by go_num, by rw [hc.out], by rw [List.length_set]; exact vl, fun j hj => ?_, Below.setCell hB.out (Nat.le_refl _) _, hw.out.set⟩, by simp [intOf]; omega⟩
      rw [wd_putN (by omega)]
      by_cases e : j = k
      · rw [if_pos e, e]; exact hz.out.symm
      · rw [if_neg e]; exact hv.out j (by omega)
    · obtain rfl : k = 8 := by omega
      have he := RQ.out vs vl hv
      subst he
      rw [← hb8.out]
      have RS := wcells_size vl
      have R1 := wcells_one vs
      have EE : Hid (Ext w wr) := Below.trans e0.out (hB.mono (by omega))
      replace hw := Lib.hid hw
      clear hv hB e0 wa
      go_wp2_with (first
        | (refine wpList_load_row rfl 55 _ rfl (w.heap.size + 1) rfl 55 (wcells vs).toArray (0, 0) _ hw.out rfl rfl (by rw [RS]; rfl) ?_; simp only [Act.put, List.setIfInBounds_toArray, List.set_cons_zero, List.set_cons_succ])
        | (refine wpList_store_row rfl 55 _ _ rfl (w.heap.size + 1) (wcells vs).toArray rfl rfl 55 _ hw.out (by rw [RS]; rfl) (by rw [RS]) R1 ?_; simp only [Act.put, List.setIfInBounds_toArray, List.set_cons_zero, List.set_cons_succ]))
      (try simp only [Exit.inBlock, Exit.then])
      refine bodyPost_ret (v := .tuple #[.agg (wcells vs).toArray, .int .u64 (b8 : Int)]) ?_ rfl ?_
      · exact results_row_tmp rfl _ _ (w.heap.size + 1) 55 (wcells vs).toArray (0, 0) _ _ rfl rfl (setRow_heap _ _ _ _ _ _ hw.out) rfl rfl (by rw [RS]; rfl)
      · exact ⟨rfl, below_setRow EE.out (by omega) _⟩
end Go.Proofs.YtadnmiedmcckkaaDoor
