/-
  The law's awake (layer 6).
-/
import Derived.Test.YteognebhlehjlaaDoorFldInv
import Derived.Test.YteognebhlehjlaaDoorMid
namespace Go.Proofs.YteognebhlehjlaaDoor
open Go.ChangeShapes Go.WideShapes Go.ChangeAt Go.RowKit Go.Deep
set_option maxRecDepth 100000

def keyN (n : Nat) : List UInt8 := UInt8.ofNat n :: List.replicate 31 0
theorem keyN_len (n : Nat) : (keyN n).length = 32 := by simp [keyN]
theorem built1 : Tryd.prog.built 23 [(0, .int .u8 1)] = some (cellsOf (keyN 1)).toArray := by kernel_rfl
theorem built2 : Tryd.prog.built 23 [(0, .int .u8 2)] = some (cellsOf (keyN 2)).toArray := by kernel_rfl
theorem built3 : Tryd.prog.built 23 [(0, .int .u8 3)] = some (cellsOf (keyN 3)).toArray := by kernel_rfl
theorem built4 : Tryd.prog.built 23 [(0, .int .u8 4)] = some (cellsOf (keyN 4)).toArray := by kernel_rfl
theorem built7 : Tryd.prog.built 23 [(0, .int .u8 7)] = some (cellsOf (keyN 7)).toArray := by kernel_rfl
theorem ofV1 : ofV (keyN 1) = 1 := by decide +kernel
theorem ofV2 : ofV (keyN 2) = 2 := by decide +kernel
theorem ofV3 : ofV (keyN 3) = 3 := by decide +kernel
theorem ofV7 : ofV (keyN 7) = 7 := by decide +kernel
theorem kL1 : kL 1 = keyN 1 := by decide +kernel
theorem kL4 : kL 4 = keyN 4 := by decide +kernel
theorem half_two : invF 2 * 2 % P25 = 1 := by decide +kernel
theorem four : (7 + (P25 - 3)) % P25 = 4 := by decide +kernel
theorem invF_lt (x : Nat) : invF x < P25 := iA_lt x 255
theorem small1_calls {w : World} {tg : TypeId × Nat × Nat} (hG : Gp w tg) : Calls Tryd.prog 23 #[.int .u8 1] w fun e w' => e = .returned (eV 1) ∧ Ext w w' := by
  have := small_calls (n := 1) (keyN_len 1) built1 hG
  rwa [ofV1] at this
theorem small2_calls {w : World} {tg : TypeId × Nat × Nat} (hG : Gp w tg) : Calls Tryd.prog 23 #[.int .u8 2] w fun e w' => e = .returned (eV 2) ∧ Ext w w' := by
  have := small_calls (n := 2) (keyN_len 2) built2 hG
  rwa [ofV2] at this
theorem small3_calls {w : World} {tg : TypeId × Nat × Nat} (hG : Gp w tg) : Calls Tryd.prog 23 #[.int .u8 3] w fun e w' => e = .returned (eV 3) ∧ Ext w w' := by
  have := small_calls (n := 3) (keyN_len 3) built3 hG
  rwa [ofV3] at this
theorem small7_calls {w : World} {tg : TypeId × Nat × Nat} (hG : Gp w tg) : Calls Tryd.prog 23 #[.int .u8 7] w fun e w' => e = .returned (eV 7) ∧ Ext w w' := by
  have := small_calls (n := 7) (keyN_len 7) built7 hG
  rwa [ofV7] at this

set_option maxHeartbeats 1000000 in
theorem awake6_calls {w : World} {tg : TypeId × Nat × Nat} (hG : Gp w tg) : Calls Tryd.prog 9 #[] w fun e w' => e = .returned (.bool true) ∧ Ext w w' := by
  have P2 : 2 < P25 := by decide +kernel
  have P7 : 7 < P25 := by decide +kernel
  have P3 : 3 < P25 := by decide +kernel
  have S2 : Hid (∀ W, Ext w W → Calls Tryd.prog 23 #[.int .u8 2] W fun e w' => e = .returned (eV 2) ∧ Ext W w') := fun W e => small2_calls (hG.ext e)
  have S3 : Hid (∀ W, Ext w W → Calls Tryd.prog 23 #[.int .u8 3] W fun e w' => e = .returned (eV 3) ∧ Ext W w') := fun W e => small3_calls (hG.ext e)
  have S7 : Hid (∀ W, Ext w W → Calls Tryd.prog 23 #[.int .u8 7] W fun e w' => e = .returned (eV 7) ∧ Ext W w') := fun W e => small7_calls (hG.ext e)
  have IV : Hid (∀ W, Ext w W → Calls Tryd.prog 20 #[eV 2] W fun e w' => e = .returned (eV (invF 2)) ∧ Ext W w') := fun W e => inv_calls P2 (hG.ext e)
  have MU : Hid (∀ W, Ext w W → Calls Tryd.prog 18 #[eV (invF 2), eV 2] W fun e w' => e = .returned (eV 1) ∧ Ext W w') := fun W e => by
    have := emul_calls (invF_lt 2) P2 (hG.ext e)
    rwa [half_two] at this
  have SB : Hid (∀ W, Ext w W → Calls Tryd.prog 16 #[eV 7, eV 3] W fun e w' => e = .returned (eV 4) ∧ Ext W w') := fun W e => by
    have := esub_calls P7 P3 (hG.ext e)
    rwa [four] at this
  have K1 : Hid (∀ W, Calls Tryd.prog 12 #[eV 1] W fun e w' => e = .returned (.agg (cellsOf (keyN 1)).toArray) ∧ Ext W w') := fun W => by
    have := ekey_calls (x := 1) (w := W)
    rwa [kL1] at this
  have K4 : Hid (∀ W, Calls Tryd.prog 12 #[eV 4] W fun e w' => e = .returned (.agg (cellsOf (keyN 4)).toArray) ∧ Ext W w') := fun W => by
    have := ekey_calls (x := 4) (w := W)
    rwa [kL4] at this
  clear hG P2 P7 P3
  have b1 := Lib.hid built1
  have b4 := Lib.hid built4
  have L1 := keyN_len 1
  have L4 := keyN_len 4
  have EL := lbs_len 8 1
  unfold eV at *
  generalize keyN 1 = k1 at *
  generalize keyN 4 = k4 at *
  generalize lbs 8 1 = e1' at *
  generalize lbs 8 2 = e2' at *
  generalize lbs 8 3 = e3' at *
  generalize lbs 8 4 = e4' at *
  generalize lbs 8 7 = e7' at *
  generalize lbs 8 (invF 2) = ei' at *
  have ES := wcells_size EL
  have E1 := wcells_one e1'
  have hal2 := elem_alloc
  have ZL : zw8.length = 8 := rfl
  generalize zw8 = zs at *
  have ZS := wcells_size ZL
  go_enter Tryd.func9, Tryd.ntmps9
  go_wp2_with fail
  refine (S2.out w (Ext.refl w)).mono ?_
  rintro e w1 ⟨rfl, x1⟩
  go_wp2_with fail
  refine (IV.out _ x1).mono ?_
  rintro e w2 ⟨rfl, x2⟩
  have y2 := Lib.hid (x1.trans x2)
  clear x1 x2
  go_wp2_with fail
  refine (S2.out _ y2.out).mono ?_
  rintro e w3 ⟨rfl, x3⟩
  have y3 := Lib.hid (y2.out.trans x3)
  clear x3 y2
  go_wp2_with fail
  refine (MU.out _ y3.out).mono ?_
  rintro e v ⟨rfl, x4⟩
  have y4 : Hid (Ext w v) := y3.out.trans x4
  clear x4 y3
  have a1 : Hid ((v.alloc (Obj.cells (wcells zs).toArray 28)).heap[v.heap.size]? = some (.cells (wcells zs).toArray 28 (0, 0))) := heap_alloc_new _ _
  go_upto_region 2 with (refine wpList_store_row rfl 28 _ _ rfl v.heap.size (wcells e1').toArray rfl rfl 28 _ a1.out (by rw [ES]; rfl) (by rw [ES, ZS]) E1 ?_; simp only [Act.put, List.setIfInBounds_toArray, List.set_cons_zero, List.set_cons_succ])
  obtain ⟨g, hg⟩ : ∃ g, g = v.heap.size := ⟨_, rfl⟩
  refine wp_gen (fun W => Ext w W ∧ Wr W g 28 e1') ⟨below_setRow (y4.out.alloc _) y4.out.size _, by rw [hg]; exact setRow_heap _ _ _ _ _ _ a1.out⟩ ?_
  rw [← hg]
  clear hg a1 y4 S2 IV MU
  rintro w5 ⟨y5, kg⟩
  replace y5 := Lib.hid y5
  replace kg := Lib.hid kg
  go_wp2_with (refine wpList_load_row rfl 28 _ rfl g rfl 28 (wcells e1').toArray (0, 0) _ kg.out rfl rfl (by rw [ES]; rfl) ?_; simp only [Act.put, List.setIfInBounds_toArray, List.set_cons_zero, List.set_cons_succ])
  refine (K1.out _).mono ?_
  rintro e w6 ⟨rfl, x6⟩
  have y6 := Lib.hid (y5.out.trans x6)
  clear x6 y5 kg
  go_wp2_with (first
    | (refine wpList_exec rfl (exec_build_as (cells := (cellsOf k1).toArray) rfl (by simp only [List.map_toArray, List.map_cons, List.map_nil]; exact b1.out)) ?_; simp only [Act.put, List.setIfInBounds_toArray, List.set_cons_zero, List.set_cons_succ])
    | (refine wpList_exec rfl (exec_eql_keyB (xs := k1) (ys := k1) (decide_eq_true rfl) L1 L1 rfl rfl rfl) ?_; simp only [Act.put, List.setIfInBounds_toArray, List.set_cons_zero, List.set_cons_succ]))
  refine (S7.out _ y6.out).mono ?_
  rintro e w7 ⟨rfl, x7⟩
  have y7 := Lib.hid (y6.out.trans x7)
  clear x7 y6
  go_wp2_with fail
  refine (S3.out _ y7.out).mono ?_
  rintro e w8 ⟨rfl, x8⟩
  have y8 := Lib.hid (y7.out.trans x8)
  clear x8 y7
  go_wp2_with fail
  refine (SB.out _ y8.out).mono ?_
  rintro e w9 ⟨rfl, x9⟩
  have y9 := Lib.hid (y8.out.trans x9)
  clear x9 y8
  go_wp2_with fail
  refine (K4.out _).mono ?_
  rintro e w10 ⟨rfl, x10⟩
  have y10 := Lib.hid (y9.out.trans x10)
  clear x10 y9
  go_wp2_with (first
    | (refine wpList_exec rfl (exec_build_as (cells := (cellsOf k4).toArray) rfl (by simp only [List.map_toArray, List.map_cons, List.map_nil]; exact b4.out)) ?_; simp only [Act.put, List.setIfInBounds_toArray, List.set_cons_zero, List.set_cons_succ])
    | (refine wpList_exec rfl (exec_eql_keyB (xs := k4) (ys := k4) (decide_eq_true rfl) L4 L4 rfl rfl rfl) ?_; simp only [Act.put, List.setIfInBounds_toArray, List.set_cons_zero, List.set_cons_succ]))
  go_ret
  exact ⟨rfl, y10.out⟩
end Go.Proofs.YteognebhlehjlaaDoor
