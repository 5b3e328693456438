/-
  The law's awake (layer 2): three letters' hash, reckoned out by the kernel.
-/
import Derived.Test.YtdiigbknfjceoaaDoorKeyEq
import Derived.Test.YtdiigbknfjceoaaDoorSum
namespace Go.Proofs.YtdiigbknfjceoaaDoor
open Go.ChangeShapes Go.WideShapes Go.ChangeAt Go.RowKit Go.Deep

theorem abc0 : bt (macL [] [97, 98, 99]) 0 = 80 := by decide +kernel
theorem abc1 : bt (macL [] [97, 98, 99]) 1 = 140 := by decide +kernel
theorem abc31 : bt (macL [] [97, 98, 99]) 31 = 130 := by decide +kernel
theorem Bs.lit3 (w : World) (t : TypeId) (fr : Nat × Nat) (a b c : UInt8) : Bs (w.alloc (.cells #[.int .u8 (a.toNat : Int), .int .u8 (b.toNat : Int), .int .u8 (c.toNat : Int)] t fr)) (some ⟨w.heap.size, 0, none⟩) 3 3 [a, b, c] :=
  Bs.of_list rfl (heap_alloc_new _ _) ⟨rfl, by omega⟩

set_option maxRecDepth 100000 in
set_option maxHeartbeats 1000000 in
theorem awake_calls {w : World} {tg : TypeId × Nat × Nat} (hG : Gl w tg) : Calls Tryd.prog 15 #[] w fun e w' => e = .returned (.bool true) ∧ Ext w w' := by
  have hal := key_alloc
  have hcv := conv_const
  have hz0 := zeros32_size
  generalize zeros32 = Z at *
  have e0 := abc0
  have e1 := abc1
  have e31 := abc31
  have ML := macL_len [] [97, 98, 99]
  have SUM : Hid (∀ (W : World) A n c, Ext w W → Bs W A n c [97, 98, 99] → Calls Tryd.prog 18 #[.slice A n c] W fun e w' => e = .returned (.agg (cellsOf (macL [] [97, 98, 99])).toArray) ∧ Ext W w') := fun W A n c e b => sum_calls b (hG.kept e hG.lt)
  clear hG
  generalize macL [] [97, 98, 99] = ms at *
  have HM : (cellsOf ms).toArray.size = 32 := by simp [cellsOf_len, ML]
  have HM1 := cellsOf_one ms
  go_enter Tryd.func15, Tryd.ntmps15
  go_wp2_with fail
  refine (SUM.out _ _ _ _ ((Ext.refl w).alloc _) (Bs.lit3 w _ _ 97 98 99)).mono ?_
  rintro e w1 ⟨rfl, x1⟩
  go_upto_region 2 with (refine wpList_store_row rfl 25 _ _ rfl w1.heap.size (cellsOf ms).toArray rfl rfl 25 _ (by with_reducible exact heap_alloc_new _ _) (by rw [HM]; rfl) (by rw [HM]; exact hz0) HM1 ?_)
  refine wp_gen (fun W => Ext w W ∧ Ky W w1.heap.size ms) ⟨(((Ext.refl w).alloc _).trans x1).trans (Ext.newRow _ _ _), Ky.new _ ML⟩ ?_
  rintro W ⟨x2, ky⟩
  have k0 := ky.cell (j := 0) (by omega)
  have k1 := ky.cell (j := 1) (by omega)
  have k31 := ky.cell (j := 31) (by omega)
  rw [e0] at k0
  rw [e1] at k1
  rw [e31] at k31
  clear ky
  go_wp2_with fail
  go_ret
  exact ⟨rfl, x2⟩
end Go.Proofs.YtdiigbknfjceoaaDoor
