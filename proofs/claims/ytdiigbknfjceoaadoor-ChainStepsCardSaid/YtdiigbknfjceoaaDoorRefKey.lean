/-
  The document's Key (layer 3).
-/
import Derived.Test.YtdiigbknfjceoaaDoorRefSpr
namespace Go.Proofs.YtdiigbknfjceoaaDoor
open Go.ChangeShapes Go.WideShapes Go.ChangeAt Go.RowKit Go.Deep

set_option maxRecDepth 100000 in
set_option maxHeartbeats 2000000 in
theorem refKey_calls {ks ps : List UInt8} {w : World} (hk : ks.length = 32) (h1 : ps.length ≤ 900000) :
    Calls Tryd.prog 26 #[.agg (cellsOf ks).toArray, .string (strL ps)] w fun e w' => e = .returned (.agg (cellsOf (keyL ks ps)).toArray) ∧ Ext w w' := by
  have SPR : Hid (∀ W : World, Calls Tryd.prog 22 #[.agg (cellsOf ks).toArray, .string (strL ps), .int .i64 32] W (RetBsE (keyL ks ps) 0 W)) := fun W => by
    have := refSpread_calls (m := 32) (w := W) hk h1 (by omega)
    rw [spreadL_32] at this
    exact this
  have KL := keyL_len ks ps
  generalize keyL ks ps = RM at *
  have KS : (cellsOf ks).toArray.size = 32 := by simp [cellsOf_len, hk]
  have hal := key_alloc
  have k0 : Hid (Ky ((w.alloc (Obj.cells (cellsOf ks).toArray 25)).alloc (Obj.cells zeros32 25)) w.heap.size ks) := ⟨heap_alloc1 _ _ _, hk⟩
  have kr : Hid (Ky ((w.alloc (Obj.cells (cellsOf ks).toArray 25)).alloc (Obj.cells zeros32 25)) (w.heap.size + 1) (List.replicate 32 0)) := ⟨by rw [zeros32_cells]; exact heap_alloc2 _ _ _, rfl⟩
  have hz32 := Lib.hid zeros32_cells
  have zl : (List.replicate 32 (0 : UInt8)).length = 32 := rfl
  generalize zeros32 = Z at *
  generalize List.replicate 32 (0 : UInt8) = zs at *
  have ZS : (cellsOf zs).toArray.size = 32 := by simp [cellsOf_len, zl]
  generalize strL ps = sA at *
  go_enter Tryd.func26, Tryd.ntmps26
  go_wp2_with (refine wpList_load_row rfl 25 _ rfl w.heap.size rfl 25 (cellsOf ks).toArray (0, 0) _ k0.out.1 rfl rfl (by rw [KS]; rfl) ?_; simp only [Act.put, List.setIfInBounds_toArray, List.set_cons_zero, List.set_cons_succ])
  refine (SPR.out _).mono ?_
  rintro e w1 ⟨A1, n1, c1, rfl, b1, e1⟩
  obtain rfl : n1 = 32 := by rw [← b1.len, KL]
  have E1 : Hid (Ext w w1) := (((Ext.refl w).alloc _).alloc _).trans e1
  have kr1 := Lib.hid (kr.out.ext e1)
  have l1 := b1.le
  obtain ⟨b, off, rfl, hb, hbc⟩ := b1.pos (by omega)
  have CV := Lib.hid (fun w' (e : Ext w1 w') j (hj : j < 32) => (e.cell (p := ⟨b, off + j, none⟩) hb).trans (hbc j hj))
  have kn : Hid (Ky (w1.alloc (Obj.cells Z 25)) w1.heap.size zs) := by
    have := Ky.boxed w1 zl
    rw [hz32.out] at this
    exact this
  clear SPR k0 kr hbc b1 e1
  go_wp2_with fail
  go_loopw [8] (fun v wr => ∃ (k : Nat) (ys : List UInt8), k ≤ 32 ∧ v = .int .i64 (k : Int) ∧ ys.length = 32 ∧ (∀ j, j < k → bt ys j = bt RM j) ∧ Ext w1 wr ∧ Ky wr w1.heap.size ys) (fun v _ => 32 - (intOf v).toNat)
  case atStart => exact ⟨0, zs, Nat.zero_le _, rfl, zl, fun j hj => absurd hj (by omega), (Ext.refl _).alloc _, kn.out⟩
  case round =>
    obtain ⟨k, ys, hk2, rfl, yl, hv, he, ky⟩ := hrel
    clear kn
    by_cases hlt : k < 32
    · have cv := CV.out _ he k hlt
      have g1 := ky.cell hlt
      have g2 := ky.frozen k
      have ik : (k : Int) < 32 := by omega
      replace hv := Lib.hid hv
      replace he := Lib.hid he
      replace ky := Lib.hid ky
      go_wp2_with fail
      refine ⟨⟨k + 1, ys.set k (UInt8.ofNat (bt RM k)), by omega, by go_num, by rw [List.length_set]; exact yl, fun j hj => ?_, he.out.setCell (Nat.le_refl _) _, ky.out.setB hlt (bt_lt _ _)⟩, by simp [intOf]; omega⟩
      rw [bt_set (by omega) (bt_lt _ _)]
      by_cases e : j = k
      · rw [if_pos e, e]
      · rw [if_neg e]; exact hv.out j (by omega)
    · obtain rfl : k = 32 := by omega
      have hy : ys = RM := list_bt (by rw [yl, KL]) fun j hj => hv j (by omega)
      subst hy
      have KK := Lib.hid (kr1.out.ext he)
      have EE : Hid (Ext w wr) := E1.out.trans he
      have RS : (cellsOf ys).toArray.size = 32 := by simp [cellsOf_len, yl]
      have R1 := cellsOf_one ys
      replace ky := Lib.hid ky
      clear hv he CV E1 kr1
      go_wp2_with (first
        | (refine wpList_load_row rfl 25 _ rfl w1.heap.size rfl 25 (cellsOf ys).toArray (0, 0) _ ky.out.1 rfl rfl (by rw [RS]; rfl) ?_; simp only [Act.put, List.setIfInBounds_toArray, List.set_cons_zero, List.set_cons_succ])
        | refine wpList_store_row rfl 25 _ _ rfl (w.heap.size + 1) (cellsOf ys).toArray rfl rfl 25 _ KK.out.1 (by rw [RS]; rfl) (by rw [RS, ZS]) R1 ?_)
      (try simp only [Exit.inBlock, Exit.then])
      refine bodyPost_ret (results_cell_row rfl _ _ (w.heap.size + 1) 25 (cellsOf ys).toArray (0, 0) _ rfl (setRow_heap _ _ _ _ _ _ KK.out.1) rfl rfl (by rw [RS]; rfl)) rfl ?_
      exact ⟨rfl, below_setRow EE.out (Nat.le_succ _) _⟩
end Go.Proofs.YtdiigbknfjceoaaDoor
