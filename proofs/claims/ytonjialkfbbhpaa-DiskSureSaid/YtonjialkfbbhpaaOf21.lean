/-
  palfreylaw21: of, awake.
-/
import Derived.Test.YtonjialkfbbhpaaRdC
import Derived.Test.YtonjialkfbbhpaaO21
import Derived.Laws.ResultCell
namespace Go.Proofs.Ytonjialkfbbhpaa
open Go.ChangeShapes Go.WideShapes Go.ChangeAt Go.RowKit Go.Deep Go.Maps
set_option maxRecDepth 100000

theorem secB_cells (b : UInt8) : (zS64.set 0 (.int .u8 (b.toNat : Int))).set 63 (.int .u8 (b.toNat : Int)) = cellsOf (secB b) := by
  have hz : zS64 = List.replicate 64 (Value.int .u8 0) := by kernel_rfl
  rw [hz]
  apply List.ext_getElem
  · rw [List.length_set, List.length_set, List.length_replicate, cellsOf_len, secB_len]
  · intro i h1 h2
    rw [List.length_set, List.length_set, List.length_replicate] at h1
    have h3 : (cellsOf (secB b))[i]? = some (.int .u8 (bt (secB b) i : Int)) := cellsOf_get (by rw [secB_len]; exact h1)
    rw [List.getElem?_eq_getElem h2] at h3
    rw [Option.some.inj h3, List.getElem_set, List.getElem_set, List.getElem_replicate]
    have hb : bt (secB b) i = if i = 63 then b.toNat else if i = 0 then b.toNat else 0 := by
      unfold bt secB
      match i, h1 with
      | 0, _ => rfl
      | j + 1, hj =>
        rw [List.getD_eq_getElem?_getD, List.getElem?_cons_succ]
        by_cases q : j = 62
        · subst q
          rw [List.getElem?_append_right (by simp), if_pos rfl]
          simp
        · rw [List.getElem?_append_left (by simp; omega), List.getElem?_replicate, if_pos (by omega), if_neg (by omega), if_neg (by omega)]
          rfl
    rw [hb]
    by_cases q : 63 = i
    · subst q; simp
    · by_cases q2 : 0 = i
      · subst q2; simp
      · rw [if_neg q, if_neg q2, if_neg (fun z : i = 63 => q z.symm), if_neg (fun z : i = 0 => q2 z.symm)]; rfl
set_option maxHeartbeats 2000000 in
theorem of21_calls {w : World} {b : UInt8} : Calls Try.prog 24 #[.int .u8 (b.toNat : Int)] w fun e w' => e = .returned (.agg (cellsOf (secB b)).toArray) ∧ Ext w w' := by
  have hal := sector_alloc
  have Lz := zS64_len
  have FC := Lib.hid (secB_cells b)
  have Z0 : zS64[0]? = some (.int .u8 0) := by kernel_rfl
  have Z63 : zS64[63]? = some (.int .u8 0) := by kernel_rfl
  have S_s : (cellsOf (secB b)).toArray.size = 64 := by simp [cellsOf_len, secB_len]
  have O_s := one_cells (one_mem (secB b))
  generalize zS64 = ZL at *
  have S_Z : ZL.toArray.size = 64 := by rw [List.size_toArray, Lz]
  obtain ⟨x, hx⟩ : ∃ x : Int, x = (b.toNat : Int) := ⟨_, rfl⟩
  rw [← hx] at FC ⊢
  generalize secB b = sb at *
  clear hx
  obtain ⟨g2, hg2⟩ : ∃ q, q = w.heap.size := ⟨_, rfl⟩
  have B0 : Hid (Cb ((w.alloc (.cells ZL.toArray 58)).alloc (.cells ZL.toArray 58)) g2 58 ZL ∧ Cb ((w.alloc (.cells ZL.toArray 58)).alloc (.cells ZL.toArray 58)) (g2 + 1) 58 ZL ∧ Ext w ((w.alloc (.cells ZL.toArray 58)).alloc (.cells ZL.toArray 58))) := by
    rw [hg2]; exact ⟨heap_alloc1 _ _ _, heap_alloc2 _ _ _, ((Ext.refl w).alloc _).alloc _⟩
  replace hg2 := Lib.hid hg2
  go_enter Try.func24, Try.ntmps24
  go_upto_region 2 with fail
  refine wp_gen (fun W => Cb W g2 58 ZL ∧ Cb W (g2 + 1) 58 ZL ∧ Ext w W) B0.out ?_
  rw [← hg2.out]
  have wg2 : w.heap.size ≤ g2 := Nat.le_of_eq hg2.out.symm
  clear B0 hg2
  rintro w0 ⟨k2, k3, x0⟩
  have c0 := k3.cell Z0
  have f0 := k3.frozen 0
  have n23 : g2 ≠ g2 + 1 := by omega
  have K1 : Hid (Cb ((w0.setCell ⟨g2 + 1, 0, none⟩ (.int .u8 x)).setCell ⟨g2 + 1, 63, none⟩ (.int .u8 x)) g2 58 ZL ∧ Cb ((w0.setCell ⟨g2 + 1, 0, none⟩ (.int .u8 x)).setCell ⟨g2 + 1, 63, none⟩ (.int .u8 x)) (g2 + 1) 58 (cellsOf sb) ∧ Ext w ((w0.setCell ⟨g2 + 1, 0, none⟩ (.int .u8 x)).setCell ⟨g2 + 1, 63, none⟩ (.int .u8 x))) := by
    refine ⟨(Below.heap_setCell _ _ _ _ n23).trans ((Below.heap_setCell _ _ _ _ n23).trans k2), ?_, (x0.setCell (show w.heap.size ≤ g2 + 1 by omega) _).setCell (show w.heap.size ≤ g2 + 1 by omega) _⟩
    rw [← FC.out]
    exact (k3.setCell (o := 0) (v := .int .u8 x)).setCell
  have k3' := k3.setCell (o := 0) (v := .int .u8 x)
  have c63 : (w0.setCell ⟨g2 + 1, 0, none⟩ (.int .u8 x)).cell? ⟨g2 + 1, 63, none⟩ = some (.int .u8 0) := k3'.cell (by rw [List.getElem?_set_ne (by omega)]; exact Z63)
  have f63 := k3'.frozen 63
  clear k2 k3 k3' x0 FC
  go_upto_region 4 with fail
  refine wp_gen (fun W => Cb W g2 58 ZL ∧ Cb W (g2 + 1) 58 (cellsOf sb) ∧ Ext w W) K1.out ?_
  clear K1 c0 f0 c63 f63 w0
  rintro w1 ⟨k2, k3, x1⟩
  have F : Hid (Ext w (w1.setRow g2 (cellsOf sb).toArray)) := below_setRow x1 wg2 _
  clear x1
  go_wp2_with (first
    | ((with_reducible refine wpList_load_rowW (o := ⟨some 8, _, _, _, _, _⟩) ?_ 58 _ rfl (g2 + 1) ?_ 58 (cellsOf sb).toArray (0, 0) _ ?_ Try.underlying58 ?_ ?_ ?_); (· rfl); (· rfl); (· exact k3); (· rfl); (· rw [S_s]; rfl); simp only [Act.put, List.setIfInBounds_toArray, List.set_cons_zero, List.set_cons_succ])
    | (refine wpList_store_row rfl 58 _ _ rfl g2 (cellsOf sb).toArray rfl rfl 58 ZL.toArray k2 (by rw [S_s]; rfl) (by rw [S_s, S_Z]) O_s ?_; simp only [Act.put]))
  (try simp only [Exit.inBlock, Exit.then])
  refine bodyPost_ret (results_cell_row rfl _ _ g2 58 (cellsOf sb).toArray (0, 0) _ rfl (setRow_heap _ _ _ _ _ _ k2) rfl rfl (by rw [S_s]; rfl)) rfl ?_
  exact ⟨rfl, F.out⟩
end Go.Proofs.Ytonjialkfbbhpaa
