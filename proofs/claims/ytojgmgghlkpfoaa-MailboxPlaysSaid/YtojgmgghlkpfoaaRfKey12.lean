import Derived.Test.YtojgmgghlkpfoaaPkG
import Derived.Test.YtojgmgghlkpfoaaReadH
/-
  palfreyref12.key.
-/
namespace Go.Proofs.Ytojgmgghlkpfoaa
open Go.ChangeShapes Go.WideShapes Go.ChangeAt Go.RowKit Go.Deep
set_option maxRecDepth 100000

/-- The first k of 32 bytes are there, behind them are noughts. -/
def partK (xs : List UInt8) (k : Nat) : List UInt8 := xs.take k ++ List.replicate (32 - k) 0
theorem partK_len {xs : List UInt8} {k : Nat} (h : 32 ≤ xs.length) (hk : k ≤ 32) : (partK xs k).length = 32 := by simp [partK]; omega
theorem partK_step {xs : List UInt8} {k : Nat} (h : 32 ≤ xs.length) (hk : k < 32) : (cellsOf (partK xs k)).set k (.int .u8 (bt xs k : Int)) = cellsOf (partK xs (k + 1)) := by
  have e1 : partK xs (k + 1) = (partK xs k).set k (xs.getD k 0) := by
    unfold partK
    rw [List.set_append_right _ _ (by simp; omega), List.take_succ_eq_append_getElem (by omega), show 32 - k = (32 - (k + 1)) + 1 by omega, List.replicate_succ]
    simp [show min k xs.length = k by omega, List.getD, show k < xs.length by omega]
    rw [List.take_succ_eq_append_getElem (by omega), List.append_assoc]
    rfl
  rw [e1, cellsOf_map, cellsOf_map, List.map_set]
  rfl
theorem partK_zero (xs : List UInt8) : partK xs 0 = List.replicate 32 0 := rfl
theorem partK_full (xs : List UInt8) : partK xs 32 = xs.take 32 := by simp [partK]
set_option maxHeartbeats 2000000 in
theorem rkey_calls {w : World} {n c : Nat} {A : Option Addr} {xs : List UInt8} (hb : Bs w A n c xs) (hn : 32 ≤ n) :
    Calls Try.prog 47 #[.slice A n c] w fun e w' => e = .returned (.agg (cellsOf (xs.take 32)).toArray) ∧ Ext w w' := by
  have lx : 32 ≤ xs.length := by rw [hb.1]; exact hn
  have hle := hb.le
  have hcap := hb.cap
  obtain ⟨b, off, rfl, hbb, hc⟩ := hb.pos (by omega)
  have HC : Hid (∀ W k, Ext w W → k < 32 → W.cell? ⟨b, off + k, none⟩ = some (.int .u8 (bt xs k : Int))) := fun W k e hk => (e.cell hbb).trans (hc k (by omega))
  clear hc hb
  have hal : ∀ w, (zeroValue 23).run Try.prog w = .ok (.agg (cellsOf (List.replicate 32 0)).toArray) w := fun w => by rw [zeros32_cells]; exact key_alloc w
  have PS := Lib.hid (fun k (hk : k < 32) => partK_step lx hk)
  have PL := Lib.hid (fun k (hk : k ≤ 32) => partK_len lx hk)
  have P0 := Lib.hid (partK_zero xs)
  have PF := Lib.hid (partK_full xs)
  have L_kk : (xs.take 32).length = 32 := by rw [List.length_take]; omega
  generalize xs.take 32 = kk at *
  have L_zk : (List.replicate 32 (0 : UInt8)).length = 32 := rfl
  generalize List.replicate 32 (0 : UInt8) = zk at *
  have S_kk : (cellsOf kk).toArray.size = 32 := by simp [cellsOf_len, L_kk]
  have S_zk : (cellsOf zk).toArray.size = 32 := by simp [cellsOf_len, L_zk]
  have O_kk := cellsOf_one kk
  obtain ⟨r, hr⟩ : ∃ r, r = w.heap.size := ⟨_, rfl⟩
  have B0 : Hid (Cb ((w.alloc (Obj.cells (cellsOf zk).toArray 23)).alloc (Obj.cells (cellsOf zk).toArray 23)) r 23 (cellsOf zk) ∧ Cb ((w.alloc (Obj.cells (cellsOf zk).toArray 23)).alloc (Obj.cells (cellsOf zk).toArray 23)) (r + 1) 23 (cellsOf zk) ∧ Ext w ((w.alloc (Obj.cells (cellsOf zk).toArray 23)).alloc (Obj.cells (cellsOf zk).toArray 23))) := by
    rw [hr]; exact ⟨heap_alloc1 _ _ _, heap_alloc2 _ _ _, ((Ext.refl w).alloc _).alloc _⟩
  go_enter Try.func47, Try.ntmps47
  go_upto_region 2 with fail
  refine wp_gen (fun W => Cb W r 23 (cellsOf zk) ∧ Cb W (r + 1) 23 (cellsOf zk) ∧ Ext w W) B0.out ?_
  rw [← hr]
  have wr_ : w.heap.size ≤ r := Nat.le_of_eq hr.symm
  clear B0
  replace hr := Lib.hid hr
  rintro w0 ⟨k0, k1, x0⟩
  replace k0 := Lib.hid k0
  replace k1 := Lib.hid k1
  replace x0 := Lib.hid x0
  go_wp2_with fail
  go_loopw [4] (fun iv W => ∃ k : Nat, k ≤ 32 ∧ iv = .int .i64 (k : Int) ∧ Cb W r 23 (cellsOf zk) ∧ Cb W (r + 1) 23 (cellsOf (partK xs k)) ∧ Ext w W) (fun iv _ => 32 - (intOf iv).toNat)
  case atStart => exact ⟨0, Nat.zero_le _, rfl, k0.out, by rw [P0.out]; exact k1.out, x0.out⟩
  case round =>
    clear k0 k1 x0
    obtain ⟨k, hk, rfl, k0, k1, x0⟩ := hrel
    by_cases hlt : k < 32
    · have g1 := HC.out _ k x0 hlt
      have lk := PL.out k hk
      have c0 := k1.cell (j := k) (v := .int .u8 (bt (partK xs k) k : Int)) (cellsOf_get (by omega))
      have z0 := k1.frozen k
      have F : Hid (Cb (wr.setCell ⟨r + 1, k, none⟩ (.int .u8 (bt xs k : Int))) r 23 (cellsOf zk) ∧ Cb (wr.setCell ⟨r + 1, k, none⟩ (.int .u8 (bt xs k : Int))) (r + 1) 23 (cellsOf (partK xs (k + 1))) ∧ Ext w (wr.setCell ⟨r + 1, k, none⟩ (.int .u8 (bt xs k : Int)))) :=
        ⟨(grown_setCell8.block r (heap_lt k0) (fun q => by have := Option.some.inj q; omega)).trans k0, by have := k1.setCell (o := k) (v := .int .u8 (bt xs k : Int)); rwa [PS.out k hlt] at this, x0.setCell (by simp; omega) _⟩
      clear k0 k1 x0 lk
      generalize bt (partK xs k) k = bo at *
      generalize bt xs k = bv at *
      have t1 : (k : Int) < 32 := by omega
      have t2 : (k : Int) < (n : Int) := by omega
      go_wp2_with fail
      go_roundw
      case rel => exact ⟨k + 1, by omega, by go_num, F.out⟩
      case measure => simp [intOf]; omega
    · obtain rfl : k = 32 := by omega
      rw [PF.out] at k1
      have F : Hid (Ext w (wr.setRow r (cellsOf kk).toArray)) := below_setRow x0 wr_ _
      have FH : Hid ((wr.setRow r (cellsOf kk).toArray).heap[r]? = some (.cells (cellsOf kk).toArray 23 (0, 0))) := setRow_heap _ _ _ _ _ _ k0
      replace k0 := Lib.hid k0
      replace k1 := Lib.hid k1
      clear x0
      go_wp2_with (first
        | (refine wpList_load_row rfl 23 _ rfl (r + 1) rfl 23 (cellsOf kk).toArray (0, 0) _ k1.out rfl rfl (by rw [S_kk]; rfl) ?_; simp only [Act.put, List.setIfInBounds_toArray, List.set_cons_zero, List.set_cons_succ])
        | (refine wpList_store_row rfl 23 _ _ rfl r (cellsOf kk).toArray rfl rfl 23 _ k0.out (by rw [S_kk]; rfl) (by rw [S_kk, S_zk]) O_kk ?_; simp only [Act.put]))
      (try simp only [Exit.inBlock, Exit.then])
      refine bodyPost_ret (results_cell_row rfl _ _ r 23 (cellsOf kk).toArray (0, 0) _ rfl FH.out rfl rfl (by rw [S_kk]; rfl)) rfl ?_
      exact ⟨rfl, F.out⟩
end Go.Proofs.Ytojgmgghlkpfoaa
