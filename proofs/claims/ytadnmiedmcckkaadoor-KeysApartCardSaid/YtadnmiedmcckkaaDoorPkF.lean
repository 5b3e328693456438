import Derived.Test.YtadnmiedmcckkaaDoorMult7
import Derived.Test.YtadnmiedmcckkaaDoorSameL
section
/-
  curve.Base; awake.
-/
namespace Go.Proofs.YtadnmiedmcckkaaDoor
open Go.ChangeShapes Go.WideShapes Go.ChangeAt Go.RowKit Go.Deep
set_option maxRecDepth 100000

set_option maxHeartbeats 2000000 in
theorem base_calls {ks : List UInt8} {w : World} (hk : ks.length = 32) {tg : TypeId × Nat × Nat} (hG : Gp w tg) :
    Calls Tryd.prog 16 #[.agg (cellsOf ks).toArray] w fun e w' => e = .returned (.agg (cellsOf (kL (multN ks 9))).toArray) ∧ Ext w w' := by
  have MU : Hid (∀ W, Ext w W → Calls Tryd.prog 14 #[.agg (cellsOf ks).toArray, .agg (cellsOf key9).toArray] W fun e w' => e = .returned (.agg (cellsOf (kL (multN ks 9))).toArray) ∧ Ext W w') := fun W e => by
    have := mult_calls hk (show key9.length = 32 from rfl) (hG.ext e)
    rwa [ofV9] at this
  clear hG
  have L_rk := kL_len (multN ks 9)
  generalize kL (multN ks 9) = rk at *
  have S_rk : (cellsOf rk).toArray.size = 32 := by simp [cellsOf_len, L_rk]
  have O_rk := cellsOf_one rk
  have S_ks : (cellsOf ks).toArray.size = 32 := by simp [cellsOf_len, hk]
  have hb := Lib.hid built9
  generalize key9 = k9 at *
  have hal : ∀ w, (zeroValue 23).run Tryd.prog w = .ok (.agg (cellsOf (List.replicate 32 0)).toArray) w := fun w => by rw [zeros32_cells]; exact key_alloc w
  have L_zk : (List.replicate 32 (0 : UInt8)).length = 32 := rfl
  generalize List.replicate 32 (0 : UInt8) = zk at *
  have S_zk : (cellsOf zk).toArray.size = 32 := by simp [cellsOf_len, L_zk]
  have B0 : Hid (Ky ((w.alloc (Obj.cells (cellsOf ks).toArray 23)).alloc (Obj.cells (cellsOf zk).toArray 23)) w.heap.size ks ∧ Ky ((w.alloc (Obj.cells (cellsOf ks).toArray 23)).alloc (Obj.cells (cellsOf zk).toArray 23)) (w.heap.size + 1) zk ∧ Ext w ((w.alloc (Obj.cells (cellsOf ks).toArray 23)).alloc (Obj.cells (cellsOf zk).toArray 23))) := ⟨⟨heap_alloc1 _ _ _, hk⟩, ⟨heap_alloc2 _ _ _, L_zk⟩, ((Ext.refl w).alloc _).alloc _⟩
  go_enter Tryd.func16, Tryd.ntmps16
  go_wp2_with (first
    | (refine wpList_load_row rfl 23 _ rfl w.heap.size rfl 23 (cellsOf ks).toArray (0, 0) _ B0.out.1.1 rfl rfl (by rw [S_ks]; rfl) ?_; simp only [Act.put, List.setIfInBounds_toArray, List.set_cons_zero, List.set_cons_succ])
    | (refine wpList_build_as rfl _ _ rfl (cellsOf k9).toArray (by simp only [List.map_toArray, List.map_cons, List.map_nil]; exact hb.out) ?_; simp only [Act.put, List.setIfInBounds_toArray, List.set_cons_zero, List.set_cons_succ]))
  refine (MU.out _ B0.out.2.2).mono ?_
  rintro e w1 ⟨rfl, e1⟩
  have kr := Lib.hid (B0.out.2.1.ext e1)
  have kx : Hid (Ext w w1) := B0.out.2.2.trans e1
  clear B0 MU e1
  go_wp2_with (refine wpList_store_row rfl 23 _ _ rfl (w.heap.size + 1) (cellsOf rk).toArray rfl rfl 23 _ kr.out.1 (by rw [S_rk]; rfl) (by rw [S_rk, S_zk]) O_rk ?_; simp only [Act.put, List.setIfInBounds_toArray, List.set_cons_zero, List.set_cons_succ])
  (try simp only [Exit.inBlock, Exit.then])
  refine bodyPost_ret (results_cell_row rfl _ _ (w.heap.size + 1) 23 (cellsOf rk).toArray (0, 0) _ rfl (setRow_heap _ _ _ _ _ _ kr.out.1) rfl rfl (by rw [S_rk]; rfl)) rfl ?_
  exact ⟨rfl, below_setRow kx.out (by omega) _⟩

theorem aw0 : bt (kL (multN key9 9)) 0 = 66 := by decide +kernel
theorem aw1 : bt (kL (multN key9 9)) 1 = 44 := by decide +kernel
theorem aw31 : bt (kL (multN key9 9)) 31 = 121 := by decide +kernel
set_option maxHeartbeats 2000000 in
theorem awake7_calls {w : World} {tg : TypeId × Nat × Nat} (hG : Gp w tg) :
    Calls Tryd.prog 13 #[] w fun e w' => e = .returned (.bool true) ∧ Ext w w' := by
  have MU : Hid (∀ W, Ext w W → Calls Tryd.prog 16 #[.agg (cellsOf key9).toArray] W fun e w' => e = .returned (.agg (cellsOf (kL (multN key9 9))).toArray) ∧ Ext W w') := fun W e => base_calls rfl (hG.ext e)
  clear hG
  have L_rk := kL_len (multN key9 9)
  have c0 := aw0
  have c1 := aw1
  have c31 := aw31
  generalize kL (multN key9 9) = rk at *
  have S_rk : (cellsOf rk).toArray.size = 32 := by simp [cellsOf_len, L_rk]
  have O_rk := cellsOf_one rk
  have hb := Lib.hid built9
  generalize key9 = k9 at *
  have hal : ∀ w, (zeroValue 23).run Tryd.prog w = .ok (.agg (cellsOf (List.replicate 32 0)).toArray) w := fun w => by rw [zeros32_cells]; exact key_alloc w
  have L_zk : (List.replicate 32 (0 : UInt8)).length = 32 := rfl
  generalize List.replicate 32 (0 : UInt8) = zk at *
  have S_zk : (cellsOf zk).toArray.size = 32 := by simp [cellsOf_len, L_zk]
  replace c0 := Lib.hid c0
  replace c1 := Lib.hid c1
  replace c31 := Lib.hid c31
  go_enter Tryd.func13, Tryd.ntmps13
  go_wp2_with (refine wpList_build_as rfl _ _ rfl (cellsOf k9).toArray (by simp only [List.map_toArray, List.map_cons, List.map_nil]; exact hb.out) ?_; simp only [Act.put, List.setIfInBounds_toArray, List.set_cons_zero, List.set_cons_succ])
  refine (MU.out _ (Ext.refl _)).mono ?_
  rintro e w1 ⟨rfl, e1⟩
  have a1 : Hid ((w1.alloc (Obj.cells (cellsOf zk).toArray 23)).heap[w1.heap.size]? = some (.cells (cellsOf zk).toArray 23 (0, 0))) := heap_alloc_new _ _
  have e5 : Hid (Ext w ((w1.alloc (Obj.cells (cellsOf zk).toArray 23)).setRow w1.heap.size (cellsOf rk).toArray)) := below_setRow (e1.alloc _) e1.size _
  go_upto_region 2 with (refine wpList_store_row rfl 23 _ _ rfl w1.heap.size (cellsOf rk).toArray rfl rfl 23 _ a1.out (by rw [S_rk]; rfl) (by rw [S_rk, S_zk]) O_rk ?_; simp only [Act.put, List.setIfInBounds_toArray, List.set_cons_zero, List.set_cons_succ])
  obtain ⟨g, hg⟩ : ∃ g, g = w1.heap.size := ⟨_, rfl⟩
  refine wp_gen (fun W => Ky W g rk ∧ Ext w W) ⟨⟨by rw [hg]; exact setRow_heap _ _ _ _ _ _ a1.out, L_rk⟩, e5.out⟩ ?_
  rw [← hg]
  clear hg a1 e5 e1
  rintro w2 ⟨k2, e2⟩
  have d0 := k2.cell (j := 0) (by omega)
  have d1 := k2.cell (j := 1) (by omega)
  have d31 := k2.cell (j := 31) (by omega)
  rw [c0.out] at d0
  rw [c1.out] at d1
  rw [c31.out] at d31
  replace k2 := Lib.hid k2
  go_wp2_with fail
  go_ret
  exact ⟨rfl, e2⟩
end Go.Proofs.YtadnmiedmcckkaaDoor
end

section
/-
  octets.Same tells whether two rows of bytes are the same.
-/
namespace Go.Proofs.YtadnmiedmcckkaaDoor
open Go.ChangeShapes Go.WideShapes Go.ChangeAt Go.RowKit Go.Deep

set_option maxHeartbeats 400000 in
theorem same_calls {A A' : Option Addr} {n c n' c' : Nat} {xs ys : List UInt8} {w : World} (h : Bs w A n c xs) (h' : Bs w A' n' c' ys) :
    Calls Tryd.prog 46 #[.slice A n c, .slice A' n' c'] w fun e w' => e = .returned (.bool (decide (xs = ys))) ∧ ∃ k, w' = w.drewN k := by
  have h1 := h.le
  have h2 := h.cap
  have h3 := h'.le
  have h4 := h'.cap
  by_cases hn : n = n'
  · subst hn
    have hl : xs.length = ys.length := h.len.trans h'.len.symm
    have hs : Hid (((differ xs ys n : Int) == 0) = decide (xs = ys)) := by
      unfold Hid
      rw [Bool.eq_iff_iff, decide_eq_true_iff, beq_iff_eq, Int.natCast_eq_zero, differ_zero, same_iff hl, h.len]
    have hl' := Lib.hid hl
    clear hl
    go_enter Tryd.func46, Tryd.ntmps46
    go_wp2
    go_loopw [5, 14] (fun d i wr => ∃ k m : Nat, k ≤ n ∧ i = .int .i64 k ∧ d = .int .u8 (differ xs ys k) ∧ wr = w.drewN m) (fun _ i _ => n - (intOf i).toNat)
    case atStart => exact ⟨0, 0, Nat.zero_le _, rfl, rfl, rfl⟩
    case round =>
      obtain ⟨k, m, hk, rfl, rfl, rfl⟩ := hrel
      by_cases hlt : k < n
      · obtain ⟨b, off, rfl, hb, hc⟩ := h.pos (by omega)
        obtain ⟨b', off', rfl, hb', hc'⟩ := h'.pos (by omega)
        have g1 := hc k hlt
        have g2 := hc' k hlt
        have hu := Lib.hid (u8_differ xs ys k)
        clear hc hc'
        go_wp2
        go_quiet (fail)
        go_wp2
        go_roundw
        case rel => exact ⟨k + 1, _, by omega, by go_num, by rw [← hu.out], rfl⟩
        case measure => simp [intOf]; omega
      · obtain rfl : k = n := by omega
        go_wp2
        go_ret
        exact ⟨ret_bool hs.out, m, rfl⟩
  · have hb : ((n : Int) != (n' : Int)) = true := by rw [bne_iff_ne]; omega
    go_enter Tryd.func46, Tryd.ntmps46
    go_wp2
    go_ret
    refine ⟨?_, 0, rfl⟩
    have : xs ≠ ys := fun e => hn (by rw [← h.len, ← h'.len, e])
    simp [this]

theorem same_ext {A A' : Option Addr} {n c n' c' : Nat} {xs ys : List UInt8} {w : World} {r : Bool} (h : Bs w A n c xs) (h' : Bs w A' n' c' ys) (hr : decide (xs = ys) = r) :
    Calls Tryd.prog 46 #[.slice A n c, .slice A' n' c'] w fun e w' => e = .returned (.bool r) ∧ Ext w w' :=
  (same_calls h h').mono fun _ _ ⟨he, k, hk⟩ => ⟨by rw [he, hr], by rw [hk]; exact (Ext.refl w).drewN k⟩
end Go.Proofs.YtadnmiedmcckkaaDoor
end
