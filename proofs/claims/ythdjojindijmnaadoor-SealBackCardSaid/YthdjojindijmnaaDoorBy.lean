/-
  blake.bytesOf.
-/
import Derived.Test.YthdjojindijmnaaDoorWo
namespace Go.Proofs.YthdjojindijmnaaDoor
open Go.ChangeShapes Go.WideShapes Go.ChangeAt Go.RowKit Go.Deep
set_option maxRecDepth 100000

/-- k[4*i:] of a key. -/
theorem sliceK {w : World} {g k : Nat} (hk : k < 8) : (Instr.sliceAt 23 (.pointer (some ⟨g, 0, none⟩)) (some (.int .i64 (4 * (k : Int)))) none none).run Tryd.prog w = .ok (.slice (some ⟨g, 4 * k, none⟩) (32 - 4 * k) (32 - 4 * k)) w := by
  have hn : Tryd.prog.arrayLen 23 = 32 := rfl
  rw [run_sliceAt_array_l w 23 _ rfl .i64 _ (by omega) (by rw [hn]; omega)]
  have hs : (sizeOf (Tryd.prog.elem 23)).run Tryd.prog w = .ok 1 w := rfl
  rw [hs]
  have h1 : (4 * (k : Int)).toNat = 4 * k := by omega
  have h3 : (⟨g, 0, none⟩ : Addr).add (4 * k * 1) = ⟨g, 4 * k, none⟩ := by unfold Addr.add; split <;> simp_all
  show Result.ok (slicedAt _ _ _ _ _) w = _
  rw [hn, h1]
  unfold slicedAt
  rw [if_neg (by omega), h3]
set_option maxRecDepth 100000 in
set_option maxHeartbeats 1000000 in
theorem bytesOf_calls {vs : List Nat} {w : World} (h : vs.length = 8) (hb : ∀ i, i < 8 → wd vs i < 4294967296) :
    Calls Tryd.prog 49 #[.agg (wcells vs).toArray] w fun e w' => e = .returned (.agg (cellsOf (bytesL vs)).toArray) ∧ Ext w w' := by
  have HIX := Lib.hid (fun (w : World) (k : Nat) (hk : k < 8) => index_word (w := w) (t := 76) rfl h hk)
  have HL := wcells_size h
  have g0 : ∀ o2 o3, (((w.alloc (Obj.cells (wcells vs).toArray 76)).alloc o2).alloc o3).heap[w.heap.size]? = some (.cells (wcells vs).toArray 76 (0, 0)) := fun o2 o3 => heap_alloc30 _ _ _ _
  have g1 : ∀ o1 o3, (((w.alloc o1).alloc (Obj.cells (List.replicate 32 (Value.int .u8 0)).toArray 23)).alloc o3).heap[w.heap.size + 1]? = some (.cells (List.replicate 32 (Value.int .u8 0)).toArray 23 (0, 0)) := fun o1 o3 => heap_alloc31 _ _ _ _
  have g2 : ∀ o1 o2, (((w.alloc o1).alloc o2).alloc (Obj.cells (List.replicate 32 (Value.int .u8 0)).toArray 23)).heap[w.heap.size + 1 + 1]? = some (.cells (List.replicate 32 (Value.int .u8 0)).toArray 23 (0, 0)) := fun o1 o2 => heap_alloc32 _ _ _ _
  replace g1 := Lib.hid g1
  replace g2 := Lib.hid g2
  replace g0 := Lib.hid g0
  generalize hC : (wcells vs).toArray = C at g0 HL HIX
  replace hC := Lib.hid hC
  go_enter Tryd.func49, Tryd.ntmps49
  go_wp2_with (refine wpList_load_row rfl 76 _ rfl w.heap.size rfl 76 C (0, 0) _ (g0.out _ _) rfl rfl (by rw [HL]; rfl) ?_)
  obtain ⟨B, hB⟩ : ∃ B, B = w.heap.size + 1 + 1 := ⟨_, rfl⟩
  go_loopw [7] (fun i wr => ∃ (k : Nat) (xs : List UInt8), k ≤ 8 ∧ i = .int .i64 k ∧ xs.length = 32 ∧ (∀ j, j < 4 * k → bt xs j = bt (bytesL vs) j) ∧ Ext w wr ∧ wr.heap[w.heap.size + 1]? = some (.cells (List.replicate 32 (Value.int .u8 0)).toArray 23 (0, 0)) ∧ wr.heap[w.heap.size + 1 + 1]? = some (.cells (cellsOf xs).toArray 23 (0, 0))) (fun i _ => 8 - (intOf i).toNat)
  case atStart =>
    exact ⟨0, List.replicate 32 0, Nat.zero_le _, rfl, rfl, fun j hj => absurd hj (by omega), (((Ext.refl _).alloc _).alloc _).alloc _, g1.out _ _, g2.out _ _⟩
  case round =>
    obtain ⟨k, xs, hk, rfl, hl, hv, he, h1, h2⟩ := hrel
    by_cases hlt : k < 8
    · have hix := fun w => HIX.out w k hlt
      have hsl := fun w' : World => sliceK (w := w') (g := w.heap.size + 1 + 1) hlt
      have hwk := hb k hlt
      have m1 : IntKind.i64.wrap (4 * (k : Int)) = 4 * (k : Int) := IntWalk.i64_in _ (by omega)
      have m2 : IntKind.u64.wrap (wd vs k : Int) = (wd vs k : Int) := IntWalk.u64_in _ (by omega)
      have LOW := Lib.hid (fun w0 : World => low_calls (n := wd vs k) (m := 4) (many := 4) (w := w0) (by omega) (by omega) (by omega) (by omega) (by decide))
      replace h1 := Lib.hid h1
      replace h2 := Lib.hid h2
      replace hv := Lib.hid hv
      go_wp2_with fail
      refine wp_region_seq (R := Below B) (Below.refl _) (fun _ _ _ => Below.trans) [0, 1, 2, 3, 4, 5, 6] [5, 6] [(0, 12, 32), (1, 13, 4096), (2, 14, 8208), (0, 15, 64), (8, 16, 32768), (16, 17, 65536), (36, 18, 147456)] (by kernel_rfl) (by kernel_rfl) (by kernel_rfl) rfl (by kernel_rfl) (by kernel_rfl) (fun _ _ d _ _ h => by cases d <;> exact h) ?_
      repeat (first | (refine seq_read (fun _ => True) (fun _ _ => trivial) _ (v := ?_) rfl rfl (by rfl) ?_ ?_; rotate_left; (· intro w' hF; go_simp; (try with_reducible rfl)); simp only [Act.put, List.setIfInBounds_toArray, List.set_cons_zero, List.set_cons_succ]) | (refine seq_skip _ rfl rfl (by rfl) ?_; simp only [Act.put, List.setIfInBounds_toArray, List.set_cons_zero, List.set_cons_succ]))
      refine seq_do _ rfl rfl (by rfl) (fun K hK => ?_)
      go_simp
      refine (LOW.out _).mono ?_
      rintro e w1 ⟨A1, n1, c1, rfl, b1, e1⟩
      have hsz : B ≤ wr.heap.size := by
        rcases Nat.lt_or_ge (w.heap.size + 1 + 1) wr.heap.size with q | q
        · omega
        · have := h2.out; rw [Array.getElem?_eq_none q] at this; cases this
      have hsz' : w.heap.size + 1 + 1 < wr.heap.size := by
        rcases Nat.lt_or_ge (w.heap.size + 1 + 1) wr.heap.size with q | q
        · exact q
        · have := h2.out; rw [Array.getElem?_eq_none q] at this; cases this
      refine hK.out _ _ (e1.mono hsz) ?_
      clear hK K
      try simp only [Act.put, List.setIfInBounds_toArray, List.set_cons_zero, List.set_cons_succ]
      repeat (first | (refine seq_read (fun _ => True) (fun _ _ => trivial) _ (v := ?_) rfl rfl (by rfl) ?_ ?_; rotate_left; (· intro w' hF; go_simp; (try with_reducible rfl)); simp only [Act.put, List.setIfInBounds_toArray, List.set_cons_zero, List.set_cons_succ]) | (refine seq_skip _ rfl rfl (by rfl) ?_; simp only [Act.put, List.setIfInBounds_toArray, List.set_cons_zero, List.set_cons_succ]))
      refine seq_do _ rfl rfl (by rfl) (fun K hK => ?_)
      go_simp
      have hn1 : n1 = 4 := by have := b1.len; rw [lowL_len] at this; omega
      subst hn1
      refine upon_copy (cur := cellsOf xs) rfl ((e1.block (w.heap.size + 1 + 1) hsz').trans h2.out) b1 (by omega) (by rw [cellsOf_len]; omega) ?_
      intro W' h3 h4
      rw [cellsOf_splice] at h3
      go_simp
      refine hK.out _ _ (h4.out B (by omega)) ?_
      clear hK K
      refine seq_done ?_
      have e2 : Below B wr W' := Below.trans ((Below.refl B wr).drew) (Below.trans (e1.mono hsz) (h4.out B (by omega)))
      clear h4
      go_wp2_with fail
      refine ⟨⟨k + 1, splice xs (4 * k) (lowL (wd vs k) 4), by omega, by go_num, (splice_len (by rw [lowL_len]; omega)).trans hl, fun j hj => ?_, Below.trans he (e2.mono (by omega)), (e2.block _ (by omega)).trans h1.out, h3.out⟩, by simp [intOf]; omega⟩
      rw [bt_splice (by rw [lowL_len]; omega) (by rw [lowL_len]; omega)]
      by_cases q : j < 4 * k
      · rw [if_pos q]; exact hv.out j q
      · rw [if_neg q, bt_lowL (by omega), bt_bytesL (by omega), show j / 4 = k by omega, show j % 4 = j - 4 * k by omega]
    · obtain rfl : k = 8 := by omega
      have hvs := Lib.hid (list_bt (xs := xs) (ys := bytesL vs) (by rw [bytesL_len]; omega) (fun j hj => hv j (by omega)))
      have HS : (cellsOf xs).toArray.size = 32 := by simp [cellsOf_len, hl]
      have hone := cellsOf_one xs
      generalize hD : (cellsOf xs).toArray = D at h2 HS hone
      replace hD := Lib.hid hD
      replace h1 := Lib.hid h1
      replace h2 := Lib.hid h2
      clear hv
      go_wp2_with (first
        | refine wpList_load_row rfl 23 _ rfl (w.heap.size + 1 + 1) rfl 23 D (0, 0) _ h2.out rfl rfl (by rw [HS]; rfl) ?_
        | refine wpList_store_row rfl 23 _ _ rfl (w.heap.size + 1) D rfl rfl 23 _ h1.out (by rw [HS]; rfl) (by rw [HS]; rfl) hone ?_)
      (try simp only [Exit.inBlock, Exit.then])
      refine bodyPost_ret (results_cell_row rfl _ _ (w.heap.size + 1) 23 D (0, 0) _ rfl (setRow_heap _ _ _ _ _ _ h1.out) rfl rfl (by rw [HS]; rfl)) rfl ?_
      exact ⟨by rw [← hvs.out, hD.out], below_setRow he (by omega) _⟩
end Go.Proofs.YthdjojindijmnaaDoor
