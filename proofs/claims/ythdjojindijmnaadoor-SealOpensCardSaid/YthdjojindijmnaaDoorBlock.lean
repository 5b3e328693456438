import Derived.Test.YthdjojindijmnaaDoorStart
import Derived.Test.YthdjojindijmnaaDoorPkL
/-
  chacha.Block.
-/
namespace Go.Proofs.YthdjojindijmnaaDoor
open Go.ChangeShapes Go.WideShapes Go.ChangeAt Go.RowKit Go.Deep

def drN (vs : List Nat) : Nat → List Nat
  | 0 => vs
  | k + 1 => drL (drN vs k)
theorem drN_len {vs : List Nat} (h : vs.length = 16) : ∀ k, (drN vs k).length = 16
  | 0 => h
  | k + 1 => by rw [drN, drL_len]; exact drN_len h k
def sumW (us vs : List Nat) : List Nat := (List.range 16).map fun j => add32 (wd us j) (wd vs j)
theorem sumW_len (us vs : List Nat) : (sumW us vs).length = 16 := by simp [sumW]
theorem wd_sumW {us vs : List Nat} {j : Nat} (h : j < 16) : wd (sumW us vs) j = add32 (wd us j) (wd vs j) := by simp [wd, sumW, List.getD, h]
/-- The 64 bytes of a block. -/
def blockL (ks ns : List UInt8) (n : Nat) : List UInt8 := bytesL (sumW (drN (startL ks ns n) 10) (startL ks ns n))
theorem blockL_len (ks ns : List UInt8) (n : Nat) : (blockL ks ns n).length = 64 := by unfold blockL; rw [bytesL_len, sumW_len]
theorem start_lt {ks ns : List UInt8} {n : Nat} (hn : n < 4294967296) : ∀ i, i < 16 → wd (startL ks ns n) i < 4294967296 := fun j hj => by
  have h : j = 0 ∨ j = 1 ∨ j = 2 ∨ j = 3 ∨ j = 4 ∨ j = 5 ∨ j = 6 ∨ j = 7 ∨ j = 8 ∨ j = 9 ∨ j = 10 ∨ j = 11 ∨ j = 12 ∨ j = 13 ∨ j = 14 ∨ j = 15 := by omega
  rcases h with rfl | rfl | rfl | rfl | rfl | rfl | rfl | rfl | rfl | rfl | rfl | rfl | rfl | rfl | rfl | rfl
  · exact (by decide : (1634760805 : Nat) < 4294967296)
  · exact (by decide : (857760878 : Nat) < 4294967296)
  · exact (by decide : (2036477234 : Nat) < 4294967296)
  · exact (by decide : (1797285236 : Nat) < 4294967296)
  iterate 8 (· exact part4_lt _ _)
  · exact hn
  iterate 3 (· exact part4_lt _ _)

/-- The worlds of Block. -/
def Bw (w wr : World) (f g : Nat) (S V : List Nat) : Prop :=
  Ext w wr ∧ wr.heap[w.heap.size + 1 + 1]? = some (.cells (cellsOf (List.replicate 64 0)).toArray 79 (0, 0)) ∧ Wr wr f 89 S ∧ Arr wr g V ∧ w.heap.size + 1 + 1 < f ∧ f < g
section
variable {w wr wr' : World} {f g : Nat} {S V V' : List Nat}
theorem Bw.ext (h : Bw w wr f g S V) (e : Ext wr wr') : Bw w wr' f g S V := by
  obtain ⟨e0, a, b, c, d⟩ := h
  exact ⟨e0.trans e, (e.block _ (heap_lt a)).trans a, b.kept e b.lt, c.ext e, d⟩
theorem Bw.grow (h : Bw w wr f g S V) (e : wr.grownBy wr' (some g)) (a : Arr wr' g V') : Bw w wr' f g S V' := by
  obtain ⟨e0, h1, h2, h3, h4, h5⟩ := h
  have bl : ∀ i o, wr.heap[i]? = some o → i ≠ g → wr'.heap[i]? = some o := fun i o hi hne => (e.block i (heap_lt hi) (fun q => by injection q with q; exact hne q)).trans hi
  exact ⟨Below.trans e0 ⟨e.os, e.tape, e.output, e.size, fun i hi => e.block i (Nat.lt_of_lt_of_le hi e0.size) (fun q => by injection q with q; omega)⟩, bl _ _ h1 (by omega), bl _ _ h2 (by omega), a, h4, h5⟩
end

set_option maxRecDepth 100000 in
set_option maxHeartbeats 2000000 in
theorem block_calls {ks ns : List UInt8} {n : Nat} {w : World} (hk : ks.length = 32) (hn : ns.length = 12) (hN : n < 4294967296) :
    Calls Tryd.prog 55 #[.agg (cellsOf ks).toArray, .agg (cellsOf ns).toArray, .int .u32 (n : Int)] w fun e w' => e = .returned (.agg (cellsOf (blockL ks ns n)).toArray) ∧ Ext w w' := by
  have KS : (cellsOf ks).toArray.size = 32 := by simp [cellsOf_len, hk]
  have NS : (cellsOf ns).toArray.size = 12 := by simp [cellsOf_len, hn]
  have hal : ∀ w, (zeroValue 79).run Tryd.prog w = .ok (.agg (cellsOf (List.replicate 64 0)).toArray) w := fun _ => by kernel_rfl
  have hal2 : ∀ w, (zeroValue 89).run Tryd.prog w = .ok (.agg (wcells (List.replicate 16 0)).toArray) w := fun _ => by kernel_rfl
  have ZL := wcells_size (show (List.replicate 16 0).length = 16 from rfl)
  have START : Hid (∀ W, Calls Tryd.prog 69 #[.agg (cellsOf ks).toArray, .agg (cellsOf ns).toArray, .int .u32 (n : Int)] W fun e w' => e = .returned (.agg (wcells (startL ks ns n)).toArray) ∧ Ext W w') := fun W => start_calls hk hn hN
  have SL := startL_len ks ns n
  have SLT := Lib.hid (start_lt (ks := ks) (ns := ns) hN)
  have hBL : Hid (blockL ks ns n = bytesL (sumW (drN (startL ks ns n) 10) (startL ks ns n))) := rfl
  generalize startL ks ns n = S at *
  have SS := wcells_size SL
  have S1 := wcells_one S
  have q0 : Hid (∀ o2 o3, (((w.alloc (Obj.cells (cellsOf ks).toArray 23)).alloc o2).alloc o3).heap[w.heap.size]? = some (Obj.cells (cellsOf ks).toArray 23)) := fun o2 o3 => heap_alloc30 _ _ _ _
  have q1 : Hid (∀ o1 o3, (((w.alloc o1).alloc (Obj.cells (cellsOf ns).toArray 73)).alloc o3).heap[w.heap.size + 1]? = some (Obj.cells (cellsOf ns).toArray 73)) := fun o1 o3 => heap_alloc31 _ _ _ _
  have q2 : Hid (∀ o1 o2, (((w.alloc o1).alloc o2).alloc (Obj.cells (cellsOf (List.replicate 64 0)).toArray 79)).heap[w.heap.size + 1 + 1]? = some (Obj.cells (cellsOf (List.replicate 64 0)).toArray 79)) := fun o1 o2 => heap_alloc32 _ _ _ _
  generalize hZ : (wcells (List.replicate 16 0)).toArray = Z at *
  replace hZ := Lib.hid hZ
  generalize hO : List.replicate 64 (0 : UInt8) = O at *
  replace hO := Lib.hid hO
  go_enter Tryd.func55, Tryd.ntmps55
  go_wp2_with (first
    | (refine wpList_load_row rfl 23 _ rfl w.heap.size rfl 23 (cellsOf ks).toArray (0, 0) _ (by with_reducible exact q0.out _ _) rfl rfl (by rw [KS]; rfl) ?_; simp only [Act.put, List.setIfInBounds_toArray, List.set_cons_zero, List.set_cons_succ])
    | (refine wpList_load_row rfl 73 _ rfl (w.heap.size + 1) rfl 73 (cellsOf ns).toArray (0, 0) _ (by with_reducible exact q1.out _ _) rfl rfl (by rw [NS]; rfl) ?_; simp only [Act.put, List.setIfInBounds_toArray, List.set_cons_zero, List.set_cons_succ]))
  refine (START.out _).mono ?_
  rintro e w1 ⟨rfl, e1⟩
  have E1 : Hid (Ext w w1) := (((((Ext.refl w).alloc _).alloc _).alloc _).trans e1)
  have R1 := Lib.hid ((e1.block (w.heap.size + 1 + 1) (by rw [size_alloc, size_alloc, size_alloc]; omega)).trans (q2.out _ _))
  clear q0 q1 q2 e1 START
  go_upto_region 2 with (refine wpList_store_row rfl 89 _ _ rfl w1.heap.size (wcells S).toArray rfl rfl 89 _ (by with_reducible exact heap_alloc_new _ _) (by rw [SS]; rfl) (by rw [SS]; exact ZL) S1 ?_; simp only [Act.put, List.setIfInBounds_toArray, List.set_cons_zero, List.set_cons_succ])
  refine wp_gen (fun W => Ext w W ∧ W.heap[w.heap.size + 1 + 1]? = some (Obj.cells (cellsOf O).toArray 79 (0, 0)) ∧ Wr W w1.heap.size 89 S ∧ w.heap.size + 1 + 1 < w1.heap.size) ⟨E1.out.trans (below_setRow ((Ext.refl w1).alloc _) (Nat.le_refl _) _), ((below_setRow ((Ext.refl w1).alloc _) (Nat.le_refl _) _ : Ext w1 _).block _ (heap_lt R1.out)).trans R1.out, setRow_heap _ _ _ _ _ _ (heap_alloc_new _ _), heap_lt R1.out⟩ ?_
  rintro w2 ⟨E2, R2, F2, hf⟩
  replace E2 := Lib.hid E2
  replace R2 := Lib.hid R2
  unfold Wr at F2
  replace F2 := Lib.hid F2
  clear E1 R1
  obtain ⟨f, hf0⟩ : ∃ f, f = w1.heap.size := ⟨_, rfl⟩
  rw [← hf0] at F2 hf ⊢
  clear hf0
  go_upto_region 3 with (first
    | (refine wpList_load_row rfl 89 _ rfl f rfl 89 (wcells S).toArray (0, 0) _ F2.out rfl rfl (by rw [SS]; rfl) ?_; simp only [Act.put, List.setIfInBounds_toArray, List.set_cons_zero, List.set_cons_succ])
    | (refine wpList_store_row rfl 89 _ _ rfl w2.heap.size (wcells S).toArray rfl rfl 89 _ (by with_reducible exact heap_alloc_new _ _) (by rw [SS]; rfl) (by rw [SS]; exact ZL) S1 ?_; simp only [Act.put, List.setIfInBounds_toArray, List.set_cons_zero, List.set_cons_succ]))
  refine wp_gen (fun W => Bw w W f w2.heap.size S S) ⟨E2.out.trans (below_setRow ((Ext.refl w2).alloc _) (Nat.le_refl _) _), ?_, ?_, Wr.arr (t := 89) (setRow_heap _ _ _ _ _ _ (heap_alloc_new _ _)) (fun i hi => SLT.out i (by omega)), hf, heap_lt F2.out⟩ ?_
  · rw [hO.out]
    exact ((below_setRow ((Ext.refl w2).alloc _) (Nat.le_refl _) _ : Ext w2 _).block _ (heap_lt R2.out)).trans R2.out
  · exact ((below_setRow ((Ext.refl w2).alloc _) (Nat.le_refl _) _ : Ext w2 _).block _ (heap_lt F2.out)).trans F2.out
  clear R2 F2
  rintro w3 B3
  obtain ⟨g, hg0⟩ : ∃ g, g = w2.heap.size := ⟨_, rfl⟩
  rw [← hg0] at B3 ⊢
  clear hg0 E2
  go_wp2_with fail
  go_loopw [16] (fun i wr => ∃ k : Nat, k ≤ 10 ∧ i = .int .i64 k ∧ Bw w wr f g S (drN S k)) (fun i _ => 10 - (intOf i).toNat)
  case atStart => exact ⟨0, Nat.zero_le _, rfl, B3⟩
  case round =>
    obtain ⟨k, hk10, rfl, BK⟩ := hrel
    clear B3
    by_cases hlt : k < 10
    · have DR := Lib.hid (dr_calls BK.2.2.2.1 (drN_len SL k))
      replace BK := Lib.hid BK
      go_wp2_with fail
      refine DR.out.mono ?_
      rintro e w4 ⟨rfl, A4, G4⟩
      go_wp2_with fail
      exact ⟨⟨k + 1, by omega, by go_num, BK.out.grow G4 A4⟩, by simp [intOf]; omega⟩
    · obtain rfl : k = 10 := by omega
      rw [show ((10 : Nat) : Int) = 10 from rfl]
      generalize hV : drN S 10 = V at *
      have VL : V.length = 16 := by rw [← hV]; exact drN_len SL 10
      replace hV := Lib.hid hV
      have VLT : Hid (∀ j, j < 16 → wd V j < 4294967296) := fun j hj => (BK.2.2.2.1.2 j (by omega)).2.2
      replace BK := Lib.hid BK
      go_upto_region 8 with (fail)
      refine wp_gen (fun W => Bw w W f g S V ∧ W.heap[wr.heap.size]? = some (.cells (cellsOf O).toArray 79 (0, 0)) ∧ g < wr.heap.size) ⟨BK.out.ext ((Ext.refl _).alloc _), heap_alloc_new _ _, BK.out.2.2.2.1.1⟩ ?_
      obtain ⟨o, ho0⟩ : ∃ o, o = wr.heap.size := ⟨_, rfl⟩
      rw [← ho0]
      clear ho0 BK
      rintro w5 ⟨B5, O5, hgo⟩
      have OL : O.length = 64 := by rw [← hO.out]; simp
      go_wp2_with fail
      go_loopw [20] (fun i wr => ∃ (k : Nat) (xs : List UInt8), k ≤ 16 ∧ i = .int .i64 k ∧ xs.length = 64 ∧ (∀ j, j < 4 * k → bt xs j = bt (bytesL (sumW V S)) j) ∧ Bw w wr f g S V ∧ wr.heap[o]? = some (.cells (cellsOf xs).toArray 79 (0, 0))) (fun i _ => 16 - (intOf i).toNat)
      case atStart => exact ⟨0, O, Nat.zero_le _, rfl, OL, fun j hj => absurd hj (by omega), B5, O5⟩
      case round =>
        obtain ⟨k, xs, hk16, rfl, hl, hv, BK, h2⟩ := hrel
        clear B5 O5
        by_cases hlt : k < 16
        · have hsl := fun w' : World => sliceFrom4 (w := w') (g := o) (k := k) (t := 79) rfl (fun _ => rfl) rfl (show 4 * k < 64 by omega)
          have a1 := VLT.out k hlt
          have a2 := SLT.out k hlt
          have m0 : (k : Int) < 16 := by omega
          have m1 : IntKind.i64.wrap (4 * (k : Int)) = 4 * (k : Int) := IntWalk.i64_in _ (by omega)
          have m2 : IntKind.u32.wrap ((wd V k : Int) + (wd S k : Int)) = (add32 (wd V k) (wd S k) : Int) := u32_add
          have al := add32_lt (wd V k) (wd S k)
          have m3 : IntKind.u64.wrap (add32 (wd V k) (wd S k) : Int) = (add32 (wd V k) (wd S k) : Int) := IntWalk.u64_in _ (by omega)
          have LOW := Lib.hid (fun w0 : World => low_calls (n := add32 (wd V k) (wd S k)) (m := 4) (many := 4) (w := w0) (by omega) (by omega) (by omega) (by omega) (by decide))
          have KEEP : Hid (∀ w', Below o wr w' → w'.cell? ⟨g, k, none⟩ = some (.int .u32 (wd V k : Int)) ∧ w'.cell? ⟨f, k, none⟩ = some (.int .u32 (wd S k : Int))) := fun w' e => ⟨(e.cell (p := ⟨g, k, none⟩) (by show g < o; omega)).trans (BK.2.2.2.1.fct (by omega)).1, (e.cell (p := ⟨f, k, none⟩) (by show f < o; have := BK.2.2.2.2.2; omega)).trans (BK.2.2.1.cell (by omega))⟩
          have osz : o < wr.heap.size := heap_lt h2
          replace h2 := Lib.hid h2
          replace hv := Lib.hid hv
          replace BK := Lib.hid BK
          go_wp2_with fail
          refine wp_region_seq (R := Below o) (Below.refl _) (fun _ _ _ => Below.trans) [0, 1, 2, 3, 4, 5, 6, 7, 8, 9, 10, 11, 12] [11, 12] [(0, 24, 2048), (1, 25, 16777216), (2, 26, 33555456), (0, 27, 2048), (8, 28, 134218240), (16, 29, 268435456), (0, 30, 2048), (64, 31, 1073742080), (128, 32, 2147483648), (288, 33, 4831838208), (512, 34, 8589934592), (1024, 35, 17179869184), (2052, 36, 34426847232)] (by kernel_rfl) (by kernel_rfl) (by kernel_rfl) rfl (by kernel_rfl) (by kernel_rfl) (fun _ _ d _ _ h => by cases d <;> exact h) ?_
          repeat (first | (refine seq_read _ (fun w' e => KEEP.out w' (Below.trans (Below.refl _ _).drew e)) _ (v := ?_) rfl rfl (by rfl) ?_ ?_; rotate_left; (· intro w' hF; go_simp; (try with_reducible rfl)); simp only [Act.put, List.setIfInBounds_toArray, List.set_cons_zero, List.set_cons_succ]) | (refine seq_skip _ rfl rfl (by rfl) ?_; simp only [Act.put, List.setIfInBounds_toArray, List.set_cons_zero, List.set_cons_succ]))
          refine seq_do _ rfl rfl (by rfl) (fun K hK => ?_)
          go_simp
          refine (LOW.out _).mono ?_
          rintro e w1 ⟨A1, n1, c1, rfl, b1, e1⟩
          refine hK.out _ _ (e1.mono (Nat.le_of_lt osz)) ?_
          clear hK K
          try simp only [Act.put, List.setIfInBounds_toArray, List.set_cons_zero, List.set_cons_succ]
          repeat (first | (refine seq_read (fun _ => True) (fun _ _ => trivial) _ (v := ?_) rfl rfl (by rfl) ?_ ?_; rotate_left; (· intro w' hF; go_simp; (try with_reducible rfl)); simp only [Act.put, List.setIfInBounds_toArray, List.set_cons_zero, List.set_cons_succ]) | (refine seq_skip _ rfl rfl (by rfl) ?_; simp only [Act.put, List.setIfInBounds_toArray, List.set_cons_zero, List.set_cons_succ]))
          refine seq_do _ rfl rfl (by rfl) (fun K hK => ?_)
          go_simp
          have hn1 : n1 = 4 := by have := b1.len; rw [lowL_len] at this; omega
          subst hn1
          refine upon_copy (cur := cellsOf xs) rfl ((e1.block o osz).trans h2.out) b1 (by omega) (by rw [cellsOf_len]; omega) ?_
          intro W' h3 h4
          rw [cellsOf_splice] at h3
          go_simp
          refine hK.out _ _ (h4.out o (Nat.le_refl _)) ?_
          clear hK K
          refine seq_done ?_
          have e2 : Below o wr W' := Below.trans ((Below.refl o wr).drew) (Below.trans (e1.mono (Nat.le_of_lt osz)) (h4.out o (Nat.le_refl _)))
          have B6 : Bw w W' f g S V := by
            obtain ⟨x1, x2, x3, x4, x5, x6⟩ := BK.out
            refine ⟨Below.trans x1 (e2.mono (by omega)), (e2.block _ (by omega)).trans x2, (e2.block _ (by omega)).trans x3, ⟨Nat.lt_of_lt_of_le x4.1 e2.size, fun i hi => ?_⟩, x5, x6⟩
            obtain ⟨y1, y2, y3⟩ := x4.2 i hi
            exact ⟨(e2.cell (p := ⟨g, i, none⟩) hgo).trans y1, (e2.frozen (p := ⟨g, i, none⟩) hgo).trans y2, y3⟩
          clear h4 m0 m1 m2 m3 hsl KEEP
          go_wp2_with fail
          refine ⟨⟨k + 1, splice xs (4 * k) (lowL (add32 (wd V k) (wd S k)) 4), by omega, by go_num, (splice_len (by rw [lowL_len]; omega)).trans hl, fun j hj => ?_, B6, h3.out⟩, by simp [intOf]; omega⟩
          rw [bt_splice (by rw [lowL_len]; omega) (by rw [lowL_len]; omega)]
          by_cases q : j < 4 * k
          · rw [if_pos q]; exact hv.out j q
          · rw [if_neg q, bt_lowL (by omega), bt_bytesL (by rw [sumW_len]; omega), show j / 4 = k by omega, show j % 4 = j - 4 * k by omega, wd_sumW hlt]
        · obtain rfl : k = 16 := by omega
          have hvs := Lib.hid (list_bt (xs := xs) (ys := bytesL (sumW V S)) (by rw [bytesL_len, sumW_len]; omega) (fun j hj => hv j (by omega)))
          have HS : (cellsOf xs).toArray.size = 64 := by simp [cellsOf_len, hl]
          have OS : (cellsOf O).toArray.size = 64 := by simp [cellsOf_len, OL]
          have hone := cellsOf_one xs
          have h1 := BK.2.1
          rw [hO.out] at h1
          have he := BK.1
          generalize hD : (cellsOf xs).toArray = D at h2 HS hone
          replace hD := Lib.hid hD
          replace h1 := Lib.hid h1
          replace h2 := Lib.hid h2
          clear hv BK
          go_wp2_with (first
            | (refine wpList_load_row rfl 79 _ rfl o rfl 79 D (0, 0) _ h2.out rfl rfl (by rw [HS]; rfl) ?_; simp only [Act.put, List.setIfInBounds_toArray, List.set_cons_zero, List.set_cons_succ])
            | (refine wpList_store_row rfl 79 _ _ rfl (w.heap.size + 1 + 1) D rfl rfl 79 _ h1.out (by rw [HS]; rfl) (by rw [HS]; exact OS) hone ?_; simp only [Act.put, List.setIfInBounds_toArray, List.set_cons_zero, List.set_cons_succ]))
          (try simp only [Exit.inBlock, Exit.then])
          refine bodyPost_ret (results_cell_row rfl _ _ (w.heap.size + 1 + 1) 79 D (0, 0) _ rfl (setRow_heap _ _ _ _ _ _ h1.out) rfl rfl (by rw [HS]; rfl)) rfl ?_
          exact ⟨by rw [hBL.out, ← hvs.out, hD.out], below_setRow he (by omega) _⟩
end Go.Proofs.YthdjojindijmnaaDoor
