/-
  The document's Unpack (layer 14).
-/
import Derived.Test.YthdjojindijmnaaDoorUnpackE
import Derived.Test.YthdjojindijmnaaDoorRefMac
namespace Go.Proofs.YthdjojindijmnaaDoor
open Go.ChangeShapes Go.WideShapes Go.ChangeAt Go.RowKit Go.Deep
set_option maxRecDepth 100000

set_option maxHeartbeats 1000000 in
theorem refUnp_err {A : Option Addr} {n c : Nat} {bs : List UInt8} {w : World} (h : Bs w A n c bs) (hn : n < 32) :
    Calls Tryd.prog 20 #[.slice A n c] w (RetUn (List.replicate 32 0) [] 3 w) := by
  have c1 := h.le
  have c2 := h.cap
  have hal := key_alloc
  have hs := zeros32_size
  have ho := zeros32_one
  have hc := Lib.hid zeros32_cells
  have hz : Hid (((w.alloc (Obj.cells zeros32 23)).alloc (Obj.cells zeros32 23)).heap[w.heap.size]? = some (Obj.cells zeros32 23)) := heap_alloc1 _ _ _
  have hy : Hid (((w.alloc (Obj.cells zeros32 23)).alloc (Obj.cells zeros32 23)).heap[w.heap.size + 1]? = some (Obj.cells zeros32 23)) := heap_alloc2 _ _ _
  have he : Hid (∀ C, Ext w (((w.alloc (Obj.cells zeros32 23)).alloc (Obj.cells zeros32 23)).setRow w.heap.size C)) := fun C => below_setRow (((Ext.refl w).alloc _).alloc _) (Nat.le_refl _) _
  unfold RetUn
  rw [hc.out]
  clear hc
  generalize zeros32 = Z at *
  have q1' : decide ((n : Int) < 32) = true := decide_eq_true (by omega)
  clear h
  go_enter Tryd.func20, Tryd.ntmps20
  go_wp2_with (first
    | (refine wpList_exec rfl (exec_load_row rfl rfl hy.out rfl rfl (by rw [hs]; rfl)) ?_; simp only [Act.put, List.setIfInBounds_toArray, List.set_cons_zero, List.set_cons_succ])
    | refine wpList_store_row rfl 23 _ _ rfl w.heap.size Z rfl rfl 23 _ (by with_reducible exact hz.out) (by rw [hs]; rfl) rfl ho ?_)
  (try simp only [Exit.inBlock, Exit.then])
  refine bodyPost_ret (v := .tuple #[.agg Z, .slice none 0 0, .int .i64 3]) ?_ rfl ?_
  · exact results_ctt rfl _ _ w.heap.size 23 Z (0, 0) _ _ _ rfl rfl rfl (setRow_heap _ _ _ _ _ _ hz.out) rfl rfl (by rw [hs]; rfl)
  · exact ⟨none, 0, 0, rfl, Bs.nil _, he.out _⟩

/-- The first j bytes, then noughts. -/
def fillK (bs : List UInt8) (j : Nat) : List UInt8 := bs.take j ++ List.replicate (32 - j) 0
theorem fillK_set {bs : List UInt8} {j : Nat} (h : j < 32) (hl : 32 ≤ bs.length) : (fillK bs j).set j (UInt8.ofNat (bt bs j)) = fillK bs (j + 1) := by
  unfold fillK
  have e : (bs.take j).length = j := by rw [List.length_take]; omega
  rw [List.set_append_right _ _ (by omega), e, Nat.sub_self, show 32 - j = (32 - (j + 1)) + 1 by omega, List.replicate_succ, List.set_cons_zero]
  rw [List.take_succ_eq_append_getElem (by omega), List.append_assoc]
  congr 1
  rw [List.singleton_append]
  congr 1
  simp [bt, List.getD, show j < bs.length by omega]
theorem fillK_len {bs : List UInt8} {j : Nat} (h : j ≤ 32) (hl : 32 ≤ bs.length) : (fillK bs j).length = 32 := by
  unfold fillK
  rw [List.length_append, List.length_take, List.length_replicate]; omega

set_option maxHeartbeats 2000000 in
theorem refUnp_calls {A : Option Addr} {n c : Nat} {bs : List UInt8} {w : World} (h : Bs w A n c bs) (hn : 32 ≤ n) (hm : n ≤ 100000000) :
    Calls Tryd.prog 20 #[.slice A n c] w (RetUn (bs.take 32) (bs.drop 32) 0 w) := by
  have c1 := h.le
  have c2 := h.cap
  have hl := h.len
  have q1' : decide ((n : Int) < 32) = false := decide_eq_false (by omega)
  have hal := key_alloc
  have hz0 := zeros32_size
  have hc := Lib.hid zeros32_cells
  have B0 : Hid (Ky ((w.alloc (Obj.cells zeros32 23)).alloc (Obj.cells zeros32 23)) (w.heap.size + 1) (fillK bs 0) ∧ ((w.alloc (Obj.cells zeros32 23)).alloc (Obj.cells zeros32 23)).heap[w.heap.size]? = some (.cells zeros32 23 (0, 0)) ∧ Ext w ((w.alloc (Obj.cells zeros32 23)).alloc (Obj.cells zeros32 23))) := by
    refine ⟨⟨?_, fillK_len (by omega) (by omega)⟩, heap_alloc1 _ _ _, ((Ext.refl w).alloc _).alloc _⟩
    rw [show fillK bs 0 = List.replicate 32 0 from by simp [fillK], hc.out]
    exact heap_alloc2 _ _ _
  clear hc
  generalize zeros32 = Z at *
  replace h := Lib.hid h
  go_enter Tryd.func20, Tryd.ntmps20
  go_upto_region 4 with fail
  refine wp_gen (fun W => Ky W (w.heap.size + 1) (fillK bs 0) ∧ W.heap[w.heap.size]? = some (.cells Z 23 (0, 0)) ∧ Ext w W) B0.out ?_
  clear B0
  rintro w0 ⟨b0, b1, e0⟩
  have b0 := Lib.hid b0
  have b1 := Lib.hid b1
  have e0 := Lib.hid e0
  go_wp2_with fail
  go_loopw [6] (fun v wr => ∃ j : Nat, j ≤ 32 ∧ v = .int .i64 (j : Int) ∧ Ky wr (w.heap.size + 1) (fillK bs j) ∧ wr.heap[w.heap.size]? = some (.cells Z 23 (0, 0)) ∧ Ext w wr) (fun v _ => 32 - (intOf v).toNat)
  case atStart => exact ⟨0, Nat.zero_le _, rfl, b0.out, b1.out, e0.out⟩
  case round =>
    obtain ⟨j, hj, rfl, ky, kz, hE⟩ := hrel
    clear b0 b1 e0
    by_cases hlt : j < 32
    · have t1 : (j : Int) < 32 := by omega
      have t2 : (j : Int) < (n : Int) := by omega
      obtain ⟨b, off, rfl, hb, hcl⟩ := (h.out.ext hE).pos (by omega)
      have cx := hcl j (by omega)
      have z1 := bt_lt bs j
      have fz := ky.frozen j
      have cy := ky.cell hlt
      have KY := Lib.hid (ky.setB (x := bt bs j) hlt z1)
      rw [fillK_set hlt (by omega)] at KY
      have KZ : Hid ((wr.setCell ⟨w.heap.size + 1, j, none⟩ (.int .u8 (bt bs j : Int))).heap[w.heap.size]? = some (.cells Z 23 (0, 0))) := (Below.heap_setCell _ _ _ _ (show w.heap.size ≠ w.heap.size + 1 by omega)).trans kz
      have KE : Hid (Ext w (wr.setCell ⟨w.heap.size + 1, j, none⟩ (.int .u8 (bt bs j : Int)))) := hE.setCell (show w.heap.size ≤ w.heap.size + 1 by omega) _
      clear ky kz hE hcl hb
      go_wp2_with fail
      go_roundw
      case rel => exact ⟨j + 1, by omega, by go_num, KY.out, KZ.out, KE.out⟩
      case measure => simp [intOf]; omega
    · obtain rfl : j = 32 := by omega
      rw [show fillK bs 32 = bs.take 32 by simp [fillK]] at ky
      have h1 := h.out.ext hE
      have z1 := heap_lt ky.1
      have CUT := Lib.hid (h1.cut (k := 32) hn)
      have KS : (cellsOf (bs.take 32)).toArray.size = 32 := by simp [cellsOf_len, hl]; omega
      have K1 := cellsOf_one (bs.take 32)
      have R1 : Hid (∀ w', Two w.heap.size wr.heap.size wr w' → w'.heap[w.heap.size + 1]? = some (.cells (cellsOf (bs.take 32)).toArray 23 (0, 0))) := fun w' e => e.block ky.1 (by omega) (by omega)
      have r0 := Lib.hid kz
      have e1 := Lib.hid hE
      clear h1 ky kz hE hlt
      generalize bs.take 32 = hd at *
      generalize bs.drop 32 = tl at *
      go_wp2_with fail
      refine wp_region_seq (R := Two w.heap.size wr.heap.size) (Two.refl _ _) (fun _ _ _ => Two.trans) [0, 2, 3, 1, 4, 5, 6, 7] [1, 4, 5] [(0, 22, 64), (0, 23, 0), (0, 24, 2), (4, 25, 16777216), (10, 26, 41943040), (17, 0, 4194312), (63, 4, 67108864), (127, 5, 0)] (by kernel_rfl) (by kernel_rfl) (by kernel_rfl) rfl (by kernel_rfl) (by kernel_rfl) (fun _ _ d _ _ h => by cases d <;> exact h) ?_
      refine seq_read (fun w' => w'.heap[(w.heap.size + 1)]? = some (.cells (cellsOf hd).toArray 23 (0, 0))) (fun w' e => R1.out w' ((Two.of_ext (Ext.refl _).drew).trans e)) _ (v := .agg (cellsOf hd).toArray) rfl rfl (by rfl) (fun w' hF => exec_load_row rfl rfl hF rfl rfl (by rw [KS]; rfl)) ?_
      simp only [Act.put, List.setIfInBounds_toArray, List.set_cons_zero, List.set_cons_succ]
      iterate 1 (first | (refine seq_read (fun _ => True) (fun _ _ => trivial) _ (v := ?_) rfl rfl (by rfl) ?_ ?_; rotate_left; (· intro w' hF; go_simp; (try with_reducible rfl)); simp only [Act.put, List.setIfInBounds_toArray, List.set_cons_zero, List.set_cons_succ]) | (refine seq_skip _ rfl rfl (by rfl) ?_; simp only [Act.put, List.setIfInBounds_toArray, List.set_cons_zero, List.set_cons_succ]))
      refine seq_read (fun _ => True) (fun _ _ => trivial) _ (v := .slice (if c = 32 then A else A.map (·.add 32)) (n - 32) (c - 32)) rfl rfl (by rfl) (fun w' _ => exec_from rfl rfl rfl hn c1) ?_
      simp only [Act.put, List.setIfInBounds_toArray, List.set_cons_zero, List.set_cons_succ]
      have CUT' := Lib.hid (CUT.out.ext (Ext.refl wr).drew)
      have r0' : Hid (wr.drew.heap[w.heap.size]? = some (.cells Z 23 (0, 0))) := r0.out
      have e1' : Hid (Ext w wr.drew) := e1.out.drew
      have zz : w.heap.size < wr.drew.heap.size := heap_lt r0'.out
      clear CUT r0 e1 R1
      rw [show wr.heap.size = wr.drew.heap.size from rfl]
      generalize wr.drew = W at *
      refine seq_do _ rfl rfl (by rfl) (fun K hK => ?_)
      go_simp
      refine hK.out _ _ (Two.of_ext ((Ext.refl W).alloc _)) ?_
      clear hK K
      try simp only [Act.put, List.setIfInBounds_toArray, List.set_cons_zero, List.set_cons_succ]
      have o0 := Lib.hid (Own.empty W W.heap.size (Nat.le_refl _))
      have CUT2 := Lib.hid (CUT'.out.ext ((Ext.refl W).alloc (Obj.cells #[] 5)))
      refine seq_do _ rfl rfl (by rfl) (fun K hK => ?_)
      refine wp_append_bs (B := W.heap.size) rfl rfl rfl o0.out CUT2.out (by omega) (by rw [size_alloc]; omega) ?_
      intro A3 c3 w3 o3 g3 b3
      have x3 : Ext W w3 := Below.trans ((Ext.refl W).alloc _) b3
      refine hK.out _ _ ⟨b3.os, b3.tape, b3.output, b3.size, fun i hi _ h2 => b3.block i (by rw [size_alloc] at hi; omega)⟩ ?_
      clear hK K
      try simp only [Act.put, List.setIfInBounds_toArray, List.set_cons_zero, List.set_cons_succ]
      have r3 := Lib.hid ((x3.block _ zz).trans r0'.out)
      have E3 : Hid (Ext w w3) := e1'.out.trans x3
      replace o3 := Lib.hid o3
      clear g3 b3 x3 CUT' CUT2 o0
      refine seq_do _ rfl rfl (by rfl) (fun K hK => ?_)
      refine wp_store_row _ _ _ rfl w.heap.size (cellsOf hd).toArray rfl rfl 23 Z r3.out (by rw [KS]; rfl) (by rw [KS]; exact hz0) K1 ?_
      refine hK.out _ _ (Two.row _ _) ?_
      clear hK K
      try simp only [Act.put, List.setIfInBounds_toArray, List.set_cons_zero, List.set_cons_succ]
      repeat (first | (refine seq_read (fun _ => True) (fun _ _ => trivial) _ (v := ?_) rfl rfl (by rfl) ?_ ?_; rotate_left; (· intro w' hF; go_simp; (try with_reducible rfl)); simp only [Act.put, List.setIfInBounds_toArray, List.set_cons_zero, List.set_cons_succ]) | (refine seq_skip _ rfl rfl (by rfl) ?_; simp only [Act.put, List.setIfInBounds_toArray, List.set_cons_zero, List.set_cons_succ]))
      refine seq_done ?_
      go_wp2_with fail
      all_goals
        (try simp only [Exit.inBlock, Exit.then])
        refine bodyPost_ret (v := .tuple #[.agg (cellsOf hd).toArray, .slice A3 (n - 32) c3, .int .i64 0]) ?_ rfl ?_
        · exact results_ctt rfl _ _ w.heap.size 23 (cellsOf hd).toArray (0, 0) _ _ _ rfl rfl rfl (setRow_heap _ _ _ _ _ _ r3.out) rfl rfl (by rw [KS]; rfl)
        · have hb := (o3.out.kept (gr_row w3 w.heap.size (cellsOf hd).toArray) (.inr (fun q => by have := o3.out.ge _ q; omega))).bs
          rw [Nat.zero_add, List.nil_append] at hb
          exact ⟨A3, n - 32, c3, rfl, hb, below_setRow E3.out (Nat.le_refl _) _⟩

theorem refUnpAll_calls {A : Option Addr} {n c : Nat} {bs : List UInt8} {w : World} (h : Bs w A n c bs) (hm : n ≤ 100000000) :
    Calls Tryd.prog 20 #[.slice A n c] w (RetUn (unK bs) (unT bs) (unE bs) w) := by
  have hl := h.len
  unfold unK unT unE
  by_cases q : n < 32
  · rw [if_pos (by omega), if_pos (by omega), if_pos (by omega)]
    exact refUnp_err h q
  · rw [if_neg (by omega), if_neg (by omega), if_neg (by omega)]
    exact refUnp_calls h (by omega) hm
end Go.Proofs.YthdjojindijmnaaDoor
