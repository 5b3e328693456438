import Derived.Test.YtfhafednnnfmbaaDoorPkS
import Derived.Test.YtfhafednnnfmbaaDoorComp
import Derived.Test.YtfhafednnnfmbaaDoorMx
section
/-
  agree.Bundle.
-/
namespace Go.Proofs.YtfhafednnnfmbaaDoor
open Go.ChangeShapes Go.WideShapes Go.ChangeAt Go.RowKit Go.Deep
set_option maxRecDepth 100000

def bunL (a2 b2 c2 : List UInt8) (h : Bool) : List UInt8 := a2 ++ (b2 ++ (if h then c2 else List.replicate 32 0))
theorem bunL_len {a2 b2 c2 : List UInt8} {h : Bool} (ha : a2.length = 32) (hb : b2.length = 32) (hc : c2.length = 32) : (bunL a2 b2 c2 h).length = 96 := by cases h <;> simp [bunL, ha, hb, hc]
set_option maxHeartbeats 4000000 in
theorem bundle_calls {w : World} {a1 a2 b1 b2 c1 c2 : List UInt8} {h : Bool} (la1 : a1.length = 32) (la2 : a2.length = 32) (lb1 : b1.length = 32) (lb2 : b2.length = 32) (lc1 : c1.length = 32) (lc2 : c2.length = 32) :
    Calls Tryd.prog 12 #[.agg (bbC ((a1 ++ a2) ++ ((b1 ++ b2) ++ (c1 ++ c2))) h).toArray] w fun e w' => e = .returned (.agg (bbC (bunL a2 b2 c2 h) h).toArray) ∧ Ext w w' := by
  have BL := Lib.hid (bundle3 (h := h) la2 lb2)
  have hal := bundle_alloc
  have LB : Hid (∀ b, (bbC (bunL a2 b2 c2 b) b).length = 97) := fun b => by rw [bbC_len, bunL_len la2 lb2 lc2]
  have OB : Hid (∀ xs b, (bbC xs b).toArray.all (·.oneCell') = true) := bbC_one
  have LZ : (bbC (List.replicate 96 0) false).length = 97 := by rw [bbC_len]; simp
  have LY : (bbC (a2 ++ (b2 ++ List.replicate 32 0)) h).length = 97 := by rw [bbC_len]; simp [la2, lb2]
  have FH : Hid (∀ _ : Unit, bbC (bunL a2 b2 c2 false) false = bbC (a2 ++ (b2 ++ List.replicate 32 0)) false) := fun _ => rfl
  have TH : Hid (∀ _ : Unit, bbC (bunL a2 b2 c2 true) true = (cellsOf a2 ++ cellsOf b2) ++ (cellsOf c2 ++ [.bool true])) := fun _ => by simp [bunL, bbC, cellsOf_app]
  have YS : Hid (∀ _ : Unit, bbC (a2 ++ (b2 ++ List.replicate 32 0)) true = (cellsOf a2 ++ cellsOf b2) ++ (cellsOf (List.replicate 32 0) ++ [.bool true])) := fun _ => by simp [bbC, cellsOf_app]
  have C_a2 : (cellsOf a2).length = 32 := by rw [cellsOf_len, la2]
  have C_b2 : (cellsOf b2).length = 32 := by rw [cellsOf_len, lb2]
  have C_c2 : (cellsOf c2).length = 32 := by rw [cellsOf_len, lc2]
  have C_z : (cellsOf (List.replicate 32 0)).length = 32 := by rw [cellsOf_len]; rfl
  have S_c2 : (cellsOf c2).toArray.size = 32 := by simp [cellsOf_len, lc2]
  have O_c2 := cellsOf_one c2
  have WO : Hid (∀ _ : Unit, bbC ((a1 ++ a2) ++ ((b1 ++ b2) ++ (c1 ++ c2))) h = cellsOf a1 ++ (cellsOf a2 ++ (cellsOf b1 ++ (cellsOf b2 ++ (cellsOf c1 ++ (cellsOf c2 ++ [.bool h])))))) := fun _ => by simp [bbC, cellsOf_app]
  generalize hzz : bbC (List.replicate 96 0) false = zz at *
  generalize hww : bbC ((a1 ++ a2) ++ ((b1 ++ b2) ++ (c1 ++ c2))) h = ow at *
  clear hww
  replace hzz := Lib.hid (fun _ : Unit => hzz)
  have B0 : Hid (∀ s', Ext ((w.alloc (Obj.cells ow.toArray 34)).alloc (Obj.cells zz.toArray 27)) s' → Cb s' w.heap.size 34 ow ∧ Cb s' (w.heap.size + 1) 27 zz ∧ Ext w s') := fun s' e =>
    ⟨Cb.ext (heap_alloc1 _ _ _) e, Cb.ext (heap_alloc2 _ _ _) e, (((Ext.refl w).alloc _).alloc _).trans e⟩
  go_enter Tryd.func12, Tryd.ntmps12
  go_upto_region 1 with fail
  refine wp_gen (fun W => ∀ s', Ext W s' → Cb s' w.heap.size 34 ow ∧ Cb s' (w.heap.size + 1) 27 zz ∧ Ext w s') B0.out ?_
  clear B0
  rintro w0 P0
  replace P0 := Lib.hid P0
  have r0 := Lib.hid ((P0.out _ (Ext.refl _)).1.mid (off := 32) (p := cellsOf a1) (y := cellsOf a2) (q := cellsOf b1 ++ (cellsOf b2 ++ (cellsOf c1 ++ (cellsOf c2 ++ [.bool h])))) (by rw [WO.out ()]) (by simp [cellsOf_len, la1]))
  have r1 := Lib.hid ((P0.out _ (Ext.refl _)).1.mid (off := 96) (p := cellsOf a1 ++ (cellsOf a2 ++ cellsOf b1)) (y := cellsOf b2) (q := cellsOf c1 ++ (cellsOf c2 ++ [.bool h])) (by rw [WO.out ()]; simp) (by simp [cellsOf_len, la1, la2, lb1]))
  have r2 : Hid (∀ s', Ext w0 s' → (∀ j v, (cellsOf c2)[j]? = some v → s'.cell? ⟨w.heap.size, 160 + j, none⟩ = some v) ∧ s'.cell? ⟨w.heap.size, 192, none⟩ = some (.bool h)) := fun s' e => ⟨(P0.out s' e).1.mid (off := 160) (p := cellsOf a1 ++ (cellsOf a2 ++ (cellsOf b1 ++ (cellsOf b2 ++ cellsOf c1)))) (y := cellsOf c2) (q := [.bool h]) (by rw [WO.out ()]; simp) (by simp [cellsOf_len, la1, la2, lb1, lb2, lc1]),
    (P0.out s' e).1.cell (by rw [WO.out ()]; simp [List.getElem?_append_right, cellsOf_len, la1, la2, lb1, lb2, lc1, lc2])⟩
  have fl := (r2.out _ (Ext.refl _)).2
  have a1 : Hid ((w0.alloc (Obj.cells zz.toArray 27)).heap[w0.heap.size]? = some (.cells zz.toArray 27 (0, 0))) := heap_alloc_new _ _
  have E_ : Ext w0 ((w0.alloc (Obj.cells zz.toArray 27)).setRow w0.heap.size (bbC (a2 ++ (b2 ++ List.replicate 32 0)) h).toArray) := below_setRow ((Ext.refl w0).alloc _) (Nat.le_refl _) _
  have SZ : zz.toArray.size = 97 := by rw [List.size_toArray, LZ]
  have SY : (bbC (a2 ++ (b2 ++ List.replicate 32 0)) h).toArray.size = 97 := by rw [List.size_toArray, LY]
  go_upto_region 2 with (first
    | (refine wpList_load_mid rfl (g := w.heap.size) (off := 32) (ys := cellsOf a2) rfl rfl r0.out rfl rfl (by rw [C_a2]; rfl) ?_; simp only [Act.put, List.setIfInBounds_toArray, List.set_cons_zero, List.set_cons_succ])
    | (refine wpList_load_mid rfl (g := w.heap.size) (off := 96) (ys := cellsOf b2) rfl rfl r1.out rfl rfl (by rw [C_b2]; rfl) ?_; simp only [Act.put, List.setIfInBounds_toArray, List.set_cons_zero, List.set_cons_succ])
    | (refine wpList_build_as rfl _ _ rfl (bbC (a2 ++ (b2 ++ List.replicate 32 0)) h).toArray (by simp only [List.map_toArray, List.map_cons, List.map_nil]; exact BL.out) ?_; simp only [Act.put, List.setIfInBounds_toArray, List.set_cons_zero, List.set_cons_succ])
    | (refine wpList_store_row rfl 27 _ _ rfl w0.heap.size (bbC (a2 ++ (b2 ++ List.replicate 32 0)) h).toArray rfl rfl 27 _ a1.out (by rw [SY]; rfl) (by rw [SY, SZ]) (OB.out _ _) ?_; simp only [Act.put]))
  obtain ⟨g3, hg_⟩ : ∃ g, g = w0.heap.size := ⟨_, rfl⟩
  have lt3 : w.heap.size + 1 < g3 := by rw [hg_]; exact heap_lt (P0.out _ (Ext.refl _)).2.1
  refine wp_gen (fun W => Cb W g3 27 (bbC (a2 ++ (b2 ++ List.replicate 32 0)) h) ∧ Ext w0 W) ⟨by rw [hg_]; exact setRow_heap _ _ _ _ _ _ a1.out, E_⟩ ?_
  rw [← hg_]
  clear hg_ a1 E_ r0 r1 fl BL
  rintro w1 ⟨k3, x1⟩
  obtain ⟨r3, fl⟩ := r2.out _ x1
  replace r3 := Lib.hid r3
  obtain ⟨_, p2, p3⟩ := P0.out _ x1
  clear P0 r2 x1
  cases h with
  | false =>
    replace k3 := Lib.hid k3
    replace p2 := Lib.hid p2
    replace p3 := Lib.hid p3
    go_wp2_with (first
      | (refine wpList_load_row rfl 27 _ rfl g3 rfl 27 (bbC (a2 ++ (b2 ++ List.replicate 32 0)) false).toArray (0, 0) _ k3.out rfl rfl (by rw [SY]; rfl) ?_; simp only [Act.put, List.setIfInBounds_toArray, List.set_cons_zero, List.set_cons_succ])
      | (refine wpList_store_row rfl 27 _ _ rfl (w.heap.size + 1) (bbC (a2 ++ (b2 ++ List.replicate 32 0)) false).toArray rfl rfl 27 _ p2.out (by rw [SY]; rfl) (by rw [SY, SZ]) (OB.out _ _) ?_; simp only [Act.put]))
    (try simp only [Exit.inBlock, Exit.then])
    refine bodyPost_ret (results_cell_row rfl _ _ (w.heap.size + 1) 27 (bbC (a2 ++ (b2 ++ List.replicate 32 0)) false).toArray (0, 0) _ rfl (setRow_heap _ _ _ _ _ _ p2.out) rfl rfl (by rw [SY]; rfl)) rfl ?_
    exact ⟨by rw [FH.out ()], below_setRow p3.out (by omega) _⟩
  | true =>
    have k4 : Hid (Cb (w1.setCells g3 64 (cellsOf c2)) g3 27 (bbC (bunL a2 b2 c2 true) true)) := by
      unfold Hid
      rw [TH.out ()]
      exact k3.put (YS.out ()) (by simp [cellsOf_len, la2, lb2]) (by rw [C_z, C_c2])
    have gr : w1.grownBy (w1.setCells g3 64 (cellsOf c2)) (some g3) := grown_setCells
    have p4 : Hid (Cb (w1.setCells g3 64 (cellsOf c2)) (w.heap.size + 1) 27 zz ∧ Ext w (w1.setCells g3 64 (cellsOf c2))) := ⟨(gr.block _ (heap_lt p2) (fun q => by have := Option.some.inj q; omega)).trans p2, Below.trans p3 ⟨gr.os, gr.tape, gr.output, gr.size, fun i hi => gr.block i (Nat.lt_of_lt_of_le hi p3.size) (fun q => by have := Option.some.inj q; omega)⟩⟩
    have th : Hid (w1.there g3 64 32) := k3.there (by rw [LY]; omega)
    have SB : (bbC (bunL a2 b2 c2 true) true).toArray.size = 97 := by rw [List.size_toArray, LB.out]
    have O_rr := Lib.hid (OB.out (bunL a2 b2 c2 true) true)
    clear k3 p2 p3 gr TH YS FH LB
    generalize hrr : bbC (bunL a2 b2 c2 true) true = rr at *
    replace hrr := Lib.hid (fun _ : Unit => hrr)
    go_upto_region 4 with (first
      | (refine wpList_load_mid rfl (g := w.heap.size) (off := 160) (ys := cellsOf c2) rfl rfl r3.out rfl rfl (by rw [C_c2]; rfl) ?_; simp only [Act.put, List.setIfInBounds_toArray, List.set_cons_zero, List.set_cons_succ])
      | (refine wpList_store_mid rfl 23 _ _ rfl g3 64 (cellsOf c2).toArray rfl rfl (by rw [S_c2]; exact th.out) (by rw [S_c2]; rfl) O_c2 ?_; simp only [Act.put]))
    refine wp_gen (fun W => Cb W g3 27 rr ∧ Cb W (w.heap.size + 1) 27 zz ∧ Ext w W) ⟨k4.out, p4.out⟩ ?_
    clear k4 p4 th r3
    rintro w2 ⟨k3, p2, p3⟩
    replace k3 := Lib.hid k3
    replace p2 := Lib.hid p2
    replace p3 := Lib.hid p3
    go_wp2_with (first
      | (refine wpList_load_row rfl 27 _ rfl g3 rfl 27 rr.toArray (0, 0) _ k3.out rfl rfl (by rw [SB]; rfl) ?_; simp only [Act.put, List.setIfInBounds_toArray, List.set_cons_zero, List.set_cons_succ])
      | (refine wpList_store_row rfl 27 _ _ rfl (w.heap.size + 1) rr.toArray rfl rfl 27 _ p2.out (by rw [SB]; rfl) (by rw [SB, SZ]) O_rr.out ?_; simp only [Act.put]))
    (try simp only [Exit.inBlock, Exit.then])
    refine bodyPost_ret (results_cell_row rfl _ _ (w.heap.size + 1) 27 rr.toArray (0, 0) _ rfl (setRow_heap _ _ _ _ _ _ p2.out) rfl rfl (by rw [SB]; rfl)) rfl ?_
    exact ⟨by rw [hrr.out ()], below_setRow p3.out (by omega) _⟩
end Go.Proofs.YtfhafednnnfmbaaDoor
end

section
/-
  The document's rows of the order (layer 2).
-/
namespace Go.Proofs.YtfhafednnnfmbaaDoor
open Go.ChangeShapes Go.WideShapes Go.ChangeAt Go.RowKit Go.Deep

def allocs (w : World) (l : List Obj) : World := l.foldl World.alloc w
theorem allocs_ext : ∀ (l : List Obj) (w : World), Ext w (allocs w l)
  | [], w => Ext.refl w
  | o :: l, w => ((Ext.refl w).alloc o).trans (allocs_ext l (w.alloc o))
theorem allocs_at : ∀ (l : List Obj) (w : World) (j : Nat) (o : Obj), l[j]? = some o → (allocs w l).heap[w.heap.size + j]? = some o
  | [], w, j, o, h => by simp at h
  | p :: l, w, 0, o, h => by
    simp at h
    subst h
    exact ((allocs_ext l (w.alloc p)).block w.heap.size (by rw [size_alloc]; omega)).trans (heap_alloc_new w p)
  | p :: l, w, j + 1, o, h => by
    have := allocs_at l (w.alloc p) j o (by simpa using h)
    rw [size_alloc] at this
    rw [show w.heap.size + (j + 1) = w.heap.size + 1 + j by omega]
    exact this
def rowI (k : Nat) : Array Value := ((List.range 16).map fun j => Value.int .i64 (pm k j : Int)).toArray
def rowsI (s : Nat) : Array Value := ((List.range 10).map fun k => Value.slice (some ⟨s + k, 0, none⟩) 16 16).toArray
/-- The order's rows, in blocks from s on, and the block that lists them. -/
def Rws (w : World) (s : Nat) : Prop := s + 10 < w.heap.size ∧ ∀ k, k < 10 → w.cell? ⟨s + 10, k, none⟩ = some (.slice (some ⟨s + k, 0, none⟩) 16 16) ∧ ∀ j, j < 16 → w.cell? ⟨s + k, j, none⟩ = some (.int .i64 (pm k j : Int))
def rowsO (s : Nat) : List Obj := ((List.range 10).map fun k => Obj.cells (rowI k) 3) ++ [Obj.cells (rowsI s) 102]
theorem rows_of (w : World) : Rws (allocs w (rowsO w.heap.size)) w.heap.size := by
  have hl : ∀ k, k < 10 → (rowsO w.heap.size)[k]? = some (Obj.cells (rowI k) 3) := fun k hk => by
    unfold rowsO
    rw [List.getElem?_append_left (by simp; omega)]
    simp [hk]
  have h10 : (rowsO w.heap.size)[10]? = some (Obj.cells (rowsI w.heap.size) 102) := by
    unfold rowsO
    rw [List.getElem?_append_right (by simp)]
    simp
  have hb := allocs_at _ w 10 _ h10
  refine ⟨heap_lt hb, fun k hk => ⟨?_, fun j hj => ?_⟩⟩
  · rw [cell_of_row _ _ _ _ _ (0, 0) hb]
    simp [rowsI, hk]
  · rw [cell_of_row _ _ _ _ _ (0, 0) (allocs_at _ w k _ (hl k hk))]
    simp [rowI, hj]
theorem Rws.ext {w w' : World} {s : Nat} (h : Rws w s) (e : Ext w w') : Rws w' s :=
  ⟨Nat.lt_of_lt_of_le h.1 e.size, fun k hk => ⟨(e.cell (p := ⟨s + 10, k, none⟩) h.1).trans (h.2 k hk).1, fun j hj => (e.cell (p := ⟨s + k, j, none⟩) (show s + k < _ by have := h.1; omega)).trans ((h.2 k hk).2 j hj)⟩⟩

set_option maxRecDepth 100000 in
set_option maxHeartbeats 1000000 in
theorem refRows_calls {w : World} :
    Calls Tryd.prog 60 #[] w fun e w' => ∃ s, e = .returned (.slice (some ⟨s + 10, 0, none⟩) 10 10) ∧ w.heap.size ≤ s ∧ Rws w' s ∧ Ext w w' := by
  go_enter Tryd.func60, Tryd.ntmps60
  go_wp2_with fail
  go_ret
  exact ⟨w.heap.size, rfl, Nat.le_refl _, rows_of w, allocs_ext (rowsO w.heap.size) w⟩
end Go.Proofs.YtfhafednnnfmbaaDoor
end

section
/-
  The document's TURN.
-/
namespace Go.Proofs.YtfhafednnnfmbaaDoor
open Go.ChangeShapes Go.WideShapes Go.ChangeAt Go.RowKit Go.Deep

set_option maxHeartbeats 1000000 in
theorem refTurn_calls {n x : Nat} {w : World} (hx : x < 4294967296) (h1 : 1 ≤ n) (h2 : n ≤ 31) :
    Calls Tryd.prog 71 #[.int .u32 (x : Int), .int .i64 (n : Int)] w fun e w' => e = .returned (.int .u32 (rotr n x : Int)) ∧ ∃ k, w' = w.drewN k := by
  have hs : ∃ s : Nat, 32 - n = s ∧ s ≤ 31 ∧ n = 32 - s ∧ 1 ≤ s := ⟨32 - n, rfl, by omega, by omega, by omega⟩
  obtain ⟨s, e1, e2, e3, e4⟩ := hs
  have hf := Lib.hid (rotr_int (n := n) (by omega) hx)
  rw [e1] at hf
  have hd : IntKind.i64.wrap (32 - (n : Int)) = (s : Int) := by rw [IntWalk.i64_in _ (by omega)]; omega
  have hor : ∀ a b, a < 4294967296 → b < 4294967296 → bits .or .u32 ((b : Nat) : Int) ((a : Nat) : Int) = bits .or .u32 ((a : Nat) : Int) ((b : Nat) : Int) := fun a b ha hb => by
    rw [u32_or_nat _ _ hb ha, u32_or_nat _ _ ha hb, Nat.or_comm]
  have HO := Lib.hid hor
  clear hor
  have q1 : Op.shift .shr .u32 (x : Int) .i64 (n : Int) = pure (.int .u32 ((x : Int) / 2 ^ n)) := by
    have := shift_shr .u32 .i64 (x : Int) (n : Int) (by omega) (by show (n : Int) ≤ 32; omega)
    rw [this]
    simp
  have q2 : Op.shift .shl .u32 (x : Int) .i64 (s : Int) = pure (.int .u32 ((x : Int) * 2 ^ s % 4294967296)) := by
    have := shift_shl .u32 .i64 (x : Int) (s : Int) (by omega) (by show (s : Int) ≤ 32; omega)
    rw [this, IntKind.wrap_u32]
    simp
  clear e1 e3
  go_enter Tryd.func71, Tryd.ntmps71
  go_wp2_with fail
  refine wp_region_seq (R := Ext) Ext.refl (fun _ _ _ => Ext.trans) [0, 1, 2, 3, 4, 5, 6, 7, 8] [] [(0, 6, 2), (0, 7, 4), (3, 8, 192), (0, 9, 2), (0, 10, 4), (16, 11, 1024), (40, 12, 2560), (68, 13, 4352), (255, 5, 8192)] (by kernel_rfl) (by kernel_rfl) (by kernel_rfl) rfl (by kernel_rfl) (by kernel_rfl) (fun _ _ d _ _ h => by cases d <;> exact h) ?_
  repeat (first | (refine seq_read (fun _ => True) (fun _ _ => trivial) _ (v := ?_) rfl rfl (by rfl) ?_ ?_; rotate_left; (· intro w' hF; go_simp; (try with_reducible rfl)); simp only [Act.put, List.setIfInBounds_toArray, List.set_cons_zero, List.set_cons_succ]) | (refine seq_skip _ rfl rfl (by rfl) ?_; simp only [Act.put, List.setIfInBounds_toArray, List.set_cons_zero, List.set_cons_succ]))
  refine seq_done ?_
  go_wp2_with fail
  go_ret
  refine ⟨congrArg (fun v => Ending.returned (Value.int .u32 v)) (Eq.trans ?_ hf.out), 1, rfl⟩
  have p1 : (x : Int) / 2 ^ n = ((x / 2 ^ n : Nat) : Int) := by simp
  have p2 : (x : Int) * 2 ^ s % 4294967296 = ((x * 2 ^ s % 4294967296 : Nat) : Int) := by simp
  rw [p1, p2]
  exact HO.out (x * 2 ^ s % 4294967296) (x / 2 ^ n) (Nat.mod_lt _ (by decide)) (Nat.lt_of_le_of_lt (Nat.div_le_self _ _) hx)
end Go.Proofs.YtfhafednnnfmbaaDoor
end
