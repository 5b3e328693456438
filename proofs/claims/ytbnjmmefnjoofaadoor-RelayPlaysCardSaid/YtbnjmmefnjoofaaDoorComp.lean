import Derived.Test.YtbnjmmefnjoofaaDoorPkM
import Derived.Deep.DeepCutAuto
/-
  blake.compressed.
-/
namespace Go.Proofs.YtbnjmmefnjoofaaDoor
open Go.ChangeShapes Go.WideShapes Go.ChangeAt Go.RowKit Go.Deep

theorem heap_alloc40 (w : World) (o1 o2 o3 o4 : Obj) : ((((w.alloc o1).alloc o2).alloc o3).alloc o4).heap[w.heap.size]? = some o1 := by
  rw [Below.heap_alloc _ _ _ (by rw [size_alloc, size_alloc, size_alloc]; omega)]
  exact heap_alloc30 w o1 o2 o3
theorem heap_alloc42 (w : World) (o1 o2 o3 o4 : Obj) : ((((w.alloc o1).alloc o2).alloc o3).alloc o4).heap[w.heap.size + 1 + 1]? = some o3 := by
  rw [Below.heap_alloc _ _ _ (by rw [size_alloc, size_alloc, size_alloc]; omega)]
  exact heap_alloc32 w o1 o2 o3
theorem heap_alloc43 (w : World) (o1 o2 o3 o4 : Obj) : ((((w.alloc o1).alloc o2).alloc o3).alloc o4).heap[w.heap.size + 1 + 1 + 1]? = some o4 := by
  have := heap_alloc32 (w.alloc o1) o2 o3 o4
  rwa [size_alloc] at this

/-- The worlds of the blocks of 'compressed': h, the block, the result, v. -/
def Cw (w wr : World) (hs : List Nat) (xs : List UInt8) (vs : List Nat) : Prop :=
  Ext w wr ∧ Wr wr w.heap.size 135 hs ∧ wr.heap[w.heap.size + 1]? = some (.cells (cellsOf xs).toArray 138 (0, 0)) ∧ Wr wr (w.heap.size + 1 + 1) 135 (List.replicate 8 0) ∧ Wr wr (w.heap.size + 1 + 1 + 1) 162 vs

theorem Cw.blk {w wr : World} {hs : List Nat} {xs : List UInt8} {vs : List Nat} (h : Cw w wr hs xs vs) : wr.heap[w.heap.size + 1]? = some (.cells (cellsOf xs).toArray 138 (0, 0)) := h.2.2.1
theorem Cw.setV {w wr : World} {hs : List Nat} {xs : List UInt8} {vs : List Nat} (h : Cw w wr hs xs vs) (k x : Nat) : Cw w (wr.setCell ⟨w.heap.size + 1 + 1 + 1, k, none⟩ (.int .u32 (x : Int))) hs xs (vs.set k x) := by
  obtain ⟨e, a, b, c, d⟩ := h
  have hb : Below (w.heap.size + 1 + 1 + 1) wr (wr.setCell ⟨w.heap.size + 1 + 1 + 1, k, none⟩ (.int .u32 (x : Int))) := Below.setCell (p := ⟨w.heap.size + 1 + 1 + 1, k, none⟩) (Below.refl (w.heap.size + 1 + 1 + 1) wr) (Nat.le_refl _) _
  exact ⟨Below.trans e (hb.mono (by omega)), a.kept hb (by omega), (hb.block _ (by omega)).trans b, c.kept hb (by omega), d.set⟩
theorem Cw.ext {w wr wr' : World} {hs : List Nat} {xs : List UInt8} {vs : List Nat} (h : Cw w wr hs xs vs) (e : Ext wr wr') : Cw w wr' hs xs vs := by
  obtain ⟨e0, a, b, c, d⟩ := h
  have hlt : w.heap.size + 1 < wr.heap.size := Nat.lt_trans (Nat.lt_succ_self _) c.lt
  exact ⟨e0.trans e, a.kept e a.lt, (e.block _ hlt).trans b, c.kept e c.lt, d.kept e d.lt⟩
theorem words_two {hs is vs : List Nat} (h : vs.length = hs.length + is.length) (h1 : ∀ j, j < hs.length → wd vs j = wd hs j) (h2 : ∀ j, j < is.length → wd vs (hs.length + j) = wd is j) : vs = hs ++ is := by
  refine List.ext_getElem (by simp [h]) fun j p q => ?_
  by_cases hj : j < hs.length
  · have := h1 j hj
    simp only [wd, List.getD, List.getElem?_eq_getElem p, List.getElem?_eq_getElem hj, Option.getD_some] at this
    rw [List.getElem_append_left hj, this]
  · have h3 : j - hs.length < is.length := by omega
    have := h2 (j - hs.length) h3
    rw [show hs.length + (j - hs.length) = j by omega] at this
    simp only [wd, List.getD, List.getElem?_eq_getElem p, List.getElem?_eq_getElem h3, Option.getD_some] at this
    rw [List.getElem_append_right (by omega), this]

/-! ### What 'compressed' comes to -/
def startV (hs : List Nat) (t : Nat) (last : Bool) : List Nat :=
  let v0 := hs ++ initL
  let v1 := v0.set 12 (wd v0 12 ^^^ t % 4294967296)
  let v2 := v1.set 13 (wd v0 13 ^^^ t / 4294967296)
  bif last then v2.set 14 (4294967295 ^^^ wd v0 14) else v2
def pm (k j : Nat) : Nat := (permL.getD k []).getD j 0
def rowV (ms : List Nat) (vs : List Nat) (k : Nat) : List Nat :=
  let x := fun j => wd ms (pm k j)
  mixL (mixL (mixL (mixL (mixL (mixL (mixL (mixL vs 0 4 8 12 (x 0) (x 1)) 1 5 9 13 (x 2) (x 3)) 2 6 10 14 (x 4) (x 5)) 3 7 11 15 (x 6) (x 7)) 0 5 10 15 (x 8) (x 9)) 1 6 11 12 (x 10) (x 11)) 2 7 8 13 (x 12) (x 13)) 3 4 9 14 (x 14) (x 15)
def roundsV (ms : List Nat) (vs : List Nat) (k : Nat) : List Nat := (List.range k).foldl (rowV ms) vs
theorem roundsV_succ (ms vs : List Nat) (k : Nat) : roundsV ms vs (k + 1) = rowV ms (roundsV ms vs k) k := by
  simp [roundsV, List.range_succ]
def endV (hs vs : List Nat) : List Nat := (List.range 8).map fun j => wd hs j ^^^ (wd vs j ^^^ wd vs (j + 8))
theorem endV_all {hs ys V : List Nat} (hl : ys.length = 8) (h : ∀ j, j < 8 → wd ys j = wd hs j ^^^ (wd V j ^^^ wd V (j + 8))) : endV hs V = ys := by
  refine List.ext_getElem (by simp [endV, hl]) fun j h1 h2 => ?_
  have := h j (by omega)
  simp only [endV, List.getElem_map, List.getElem_range]
  rw [← this]
  simp [wd, List.getD, h2]
def compL (hs : List Nat) (xs : List UInt8) (t : Nat) (last : Bool) : List Nat := endV hs (roundsV (wordsL xs 16) (startV hs t last) 10)
theorem compL_len (hs : List Nat) (xs : List UInt8) (t : Nat) (last : Bool) : (compL hs xs t last).length = 8 := by simp [compL, endV]
theorem startV_len {hs : List Nat} {t : Nat} {last : Bool} (h : hs.length = 8) : (startV hs t last).length = 16 := by
  unfold startV; cases last <;> simp [h, initL]
theorem pm_lt (k j : Nat) : pm k j < 16 := by
  by_cases hk : k < 10
  · by_cases hj : j < 16
    · have : ∀ k, k < 10 → ∀ j, j < 16 → pm k j < 16 := by decide
      exact this k hk j hj
    · unfold pm
      have : ∀ k, k < 10 → (permL.getD k []).length = 16 := by decide
      have h := this k hk
      rw [List.getD_eq_getElem?_getD, List.getElem?_eq_none (by omega)]; decide
  · unfold pm
    rw [show permL.getD k [] = [] by rw [List.getD_eq_getElem?_getD, List.getElem?_eq_none (by simp [permL]; omega)]; rfl]; simp
theorem rowV_len (ms vs : List Nat) (k : Nat) : (rowV ms vs k).length = vs.length := by simp [rowV, mixL_len]
theorem RVlen {ms v0 : List Nat} (h : v0.length = 16) : ∀ k, (roundsV ms v0 k).length = 16
  | 0 => h
  | k + 1 => by rw [roundsV_succ, rowV_len]; exact RVlen h k

/-- The row of the order, as cells. -/
def rowC (k : Nat) : Array Value := ((List.range 16).map fun j => Value.int .u8 (pm k j : Int)).toArray
theorem rowC_size (k : Nat) : (rowC k).size = 16 := by simp [rowC]
theorem rowC_one (k : Nat) : (rowC k).all (·.oneCell') = true := by
  rw [Array.all_eq_true_iff_forall_mem]
  intro v hv
  obtain ⟨j, _, rfl⟩ := List.mem_map.1 (List.mem_toArray.1 hv)
  rfl
theorem perm_i0 (w : World) : (Instr.index 166 (.agg permC) (.int .i64 ((0 : Nat) : Int))).run Tryd.prog w = .ok (.agg (rowC 0)) w := by kernel_rfl
theorem perm_i1 (w : World) : (Instr.index 166 (.agg permC) (.int .i64 ((1 : Nat) : Int))).run Tryd.prog w = .ok (.agg (rowC 1)) w := by kernel_rfl
theorem perm_i2 (w : World) : (Instr.index 166 (.agg permC) (.int .i64 ((2 : Nat) : Int))).run Tryd.prog w = .ok (.agg (rowC 2)) w := by kernel_rfl
theorem perm_i3 (w : World) : (Instr.index 166 (.agg permC) (.int .i64 ((3 : Nat) : Int))).run Tryd.prog w = .ok (.agg (rowC 3)) w := by kernel_rfl
theorem perm_i4 (w : World) : (Instr.index 166 (.agg permC) (.int .i64 ((4 : Nat) : Int))).run Tryd.prog w = .ok (.agg (rowC 4)) w := by kernel_rfl
theorem perm_i5 (w : World) : (Instr.index 166 (.agg permC) (.int .i64 ((5 : Nat) : Int))).run Tryd.prog w = .ok (.agg (rowC 5)) w := by kernel_rfl
theorem perm_i6 (w : World) : (Instr.index 166 (.agg permC) (.int .i64 ((6 : Nat) : Int))).run Tryd.prog w = .ok (.agg (rowC 6)) w := by kernel_rfl
theorem perm_i7 (w : World) : (Instr.index 166 (.agg permC) (.int .i64 ((7 : Nat) : Int))).run Tryd.prog w = .ok (.agg (rowC 7)) w := by kernel_rfl
theorem perm_i8 (w : World) : (Instr.index 166 (.agg permC) (.int .i64 ((8 : Nat) : Int))).run Tryd.prog w = .ok (.agg (rowC 8)) w := by kernel_rfl
theorem perm_i9 (w : World) : (Instr.index 166 (.agg permC) (.int .i64 ((9 : Nat) : Int))).run Tryd.prog w = .ok (.agg (rowC 9)) w := by kernel_rfl
theorem perm_index {k : Nat} (hk : k < 10) (w : World) : (Instr.index 166 (.agg permC) (.int .i64 (k : Int))).run Tryd.prog w = .ok (.agg (rowC k)) w := by
  have h : k = 0 ∨ k = 1 ∨ k = 2 ∨ k = 3 ∨ k = 4 ∨ k = 5 ∨ k = 6 ∨ k = 7 ∨ k = 8 ∨ k = 9 := by omega
  rcases h with rfl | rfl | rfl | rfl | rfl | rfl | rfl | rfl | rfl | rfl
  · exact perm_i0 w
  · exact perm_i1 w
  · exact perm_i2 w
  · exact perm_i3 w
  · exact perm_i4 w
  · exact perm_i5 w
  · exact perm_i6 w
  · exact perm_i7 w
  · exact perm_i8 w
  · exact perm_i9 w
/-- Block gs holds the order's row k. -/
def Sr (w : World) (gs k : Nat) : Prop := w.heap[gs]? = some (.cells (rowC k) 165 (0, 0))
theorem Sr.cell {w : World} {gs k j : Nat} (h : Sr w gs k) (hj : j < 16) : w.cell? ⟨gs, j, none⟩ = some (.int .u8 (pm k j : Int)) := by
  rw [cell_of_row w gs j _ 165 (0, 0) h]
  simp [rowC, hj]
theorem Sr.grow {w w' : World} {gs k g : Nat} (h : Sr w gs k) (e : w.grownBy w' (some g)) (hg : gs ≠ g) : Sr w' gs k :=
  (e.block gs (heap_lt h) (fun q => by injection q with q; exact hg q)).trans h
/-- The worlds within the rounds. -/
def Rv (w wr : World) (hs : List Nat) (gm : Nat) (ms vs : List Nat) : Prop :=
  Ext w wr ∧ Wr wr w.heap.size 135 hs ∧ Wr wr (w.heap.size + 1 + 1) 135 (List.replicate 8 0) ∧ Arr wr (w.heap.size + 1 + 1 + 1) vs ∧ Wr wr gm 162 ms ∧ w.heap.size + 1 + 1 + 1 < gm
section
variable {w wr wr' : World} {hs ms vs vs' : List Nat} {gm : Nat}
theorem Rv.arr (h : Rv w wr hs gm ms vs) : Arr wr (w.heap.size + 1 + 1 + 1) vs := h.2.2.2.1
theorem Rv.ext (h : Rv w wr hs gm ms vs) (e : Ext wr wr') : Rv w wr' hs gm ms vs := by
  obtain ⟨e0, h1, h2, h3, h4, h5⟩ := h
  exact ⟨e0.trans e, h1.kept e h1.lt, h2.kept e h2.lt, h3.ext e, h4.kept e h4.lt, h5⟩
theorem Rv.setH (h : Rv w wr hs gm ms vs) (k x : Nat) : Rv w (wr.setCell ⟨w.heap.size, k, none⟩ (.int .u32 (x : Int))) (hs.set k x) gm ms vs := by
  obtain ⟨e0, h1, h2, h3, h4, h5⟩ := h
  have bl : ∀ i, i ≠ w.heap.size → (wr.setCell ⟨w.heap.size, k, none⟩ (.int .u32 (x : Int))).heap[i]? = wr.heap[i]? := fun i hi => Below.heap_setCell _ _ _ _ hi
  refine ⟨e0.setCell (Nat.le_refl _) _, h1.set, (bl _ (by omega)).trans h2, ⟨by simpa [World.setCell] using h3.1, fun i hi => ?_⟩, (bl _ (by omega)).trans h4, h5⟩
  obtain ⟨a, b, c⟩ := h3.2 i hi
  refine ⟨?_, ?_, c⟩
  · rw [World.cell?_setCell_other _ _ _ _ (fun q => by injection q with q1 _ _; omega)]; exact a
  · rw [frozen_setCell]; exact b
theorem Rv.mcell (h : Rv w wr hs gm ms vs) {i : Nat} (hi : i < 16) (hm : ms.length = 16) : wr.cell? ⟨gm, i, none⟩ = some (.int .u32 (wd ms i : Int)) := h.2.2.2.2.1.cell (by omega)
theorem Rv.mgrow (h : Rv w wr hs gm ms vs) (e : wr.grownBy wr' (some (w.heap.size + 1 + 1 + 1))) : Wr wr' gm 162 ms := (e.block gm h.2.2.2.2.1.lt (fun q => by injection q with q; have := h.2.2.2.2.2; omega)).trans h.2.2.2.2.1
theorem Rv.grow (h : Rv w wr hs gm ms vs) (e : wr.grownBy wr' (some (w.heap.size + 1 + 1 + 1))) (a : Arr wr' (w.heap.size + 1 + 1 + 1) vs') : Rv w wr' hs gm ms vs' := by
  obtain ⟨e0, h1, h2, h3, h4, h5⟩ := h
  have bl : ∀ i o, wr.heap[i]? = some o → i ≠ w.heap.size + 1 + 1 + 1 → wr'.heap[i]? = some o := fun i o hi hne => (e.block i (heap_lt hi) (fun q => by injection q with q; exact hne q)).trans hi
  refine ⟨Below.trans e0 ⟨e.os, e.tape, e.output, e.size, fun i hi => e.block i (Nat.lt_of_lt_of_le hi e0.size) (fun q => by injection q with q; omega)⟩, bl _ _ h1 (by omega), bl _ _ h2 (by omega), a, bl _ _ h4 (by omega), h5⟩
end

set_option maxRecDepth 100000 in
set_option maxHeartbeats 4000000 in
theorem comp_calls {hs : List Nat} {xs : List UInt8} {t : Nat} {last : Bool} {w : World} (hl : hs.length = 8) (hx : xs.length = 64) (ht : t < 18446744073709551616) (hb : ∀ j, j < 8 → wd hs j < 4294967296) {tg : TypeId × Nat × Nat} (hG : Gl w tg) :
    Calls Tryd.prog 69 #[.agg (wcells hs).toArray, .agg (cellsOf xs).toArray, .int .u64 (t : Int), .bool last] w fun e w' => e = .returned (.agg (wcells (compL hs xs t last)).toArray) ∧ Ext w w' := by
  go_enter Tryd.func69, Tryd.ntmps69
  go_wp2_with fail
  refine wp_gen (fun wr => Cw w wr hs xs (List.replicate 16 0)) ⟨((((Ext.refl _).alloc _).alloc _).alloc _).alloc _, heap_alloc40 _ _ _ _ _, (Below.heap_alloc _ _ _ (by rw [size_alloc, size_alloc, size_alloc]; omega)).trans (heap_alloc31 _ _ _ _), heap_alloc42 _ _ _ _ _, heap_alloc43 _ _ _ _ _⟩ ?_
  rintro w0 ⟨e0, a0, b0, c0, d0⟩
  have HG := Lib.hid (fun (wr : World) (e : Ext w wr) => hG.kept e hG.lt)
  clear hG
  obtain ⟨B, hB⟩ : ∃ B, B = w.heap.size + 1 + 1 + 1 := ⟨_, rfl⟩
  have HD := Lib.hid d0
  have HA := Lib.hid a0
  clear d0 a0
  refine qgB B [0, 1, 2] [2] ?_
  repeat ((first | refine qR0 ?_ | refine qS ?_); go_frame)
  refine qD fun K hK => ?_
  go_simp
  refine upon_copyW (us := List.replicate 16 0) (vs := hs) rfl (HD.out.kept (Below.refl _ _).drew (Nat.lt_succ_self _)) (HA.out.kept (Below.refl _ _).drew (Nat.lt_succ_self _)) hl (by omega) (by simp) ?_
  intro W1 h3 h4
  go_simp
  refine hK.out _ _ (h4.out B (by omega)) ?_
  clear hK K
  refine seq_done ?_
  have e2 : Below B w0 W1 := Below.trans ((Below.refl B w0).drew) (h4.out B (by omega))
  clear h4
  go_wp2_with fail
  go_loopw [18] (fun i wr => ∃ (k : Nat) (vs : List Nat), k ≤ 8 ∧ i = .int .i64 k ∧ vs.length = 16 ∧ (∀ j, j < 8 → wd vs j = wd hs j) ∧ (∀ j, j < k → wd vs (8 + j) = wd initL j) ∧ Cw w wr hs xs vs) (fun i _ => 8 - (intOf i).toNat)
  case atStart =>
    refine ⟨0, splice (List.replicate 16 0) 0 hs, Nat.zero_le _, rfl, by simp [splice]; omega, fun j hj => ?_, fun j hj => absurd hj (by omega), Below.trans e0 (e2.mono (by omega)), HA.out.kept e2 (by omega), (e2.block _ (by omega)).trans b0, c0.kept e2 (by omega), h3.out⟩
    simp [wd, splice, List.getD, List.getElem?_append, show j < hs.length by omega]
  case round =>
    obtain ⟨k, vs, hk, rfl, hvl, hv1, hv2, e3, a3, b3, c3, d3⟩ := hrel
    clear HD HA h3 e2 b0 c0 e0
    by_cases hlt : k < 8
    · have gg := (HG.out _ e3).cell (i := k) hlt
      have gv := d3.cell (i := 8 + k) (by omega)
      have gf := d3.frozen (8 + k)
      have ik : (k : Int) < 8 := by omega
      have jk : (8 : Int) + (k : Int) < 16 := by omega
      go_wp2_with fail
      refine ⟨⟨k + 1, vs.set (8 + k) (wd initL k), by omega, by go_num, by rw [List.length_set]; exact hvl, fun j hj => ?_, fun j hj => ?_, Cw.setV ⟨e3, a3, b3, c3, d3⟩ _ _⟩, by simp [intOf]; omega⟩
      · rw [wd_set (by omega), if_neg (by omega)]; exact hv1 j hj
      · rw [wd_set (by omega)]
        by_cases q : j = k
        · rw [if_pos (by omega), q]
        · rw [if_neg (by omega)]; exact hv2 j (by omega)
    · obtain rfl : k = 8 := by omega
      rw [show ((8 : Nat) : Int) = 8 from rfl]
      have hvs := Lib.hid (words_two (hs := hs) (is := initL) (vs := vs) (by rw [hvl, hl]; rfl) (fun j hj => hv1 j (by omega)) (fun j hj => by rw [hl]; exact hv2 j hj))
      have l12 : wd vs 12 < 4294967296 := by rw [hv2 4 (by omega)]; decide
      have l13 : wd vs 13 < 4294967296 := by rw [hv2 5 (by omega)]; decide
      have l14 : wd vs 14 < 4294967296 := by rw [hv2 6 (by omega)]; decide
      have x12 : bits .xor .u32 (wd vs 12 : Int) ((t : Int) % 4294967296) = ((wd vs 12 ^^^ t % 4294967296 : Nat) : Int) := by
        rw [show (t : Int) % 4294967296 = ((t % 4294967296 : Nat) : Int) by omega]
        exact u32_xor_nat _ _ l12 (Nat.mod_lt _ (by decide))
      have x13 : bits .xor .u32 (wd vs 13 : Int) ((t : Int) / 4294967296) = ((wd vs 13 ^^^ t / 4294967296 : Nat) : Int) := by
        rw [show (t : Int) / 4294967296 = ((t / 4294967296 : Nat) : Int) by omega]
        exact u32_xor_nat _ _ l13 (by omega)
      have x14 : bits .xor .u32 IntKind.u32.max (wd vs 14 : Int) = ((4294967295 ^^^ wd vs 14 : Nat) : Int) := u32_xor_nat 4294967295 _ (by decide) l14
      have CW : Cw w wr hs xs vs := ⟨e3, a3, b3, c3, d3⟩
      have hvb : Hid (∀ j, j < 16 → wd vs j < 4294967296) := fun j hj => by
        by_cases q : j < 8
        · rw [hv1 j q]; exact hb j q
        · have h9 := hv2 (j - 8) (by omega)
          rw [show 8 + (j - 8) = j by omega] at h9
          rw [h9]
          have : ∀ j, j < 8 → wd initL j < 4294967296 := by decide
          exact this _ (by omega)
      clear hv1 hv2
      have c12 := d3.cell (i := 12) (by omega)
      have c13 := d3.cell (i := 13) (by omega)
      have c14 := d3.cell (i := 14) (by omega)
      have f12 := d3.frozen 12
      have f13 := d3.frozen 13
      have f14 := d3.frozen 14
      go_upto_if 41 with (fail)
      go_cut [41] (fun _ wx => ∃ v0 : List Nat, Cw w wx hs xs v0 ∧ v0 = startV hs t last ∧ ∀ j, j < 16 → wd v0 j < 4294967296)
      case first =>
        have hS : ∀ last, startV hs t last = bif last then ((vs.set 12 (wd vs 12 ^^^ t % 4294967296)).set 13 (wd vs 13 ^^^ t / 4294967296)).set 14 (4294967295 ^^^ wd vs 14) else (vs.set 12 (wd vs 12 ^^^ t % 4294967296)).set 13 (wd vs 13 ^^^ t / 4294967296) := fun last => by rw [hvs.out]; rfl
        replace hS := Lib.hid hS
        have hbd : Hid (∀ last, ∀ j, j < 16 → wd (startV hs t last) j < 4294967296) := fun last j hj => by
          have b12 : wd vs 12 ^^^ t % 4294967296 < 4294967296 := xor_lt32 l12 (Nat.mod_lt _ (by decide))
          have b13 : wd vs 13 ^^^ t / 4294967296 < 4294967296 := xor_lt32 l13 (by omega)
          have b14 : 4294967295 ^^^ wd vs 14 < 4294967296 := xor_lt32 (by decide) l14
          have bj := hvb.out j hj
          rw [hS.out]
          cases last
          · simp only [cond_false]
            rw [wd_set (by simp; omega), wd_set (by omega)]
            split
            · exact b13
            · split <;> assumption
          · simp only [cond_true]
            rw [wd_set (by simp; omega), wd_set (by simp; omega), wd_set (by omega)]
            split
            · exact b14
            · split
              · exact b13
              · split <;> assumption
        cases last
        · go_wp2_with fail
          go_meet
          exact ⟨_, (CW.setV 12 _).setV 13 _, (hS.out false).symm, by have := hbd.out false; rw [hS.out false] at this; exact this⟩
        · go_wp2_with fail
          go_meet
          exact ⟨_, ((CW.setV 12 _).setV 13 _).setV 14 _, (hS.out true).symm, by have := hbd.out true; rw [hS.out true] at this; exact this⟩
      case rest =>
        obtain ⟨v0, CW0, hv0, hv0b⟩ := hcut
        replace hv0 := Lib.hid hv0
        have HS : (cellsOf xs).toArray.size = 64 := by simp [cellsOf_len, hx]
        have v0l : v0.length = 16 := by rw [hv0.out]; exact startV_len hl
        clear c12 c13 c14 f12 f13 f14 x12 x13 x14 CW l12 l13 l14 hvb hvs e3 a3 b3 c3 d3 hvl
        go_wp2_with (refine wpList_load_row rfl 138 _ rfl (w.heap.size + 1) rfl 138 (cellsOf xs).toArray (0, 0) _ (by with_reducible exact CW0.blk) rfl rfl (by rw [HS]; rfl) ?_)
        refine (wordsOf_calls hx).mono ?_
        rintro e w1 ⟨rfl, e1⟩
        have CW1 := CW0.ext e1
        have HM : (wordsL xs 16).length = 16 := by simp [wordsL]
        have HMb : Hid (∀ j, j < 16 → wd (wordsL xs 16) j < 4294967296) := fun j hj => by
          have : wd (wordsL xs 16) j = wordAt xs j := by simp [wd, wordsL, List.getD, hj]
          rw [this]; exact wordAt_lt _ _
        generalize hM : wordsL xs 16 = ms at HM HMb ⊢
        replace hM := Lib.hid hM
        have HMs := wcells_size HM
        replace HM := Lib.hid HM
        go_wp2_with (refine wpList_store_row rfl 162 _ _ rfl w1.heap.size (wcells ms).toArray rfl rfl 162 _ (by with_reducible exact heap_alloc_new _ _) (by rw [HMs]; rfl) (by rw [HMs]; rfl) (wcells_one ms) ?_)
        refine perm_calls.mono ?_
        rintro e w2 ⟨rfl, e2⟩
        have CW2 := CW1.ext (Ext.trans (below_setRow ((Ext.refl w1).alloc _) (Nat.le_refl w1.heap.size) (wcells ms).toArray) e2)
        have WM : Wr w2 w1.heap.size 162 ms := Wr.kept (setRow_heap _ _ _ _ _ _ (heap_alloc_new _ _)) e2 (by simp [World.setRow, size_alloc])
        have RV0 : Rv w w2 hs w1.heap.size ms v0 := ⟨CW2.1, CW2.2.1, CW2.2.2.2.1, CW2.2.2.2.2.arr (fun i hi => hv0b i (by omega)), WM, CW1.2.2.2.2.lt⟩
        clear e2 e1 CW2 WM CW1 CW0 HS
        replace hv0b := Lib.hid hv0b
        replace RV0 := Lib.hid RV0
        obtain ⟨gm, hgm⟩ : ∃ gm, gm = w1.heap.size := ⟨_, rfl⟩
        rw [← hgm] at RV0
        replace hgm := Lib.hid hgm
        go_wp2_with fail
        rw [← hgm.out]
        go_loopw [49] (fun i wr => ∃ k : Nat, k ≤ 10 ∧ i = .int .i64 k ∧ Rv w wr hs gm ms (roundsV ms v0 k)) (fun i _ => 10 - (intOf i).toNat)
        case atStart => exact ⟨0, Nat.zero_le _, rfl, RV0.out⟩
        case round =>
          obtain ⟨k, hk, rfl, RV⟩ := hrel
          have VL : (roundsV ms v0 k).length = 16 := RVlen v0l k
          by_cases hlt : k < 10
          · have hix := perm_index hlt
            have HR := rowC_size k
            have HRo := rowC_one k
            have HSUC := Lib.hid (roundsV_succ ms v0 k)
            generalize hvk : roundsV ms v0 k = vk at RV VL HSUC
            clear hvk
            replace RV := Lib.hid RV
            generalize hRC : rowC k = C at hix HR HRo
            replace hRC := Lib.hid hRC
            go_wp2_with (refine wpList_store_row rfl 165 _ _ rfl wr.heap.size C rfl rfl 165 _ (by with_reducible exact heap_alloc_new _ _) (by rw [HR]; rfl) (by rw [HR]; rfl) HRo ?_)
            obtain ⟨gs, hgs0⟩ : ∃ gs, gs = wr.heap.size := ⟨_, rfl⟩
            have hgs : gs ≠ w.heap.size + 1 + 1 + 1 := by
              have := RV.out.2.2.2.2.1.lt
              have := RV.out.2.2.2.2.2
              omega
            rw [← hgs0]
            refine wp_gen (fun W' => Rv w W' hs gm ms vk ∧ Sr W' gs k) ⟨RV.out.ext (below_setRow ((Ext.refl wr).alloc _) (by omega) C), ?_⟩ ?_
            · have h9 := setRow_heap (wr.alloc (Obj.cells (Array.replicate 16 (Value.int .u8 0)) 165)) wr.heap.size _ C 165 _ (heap_alloc_new _ _)
              rw [← hgs0, ← hRC.out] at h9
              rw [← hRC.out]
              exact h9
            clear RV hRC hgs0 hix HR HRo
            rintro W ⟨RV, SR⟩
            replace hgs := Lib.hid hgs
            have CP := SR.cell (j := 0) (by omega)
            have CQ := SR.cell (j := 1) (by omega)
            have CM := RV.mcell (pm_lt k 0) HM.out
            have CN := RV.mcell (pm_lt k 1) HM.out
            have lp : (pm k 0 : Int) < 16 := by have := pm_lt k 0; omega
            have lq : (pm k 1 : Int) < 16 := by have := pm_lt k 1; omega
            have KEEP : Hid (∀ w', W.grownBy w' (some (w.heap.size + 1 + 1 + 1)) → w'.cell? ⟨gs, 0, none⟩ = some (.int .u8 (pm k 0 : Int)) ∧ w'.cell? ⟨gs, 1, none⟩ = some (.int .u8 (pm k 1 : Int)) ∧ w'.cell? ⟨gm, pm k 0, none⟩ = some (.int .u32 (wd ms (pm k 0) : Int)) ∧ w'.cell? ⟨gm, pm k 1, none⟩ = some (.int .u32 (wd ms (pm k 1) : Int))) := fun w' e => ⟨(SR.grow e hgs.out).cell (by omega), (SR.grow e hgs.out).cell (by omega), (RV.mgrow e).cell (by rw [HM.out]; exact pm_lt _ _), (RV.mgrow e).cell (by rw [HM.out]; exact pm_lt _ _)⟩
            clear CP CQ CM CN
            refine qgW ((w.heap.size + 1 + 1 + 1)) [0, 1, 2, 3, 4, 5, 6, 7, 8] [8] ?_
            repeat ((first | refine qR _ (fun w' e => KEEP.out w' (gr_trans (gr_ext (Ext.refl _).drew _) e)) ?_ | refine qS ?_); go_frame)
            refine qD fun K hK => ?_
            go_simp
            refine (mix_calls (RV.arr.ext (Ext.refl _).drew) VL (a := 0) (b := 4) (c := 8) (d := 12) (by omega) (by omega) (by omega) (by omega) (HMb.out _ (pm_lt _ _)) (HMb.out _ (pm_lt _ _))).mono ?_
            rintro e w2 ⟨rfl, A2, G2⟩
            refine hK.out _ _ G2 ?_
            clear hK K
            try go_frame
            refine seq_done ?_
            go_wp2_with fail
            refine wp_gen (fun W' => Rv w W' hs gm ms (mixL vk 0 4 8 12 (wd ms (pm k 0)) (wd ms (pm k 1))) ∧ Sr W' gs k) ⟨RV.grow (gr_trans (gr_ext (Ext.refl _).drew _) G2) A2, SR.grow (gr_trans (gr_ext (Ext.refl _).drew _) G2) hgs.out⟩ ?_
            clear A2 G2 KEEP RV SR
            clear W
            rintro W ⟨RV, SR⟩
            have VL' := (mixL_len vk 0 4 8 12 (wd ms (pm k 0)) (wd ms (pm k 1))).trans VL
            clear VL
            generalize HV0 : mixL vk 0 4 8 12 (wd ms (pm k 0)) (wd ms (pm k 1)) = u0 at RV VL'
            replace HV0 := Lib.hid HV0
            have VL := VL'
            clear VL' lp lq
            have CP := SR.cell (j := 2) (by omega)
            have CQ := SR.cell (j := 3) (by omega)
            have CM := RV.mcell (pm_lt k 2) HM.out
            have CN := RV.mcell (pm_lt k 3) HM.out
            have lp : (pm k 2 : Int) < 16 := by have := pm_lt k 2; omega
            have lq : (pm k 3 : Int) < 16 := by have := pm_lt k 3; omega
            have KEEP : Hid (∀ w', W.grownBy w' (some (w.heap.size + 1 + 1 + 1)) → w'.cell? ⟨gs, 2, none⟩ = some (.int .u8 (pm k 2 : Int)) ∧ w'.cell? ⟨gs, 3, none⟩ = some (.int .u8 (pm k 3 : Int)) ∧ w'.cell? ⟨gm, pm k 2, none⟩ = some (.int .u32 (wd ms (pm k 2) : Int)) ∧ w'.cell? ⟨gm, pm k 3, none⟩ = some (.int .u32 (wd ms (pm k 3) : Int))) := fun w' e => ⟨(SR.grow e hgs.out).cell (by omega), (SR.grow e hgs.out).cell (by omega), (RV.mgrow e).cell (by rw [HM.out]; exact pm_lt _ _), (RV.mgrow e).cell (by rw [HM.out]; exact pm_lt _ _)⟩
            clear CP CQ CM CN
            refine qgW ((w.heap.size + 1 + 1 + 1)) [0, 1, 2, 3, 4, 5, 6, 7, 8] [8] ?_
            repeat ((first | refine qR _ (fun w' e => KEEP.out w' (gr_trans (gr_ext (Ext.refl _).drew _) e)) ?_ | refine qS ?_); go_frame)
            refine qD fun K hK => ?_
            go_simp
            refine (mix_calls (RV.arr.ext (Ext.refl _).drew) VL (a := 1) (b := 5) (c := 9) (d := 13) (by omega) (by omega) (by omega) (by omega) (HMb.out _ (pm_lt _ _)) (HMb.out _ (pm_lt _ _))).mono ?_
            rintro e w2 ⟨rfl, A2, G2⟩
            refine hK.out _ _ G2 ?_
            clear hK K
            try go_frame
            refine seq_done ?_
            go_wp2_with fail
            refine wp_gen (fun W' => Rv w W' hs gm ms (mixL u0 1 5 9 13 (wd ms (pm k 2)) (wd ms (pm k 3))) ∧ Sr W' gs k) ⟨RV.grow (gr_trans (gr_ext (Ext.refl _).drew _) G2) A2, SR.grow (gr_trans (gr_ext (Ext.refl _).drew _) G2) hgs.out⟩ ?_
            clear A2 G2 KEEP RV SR
            clear W
            rintro W ⟨RV, SR⟩
            have VL' := (mixL_len u0 1 5 9 13 (wd ms (pm k 2)) (wd ms (pm k 3))).trans VL
            clear VL
            generalize HV1 : mixL u0 1 5 9 13 (wd ms (pm k 2)) (wd ms (pm k 3)) = u1 at RV VL'
            replace HV1 := Lib.hid HV1
            have VL := VL'
            clear VL' lp lq
            have CP := SR.cell (j := 4) (by omega)
            have CQ := SR.cell (j := 5) (by omega)
            have CM := RV.mcell (pm_lt k 4) HM.out
            have CN := RV.mcell (pm_lt k 5) HM.out
            have lp : (pm k 4 : Int) < 16 := by have := pm_lt k 4; omega
            have lq : (pm k 5 : Int) < 16 := by have := pm_lt k 5; omega
            have KEEP : Hid (∀ w', W.grownBy w' (some (w.heap.size + 1 + 1 + 1)) → w'.cell? ⟨gs, 4, none⟩ = some (.int .u8 (pm k 4 : Int)) ∧ w'.cell? ⟨gs, 5, none⟩ = some (.int .u8 (pm k 5 : Int)) ∧ w'.cell? ⟨gm, pm k 4, none⟩ = some (.int .u32 (wd ms (pm k 4) : Int)) ∧ w'.cell? ⟨gm, pm k 5, none⟩ = some (.int .u32 (wd ms (pm k 5) : Int))) := fun w' e => ⟨(SR.grow e hgs.out).cell (by omega), (SR.grow e hgs.out).cell (by omega), (RV.mgrow e).cell (by rw [HM.out]; exact pm_lt _ _), (RV.mgrow e).cell (by rw [HM.out]; exact pm_lt _ _)⟩
            clear CP CQ CM CN
            refine qgW ((w.heap.size + 1 + 1 + 1)) [0, 1, 2, 3, 4, 5, 6, 7, 8] [8] ?_
            repeat ((first | refine qR _ (fun w' e => KEEP.out w' (gr_trans (gr_ext (Ext.refl _).drew _) e)) ?_ | refine qS ?_); go_frame)
            refine qD fun K hK => ?_
            go_simp
            refine (mix_calls (RV.arr.ext (Ext.refl _).drew) VL (a := 2) (b := 6) (c := 10) (d := 14) (by omega) (by omega) (by omega) (by omega) (HMb.out _ (pm_lt _ _)) (HMb.out _ (pm_lt _ _))).mono ?_
            rintro e w2 ⟨rfl, A2, G2⟩
            refine hK.out _ _ G2 ?_
            clear hK K
            try go_frame
            refine seq_done ?_
            go_wp2_with fail
            refine wp_gen (fun W' => Rv w W' hs gm ms (mixL u1 2 6 10 14 (wd ms (pm k 4)) (wd ms (pm k 5))) ∧ Sr W' gs k) ⟨RV.grow (gr_trans (gr_ext (Ext.refl _).drew _) G2) A2, SR.grow (gr_trans (gr_ext (Ext.refl _).drew _) G2) hgs.out⟩ ?_
            clear A2 G2 KEEP RV SR
            clear W
            rintro W ⟨RV, SR⟩
            have VL' := (mixL_len u1 2 6 10 14 (wd ms (pm k 4)) (wd ms (pm k 5))).trans VL
            clear VL
            generalize HV2 : mixL u1 2 6 10 14 (wd ms (pm k 4)) (wd ms (pm k 5)) = u2 at RV VL'
            replace HV2 := Lib.hid HV2
            have VL := VL'
            clear VL' lp lq
            have CP := SR.cell (j := 6) (by omega)
            have CQ := SR.cell (j := 7) (by omega)
            have CM := RV.mcell (pm_lt k 6) HM.out
            have CN := RV.mcell (pm_lt k 7) HM.out
            have lp : (pm k 6 : Int) < 16 := by have := pm_lt k 6; omega
            have lq : (pm k 7 : Int) < 16 := by have := pm_lt k 7; omega
            have KEEP : Hid (∀ w', W.grownBy w' (some (w.heap.size + 1 + 1 + 1)) → w'.cell? ⟨gs, 6, none⟩ = some (.int .u8 (pm k 6 : Int)) ∧ w'.cell? ⟨gs, 7, none⟩ = some (.int .u8 (pm k 7 : Int)) ∧ w'.cell? ⟨gm, pm k 6, none⟩ = some (.int .u32 (wd ms (pm k 6) : Int)) ∧ w'.cell? ⟨gm, pm k 7, none⟩ = some (.int .u32 (wd ms (pm k 7) : Int))) := fun w' e => ⟨(SR.grow e hgs.out).cell (by omega), (SR.grow e hgs.out).cell (by omega), (RV.mgrow e).cell (by rw [HM.out]; exact pm_lt _ _), (RV.mgrow e).cell (by rw [HM.out]; exact pm_lt _ _)⟩
            clear CP CQ CM CN
            refine qgW ((w.heap.size + 1 + 1 + 1)) [0, 1, 2, 3, 4, 5, 6, 7, 8] [8] ?_
            repeat ((first | refine qR _ (fun w' e => KEEP.out w' (gr_trans (gr_ext (Ext.refl _).drew _) e)) ?_ | refine qS ?_); go_frame)
            refine qD fun K hK => ?_
            go_simp
            refine (mix_calls (RV.arr.ext (Ext.refl _).drew) VL (a := 3) (b := 7) (c := 11) (d := 15) (by omega) (by omega) (by omega) (by omega) (HMb.out _ (pm_lt _ _)) (HMb.out _ (pm_lt _ _))).mono ?_
            rintro e w2 ⟨rfl, A2, G2⟩
            refine hK.out _ _ G2 ?_
            clear hK K
            try go_frame
            refine seq_done ?_
            go_wp2_with fail
            refine wp_gen (fun W' => Rv w W' hs gm ms (mixL u2 3 7 11 15 (wd ms (pm k 6)) (wd ms (pm k 7))) ∧ Sr W' gs k) ⟨RV.grow (gr_trans (gr_ext (Ext.refl _).drew _) G2) A2, SR.grow (gr_trans (gr_ext (Ext.refl _).drew _) G2) hgs.out⟩ ?_
            clear A2 G2 KEEP RV SR
            clear W
            rintro W ⟨RV, SR⟩
            have VL' := (mixL_len u2 3 7 11 15 (wd ms (pm k 6)) (wd ms (pm k 7))).trans VL
            clear VL
            generalize HV3 : mixL u2 3 7 11 15 (wd ms (pm k 6)) (wd ms (pm k 7)) = u3 at RV VL'
            replace HV3 := Lib.hid HV3
            have VL := VL'
            clear VL' lp lq
            have CP := SR.cell (j := 8) (by omega)
            have CQ := SR.cell (j := 9) (by omega)
            have CM := RV.mcell (pm_lt k 8) HM.out
            have CN := RV.mcell (pm_lt k 9) HM.out
            have lp : (pm k 8 : Int) < 16 := by have := pm_lt k 8; omega
            have lq : (pm k 9 : Int) < 16 := by have := pm_lt k 9; omega
            have KEEP : Hid (∀ w', W.grownBy w' (some (w.heap.size + 1 + 1 + 1)) → w'.cell? ⟨gs, 8, none⟩ = some (.int .u8 (pm k 8 : Int)) ∧ w'.cell? ⟨gs, 9, none⟩ = some (.int .u8 (pm k 9 : Int)) ∧ w'.cell? ⟨gm, pm k 8, none⟩ = some (.int .u32 (wd ms (pm k 8) : Int)) ∧ w'.cell? ⟨gm, pm k 9, none⟩ = some (.int .u32 (wd ms (pm k 9) : Int))) := fun w' e => ⟨(SR.grow e hgs.out).cell (by omega), (SR.grow e hgs.out).cell (by omega), (RV.mgrow e).cell (by rw [HM.out]; exact pm_lt _ _), (RV.mgrow e).cell (by rw [HM.out]; exact pm_lt _ _)⟩
            clear CP CQ CM CN
            refine qgW ((w.heap.size + 1 + 1 + 1)) [0, 1, 2, 3, 4, 5, 6, 7, 8] [8] ?_
            repeat ((first | refine qR _ (fun w' e => KEEP.out w' (gr_trans (gr_ext (Ext.refl _).drew _) e)) ?_ | refine qS ?_); go_frame)
            refine qD fun K hK => ?_
            go_simp
            refine (mix_calls (RV.arr.ext (Ext.refl _).drew) VL (a := 0) (b := 5) (c := 10) (d := 15) (by omega) (by omega) (by omega) (by omega) (HMb.out _ (pm_lt _ _)) (HMb.out _ (pm_lt _ _))).mono ?_
            rintro e w2 ⟨rfl, A2, G2⟩
            refine hK.out _ _ G2 ?_
            clear hK K
            try go_frame
            refine seq_done ?_
            go_wp2_with fail
            refine wp_gen (fun W' => Rv w W' hs gm ms (mixL u3 0 5 10 15 (wd ms (pm k 8)) (wd ms (pm k 9))) ∧ Sr W' gs k) ⟨RV.grow (gr_trans (gr_ext (Ext.refl _).drew _) G2) A2, SR.grow (gr_trans (gr_ext (Ext.refl _).drew _) G2) hgs.out⟩ ?_
            clear A2 G2 KEEP RV SR
            clear W
            rintro W ⟨RV, SR⟩
            have VL' := (mixL_len u3 0 5 10 15 (wd ms (pm k 8)) (wd ms (pm k 9))).trans VL
            clear VL
            generalize HV4 : mixL u3 0 5 10 15 (wd ms (pm k 8)) (wd ms (pm k 9)) = u4 at RV VL'
            replace HV4 := Lib.hid HV4
            have VL := VL'
            clear VL' lp lq
            have CP := SR.cell (j := 10) (by omega)
            have CQ := SR.cell (j := 11) (by omega)
            have CM := RV.mcell (pm_lt k 10) HM.out
            have CN := RV.mcell (pm_lt k 11) HM.out
            have lp : (pm k 10 : Int) < 16 := by have := pm_lt k 10; omega
            have lq : (pm k 11 : Int) < 16 := by have := pm_lt k 11; omega
            have KEEP : Hid (∀ w', W.grownBy w' (some (w.heap.size + 1 + 1 + 1)) → w'.cell? ⟨gs, 10, none⟩ = some (.int .u8 (pm k 10 : Int)) ∧ w'.cell? ⟨gs, 11, none⟩ = some (.int .u8 (pm k 11 : Int)) ∧ w'.cell? ⟨gm, pm k 10, none⟩ = some (.int .u32 (wd ms (pm k 10) : Int)) ∧ w'.cell? ⟨gm, pm k 11, none⟩ = some (.int .u32 (wd ms (pm k 11) : Int))) := fun w' e => ⟨(SR.grow e hgs.out).cell (by omega), (SR.grow e hgs.out).cell (by omega), (RV.mgrow e).cell (by rw [HM.out]; exact pm_lt _ _), (RV.mgrow e).cell (by rw [HM.out]; exact pm_lt _ _)⟩
            clear CP CQ CM CN
            refine qgW ((w.heap.size + 1 + 1 + 1)) [0, 1, 2, 3, 4, 5, 6, 7, 8] [8] ?_
            repeat ((first | refine qR _ (fun w' e => KEEP.out w' (gr_trans (gr_ext (Ext.refl _).drew _) e)) ?_ | refine qS ?_); go_frame)
            refine qD fun K hK => ?_
            go_simp
            refine (mix_calls (RV.arr.ext (Ext.refl _).drew) VL (a := 1) (b := 6) (c := 11) (d := 12) (by omega) (by omega) (by omega) (by omega) (HMb.out _ (pm_lt _ _)) (HMb.out _ (pm_lt _ _))).mono ?_
            rintro e w2 ⟨rfl, A2, G2⟩
            refine hK.out _ _ G2 ?_
            clear hK K
            try go_frame
            refine seq_done ?_
            go_wp2_with fail
            refine wp_gen (fun W' => Rv w W' hs gm ms (mixL u4 1 6 11 12 (wd ms (pm k 10)) (wd ms (pm k 11))) ∧ Sr W' gs k) ⟨RV.grow (gr_trans (gr_ext (Ext.refl _).drew _) G2) A2, SR.grow (gr_trans (gr_ext (Ext.refl _).drew _) G2) hgs.out⟩ ?_
            clear A2 G2 KEEP RV SR
            clear W
            rintro W ⟨RV, SR⟩
            have VL' := (mixL_len u4 1 6 11 12 (wd ms (pm k 10)) (wd ms (pm k 11))).trans VL
            clear VL
            generalize HV5 : mixL u4 1 6 11 12 (wd ms (pm k 10)) (wd ms (pm k 11)) = u5 at RV VL'
            replace HV5 := Lib.hid HV5
            have VL := VL'
            clear VL' lp lq
            have CP := SR.cell (j := 12) (by omega)
            have CQ := SR.cell (j := 13) (by omega)
            have CM := RV.mcell (pm_lt k 12) HM.out
            have CN := RV.mcell (pm_lt k 13) HM.out
            have lp : (pm k 12 : Int) < 16 := by have := pm_lt k 12; omega
            have lq : (pm k 13 : Int) < 16 := by have := pm_lt k 13; omega
            have KEEP : Hid (∀ w', W.grownBy w' (some (w.heap.size + 1 + 1 + 1)) → w'.cell? ⟨gs, 12, none⟩ = some (.int .u8 (pm k 12 : Int)) ∧ w'.cell? ⟨gs, 13, none⟩ = some (.int .u8 (pm k 13 : Int)) ∧ w'.cell? ⟨gm, pm k 12, none⟩ = some (.int .u32 (wd ms (pm k 12) : Int)) ∧ w'.cell? ⟨gm, pm k 13, none⟩ = some (.int .u32 (wd ms (pm k 13) : Int))) := fun w' e => ⟨(SR.grow e hgs.out).cell (by omega), (SR.grow e hgs.out).cell (by omega), (RV.mgrow e).cell (by rw [HM.out]; exact pm_lt _ _), (RV.mgrow e).cell (by rw [HM.out]; exact pm_lt _ _)⟩
            clear CP CQ CM CN
            refine qgW ((w.heap.size + 1 + 1 + 1)) [0, 1, 2, 3, 4, 5, 6, 7, 8] [8] ?_
            repeat ((first | refine qR _ (fun w' e => KEEP.out w' (gr_trans (gr_ext (Ext.refl _).drew _) e)) ?_ | refine qS ?_); go_frame)
            refine qD fun K hK => ?_
            go_simp
            refine (mix_calls (RV.arr.ext (Ext.refl _).drew) VL (a := 2) (b := 7) (c := 8) (d := 13) (by omega) (by omega) (by omega) (by omega) (HMb.out _ (pm_lt _ _)) (HMb.out _ (pm_lt _ _))).mono ?_
            rintro e w2 ⟨rfl, A2, G2⟩
            refine hK.out _ _ G2 ?_
            clear hK K
            try go_frame
            refine seq_done ?_
            go_wp2_with fail
            refine wp_gen (fun W' => Rv w W' hs gm ms (mixL u5 2 7 8 13 (wd ms (pm k 12)) (wd ms (pm k 13))) ∧ Sr W' gs k) ⟨RV.grow (gr_trans (gr_ext (Ext.refl _).drew _) G2) A2, SR.grow (gr_trans (gr_ext (Ext.refl _).drew _) G2) hgs.out⟩ ?_
            clear A2 G2 KEEP RV SR
            clear W
            rintro W ⟨RV, SR⟩
            have VL' := (mixL_len u5 2 7 8 13 (wd ms (pm k 12)) (wd ms (pm k 13))).trans VL
            clear VL
            generalize HV6 : mixL u5 2 7 8 13 (wd ms (pm k 12)) (wd ms (pm k 13)) = u6 at RV VL'
            replace HV6 := Lib.hid HV6
            have VL := VL'
            clear VL' lp lq
            have CP := SR.cell (j := 14) (by omega)
            have CQ := SR.cell (j := 15) (by omega)
            have CM := RV.mcell (pm_lt k 14) HM.out
            have CN := RV.mcell (pm_lt k 15) HM.out
            have lp : (pm k 14 : Int) < 16 := by have := pm_lt k 14; omega
            have lq : (pm k 15 : Int) < 16 := by have := pm_lt k 15; omega
            have KEEP : Hid (∀ w', W.grownBy w' (some (w.heap.size + 1 + 1 + 1)) → w'.cell? ⟨gs, 14, none⟩ = some (.int .u8 (pm k 14 : Int)) ∧ w'.cell? ⟨gs, 15, none⟩ = some (.int .u8 (pm k 15 : Int)) ∧ w'.cell? ⟨gm, pm k 14, none⟩ = some (.int .u32 (wd ms (pm k 14) : Int)) ∧ w'.cell? ⟨gm, pm k 15, none⟩ = some (.int .u32 (wd ms (pm k 15) : Int))) := fun w' e => ⟨(SR.grow e hgs.out).cell (by omega), (SR.grow e hgs.out).cell (by omega), (RV.mgrow e).cell (by rw [HM.out]; exact pm_lt _ _), (RV.mgrow e).cell (by rw [HM.out]; exact pm_lt _ _)⟩
            clear CP CQ CM CN
            refine qgW ((w.heap.size + 1 + 1 + 1)) [0, 1, 2, 3, 4, 5, 6, 7, 8] [8] ?_
            repeat ((first | refine qR _ (fun w' e => KEEP.out w' (gr_trans (gr_ext (Ext.refl _).drew _) e)) ?_ | refine qS ?_); go_frame)
            refine qD fun K hK => ?_
            go_simp
            refine (mix_calls (RV.arr.ext (Ext.refl _).drew) VL (a := 3) (b := 4) (c := 9) (d := 14) (by omega) (by omega) (by omega) (by omega) (HMb.out _ (pm_lt _ _)) (HMb.out _ (pm_lt _ _))).mono ?_
            rintro e w2 ⟨rfl, A2, G2⟩
            refine hK.out _ _ G2 ?_
            clear hK K
            try go_frame
            refine seq_done ?_
            go_wp2_with fail
            refine ⟨⟨k + 1, by omega, by go_num, ?_⟩, by simp [intOf]; omega⟩
            have h9 : rowV ms vk k = mixL u6 3 4 9 14 (wd ms (pm k 14)) (wd ms (pm k 15)) := by
              unfold rowV
              simp only []
              rw [HV0.out, HV1.out, HV2.out, HV3.out, HV4.out, HV5.out, HV6.out]
            rw [HSUC.out, h9]
            exact RV.grow (gr_trans (gr_ext (Ext.refl _).drew _) G2) A2
          · obtain rfl : k = 10 := by omega
            rw [show ((10 : Nat) : Int) = 10 from rfl]
            generalize hV : roundsV ms v0 10 = V at RV VL
            replace hV := Lib.hid hV
            have vb : Hid (∀ j, j < 16 → wd V j < 4294967296) := fun j hj => (RV.arr.2 j (by omega)).2.2
            go_wp2_with fail
            go_loopw [125] (fun i wx => ∃ (k : Nat) (ys : List Nat), k ≤ 8 ∧ i = .int .i64 k ∧ ys.length = 8 ∧ (∀ j, j < k → wd ys j = wd hs j ^^^ (wd V j ^^^ wd V (j + 8))) ∧ (∀ j, k ≤ j → j < 8 → wd ys j = wd hs j) ∧ Rv w wx ys gm ms V) (fun i _ => 8 - (intOf i).toNat)
            case atStart => exact ⟨0, hs, Nat.zero_le _, rfl, hl, fun j hj => absurd hj (by omega), fun j _ _ => rfl, RV⟩
            case round =>
              obtain ⟨k, ys, hk, rfl, yl, hy1, hy2, RY⟩ := hrel
              clear RV
              by_cases hlt : k < 8
              · have q0 := hy2 k (Nat.le_refl _) hlt
                have b0 := hb k hlt
                have b1 := vb.out k (by omega)
                have b2 := vb.out (k + 8) (by omega)
                have cy := RY.2.1.cell (i := k) (by omega)
                rw [q0] at cy
                have fy := RY.2.1.frozen k
                obtain ⟨c1, f1, _⟩ := RY.arr.fct (i := k) (by omega)
                obtain ⟨c2, f2, _⟩ := RY.arr.fct (i := k + 8) (by omega)
                have u1 : bits .xor .u32 (wd V k : Int) (wd V (k + 8) : Int) = ((wd V k ^^^ wd V (k + 8) : Nat) : Int) := u32_xor_nat _ _ b1 b2
                have u2 : bits .xor .u32 (wd hs k : Int) ((wd V k ^^^ wd V (k + 8) : Nat) : Int) = ((wd hs k ^^^ (wd V k ^^^ wd V (k + 8)) : Nat) : Int) := u32_xor_nat _ _ b0 (xor_lt32 b1 b2)
                have KEEP : Hid (∀ w', Ext wr w' → w'.cell? ⟨w.heap.size, k, none⟩ = some (.int .u32 (wd hs k : Int)) ∧ w'.cell? ⟨w.heap.size + 1 + 1 + 1, k, none⟩ = some (.int .u32 (wd V k : Int)) ∧ w'.cell? ⟨w.heap.size + 1 + 1 + 1, k + 8, none⟩ = some (.int .u32 (wd V (k + 8) : Int))) := fun w' e => ⟨by rw [← q0]; exact (RY.2.1.kept e RY.2.1.lt).cell (by omega), ((RY.arr.ext e).fct (by omega)).1, ((RY.arr.ext e).fct (by omega)).1⟩
                have i1 : (k : Int) < 8 := by omega
                have i2 : (k : Int) < 16 := by omega
                have i3 : (k : Int) + 8 < 16 := by omega
                have i4 : IntKind.i64.wrap ((k : Int) + 8) = (k : Int) + 8 := IntWalk.i64_in _ (by omega)
                have i5 : ((k : Int) + 8).toNat = k + 8 := by omega
                have i6 : (0 : Int) ≤ (k : Int) + 8 := by omega
                clear q0
                replace hy1 := Lib.hid hy1
                replace hy2 := Lib.hid hy2
                go_wp2_with fail
                refine qgZE 13 [0, 1, 2, 3, 4, 5, 6, 7, 8, 9, 10, 11, 12, 13] [13] ?_
                repeat (refine qzR _ (fun w' e => KEEP.out w' ((Ext.refl _).drew.trans e)) ?_; go_frame)
                refine qzD fun K1 hK1 => ?_
                go_simp
                refine hK1.out _ _ (.inl rfl) ?_
                clear hK1 K1
                refine seqZ_done ?_
                clear u1 u2 i1 i2 i3 i4 i5 i6 cy fy c1 f1 c2 f2 KEEP
                go_wp2_with fail
                refine ⟨⟨k + 1, ys.set k (wd hs k ^^^ (wd V k ^^^ wd V (k + 8))), by omega, by go_num, by rw [List.length_set]; exact yl, fun j hj => ?_, fun j h1 h2 => ?_, (RY.setH k _).ext (Ext.refl _).drew⟩, by simp [intOf]; omega⟩
                · rw [wd_set (by omega)]
                  by_cases q : j = k
                  · rw [if_pos q, q]
                  · rw [if_neg q]; exact hy1.out j (by omega)
                · rw [wd_set (by omega), if_neg (by omega)]; exact hy2.out j (by omega) h2
              · obtain rfl : k = 8 := by omega
                have hfin := Lib.hid (endV_all yl hy1)
                have HL := wcells_size yl
                have hone := wcells_one ys
                have h1 := RY.2.1
                have h2 := RY.2.2.1
                have he := RY.1
                unfold Wr at h1 h2
                generalize hC : (wcells ys).toArray = C at h1 HL hone
                clear hy1 hy2 RY vb
                replace hC := Lib.hid hC
                replace h1 := Lib.hid h1
                replace h2 := Lib.hid h2
                go_wp2_with (first
                  | refine wpList_load_row rfl 135 _ rfl w.heap.size rfl 135 C (0, 0) _ h1.out rfl rfl (by rw [HL]; rfl) ?_
                  | refine wpList_store_row rfl 135 _ _ rfl (w.heap.size + 1 + 1) C rfl rfl 135 _ h2.out (by rw [HL]; rfl) (by rw [HL]; rfl) hone ?_)
                (try simp only [Exit.inBlock, Exit.then])
                refine bodyPost_ret (results_cell_row rfl _ _ (w.heap.size + 1 + 1) 135 C (0, 0) _ rfl (setRow_heap _ _ _ _ _ _ h2.out) rfl rfl (by rw [HL]; rfl)) rfl ?_
                exact ⟨by rw [compL, hM.out, ← hv0.out, hV.out, hfin.out, hC.out], below_setRow he (by omega) _⟩
end Go.Proofs.YtbnjmmefnjoofaaDoor
