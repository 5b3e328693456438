import Derived.Test.YthdjojindijmnaaDoorDr
import Derived.Test.YthdjojindijmnaaDoorPkM
import Derived.Deep.DeepCutAuto
/-
  chacha.start.
-/
namespace Go.Proofs.YthdjojindijmnaaDoor
open Go.ChangeShapes Go.WideShapes Go.ChangeAt Go.RowKit Go.Deep

def fourL : List Nat := [1634760805, 857760878, 2036477234, 1797285236]
def part4 (xs : List UInt8) (i : Nat) : Nat := ofLowL ((xs.drop (4 * i)).take 4)
def startL (ks ns : List UInt8) (n : Nat) : List Nat := fourL ++ (List.range 8).map (part4 ks) ++ [n] ++ (List.range 3).map (part4 ns)
def baseL : List Nat := fourL ++ List.replicate 12 0
def baseC : Array Value := (wcells baseL).toArray
theorem base_built : Tryd.prog.built 89 [(0, .int .u32 1634760805), (1, .int .u32 857760878), (2, .int .u32 2036477234), (3, .int .u32 1797285236)] = some (wcells baseL).toArray := by kernel_rfl
theorem startL_len (ks ns : List UInt8) (n : Nat) : (startL ks ns n).length = 16 := by simp [startL, fourL]
theorem wd_ext {xs ys : List Nat} (h : xs.length = ys.length) (hb : ∀ j, j < xs.length → wd xs j = wd ys j) : xs = ys := by
  refine List.ext_getElem h fun j h1 h2 => ?_
  have := hb j h1
  simpa [wd, List.getD, h1, h2] using this
theorem start_all {vs : List Nat} {ks ns : List UInt8} {n : Nat} (hl : vs.length = 16) (F0 : ∀ j, j < 4 → wd vs j = wd baseL j) (F1 : ∀ j, j < 8 → wd vs (4 + j) = part4 ks j) (F2 : wd vs 12 = n) (F3 : ∀ j, j < 3 → wd vs (13 + j) = part4 ns j) : vs = startL ks ns n := by
  refine wd_ext (hl.trans (startL_len _ _ _).symm) fun j hj => ?_
  have h : j = 0 ∨ j = 1 ∨ j = 2 ∨ j = 3 ∨ j = 4 ∨ j = 5 ∨ j = 6 ∨ j = 7 ∨ j = 8 ∨ j = 9 ∨ j = 10 ∨ j = 11 ∨ j = 12 ∨ j = 13 ∨ j = 14 ∨ j = 15 := by omega
  rcases h with rfl | rfl | rfl | rfl | rfl | rfl | rfl | rfl | rfl | rfl | rfl | rfl | rfl | rfl | rfl | rfl
  · exact (F0 0 (by omega)).trans rfl
  · exact (F0 1 (by omega)).trans rfl
  · exact (F0 2 (by omega)).trans rfl
  · exact (F0 3 (by omega)).trans rfl
  · exact (F1 0 (by omega)).trans rfl
  · exact (F1 1 (by omega)).trans rfl
  · exact (F1 2 (by omega)).trans rfl
  · exact (F1 3 (by omega)).trans rfl
  · exact (F1 4 (by omega)).trans rfl
  · exact (F1 5 (by omega)).trans rfl
  · exact (F1 6 (by omega)).trans rfl
  · exact (F1 7 (by omega)).trans rfl
  · exact F2.trans rfl
  · exact (F3 0 (by omega)).trans rfl
  · exact (F3 1 (by omega)).trans rfl
  · exact (F3 2 (by omega)).trans rfl
theorem part4_lt (xs : List UInt8) (i : Nat) : part4 xs i < 4294967296 := by
  have h := ofLowL_lt ((xs.drop (4 * i)).take 4)
  have hl : ((xs.drop (4 * i)).take 4).length ≤ 4 := by simp; omega
  exact Nat.lt_of_lt_of_le h (Nat.le_trans (Nat.pow_le_pow_right (by omega) hl) (by decide))

/-- xs[4*k : 4*k+4 : 4*k+4] of an array. -/
theorem slice4m {w : World} {g k n : Nat} {t : TypeId} (ht : Tryd.prog.underlying t = some (.array (Tryd.prog.arrayLen t) (Tryd.prog.elem t))) (hs : ∀ w, (sizeOf (Tryd.prog.elem t)).run Tryd.prog w = .ok 1 w) (hn : Tryd.prog.arrayLen t = n) (hk : 4 * k + 4 ≤ n) :
    (Instr.sliceAt t (.pointer (some ⟨g, 0, none⟩)) (some (.int .i64 (4 * (k : Int)))) (some (.int .i64 (4 * (k : Int) + 4))) (some (.int .i64 (4 * (k : Int) + 4)))).run Tryd.prog w = .ok (.slice (some ⟨g, 4 * k, none⟩) 4 4) w := by
  rw [run_sliceAt_array_lhm w t _ ht .i64 .i64 .i64 _ _ _ (by omega) (by omega) (by omega) (by rw [hn]; omega)]
  rw [hs]
  have h1 : (4 * (k : Int)).toNat = 4 * k := by omega
  have h2 : (4 * (k : Int) + 4).toNat = 4 * k + 4 := by omega
  have h3 : (⟨g, 0, none⟩ : Addr).add (4 * k * 1) = ⟨g, 4 * k, none⟩ := by unfold Addr.add; split <;> simp_all
  show Result.ok (slicedAt _ _ _ _ _) w = _
  rw [h1, h2]
  unfold slicedAt
  rw [if_neg (by omega), h3, show 4 * k + 4 - 4 * k = 4 by omega]

/-- The worlds of start: the key, the nonce, the result, the words. -/
def Sw (w wr : World) (ks ns : List UInt8) (vs : List Nat) : Prop :=
  Ext w wr ∧ wr.heap[w.heap.size]? = some (.cells (cellsOf ks).toArray 23 (0, 0)) ∧ wr.heap[w.heap.size + 1]? = some (.cells (cellsOf ns).toArray 73 (0, 0)) ∧ Wr wr (w.heap.size + 1 + 1) 89 (List.replicate 16 0) ∧ Wr wr (w.heap.size + 1 + 1 + 1) 89 vs
theorem Sw.setV {w wr : World} {ks ns : List UInt8} {vs : List Nat} (h : Sw w wr ks ns vs) (k x : Nat) : Sw w (wr.setCell ⟨w.heap.size + 1 + 1 + 1, k, none⟩ (.int .u32 (x : Int))) ks ns (vs.set k x) := by
  obtain ⟨e, a, b, c, d⟩ := h
  have hb : Below (w.heap.size + 1 + 1 + 1) wr (wr.setCell ⟨w.heap.size + 1 + 1 + 1, k, none⟩ (.int .u32 (x : Int))) := Below.setCell (p := ⟨w.heap.size + 1 + 1 + 1, k, none⟩) (Below.refl (w.heap.size + 1 + 1 + 1) wr) (Nat.le_refl _) _
  exact ⟨Below.trans e (hb.mono (by omega)), (hb.block _ (by omega)).trans a, (hb.block _ (by omega)).trans b, c.kept hb (by omega), d.set⟩
theorem heap_a40 (w : World) (o1 o2 o3 o4 : Obj) : ((((w.alloc o1).alloc o2).alloc o3).alloc o4).heap[w.heap.size]? = some o1 := by
  rw [Below.heap_alloc _ _ _ (by rw [size_alloc, size_alloc, size_alloc]; omega)]
  exact heap_alloc30 w o1 o2 o3
theorem heap_a41 (w : World) (o1 o2 o3 o4 : Obj) : ((((w.alloc o1).alloc o2).alloc o3).alloc o4).heap[w.heap.size + 1]? = some o2 := by
  rw [Below.heap_alloc _ _ _ (by rw [size_alloc, size_alloc, size_alloc]; omega)]
  exact heap_alloc31 w o1 o2 o3
theorem heap_a42 (w : World) (o1 o2 o3 o4 : Obj) : ((((w.alloc o1).alloc o2).alloc o3).alloc o4).heap[w.heap.size + 1 + 1]? = some o3 := by
  rw [Below.heap_alloc _ _ _ (by rw [size_alloc, size_alloc, size_alloc]; omega)]
  exact heap_alloc32 w o1 o2 o3
theorem heap_a43 (w : World) (o1 o2 o3 o4 : Obj) : ((((w.alloc o1).alloc o2).alloc o3).alloc o4).heap[w.heap.size + 1 + 1 + 1]? = some o4 := by
  have := heap_alloc32 (w.alloc o1) o2 o3 o4
  rwa [size_alloc] at this

set_option maxRecDepth 100000 in
set_option maxHeartbeats 2000000 in
theorem start_calls {ks ns : List UInt8} {n : Nat} {w : World} (hk : ks.length = 32) (hn : ns.length = 12) (hN : n < 4294967296) :
    Calls Tryd.prog 69 #[.agg (cellsOf ks).toArray, .agg (cellsOf ns).toArray, .int .u32 (n : Int)] w fun e w' => e = .returned (.agg (wcells (startL ks ns n)).toArray) ∧ Ext w w' := by
  have BL := wcells_size (show baseL.length = 16 from rfl)
  have B1 := wcells_one baseL
  have hal : ∀ w, (zeroValue 89).run Tryd.prog w = .ok (.agg (wcells (List.replicate 16 0)).toArray) w := fun _ => by kernel_rfl
  have ZL := wcells_size (show (List.replicate 16 0).length = 16 from rfl)
  have SW0 : Hid (Sw w (((((w.alloc (Obj.cells (cellsOf ks).toArray 23)).alloc (Obj.cells (cellsOf ns).toArray 73)).alloc (Obj.cells (wcells (List.replicate 16 0)).toArray 89)).alloc (Obj.cells (wcells (List.replicate 16 0)).toArray 89)).setRow (w.heap.size + 1 + 1 + 1) (wcells baseL).toArray) ks ns baseL) :=
    ⟨below_setRow (((((Ext.refl w).alloc _).alloc _).alloc _).alloc _) (by omega) _, (setRow_other _ _ _ _ (by omega)).trans (heap_a40 _ _ _ _ _), (setRow_other _ _ _ _ (by omega)).trans (heap_a41 _ _ _ _ _), (setRow_other _ _ _ _ (by omega)).trans (heap_a42 _ _ _ _ _), setRow_heap _ _ _ _ _ _ (heap_a43 _ _ _ _ _)⟩
  have h3 : Hid (∀ o1 o2 o3, ((((w.alloc o1).alloc o2).alloc o3).alloc (Obj.cells (wcells (List.replicate 16 0)).toArray 89)).heap[w.heap.size + 1 + 1 + 1]? = some (Obj.cells (wcells (List.replicate 16 0)).toArray 89)) := fun o1 o2 o3 => heap_a43 _ _ _ _ _
  generalize hZ : (wcells (List.replicate 16 0)).toArray = Z at *
  replace hZ := Lib.hid hZ
  go_enter Tryd.func69, Tryd.ntmps69
  go_upto_region 2 with (first
    | (refine wpList_build_as rfl _ _ rfl (wcells baseL).toArray (by kernel_rfl) ?_; simp only [Act.put, List.setIfInBounds_toArray, List.set_cons_zero, List.set_cons_succ])
    | (refine wpList_store_row rfl 89 _ _ rfl (w.heap.size + 1 + 1 + 1) (wcells baseL).toArray rfl rfl 89 _ (by with_reducible exact h3.out _ _ _) (by rw [BL]; rfl) (by rw [BL]; exact ZL) B1 ?_; simp only [Act.put, List.setIfInBounds_toArray, List.set_cons_zero, List.set_cons_succ]))
  refine wp_gen (fun W => Sw w W ks ns baseL) SW0.out ?_
  clear SW0 h3 hal B1 BL ZL
  rintro w0 S0
  go_wp2_with fail
  go_loopw [11] (fun i wr => ∃ (k : Nat) (vs : List Nat), k ≤ 8 ∧ i = .int .i64 k ∧ vs.length = 16 ∧ (∀ j, j < 4 → wd vs j = wd baseL j) ∧ (∀ j, j < k → wd vs (4 + j) = part4 ks j) ∧ Sw w wr ks ns vs) (fun i _ => 8 - (intOf i).toNat)
  case atStart => exact ⟨0, baseL, Nat.zero_le _, rfl, rfl, fun _ _ => rfl, fun j hj => absurd hj (by omega), S0⟩
  case round =>
    obtain ⟨k, vs, hk8, rfl, hl, F0, F1, SK⟩ := hrel
    clear S0
    by_cases hlt : k < 8
    · have hK := SK.2.1
      have g3 := SK.2.2.2.2.cell (i := 4 + k) (by omega)
      have g4 := SK.2.2.2.2.frozen (4 + k)
      have ik : (k : Int) < 8 := by omega
      have jk : (4 : Int) + (k : Int) < 16 := by omega
      have hsl := fun w' : World => slice4m (w := w') (g := w.heap.size) (k := k) (t := 23) rfl (fun _ => rfl) rfl (show 4 * k + 4 ≤ 32 by omega)
      have HC := Lib.hid (word_calls (Bs.part hK (o := 4 * k) (n := 4) (c := 4) (by omega) (by omega) (by omega)))
      replace SK := Lib.hid SK
      replace F0 := Lib.hid F0
      replace F1 := Lib.hid F1
      clear hK
      go_wp2_with fail
      refine HC.out.mono ?_
      rintro e w1 ⟨rfl, rfl⟩
      go_wp2_with fail
      refine ⟨⟨k + 1, vs.set (4 + k) (part4 ks k), by omega, by go_num, by rw [List.length_set]; exact hl, fun j hj => ?_, fun j hj => ?_, SK.out.setV _ _⟩, by simp [intOf]; omega⟩
      · rw [wd_set (by omega), if_neg (by omega)]; exact F0.out j hj
      · rw [wd_set (by omega)]
        by_cases q : j = k
        · rw [if_pos (by omega), q]
        · rw [if_neg (by omega)]; exact F1.out j (by omega)
    · obtain rfl : k = 8 := by omega
      rw [show ((8 : Nat) : Int) = 8 from rfl]
      have g3 := SK.2.2.2.2.cell (i := 12) (by omega)
      have g4 := SK.2.2.2.2.frozen 12
      go_upto_region 8 with (fail)
      refine wp_gen (fun W => ∃ vs : List Nat, vs.length = 16 ∧ (∀ j, j < 4 → wd vs j = wd baseL j) ∧ (∀ j, j < 8 → wd vs (4 + j) = part4 ks j) ∧ wd vs 12 = n ∧ Sw w W ks ns vs) ⟨vs.set 12 n, by rw [List.length_set]; exact hl, fun j hj => by rw [wd_set (by omega), if_neg (by omega)]; exact F0 j hj, fun j hj => by rw [wd_set (by omega), if_neg (by omega)]; exact F1 j hj, by rw [wd_set (by omega), if_pos rfl], SK.setV _ _⟩ ?_
      clear g3 g4 SK F0 F1 hl
      clear vs
      rintro w2 ⟨vs0, hl0, F00, F10, F20, S2⟩
      go_wp2_with fail
      go_loopw [30] (fun i wr => ∃ (k : Nat) (vs : List Nat), k ≤ 3 ∧ i = .int .i64 k ∧ vs.length = 16 ∧ (∀ j, j < 4 → wd vs j = wd baseL j) ∧ (∀ j, j < 8 → wd vs (4 + j) = part4 ks j) ∧ wd vs 12 = n ∧ (∀ j, j < k → wd vs (13 + j) = part4 ns j) ∧ Sw w wr ks ns vs) (fun i _ => 3 - (intOf i).toNat)
      case atStart => exact ⟨0, vs0, Nat.zero_le _, rfl, hl0, F00, F10, F20, fun j hj => absurd hj (by omega), S2⟩
      case round =>
        obtain ⟨k, vs, hk3, rfl, hl, F0, F1, F2, F3, SK⟩ := hrel
        clear S2 hl0 F00 F10 F20
        by_cases hlt : k < 3
        · have hK := SK.2.2.1
          have g3 := SK.2.2.2.2.cell (i := 13 + k) (by omega)
          have g4 := SK.2.2.2.2.frozen (13 + k)
          have ik : (k : Int) < 3 := by omega
          have jk : (13 : Int) + (k : Int) < 16 := by omega
          have hsl := fun w' : World => slice4m (w := w') (g := (w.heap.size + 1)) (k := k) (t := 73) rfl (fun _ => rfl) rfl (show 4 * k + 4 ≤ 12 by omega)
          have HC := Lib.hid (word_calls (Bs.part hK (o := 4 * k) (n := 4) (c := 4) (by omega) (by omega) (by omega)))
          replace SK := Lib.hid SK
          replace F0 := Lib.hid F0
          replace F1 := Lib.hid F1
          replace F2 := Lib.hid F2
          replace F3 := Lib.hid F3
          clear hK
          go_wp2_with fail
          refine HC.out.mono ?_
          rintro e w1 ⟨rfl, rfl⟩
          go_wp2_with fail
          refine ⟨⟨k + 1, vs.set (13 + k) (part4 ns k), by omega, by go_num, by rw [List.length_set]; exact hl, fun j hj => ?_, fun j hj => ?_, ?_, fun j hj => ?_, SK.out.setV _ _⟩, by simp [intOf]; omega⟩
          · rw [wd_set (by omega), if_neg (by omega)]; exact F0.out j hj
          · rw [wd_set (by omega), if_neg (by omega)]; exact F1.out j hj
          · rw [wd_set (by omega), if_neg (by omega)]; exact F2.out
          · rw [wd_set (by omega)]
            by_cases q : j = k
            · rw [if_pos (by omega), q]
            · rw [if_neg (by omega)]; exact F3.out j (by omega)
        · obtain rfl : k = 3 := by omega
          have hvs := Lib.hid (start_all hl F0 F1 F2 F3)
          have HL := wcells_size hl
          have hone := wcells_one vs
          obtain ⟨he, _, _, h1, h2⟩ := SK
          unfold Wr at h1 h2
          generalize hC : (wcells vs).toArray = C at h2 HL hone
          clear F0 F1 F2 F3
          replace hC := Lib.hid hC
          replace h1 := Lib.hid h1
          replace h2 := Lib.hid h2
          go_wp2_with (first
            | refine wpList_load_row rfl 89 _ rfl (w.heap.size + 1 + 1 + 1) rfl 89 C (0, 0) _ h2.out rfl rfl (by rw [HL]; rfl) ?_
            | refine wpList_store_row rfl 89 _ _ rfl (w.heap.size + 1 + 1) C rfl rfl 89 _ h1.out (by rw [HL]; rfl) (by rw [HL]; rfl) hone ?_)
          (try simp only [Exit.inBlock, Exit.then])
          refine bodyPost_ret (results_cell_row rfl _ _ (w.heap.size + 1 + 1) 89 C (0, 0) _ rfl (setRow_heap _ _ _ _ _ _ h1.out) rfl rfl (by rw [HL]; rfl)) rfl ?_
          exact ⟨by rw [← hvs.out, hC.out], below_setRow he (by omega) _⟩
end Go.Proofs.YthdjojindijmnaaDoor
