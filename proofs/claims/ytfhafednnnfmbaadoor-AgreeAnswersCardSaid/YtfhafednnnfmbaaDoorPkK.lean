import Derived.Test.YtfhafednnnfmbaaDoorPkP
import Derived.Test.YtfhafednnnfmbaaDoorPkL
import Derived.Test.YtfhafednnnfmbaaDoorPkO
section
/-
  octets.High (over LowB): for seats without layer 1's laws.
-/
namespace Go.Proofs.YtfhafednnnfmbaaDoor
open Go.ChangeShapes Go.WideShapes Go.ChangeAt Go.RowKit Go.Deep

theorem bt_reverse {xs : List UInt8} {k : Nat} (hk : k < xs.length) : bt xs.reverse k = bt xs (xs.length - 1 - k) := by
  unfold bt
  simp [List.getD, hk, List.getElem?_reverse, show xs.length - 1 - k < xs.length by omega]

/-- A row of bytes of the call's own that is filled from its end on. -/
def FillBack (w wr : World) (n k : Nat) (f : Nat → Nat) : Prop := Ext w wr ∧ wr.rowIs w.heap.size 5 n (fun i => if n ≤ i + k then .int .u8 (f i : Int) else .int .u8 0)
theorem FillBack.step {w wr : World} {n k : Nat} {f : Nat → Nat} (h : FillBack w wr n k f) {j : Nat} (hj : j + k + 1 = n) {u : Int} (hu : u = (f j : Int)) :
    FillBack w (wr.setCell ⟨w.heap.size, j, none⟩ (.int .u8 u)) n (k + 1) f := by
  subst hu
  refine ⟨h.1.setCell (Nat.le_refl _) _, (h.2.set j _).congr fun i _ => ?_⟩
  by_cases e : i = j
  · subst e; simp only [if_true]; rw [if_pos (by omega)]
  · simp only [if_neg e]
    by_cases hi : n ≤ i + k
    · rw [if_pos hi, if_pos (by omega)]
    · rw [if_neg hi, if_neg (by omega)]

set_option maxHeartbeats 400000 in
theorem reversed_calls {A : Option Addr} {n c : Nat} {xs : List UInt8} {w : World} (h : Bs w A n c xs) (hm : n ≤ 281474976710656) :
    Calls Tryd.prog 54 #[.slice A n c] w (RetBs xs.reverse w) := by
  have h1 := h.le
  have h2 := h.cap
  have hmk := make8 n hm
  go_enter Tryd.func54, Tryd.ntmps54
  go_wp2
  clear hmk
  go_loopw [10] (fun i wr => ∃ k : Nat, k ≤ n ∧ i = .int .i64 k ∧ FillBack w wr n k (fun j => bt xs (n - 1 - j))) (fun i _ => n - (intOf i).toNat)
  case atStart => exact ⟨0, Nat.zero_le _, rfl, (Ext.refl w).alloc _, (World.rowIs_made w _ n _).congr fun i hi => by rw [if_neg (by omega)]⟩
  case round =>
    obtain ⟨k, hk, rfl, hf⟩ := hrel
    by_cases hlt : k < n
    · obtain ⟨b, off, rfl, hb, hc⟩ := h.pos (by omega)
      have g1 := (hf.1.cell (p := ⟨b, off + k, none⟩) hb).trans (hc k hlt)
      have g3 := hf.2.cell (i := n - 1 - k) (by omega)
      rw [if_neg (by omega)] at g3
      have g4 := hf.2.frozen (n - 1 - k)
      clear hc
      go_wp2
      go_roundw
      case rel =>
        exact ⟨k + 1, by omega, by go_num, hf.step (by omega) (by rw [show n - 1 - (n - 1 - k) = k by omega])⟩
      case measure => simp [intOf]; omega
    · obtain rfl : k = n := by omega
      go_wp2
      go_ret
      refine ⟨_, _, _, rfl, ?_, hf.1⟩
      refine ⟨by rw [List.length_reverse, h.len], Nat.le_refl _, by unfold maxLen; omega, fun _ => ⟨w.heap.size, 0, rfl, hf.2.lt, fun j hj => ?_⟩⟩
      rw [Nat.zero_add, hf.2.cell hj, if_pos (by omega), bt_reverse (by rw [h.len]; exact hj), h.len]

set_option maxHeartbeats 400000 in
theorem high_calls {n m : Nat} {many : Int} {w : World} (hn : n < 18446744073709551616) (h1 : 0 ≤ many) (h2 : many ≤ 9223372036854775807) (hm8 : m ≤ 8) (hM : (if (8 : Int) < many then 8 else many) = (m : Int)) :
    Calls Tryd.prog 32 #[.int .u64 (n : Int), .int .i64 many] w (RetBs (lowL n m).reverse w) := by
  have hM' := Lib.hid hM
  clear hM
  go_enter Tryd.func32, Tryd.ntmps32
  go_wp2_with fail
  refine (low_calls hn h1 h2 hm8 hM'.out).mono ?_
  rintro e w1 ⟨A, k, c, rfl, hb, he⟩
  go_wp2_with fail
  have hk : k ≤ 8 := by have := hb.len; rw [lowL_len] at this; omega
  refine (reversed_calls hb (by omega)).mono ?_
  rintro e w2 ⟨A, k, c, rfl, hb2, he2⟩
  go_wp2_with fail
  go_ret
  exact ⟨_, _, _, rfl, hb2, he.trans he2⟩
end Go.Proofs.YtfhafednnnfmbaaDoor
end

section
/-
  octets.Join: for seats without layer 1's laws.
-/
namespace Go.Proofs.YtfhafednnnfmbaaDoor
open Go.ChangeShapes Go.WideShapes Go.ChangeAt Go.RowKit Go.Deep

/-- A row with its length ahead. -/
def row4 (x : List UInt8) : List UInt8 := (lowL x.length 4).reverse ++ x
def joinL (l : List (List UInt8)) : List UInt8 := l.flatMap row4
theorem row4_len (x : List UInt8) : (row4 x).length = 4 + x.length := by simp [row4, lowL_len]
theorem joinL_snoc {l : List (List UInt8)} {k : Nat} (h : k < l.length) : joinL (l.take (k + 1)) = joinL (l.take k) ++ row4 (l.getD k []) := by
  unfold joinL
  rw [List.take_succ_eq_append_getElem h, List.flatMap_append]
  simp [List.getD, h]
theorem joinL_len_snoc {l : List (List UInt8)} {k : Nat} (h : k < l.length) : (joinL (l.take (k + 1))).length = (joinL (l.take k)).length + (4 + (l.getD k []).length) := by
  rw [joinL_snoc h, List.length_append, row4_len]
theorem joinL_le (l : List (List UInt8)) (k : Nat) : (joinL (l.take k)).length ≤ (joinL l).length := by
  have : joinL l = joinL (l.take k) ++ joinL (l.drop k) := by unfold joinL; rw [← List.flatMap_append, List.take_append_drop]
  rw [this, List.length_append]
  omega
/-- How many bytes k rows have. -/
def sizeAt (l : List (List UInt8)) (k : Nat) : Nat := (joinL (l.take k)).length


set_option maxHeartbeats 1000000 in
theorem join_calls {A : Option Addr} {n c : Nat} {l : List (List UInt8)} {w : World} (h : Rw w A n c l) (hm : (joinL l).length ≤ 100000000) :
    Calls Tryd.prog 24 #[.slice A n c] w (RetBs (joinL l) w) := by
  have h1 := h.le
  have h2 := h.cap
  have hsz : Hid (sizeAt l n = (joinL l).length) := by unfold Hid sizeAt; rw [List.take_of_length_le (by rw [h.len]; omega)]
  have hszn : sizeAt l n ≤ 100000000 := by rw [hsz.out]; exact hm
  have hmk := make0 (sizeAt l n) (by omega)
  go_enter Tryd.func24, Tryd.ntmps24
  go_wp2
  go_loop [3, 11] (fun x i => ∃ k : Nat, k ≤ n ∧ i = .int .i64 k ∧ x = .int .i64 (sizeAt l k : Int)) (fun _ i => n - (intOf i).toNat)
  case atStart => exact ⟨0, Nat.zero_le _, rfl, rfl⟩
  case round =>
    obtain ⟨k, hk, rfl, rfl⟩ := hrel
    by_cases hlt : k < n
    · obtain ⟨b, off, rfl, hb, hc⟩ := h.pos (by omega)
      obtain ⟨A', n', c', g1, g2⟩ := hc k (by omega)
      have hs : Hid ((sizeAt l k : Int) + (4 + (n' : Int)) = (sizeAt l (k + 1) : Int)) := by
        unfold Hid sizeAt
        rw [joinL_len_snoc (by rw [h.len]; omega), g2.len]
        omega
      have hb1 : sizeAt l (k + 1) ≤ 100000000 := Nat.le_trans (joinL_le l (k + 1)) hm
      have hb2 : n' + sizeAt l k ≤ 100000000 := by have := hs.out; omega
      clear hc hmk
      go_wp2
      go_round
      case rel => exact ⟨k + 1, by omega, by go_num, congrArg (Value.int .i64) hs.out⟩
      case measure => simp [intOf]; omega
    · obtain rfl : k = n := by omega
      go_wp2
      clear hmk
      go_loopw [6, 25] (fun v i wr => ∃ (j cc : Nat) (D : Option Addr), j ≤ k ∧ i = .int .i64 j ∧ v = .slice D (sizeAt l j) cc ∧ Own w.heap.size wr D (sizeAt l j) cc (joinL (l.take j)) ∧ Ext w wr) (fun _ i _ => k - (intOf i).toNat)
      case atStart => exact ⟨0, _, _, Nat.zero_le _, rfl, rfl, Own.made w _ _ (Nat.le_refl _) (by omega), (Ext.refl w).alloc _⟩
      case round =>
        obtain ⟨j, cc, D, hj, rfl, rfl, ho, hE⟩ := hrel
        by_cases hlj : j < k
        · obtain ⟨b, off, rfl, hb, hc⟩ := h.pos (by omega)
          obtain ⟨A', n', c', g1', g2⟩ := hc j (by omega)
          have g1 := (hE.cell (p := ⟨b, off + j, none⟩) hb).trans g1'
          have t3 := g2.le
          have t4 := g2.cap
          have hszj := hE.size
          have hb1 : sizeAt l (j + 1) ≤ 100000000 := Nat.le_trans (joinL_le l (j + 1)) hm
          have hs : Hid (sizeAt l (j + 1) = sizeAt l j + 4 + n') := by
            unfold Hid sizeAt
            rw [joinL_len_snoc (by rw [h.len]; omega), g2.len]
            omega
          have hb2 : n' + 4 + sizeAt l j ≤ 100000000 := by have := hs.out; omega
          have hjn : Hid (joinL (l.take (j + 1)) = joinL (l.take j) ++ (lowL n' 4).reverse ++ l.getD j []) := by
            unfold Hid
            rw [joinL_snoc (by rw [h.len]; omega), row4, g2.len, List.append_assoc]
          clear hc g1'
          go_wp2_with fail
          refine (high_calls (m := 4) (by omega) (by omega) (by omega) (by omega) (by omega)).mono ?_
          rintro e w1 ⟨A1, n1, c1, rfl, b1, e1⟩
          obtain rfl : n1 = 4 := by rw [← b1.len, List.length_reverse, lowL_len]
          have hE1 := hE.trans e1
          have z1 := e1.size
          go_wp2_with (first
            | (at_builtin; refine wpList_append_bs rfl (B := w.heap.size) (s := .tmp 29) (x := .tmp 33) rfl rfl rfl (ho.ext e1) b1 (by omega) (by omega) ?_; intro D' cc' w2 ho2 hg2 hbl)
            | (at_builtin; refine wpList_append_bs rfl (B := w.heap.size) (s := .tmp 35) (x := .tmp 36) rfl rfl rfl ho2 (g2.ext (hE1.trans' hbl)) (by omega) (by have := hbl.size; omega) ?_; intro D3 cc3 w3 ho3 hg3 hbl3))
          go_roundw
          case rel => exact ⟨j + 1, cc3, D3, by omega, by go_num, by rw [hs.out], by rw [hs.out, hjn.out]; exact ho3, (hE1.trans' hbl).trans' hbl3⟩
          case measure => simp [intOf]; omega
        · obtain rfl : j = k := by omega
          go_wp2
          go_ret
          exact ⟨_, _, _, rfl, by have := ho.bs; rwa [List.take_of_length_le (by rw [h.len]; omega)] at this, hE⟩
end Go.Proofs.YtfhafednnnfmbaaDoor
end

section
/-
  blake.bytesOf.
-/
namespace Go.Proofs.YtfhafednnnfmbaaDoor
open Go.ChangeShapes Go.WideShapes Go.ChangeAt Go.RowKit Go.Deep
set_option maxRecDepth 100000

/-- k[4*i:] of a key. -/
theorem sliceK {w : World} {g k : Nat} (hk : k < 8) : (Instr.sliceAt 23 (.pointer (some ⟨g, 0, none⟩)) (some (.int .i64 (4 * (k : Int)))) none none).run Tryd.prog w = .ok (.slice (some ⟨g, 4 * k, none⟩) (32 - 4 * k) (32 - 4 * k)) w := by
  have hn : Tryd.prog.arrayLen 23 = 32 := rfl
  rw [run_sliceAt_array_l w 23 _ rfl .i64 _ (by omega) (by rw [hn]; omega)]
  have hs : (sizeOf (Tryd.prog.elem 23)).run Tryd.prog w = .ok 1 w := rfl
  rw [hs]
  have h1 : (4 * (k : Int)).toNat = 4 * k := by omega
  have h3 : (⟨g, 0, none⟩ : Addr).add (4 * k * 1) = ⟨g, 4 * k, none⟩ := by unfold Addr.add; split <;> simp_all
  show Result.ok (slicedAt _ _ _ _ _) w = _
  rw [hn, h1]
  unfold slicedAt
  rw [if_neg (by omega), h3]
set_option maxRecDepth 100000 in
set_option maxHeartbeats 1000000 in
theorem bytesOf_calls {vs : List Nat} {w : World} (h : vs.length = 8) (hb : ∀ i, i < 8 → wd vs i < 4294967296) :
    Calls Tryd.prog 53 #[.agg (wcells vs).toArray] w fun e w' => e = .returned (.agg (cellsOf (bytesL vs)).toArray) ∧ Ext w w' := by
  have HIX := Lib.hid (fun (w : World) (k : Nat) (hk : k < 8) => index_word (w := w) (t := 79) rfl h hk)
  have HL := wcells_size h
  have g0 : ∀ o2 o3, (((w.alloc (Obj.cells (wcells vs).toArray 79)).alloc o2).alloc o3).heap[w.heap.size]? = some (.cells (wcells vs).toArray 79 (0, 0)) := fun o2 o3 => heap_alloc30 _ _ _ _
  have g1 : ∀ o1 o3, (((w.alloc o1).alloc (Obj.cells (List.replicate 32 (Value.int .u8 0)).toArray 23)).alloc o3).heap[w.heap.size + 1]? = some (.cells (List.replicate 32 (Value.int .u8 0)).toArray 23 (0, 0)) := fun o1 o3 => heap_alloc31 _ _ _ _
  have g2 : ∀ o1 o2, (((w.alloc o1).alloc o2).alloc (Obj.cells (List.replicate 32 (Value.int .u8 0)).toArray 23)).heap[w.heap.size + 1 + 1]? = some (.cells (List.replicate 32 (Value.int .u8 0)).toArray 23 (0, 0)) := fun o1 o2 => heap_alloc32 _ _ _ _
  replace g1 := Lib.hid g1
  replace g2 := Lib.hid g2
  replace g0 := Lib.hid g0
  generalize hC : (wcells vs).toArray = C at g0 HL HIX
  replace hC := Lib.hid hC
  go_enter Tryd.func53, Tryd.ntmps53
  go_wp2_with (refine wpList_load_row rfl 79 _ rfl w.heap.size rfl 79 C (0, 0) _ (g0.out _ _) rfl rfl (by rw [HL]; rfl) ?_)
  obtain ⟨B, hB⟩ : ∃ B, B = w.heap.size + 1 + 1 := ⟨_, rfl⟩
  go_loopw [7] (fun i wr => ∃ (k : Nat) (xs : List UInt8), k ≤ 8 ∧ i = .int .i64 k ∧ xs.length = 32 ∧ (∀ j, j < 4 * k → bt xs j = bt (bytesL vs) j) ∧ Ext w wr ∧ wr.heap[w.heap.size + 1]? = some (.cells (List.replicate 32 (Value.int .u8 0)).toArray 23 (0, 0)) ∧ wr.heap[w.heap.size + 1 + 1]? = some (.cells (cellsOf xs).toArray 23 (0, 0))) (fun i _ => 8 - (intOf i).toNat)
  case atStart =>
    exact ⟨0, List.replicate 32 0, Nat.zero_le _, rfl, rfl, fun j hj => absurd hj (by omega), (((Ext.refl _).alloc _).alloc _).alloc _, g1.out _ _, g2.out _ _⟩
  case round =>
    obtain ⟨k, xs, hk, rfl, hl, hv, he, h1, h2⟩ := hrel
    by_cases hlt : k < 8
    · have hix := fun w => HIX.out w k hlt
      have hsl := fun w' : World => sliceK (w := w') (g := w.heap.size + 1 + 1) hlt
      have hwk := hb k hlt
      have m1 : IntKind.i64.wrap (4 * (k : Int)) = 4 * (k : Int) := IntWalk.i64_in _ (by omega)
      have m2 : IntKind.u64.wrap (wd vs k : Int) = (wd vs k : Int) := IntWalk.u64_in _ (by omega)
      have LOW := Lib.hid (fun w0 : World => low_calls (n := wd vs k) (m := 4) (many := 4) (w := w0) (by omega) (by omega) (by omega) (by omega) (by decide))
      replace h1 := Lib.hid h1
      replace h2 := Lib.hid h2
      replace hv := Lib.hid hv
      go_wp2_with fail
      refine wp_region_seq (R := Below B) (Below.refl _) (fun _ _ _ => Below.trans) [0, 1, 2, 3, 4, 5, 6] [5, 6] [(0, 12, 32), (1, 13, 4096), (2, 14, 8208), (0, 15, 64), (8, 16, 32768), (16, 17, 65536), (36, 18, 147456)] (by kernel_rfl) (by kernel_rfl) (by kernel_rfl) rfl (by kernel_rfl) (by kernel_rfl) (fun _ _ d _ _ h => by cases d <;> exact h) ?_
      repeat (first | (refine seq_read (fun _ => True) (fun _ _ => trivial) _ (v := ?_) rfl rfl (by rfl) ?_ ?_; rotate_left; (· intro w' hF; go_simp; (try with_reducible rfl)); simp only [Act.put, List.setIfInBounds_toArray, List.set_cons_zero, List.set_cons_succ]) | (refine seq_skip _ rfl rfl (by rfl) ?_; simp only [Act.put, List.setIfInBounds_toArray, List.set_cons_zero, List.set_cons_succ]))
      refine seq_do _ rfl rfl (by rfl) (fun K hK => ?_)
      go_simp
      refine (LOW.out _).mono ?_
      rintro e w1 ⟨A1, n1, c1, rfl, b1, e1⟩
      have hsz : B ≤ wr.heap.size := by
        rcases Nat.lt_or_ge (w.heap.size + 1 + 1) wr.heap.size with q | q
        · omega
        · have := h2.out; rw [Array.getElem?_eq_none q] at this; cases this
      have hsz' : w.heap.size + 1 + 1 < wr.heap.size := by
        rcases Nat.lt_or_ge (w.heap.size + 1 + 1) wr.heap.size with q | q
        · exact q
        · have := h2.out; rw [Array.getElem?_eq_none q] at this; cases this
      refine hK.out _ _ (e1.mono hsz) ?_
      clear hK K
      try simp only [Act.put, List.setIfInBounds_toArray, List.set_cons_zero, List.set_cons_succ]
      repeat (first | (refine seq_read (fun _ => True) (fun _ _ => trivial) _ (v := ?_) rfl rfl (by rfl) ?_ ?_; rotate_left; (· intro w' hF; go_simp; (try with_reducible rfl)); simp only [Act.put, List.setIfInBounds_toArray, List.set_cons_zero, List.set_cons_succ]) | (refine seq_skip _ rfl rfl (by rfl) ?_; simp only [Act.put, List.setIfInBounds_toArray, List.set_cons_zero, List.set_cons_succ]))
      refine seq_do _ rfl rfl (by rfl) (fun K hK => ?_)
      go_simp
      have hn1 : n1 = 4 := by have := b1.len; rw [lowL_len] at this; omega
      subst hn1
      refine upon_copy (cur := cellsOf xs) rfl ((e1.block (w.heap.size + 1 + 1) hsz').trans h2.out) b1 (by omega) (by rw [cellsOf_len]; omega) ?_
      intro W' h3 h4
      rw [cellsOf_splice] at h3
      go_simp
      refine hK.out _ _ (h4.out B (by omega)) ?_
      clear hK K
      refine seq_done ?_
      have e2 : Below B wr W' := Below.trans ((Below.refl B wr).drew) (Below.trans (e1.mono hsz) (h4.out B (by omega)))
      clear h4
      go_wp2_with fail
      refine ⟨⟨k + 1, splice xs (4 * k) (lowL (wd vs k) 4), by omega, by go_num, (splice_len (by rw [lowL_len]; omega)).trans hl, fun j hj => ?_, Below.trans he (e2.mono (by omega)), (e2.block _ (by omega)).trans h1.out, h3.out⟩, by simp [intOf]; omega⟩
      rw [bt_splice (by rw [lowL_len]; omega) (by rw [lowL_len]; omega)]
      by_cases q : j < 4 * k
      · rw [if_pos q]; exact hv.out j q
      · rw [if_neg q, bt_lowL (by omega), bt_bytesL (by omega), show j / 4 = k by omega, show j % 4 = j - 4 * k by omega]
    · obtain rfl : k = 8 := by omega
      have hvs := Lib.hid (list_bt (xs := xs) (ys := bytesL vs) (by rw [bytesL_len]; omega) (fun j hj => hv j (by omega)))
      have HS : (cellsOf xs).toArray.size = 32 := by simp [cellsOf_len, hl]
      have hone := cellsOf_one xs
      generalize hD : (cellsOf xs).toArray = D at h2 HS hone
      replace hD := Lib.hid hD
      replace h1 := Lib.hid h1
      replace h2 := Lib.hid h2
      clear hv
      go_wp2_with (first
        | refine wpList_load_row rfl 23 _ rfl (w.heap.size + 1 + 1) rfl 23 D (0, 0) _ h2.out rfl rfl (by rw [HS]; rfl) ?_
        | refine wpList_store_row rfl 23 _ _ rfl (w.heap.size + 1) D rfl rfl 23 _ h1.out (by rw [HS]; rfl) (by rw [HS]; rfl) hone ?_)
      (try simp only [Exit.inBlock, Exit.then])
      refine bodyPost_ret (results_cell_row rfl _ _ (w.heap.size + 1) 23 D (0, 0) _ rfl (setRow_heap _ _ _ _ _ _ h1.out) rfl rfl (by rw [HS]; rfl)) rfl ?_
      exact ⟨by rw [← hvs.out, hD.out], below_setRow he (by omega) _⟩
end Go.Proofs.YtfhafednnnfmbaaDoor
end
