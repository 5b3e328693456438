import Derived.Test.YtbnjmmefnjoofaaDoorBase
import Derived.Test.YtbnjmmefnjoofaaDoorComp
import Derived.Test.YtbnjmmefnjoofaaDoorRowOps
import Derived.Test.YtbnjmmefnjoofaaDoorPkM
section
/-
  The bytes behind the first k of a slice.
-/
namespace Go.Proofs.YtbnjmmefnjoofaaDoor
open Go.ChangeShapes Go.WideShapes Go.ChangeAt Go.RowKit Go.Deep

theorem Bs.cut {w : World} {A : Option Addr} {n c k : Nat} {xs : List UInt8} (h : Bs w A n c xs) (hk : k ≤ n) : Bs w (if c = k then A else A.map (·.add k)) (n - k) (c - k) (xs.drop k) := by
  have h1 := h.le
  have h2 := h.2.2.1
  refine ⟨by rw [List.length_drop, h.len], by omega, by omega, fun h0 => ?_⟩
  obtain ⟨b, off, rfl, hb, hc⟩ := h.pos (by omega)
  rw [if_neg (by omega)]
  refine ⟨b, off + k, ?_, hb, fun j hj => ?_⟩
  · by_cases hk0 : k = 0
    · subst hk0; simp [Addr.add]
    · simp [Addr.add, hk0]
  · rw [bt_drop, Nat.add_assoc]
    exact hc (k + j) (by omega)
theorem Bs.recap {w : World} {A : Option Addr} {n c c2 : Nat} {xs : List UInt8} (h : Bs w A n c xs) (h2 : n ≤ c2) (hm : c2 ≤ 9223372036854775807 := by omega) : Bs w A n c2 xs := ⟨h.1, h2, hm, h.2.2.2⟩
theorem Bs.cutAt {w : World} {b off n c k : Nat} {xs : List UInt8} (h : Bs w (some ⟨b, off, none⟩) n c xs) (hk : k < n) : Bs w (some ⟨b, off + k, none⟩) (n - k) (c - k) (xs.drop k) := by
  have h1 := h.cut (Nat.le_of_lt hk)
  have h2 := h.le
  rw [if_neg (by omega)] at h1
  have : (some (⟨b, off, none⟩ : Addr)).map (·.add k) = some ⟨b, off + k, none⟩ := by
    by_cases hk0 : k = 0
    · subst hk0; simp [Addr.add]
    · simp [Addr.add, hk0]
  rwa [this] at h1
theorem size8 : (Tryd.prog.info? 5).map (·.size) = some 1 := by kernel_rfl
/-- 's[k:]'. -/
theorem wpList_cut {w : World} {ops : Array Oper} {rest : List Oper} {o : Oper} {a : Act} {Q : Exit → Act → World → Prop} (hgd : o.guard = none) {x lo : Operand} {A : Option Addr} {n c k : Nat} {kd : IntKind} {z : Int}
    (ho : o.op = .slice 35 x (some lo) none none) (hx : a.eval x = .slice A n c) (hl : a.eval lo = .int kd z) (hz : z = (k : Int)) (hk : k ≤ n) (hnc : n ≤ c)
    (hK : ∀ A', (∀ w0 xs, Bs w0 A n c xs → Bs w0 A' (n - k) (c - k) (xs.drop k)) → wpList Tryd.prog ops Q rest (a.put o.dst (.slice A' (n - k) (c - k))) w) : wpList Tryd.prog ops Q (o :: rest) a w := by
  subst hz
  refine wpList_plain hgd fun K hK' => ?_
  have hr : (Instr.slice 35 (.slice A n c) (some (.int kd (k : Int))) none none).run Tryd.prog w = .ok (.slice (if c = k then A else A.map (·.add k)) (n - k) (c - k)) w := by
    obtain ⟨i, hi, hsz⟩ := Option.map_eq_some_iff.1 size8
    simp [Instr.slice, run_underlying Tryd.underlying35, Instr.sliceBounds, Instr.sliceBound, asIntOf, sizeOf, typeInfo, hi, hsz]
    intro hlt
    omega
  have hop : (execOp a.eval o).run Tryd.prog w = .ok (.value (.slice (if c = k then A else A.map (·.add k)) (n - k) (c - k))) w := by
    obtain ⟨dst, op, ty, pos, af, gd⟩ := o
    simp only at ho
    subst ho
    simp only [execOp, hx, hl, Option.map, Instr.sliceAt]
    go_simp
    cases A <;> rfl
  unfold Oper.wp
  rw [hop]
  exact hK' _ _ (hK _ (fun w0 xs h => h.cut hk))
/-- 's[k:h]'. -/
theorem wpList_cut2 {w : World} {ops : Array Oper} {rest : List Oper} {o : Oper} {a : Act} {Q : Exit → Act → World → Prop} (hgd : o.guard = none) {x lo hi : Operand} {A : Option Addr} {n c k h : Nat} {kd kd' : IntKind} {z : Int}
    (ho : o.op = .slice 35 x (some lo) (some hi) none) (hx : a.eval x = .slice A n c) (hl : a.eval lo = .int kd (k : Int)) (hh : a.eval hi = .int kd' z) (hz : z = (h : Int)) (hk : k ≤ h) (hhn : h ≤ n) (hnc : n ≤ c)
    (hK : ∀ A', (∀ w0 xs, Bs w0 A n c xs → Bs w0 A' (h - k) (c - k) ((xs.take h).drop k)) → wpList Tryd.prog ops Q rest (a.put o.dst (.slice A' (h - k) (c - k))) w) : wpList Tryd.prog ops Q (o :: rest) a w := by
  refine wpList_plain hgd fun K hK' => ?_
  have hop : (execOp a.eval o).run Tryd.prog w = .ok (.value (.slice (if c = k then A else A.map (·.add k)) (h - k) (c - k))) w := by
    obtain ⟨dst, op, ty, pos, af, gd⟩ := o
    simp only at ho
    subst ho hz
    obtain ⟨i, hi', hsz⟩ := Option.map_eq_some_iff.1 size8
    have q1 : (k : Int) ≤ (h : Int) := by omega
    have q2 : (h : Int) ≤ (c : Int) := by omega
    simp only [execOp, hx, hl, hh, Option.map, Instr.sliceAt]
    go_simp
    cases A <;> rfl
  unfold Oper.wp
  rw [hop]
  exact hK' _ _ (hK _ (fun w0 xs hb => (hb.take hhn).cut hk))
end Go.Proofs.YtbnjmmefnjoofaaDoor
end

section
/-
  Whole arrays, read or written within a region; results that are an array and a number.
-/
namespace Go.Proofs.YtbnjmmefnjoofaaDoor
open Go.ChangeShapes Go.WideShapes Go.ChangeAt Go.RowKit Go.Deep

/-! ### Words below 2^32 -/
def Lt32 (vs : List Nat) : Prop := ∀ j, wd vs j < 4294967296
theorem Lt32.set {vs : List Nat} (h : Lt32 vs) {k x : Nat} (hx : x < 4294967296) : Lt32 (vs.set k x) := fun j => by
  by_cases hk : k < vs.length
  · rw [wd_set hk]
    split
    · exact hx
    · exact h j
  · rw [List.set_eq_of_length_le (by omega)]; exact h j
theorem Lt32.mix {vs : List Nat} (h : Lt32 vs) (a b c d x y : Nat) : Lt32 (mixL vs a b c d x y) := by
  have ha : ∀ {vs : List Nat} {a b x : Nat}, Lt32 vs → Lt32 (putAdd vs a b x) := fun h => h.set (add32_lt _ _)
  have hr : ∀ {n : Nat} {vs : List Nat} {a b : Nat}, Lt32 vs → Lt32 (putRot n vs a b) := fun h => h.set (rotr_lt (xor_lt32 (h _) (h _)))
  have hs : ∀ {vs : List Nat} {a b : Nat}, Lt32 vs → Lt32 (putSum vs a b) := fun h => h.set (add32_lt _ _)
  unfold mixL
  exact hr (hs (hr (ha (hr (hs (hr (ha h)))))))
theorem Lt32.row {ms vs : List Nat} (h : Lt32 vs) (k : Nat) : Lt32 (rowV ms vs k) := by
  unfold rowV
  iterate 8 refine Lt32.mix ?_ _ _ _ _ _ _
  exact h
theorem Lt32.rounds {ms vs : List Nat} (h : Lt32 vs) : ∀ k, Lt32 (roundsV ms vs k)
  | 0 => h
  | k + 1 => by rw [roundsV_succ]; exact (Lt32.rounds h k).row k
theorem Lt32.append {hs is : List Nat} (h : Lt32 hs) (h' : Lt32 is) : Lt32 (hs ++ is) := fun j => by
  unfold wd
  rw [List.getD_eq_getElem?_getD, List.getElem?_append]
  split
  · rw [← List.getD_eq_getElem?_getD]; exact h j
  · rw [← List.getD_eq_getElem?_getD]; exact h' _
theorem init_lt : Lt32 initL := fun j => by
  by_cases hj : j < 8
  · have : ∀ j, j < 8 → wd initL j < 4294967296 := by decide
    exact this j hj
  · unfold wd; rw [List.getD_eq_getElem?_getD, List.getElem?_eq_none (by simp [initL]; omega)]; decide
theorem Lt32.start {hs : List Nat} (h : Lt32 hs) {t : Nat} (ht : t < 18446744073709551616) (last : Bool) : Lt32 (startV hs t last) := by
  have h0 := h.append init_lt
  have h1 := h0.set (k := 12) (xor_lt32 (h0 12) (Nat.mod_lt t (by decide)))
  have h2 := h1.set (k := 13) (xor_lt32 (h0 13) (show t / 4294967296 < 4294967296 by omega))
  unfold startV
  cases last
  · exact h2
  · exact h2.set (xor_lt32 (by decide) (h0 14))
theorem Lt32.fin {hs vs : List Nat} (h : Lt32 hs) (h' : Lt32 vs) : Lt32 (endV hs vs) := fun j => by
  by_cases hj : j < 8
  · have : wd (endV hs vs) j = wd hs j ^^^ (wd vs j ^^^ wd vs (j + 8)) := by simp [wd, endV, List.getD, hj]
    rw [this]
    exact xor_lt32 (h j) (xor_lt32 (h' j) (h' _))
  · unfold wd; rw [List.getD_eq_getElem?_getD, List.getElem?_eq_none (by simp [endV]; omega)]; decide
theorem Lt32.comp {hs : List Nat} (h : Lt32 hs) {xs : List UInt8} {t : Nat} (ht : t < 18446744073709551616) (last : Bool) : Lt32 (compL hs xs t last) := h.fin ((h.start ht last).rounds 10)

/-! ### Tags -/
def h0L (k : Nat) : List Nat := initL.set 0 (wd initL 0 ^^^ (16842784 ^^^ k * 256))
def hAt (hs : List Nat) (t : Nat) (bs : List UInt8) : Nat → List Nat
  | 0 => hs
  | i + 1 => compL (hAt hs t bs i) (padL ((bs.drop (64 * i)).take 64)) (t + 64 * (i + 1)) false
/-- How many blocks stand ahead of the last one. -/
def fullB (m : Nat) : Nat := (m - 1) / 64
def macTail (hs : List Nat) (t : Nat) (bs : List UInt8) : List UInt8 :=
  bytesL (compL (hAt hs t bs (fullB bs.length)) (padL (bs.drop (64 * fullB bs.length))) (t + bs.length) true)
def macL (ks bs : List UInt8) : List UInt8 :=
  if ks.length = 0 then macTail (h0L 0) 0 bs
  else if bs.length = 0 then bytesL (compL (h0L ks.length) (padL ks) 64 true)
  else macTail (compL (h0L ks.length) (padL ks) 64 false) 64 bs
theorem h0_lt {k : Nat} (h : k ≤ 32) : Lt32 (h0L k) := init_lt.set (xor_lt32 (init_lt 0) (xor_lt32 (by decide) (by omega)))
theorem h0_len (k : Nat) : (h0L k).length = 8 := by simp [h0L, initL]
theorem hAt_len {hs : List Nat} {t : Nat} {bs : List UInt8} (h : hs.length = 8) : ∀ i, (hAt hs t bs i).length = 8
  | 0 => h
  | i + 1 => compL_len _ _ _ _
theorem hAt_lt {hs : List Nat} {t : Nat} {bs : List UInt8} (h : Lt32 hs) : ∀ i, t + 64 * i < 18446744073709551616 → Lt32 (hAt hs t bs i)
  | 0, _ => h
  | i + 1, hi => (hAt_lt h i (by omega)).comp (by omega) _
theorem macTail_len (hs : List Nat) (t : Nat) (bs : List UInt8) : (macTail hs t bs).length = 32 := by
  unfold macTail; rw [bytesL_len, compL_len]
theorem macL_len (ks bs : List UInt8) : (macL ks bs).length = 32 := by
  unfold macL
  split
  · exact macTail_len _ _ _
  · split
    · rw [bytesL_len, compL_len]
    · exact macTail_len _ _ _
end Go.Proofs.YtbnjmmefnjoofaaDoor
end

section
/-
  blake.bytesOf.
-/
namespace Go.Proofs.YtbnjmmefnjoofaaDoor
open Go.ChangeShapes Go.WideShapes Go.ChangeAt Go.RowKit Go.Deep
set_option maxRecDepth 100000

/-- k[4*i:] of a key. -/
theorem sliceK {w : World} {g k : Nat} (hk : k < 8) : (Instr.sliceAt 23 (.pointer (some ⟨g, 0, none⟩)) (some (.int .i64 (4 * (k : Int)))) none none).run Tryd.prog w = .ok (.slice (some ⟨g, 4 * k, none⟩) (32 - 4 * k) (32 - 4 * k)) w := by
  have hn : Tryd.prog.arrayLen 23 = 32 := rfl
  rw [run_sliceAt_array_l w 23 _ rfl .i64 _ (by omega) (by rw [hn]; omega)]
  have hs : (sizeOf (Tryd.prog.elem 23)).run Tryd.prog w = .ok 1 w := rfl
  rw [hs]
  have h1 : (4 * (k : Int)).toNat = 4 * k := by omega
  have h3 : (⟨g, 0, none⟩ : Addr).add (4 * k * 1) = ⟨g, 4 * k, none⟩ := by unfold Addr.add; split <;> simp_all
  show Result.ok (slicedAt _ _ _ _ _) w = _
  rw [hn, h1]
  unfold slicedAt
  rw [if_neg (by omega), h3]
set_option maxRecDepth 100000 in
set_option maxHeartbeats 1000000 in
theorem bytesOf_calls {vs : List Nat} {w : World} (h : vs.length = 8) (hb : ∀ i, i < 8 → wd vs i < 4294967296) :
    Calls Tryd.prog 71 #[.agg (wcells vs).toArray] w fun e w' => e = .returned (.agg (cellsOf (bytesL vs)).toArray) ∧ Ext w w' := by
  have HIX := Lib.hid (fun (w : World) (k : Nat) (hk : k < 8) => index_word (w := w) (t := 135) rfl h hk)
  have HL := wcells_size h
  have g0 : ∀ o2 o3, (((w.alloc (Obj.cells (wcells vs).toArray 135)).alloc o2).alloc o3).heap[w.heap.size]? = some (.cells (wcells vs).toArray 135 (0, 0)) := fun o2 o3 => heap_alloc30 _ _ _ _
  have g1 : ∀ o1 o3, (((w.alloc o1).alloc (Obj.cells (List.replicate 32 (Value.int .u8 0)).toArray 23)).alloc o3).heap[w.heap.size + 1]? = some (.cells (List.replicate 32 (Value.int .u8 0)).toArray 23 (0, 0)) := fun o1 o3 => heap_alloc31 _ _ _ _
  have g2 : ∀ o1 o2, (((w.alloc o1).alloc o2).alloc (Obj.cells (List.replicate 32 (Value.int .u8 0)).toArray 23)).heap[w.heap.size + 1 + 1]? = some (.cells (List.replicate 32 (Value.int .u8 0)).toArray 23 (0, 0)) := fun o1 o2 => heap_alloc32 _ _ _ _
  replace g1 := Lib.hid g1
  replace g2 := Lib.hid g2
  replace g0 := Lib.hid g0
  generalize hC : (wcells vs).toArray = C at g0 HL HIX
  replace hC := Lib.hid hC
  go_enter Tryd.func71, Tryd.ntmps71
  go_wp2_with (refine wpList_load_row rfl 135 _ rfl w.heap.size rfl 135 C (0, 0) _ (g0.out _ _) rfl rfl (by rw [HL]; rfl) ?_)
  obtain ⟨B, hB⟩ : ∃ B, B = w.heap.size + 1 + 1 := ⟨_, rfl⟩
  go_loopw [7] (fun i wr => ∃ (k : Nat) (xs : List UInt8), k ≤ 8 ∧ i = .int .i64 k ∧ xs.length = 32 ∧ (∀ j, j < 4 * k → bt xs j = bt (bytesL vs) j) ∧ Ext w wr ∧ wr.heap[w.heap.size + 1]? = some (.cells (List.replicate 32 (Value.int .u8 0)).toArray 23 (0, 0)) ∧ wr.heap[w.heap.size + 1 + 1]? = some (.cells (cellsOf xs).toArray 23 (0, 0))) (fun i _ => 8 - (intOf i).toNat)
  case atStart =>
    exact ⟨0, List.replicate 32 0, Nat.zero_le _, rfl, rfl, fun j hj => absurd hj (by omega), (((Ext.refl _).alloc _).alloc _).alloc _, g1.out _ _, g2.out _ _⟩
  case round =>
    obtain ⟨k, xs, hk, rfl, hl, hv, he, h1, h2⟩ := hrel
    by_cases hlt : k < 8
    · have hix := fun w => HIX.out w k hlt
      have hsl := fun w' : World => sliceK (w := w') (g := w.heap.size + 1 + 1) hlt
      have hwk := hb k hlt
      have m1 : IntKind.i64.wrap (4 * (k : Int)) = 4 * (k : Int) := IntWalk.i64_in _ (by omega)
      have m2 : IntKind.u64.wrap (wd vs k : Int) = (wd vs k : Int) := IntWalk.u64_in _ (by omega)
      have LOW := Lib.hid (fun w0 : World => low_calls (n := wd vs k) (m := 4) (many := 4) (w := w0) (by omega) (by omega) (by omega) (by omega) (by decide))
      replace h1 := Lib.hid h1
      replace h2 := Lib.hid h2
      replace hv := Lib.hid hv
      go_wp2_with fail
      refine qgB B [0, 1, 2, 3, 4, 5, 6] [5, 6] ?_
      repeat ((first | refine qR0 ?_ | refine qS ?_); go_frame)
      refine qD fun K hK => ?_
      go_simp
      refine (LOW.out _).mono ?_
      rintro e w1 ⟨A1, n1, c1, rfl, b1, e1⟩
      have hsz : B ≤ wr.heap.size := by
        rcases Nat.lt_or_ge (w.heap.size + 1 + 1) wr.heap.size with q | q
        · omega
        · have := h2.out; rw [Array.getElem?_eq_none q] at this; cases this
      have hsz' : w.heap.size + 1 + 1 < wr.heap.size := by
        rcases Nat.lt_or_ge (w.heap.size + 1 + 1) wr.heap.size with q | q
        · exact q
        · have := h2.out; rw [Array.getElem?_eq_none q] at this; cases this
      refine hK.out _ _ (e1.mono hsz) ?_
      clear hK K
      try go_frame
      repeat ((first | refine qR0 ?_ | refine qS ?_); go_frame)
      refine qD fun K hK => ?_
      go_simp
      have hn1 : n1 = 4 := by have := b1.len; rw [lowL_len] at this; omega
      subst hn1
      refine upon_copy (cur := cellsOf xs) rfl ((e1.block (w.heap.size + 1 + 1) hsz').trans h2.out) b1 (by omega) (by rw [cellsOf_len]; omega) ?_
      intro W' h3 h4
      rw [cellsOf_splice] at h3
      go_simp
      refine hK.out _ _ (h4.out B (by omega)) ?_
      clear hK K
      refine seq_done ?_
      have e2 : Below B wr W' := Below.trans ((Below.refl B wr).drew) (Below.trans (e1.mono hsz) (h4.out B (by omega)))
      clear h4
      go_wp2_with fail
      refine ⟨⟨k + 1, splice xs (4 * k) (lowL (wd vs k) 4), by omega, by go_num, (splice_len (by rw [lowL_len]; omega)).trans hl, fun j hj => ?_, Below.trans he (e2.mono (by omega)), (e2.block _ (by omega)).trans h1.out, h3.out⟩, by simp [intOf]; omega⟩
      rw [bt_splice (by rw [lowL_len]; omega) (by rw [lowL_len]; omega)]
      by_cases q : j < 4 * k
      · rw [if_pos q]; exact hv.out j q
      · rw [if_neg q, bt_lowL (by omega), bt_bytesL (by omega), show j / 4 = k by omega, show j % 4 = j - 4 * k by omega]
    · obtain rfl : k = 8 := by omega
      have hvs := Lib.hid (list_bt (xs := xs) (ys := bytesL vs) (by rw [bytesL_len]; omega) (fun j hj => hv j (by omega)))
      have HS : (cellsOf xs).toArray.size = 32 := by simp [cellsOf_len, hl]
      have hone := cellsOf_one xs
      generalize hD : (cellsOf xs).toArray = D at h2 HS hone
      replace hD := Lib.hid hD
      replace h1 := Lib.hid h1
      replace h2 := Lib.hid h2
      clear hv
      go_wp2_with (first
        | refine wpList_load_row rfl 23 _ rfl (w.heap.size + 1 + 1) rfl 23 D (0, 0) _ h2.out rfl rfl (by rw [HS]; rfl) ?_
        | refine wpList_store_row rfl 23 _ _ rfl (w.heap.size + 1) D rfl rfl 23 _ h1.out (by rw [HS]; rfl) (by rw [HS]; rfl) hone ?_)
      (try simp only [Exit.inBlock, Exit.then])
      refine bodyPost_ret (results_cell_row rfl _ _ (w.heap.size + 1) 23 D (0, 0) _ rfl (setRow_heap _ _ _ _ _ _ h1.out) rfl rfl (by rw [HS]; rfl)) rfl ?_
      exact ⟨by rw [← hvs.out, hD.out], below_setRow he (by omega) _⟩
end Go.Proofs.YtbnjmmefnjoofaaDoor
end
