import Derived.Test.YtfhafednnnfmbaaDoorBase
import Derived.Test.YtfhafednnnfmbaaDoorComp
import Derived.Test.YtfhafednnnfmbaaDoorPkT
import Derived.Test.YtfhafednnnfmbaaDoorPkP
import Derived.Test.YtfhafednnnfmbaaDoorPkQ
section
/-
  The bytes behind the first k of a slice.
-/
namespace Go.Proofs.YtfhafednnnfmbaaDoor
open Go.ChangeShapes Go.WideShapes Go.ChangeAt Go.RowKit Go.Deep

theorem Bs.cut {w : World} {A : Option Addr} {n c k : Nat} {xs : List UInt8} (h : Bs w A n c xs) (hk : k ≤ n) : Bs w (if c = k then A else A.map (·.add k)) (n - k) (c - k) (xs.drop k) := by
  have h1 := h.le
  have h2 := h.2.2.1
  refine ⟨by rw [List.length_drop, h.len], by omega, by omega, fun h0 => ?_⟩
  obtain ⟨b, off, rfl, hb, hc⟩ := h.pos (by omega)
  rw [if_neg (by omega)]
  refine ⟨b, off + k, ?_, hb, fun j hj => ?_⟩
  · by_cases hk0 : k = 0
    · subst hk0; simp [Addr.add]
    · simp [Addr.add, hk0]
  · rw [bt_drop, Nat.add_assoc]
    exact hc (k + j) (by omega)
theorem Bs.recap {w : World} {A : Option Addr} {n c c2 : Nat} {xs : List UInt8} (h : Bs w A n c xs) (h2 : n ≤ c2) (hm : c2 ≤ 9223372036854775807 := by omega) : Bs w A n c2 xs := ⟨h.1, h2, hm, h.2.2.2⟩
theorem Bs.cutAt {w : World} {b off n c k : Nat} {xs : List UInt8} (h : Bs w (some ⟨b, off, none⟩) n c xs) (hk : k < n) : Bs w (some ⟨b, off + k, none⟩) (n - k) (c - k) (xs.drop k) := by
  have h1 := h.cut (Nat.le_of_lt hk)
  have h2 := h.le
  rw [if_neg (by omega)] at h1
  have : (some (⟨b, off, none⟩ : Addr)).map (·.add k) = some ⟨b, off + k, none⟩ := by
    by_cases hk0 : k = 0
    · subst hk0; simp [Addr.add]
    · simp [Addr.add, hk0]
  rwa [this] at h1
theorem size8 : (Tryd.prog.info? 5).map (·.size) = some 1 := by kernel_rfl
/-- 's[k:]'. -/
theorem wpList_cut {w : World} {ops : Array Oper} {rest : List Oper} {o : Oper} {a : Act} {Q : Exit → Act → World → Prop} (hgd : o.guard = none) {x lo : Operand} {A : Option Addr} {n c k : Nat} {kd : IntKind} {z : Int}
    (ho : o.op = .slice 45 x (some lo) none none) (hx : a.eval x = .slice A n c) (hl : a.eval lo = .int kd z) (hz : z = (k : Int)) (hk : k ≤ n) (hnc : n ≤ c)
    (hK : ∀ A', (∀ w0 xs, Bs w0 A n c xs → Bs w0 A' (n - k) (c - k) (xs.drop k)) → wpList Tryd.prog ops Q rest (a.put o.dst (.slice A' (n - k) (c - k))) w) : wpList Tryd.prog ops Q (o :: rest) a w := by
  subst hz
  refine wpList_plain hgd fun K hK' => ?_
  have hr : (Instr.slice 45 (.slice A n c) (some (.int kd (k : Int))) none none).run Tryd.prog w = .ok (.slice (if c = k then A else A.map (·.add k)) (n - k) (c - k)) w := by
    obtain ⟨i, hi, hsz⟩ := Option.map_eq_some_iff.1 size8
    simp [Instr.slice, run_underlying Tryd.underlying45, Instr.sliceBounds, Instr.sliceBound, asIntOf, sizeOf, typeInfo, hi, hsz]
    intro hlt
    omega
  have hop : (execOp a.eval o).run Tryd.prog w = .ok (.value (.slice (if c = k then A else A.map (·.add k)) (n - k) (c - k))) w := by
    obtain ⟨dst, op, ty, pos, af, gd⟩ := o
    simp only at ho
    subst ho
    simp only [execOp, hx, hl, Option.map, Instr.sliceAt]
    go_simp
    cases A <;> rfl
  unfold Oper.wp
  rw [hop]
  exact hK' _ _ (hK _ (fun w0 xs h => h.cut hk))
/-- 's[k:h]'. -/
theorem wpList_cut2 {w : World} {ops : Array Oper} {rest : List Oper} {o : Oper} {a : Act} {Q : Exit → Act → World → Prop} (hgd : o.guard = none) {x lo hi : Operand} {A : Option Addr} {n c k h : Nat} {kd kd' : IntKind} {z : Int}
    (ho : o.op = .slice 45 x (some lo) (some hi) none) (hx : a.eval x = .slice A n c) (hl : a.eval lo = .int kd (k : Int)) (hh : a.eval hi = .int kd' z) (hz : z = (h : Int)) (hk : k ≤ h) (hhn : h ≤ n) (hnc : n ≤ c)
    (hK : ∀ A', (∀ w0 xs, Bs w0 A n c xs → Bs w0 A' (h - k) (c - k) ((xs.take h).drop k)) → wpList Tryd.prog ops Q rest (a.put o.dst (.slice A' (h - k) (c - k))) w) : wpList Tryd.prog ops Q (o :: rest) a w := by
  refine wpList_plain hgd fun K hK' => ?_
  have hop : (execOp a.eval o).run Tryd.prog w = .ok (.value (.slice (if c = k then A else A.map (·.add k)) (h - k) (c - k))) w := by
    obtain ⟨dst, op, ty, pos, af, gd⟩ := o
    simp only at ho
    subst ho hz
    obtain ⟨i, hi', hsz⟩ := Option.map_eq_some_iff.1 size8
    have q1 : (k : Int) ≤ (h : Int) := by omega
    have q2 : (h : Int) ≤ (c : Int) := by omega
    simp only [execOp, hx, hl, hh, Option.map, Instr.sliceAt]
    go_simp
    cases A <;> rfl
  unfold Oper.wp
  rw [hop]
  exact hK' _ _ (hK _ (fun w0 xs hb => (hb.take hhn).cut hk))
end Go.Proofs.YtfhafednnnfmbaaDoor
end

section
/-
  Whole arrays, read or written within a region; results that are an array and a number.
-/
namespace Go.Proofs.YtfhafednnnfmbaaDoor
open Go.ChangeShapes Go.WideShapes Go.ChangeAt Go.RowKit Go.Deep

/-! ### Words below 2^32 -/
def Lt32 (vs : List Nat) : Prop := ∀ j, wd vs j < 4294967296
theorem Lt32.set {vs : List Nat} (h : Lt32 vs) {k x : Nat} (hx : x < 4294967296) : Lt32 (vs.set k x) := fun j => by
  by_cases hk : k < vs.length
  · rw [wd_set hk]
    split
    · exact hx
    · exact h j
  · rw [List.set_eq_of_length_le (by omega)]; exact h j
theorem Lt32.mix {vs : List Nat} (h : Lt32 vs) (a b c d x y : Nat) : Lt32 (mixL vs a b c d x y) := by
  have ha : ∀ {vs : List Nat} {a b x : Nat}, Lt32 vs → Lt32 (putAdd vs a b x) := fun h => h.set (add32_lt _ _)
  have hr : ∀ {n : Nat} {vs : List Nat} {a b : Nat}, Lt32 vs → Lt32 (putRot n vs a b) := fun h => h.set (rotr_lt (xor_lt32 (h _) (h _)))
  have hs : ∀ {vs : List Nat} {a b : Nat}, Lt32 vs → Lt32 (putSum vs a b) := fun h => h.set (add32_lt _ _)
  unfold mixL
  exact hr (hs (hr (ha (hr (hs (hr (ha h)))))))
theorem Lt32.row {ms vs : List Nat} (h : Lt32 vs) (k : Nat) : Lt32 (rowV ms vs k) := by
  unfold rowV
  iterate 8 refine Lt32.mix ?_ _ _ _ _ _ _
  exact h
theorem Lt32.rounds {ms vs : List Nat} (h : Lt32 vs) : ∀ k, Lt32 (roundsV ms vs k)
  | 0 => h
  | k + 1 => by rw [roundsV_succ]; exact (Lt32.rounds h k).row k
theorem Lt32.append {hs is : List Nat} (h : Lt32 hs) (h' : Lt32 is) : Lt32 (hs ++ is) := fun j => by
  unfold wd
  rw [List.getD_eq_getElem?_getD, List.getElem?_append]
  split
  · rw [← List.getD_eq_getElem?_getD]; exact h j
  · rw [← List.getD_eq_getElem?_getD]; exact h' _
theorem init_lt : Lt32 initL := fun j => by
  by_cases hj : j < 8
  · have : ∀ j, j < 8 → wd initL j < 4294967296 := by decide
    exact this j hj
  · unfold wd; rw [List.getD_eq_getElem?_getD, List.getElem?_eq_none (by simp [initL]; omega)]; decide
theorem Lt32.start {hs : List Nat} (h : Lt32 hs) {t : Nat} (ht : t < 18446744073709551616) (last : Bool) : Lt32 (startV hs t last) := by
  have h0 := h.append init_lt
  have h1 := h0.set (k := 12) (xor_lt32 (h0 12) (Nat.mod_lt t (by decide)))
  have h2 := h1.set (k := 13) (xor_lt32 (h0 13) (show t / 4294967296 < 4294967296 by omega))
  unfold startV
  cases last
  · exact h2
  · exact h2.set (xor_lt32 (by decide) (h0 14))
theorem Lt32.fin {hs vs : List Nat} (h : Lt32 hs) (h' : Lt32 vs) : Lt32 (endV hs vs) := fun j => by
  by_cases hj : j < 8
  · have : wd (endV hs vs) j = wd hs j ^^^ (wd vs j ^^^ wd vs (j + 8)) := by simp [wd, endV, List.getD, hj]
    rw [this]
    exact xor_lt32 (h j) (xor_lt32 (h' j) (h' _))
  · unfold wd; rw [List.getD_eq_getElem?_getD, List.getElem?_eq_none (by simp [endV]; omega)]; decide
theorem Lt32.comp {hs : List Nat} (h : Lt32 hs) {xs : List UInt8} {t : Nat} (ht : t < 18446744073709551616) (last : Bool) : Lt32 (compL hs xs t last) := h.fin ((h.start ht last).rounds 10)

/-! ### Tags -/
def h0L (k : Nat) : List Nat := initL.set 0 (wd initL 0 ^^^ (16842784 ^^^ k * 256))
def hAt (hs : List Nat) (t : Nat) (bs : List UInt8) : Nat → List Nat
  | 0 => hs
  | i + 1 => compL (hAt hs t bs i) (padL ((bs.drop (64 * i)).take 64)) (t + 64 * (i + 1)) false
/-- How many blocks stand ahead of the last one. -/
def fullB (m : Nat) : Nat := (m - 1) / 64
def macTail (hs : List Nat) (t : Nat) (bs : List UInt8) : List UInt8 :=
  bytesL (compL (hAt hs t bs (fullB bs.length)) (padL (bs.drop (64 * fullB bs.length))) (t + bs.length) true)
def macL (ks bs : List UInt8) : List UInt8 :=
  if ks.length = 0 then macTail (h0L 0) 0 bs
  else if bs.length = 0 then bytesL (compL (h0L ks.length) (padL ks) 64 true)
  else macTail (compL (h0L ks.length) (padL ks) 64 false) 64 bs
theorem h0_lt {k : Nat} (h : k ≤ 32) : Lt32 (h0L k) := init_lt.set (xor_lt32 (init_lt 0) (xor_lt32 (by decide) (by omega)))
theorem h0_len (k : Nat) : (h0L k).length = 8 := by simp [h0L, initL]
theorem hAt_len {hs : List Nat} {t : Nat} {bs : List UInt8} (h : hs.length = 8) : ∀ i, (hAt hs t bs i).length = 8
  | 0 => h
  | i + 1 => compL_len _ _ _ _
theorem hAt_lt {hs : List Nat} {t : Nat} {bs : List UInt8} (h : Lt32 hs) : ∀ i, t + 64 * i < 18446744073709551616 → Lt32 (hAt hs t bs i)
  | 0, _ => h
  | i + 1, hi => (hAt_lt h i (by omega)).comp (by omega) _
theorem macTail_len (hs : List Nat) (t : Nat) (bs : List UInt8) : (macTail hs t bs).length = 32 := by
  unfold macTail; rw [bytesL_len, compL_len]
theorem macL_len (ks bs : List UInt8) : (macL ks bs).length = 32 := by
  unfold macL
  split
  · exact macTail_len _ _ _
  · split
    · rw [bytesL_len, compL_len]
    · exact macTail_len _ _ _
end Go.Proofs.YtfhafednnnfmbaaDoor
end

section
/-
  What a pair is, what two have in common. No conditions.
-/
namespace Go.Proofs.YtfhafednnnfmbaaDoor
open Go.ChangeShapes Go.WideShapes Go.ChangeAt Go.RowKit Go.Deep
set_option maxRecDepth 100000
/-- The pair of a seed. -/
def pairL (xs : List UInt8) : List UInt8 := macL [] xs ++ kL (multN (macL [] xs) 9)
theorem pairL_len (xs : List UInt8) : (pairL xs).length = 64 := by unfold pairL; rw [List.length_append, macL_len, kL_len]
/-- What two have in common; its number is 12 if it is nothing. -/
def comL (s p : List UInt8) : List UInt8 := kL (multN s (ofV p))
def comE (k : List UInt8) : Int := if k = List.replicate 32 0 then 12 else 0
end Go.Proofs.YtfhafednnnfmbaaDoor
end

section
/-
  The ladder's pair of points in memory: a, b, c, d of eight words each; the exchange.
-/
namespace Go.Proofs.YtfhafednnnfmbaaDoor
open Go.ChangeShapes Go.WideShapes Go.ChangeAt Go.RowKit Go.Deep
set_option maxRecDepth 100000

def prC (a b c d : List Nat) : List Value := wcells a ++ (wcells b ++ (wcells c ++ wcells d))
def L8 (a b c d : List Nat) : Prop := a.length = 8 ∧ b.length = 8 ∧ c.length = 8 ∧ d.length = 8
theorem prC_len {a b c d : List Nat} (h : L8 a b c d) : (prC a b c d).length = 32 := by
  obtain ⟨h1, h2, h3, h4⟩ := h
  simp [prC, wc8' h1, wc8' h2, wc8' h3, wc8' h4]
theorem prC_one (a b c d : List Nat) : (prC a b c d).toArray.all (·.oneCell') = true := by
  refine all_oneCell_toArray fun v hv => ?_
  have : ∀ xs : List Nat, v ∈ wcells xs → v.oneCell' = true := fun xs h => by
    have := wcells_one xs
    rw [Array.all_eq_true'] at this
    exact this v (by simpa using h)
  simp only [prC, List.mem_append] at hv
  rcases hv with h | h | h | h <;> exact this _ h
/-- Block g is such a pair. -/
def Pr (w : World) (g : Nat) (a b c d : List Nat) : Prop := w.heap[g]? = some (.cells (prC a b c d).toArray 86 (0, 0)) ∧ L8 a b c d
section
variable {w w' : World} {g : Nat} {a b c d : List Nat}
theorem Pr.lt (h : Pr w g a b c d) : g < w.heap.size := heap_lt h.1
theorem Pr.kept {B : Nat} (h : Pr w g a b c d) (he : Below B w w') (hB : g < B) : Pr w' g a b c d := ⟨(he.block g hB).trans h.1, h.2⟩
theorem Pr.at0 (h : Pr w g a b c d) : ∀ j v, (wcells a)[j]? = some v → w.cell? ⟨g, 0 + j, none⟩ = some v := fun j v hv => by
  rw [cell_of_row w g _ _ _ _ h.1, List.getElem?_toArray, prC, Nat.zero_add, List.getElem?_append_left (List.getElem?_eq_some_iff.1 hv).1, hv]
theorem Pr.at8 (h : Pr w g a b c d) : ∀ j v, (wcells b)[j]? = some v → w.cell? ⟨g, 8 + j, none⟩ = some v := fun j v hv => by
  rw [cell_of_row w g _ _ _ _ h.1, List.getElem?_toArray, prC, List.getElem?_append_right (by rw [wc8' h.2.1]; omega), wc8' h.2.1, Nat.add_sub_cancel_left, List.getElem?_append_left (List.getElem?_eq_some_iff.1 hv).1, hv]
theorem Pr.at16 (h : Pr w g a b c d) : ∀ j v, (wcells c)[j]? = some v → w.cell? ⟨g, 16 + j, none⟩ = some v := fun j v hv => by
  rw [cell_of_row w g _ _ _ _ h.1, List.getElem?_toArray, prC, List.getElem?_append_right (by rw [wc8' h.2.1]; omega), wc8' h.2.1, List.getElem?_append_right (by rw [wc8' h.2.2.1]; omega), wc8' h.2.2.1, show 16 + j - 8 - 8 = j by omega, List.getElem?_append_left (List.getElem?_eq_some_iff.1 hv).1, hv]
theorem Pr.at24 (h : Pr w g a b c d) : ∀ j v, (wcells d)[j]? = some v → w.cell? ⟨g, 24 + j, none⟩ = some v := fun j v hv => by
  rw [cell_of_row w g _ _ _ _ h.1, List.getElem?_toArray, prC, List.getElem?_append_right (by rw [wc8' h.2.1]; omega), wc8' h.2.1, List.getElem?_append_right (by rw [wc8' h.2.2.1]; omega), wc8' h.2.2.1, List.getElem?_append_right (by rw [wc8' h.2.2.2.1]; omega), wc8' h.2.2.2.1, show 24 + j - 8 - 8 - 8 = j by omega, hv]
theorem splice_pr0 (h : L8 a b c d) {x : List Nat} (hx : x.length = 8) : splice (prC a b c d) 0 (wcells x) = prC x b c d := by
  unfold splice prC
  rw [List.take_zero, List.nil_append, wc8' hx, Nat.zero_add, List.drop_left' (wc8' h.1)]
theorem splice_pr8 (h : L8 a b c d) {x : List Nat} (hx : x.length = 8) : splice (prC a b c d) 8 (wcells x) = prC a x c d := by
  unfold splice prC
  rw [wc8' hx, List.take_left' (wc8' h.1), ← List.append_assoc (wcells a) (wcells b), List.drop_left' (by simp [wc8' h.1, wc8' h.2.1])]
theorem splice_pr16 (h : L8 a b c d) {x : List Nat} (hx : x.length = 8) : splice (prC a b c d) 16 (wcells x) = prC a b x d := by
  unfold splice prC
  rw [wc8' hx, ← List.append_assoc (wcells a) (wcells b), List.take_left' (by simp [wc8' h.1, wc8' h.2.1]), ← List.append_assoc (wcells a ++ wcells b) (wcells c), List.drop_left' (by simp [wc8' h.1, wc8' h.2.1, wc8' h.2.2.1])]
  simp
theorem splice_pr24 (h : L8 a b c d) {x : List Nat} (hx : x.length = 8) : splice (prC a b c d) 24 (wcells x) = prC a b c x := by
  unfold splice prC
  rw [wc8' hx, ← List.append_assoc (wcells b) (wcells c), ← List.append_assoc (wcells a), List.take_left' (by simp [wc8' h.1, wc8' h.2.1, wc8' h.2.2.1]), List.drop_eq_nil_of_le (by simp [wc8' h.1, wc8' h.2.1, wc8' h.2.2.1, wc8' h.2.2.2])]
  simp
theorem Pr.set0 (h : Pr w g a b c d) {x : List Nat} (hx : x.length = 8) : Pr (w.setCells g 0 (wcells x)) g x b c d := ⟨by rw [← splice_pr0 h.2 hx]; exact heap_setCells_row _ _ _ _ h.1 (by rw [prC_len h.2, wc8' hx]; omega), hx, h.2.2⟩
theorem Pr.set8 (h : Pr w g a b c d) {x : List Nat} (hx : x.length = 8) : Pr (w.setCells g 8 (wcells x)) g a x c d := ⟨by rw [← splice_pr8 h.2 hx]; exact heap_setCells_row _ _ _ _ h.1 (by rw [prC_len h.2, wc8' hx]; omega), h.2.1, hx, h.2.2.2⟩
theorem Pr.set16 (h : Pr w g a b c d) {x : List Nat} (hx : x.length = 8) : Pr (w.setCells g 16 (wcells x)) g a b x d := ⟨by rw [← splice_pr16 h.2 hx]; exact heap_setCells_row _ _ _ _ h.1 (by rw [prC_len h.2, wc8' hx]; omega), h.2.1, h.2.2.1, hx, h.2.2.2.2⟩
theorem Pr.set24 (h : Pr w g a b c d) {x : List Nat} (hx : x.length = 8) : Pr (w.setCells g 24 (wcells x)) g a b c x := ⟨by rw [← splice_pr24 h.2 hx]; exact heap_setCells_row _ _ _ _ h.1 (by rw [prC_len h.2, wc8' hx]; omega), h.2.1, h.2.2.1, h.2.2.2.1, hx⟩
theorem Pr.there {o : Nat} (h : Pr w g a b c d) (ho : o + 8 ≤ 32) : w.there g o 8 := there_of_row h.1 (by rw [prC_len h.2]; omega)
end
theorem infoEl8 : (Tryd.prog.info? 81).map (·.size) = some 8 := by kernel_rfl
theorem infoPr : (Tryd.prog.info? 86).map (·.size) = some 32 := by kernel_rfl

set_option maxHeartbeats 4000000 in
/-- The exchange, at a bit that is 1. -/
theorem exch_one {g : Nat} {a b c d : List Nat} {w : World} (h : Pr w g a b c d) :
    Calls Tryd.prog 46 #[.int .u8 1, .pointer (some ⟨g, 0, none⟩)] w fun e w' => e = .returned (.tuple #[]) ∧ w.grownBy w' (some g) ∧ Pr w' g b a d c := by
  obtain ⟨la, lb, lc, ld⟩ := h.2
  have Sa := wcells_size la
  have Sb := wcells_size lb
  have Sc := wcells_size lc
  have Sd := wcells_size ld
  have Oa := wcells_one a
  have Ob' := wcells_one b
  have Oc := wcells_one c
  have Od := wcells_one d
  have Ca := wc8' la
  have Cb := wc8' lb
  have Cc := wc8' lc
  have Cd := wc8' ld
  replace h := Lib.hid h
  have h1 := Lib.hid (h.out.set0 lb)
  have h2 := Lib.hid (h1.out.set8 la)
  have g2 : Hid (w.grownBy ((w.setCells g 0 (wcells b)).setCells g 8 (wcells a)) (some g)) := grown_trans' grown_setCells grown_setCells
  go_enter Tryd.func46, Tryd.ntmps46
  go_upto_region 2 with (first
    | (refine wpList_load_mid rfl (ys := wcells b) rfl rfl h.out.at8 rfl rfl (by rw [Cb]; rfl) ?_; simp only [Act.put, List.setIfInBounds_toArray, List.set_cons_zero, List.set_cons_succ])
    | (refine wpList_load_mid rfl (ys := wcells a) rfl rfl h.out.at0 rfl rfl (by rw [Ca]; rfl) ?_; simp only [Act.put, List.setIfInBounds_toArray, List.set_cons_zero, List.set_cons_succ])
    | (refine wpList_store_mid rfl 81 _ _ rfl g 0 (wcells b).toArray rfl rfl (by rw [Sb]; exact h.out.there (by omega)) (by rw [Sb]; rfl) Ob' ?_; simp only [Act.put, List.setIfInBounds_toArray, List.set_cons_zero, List.set_cons_succ])
    | (refine wpList_store_mid rfl 81 _ _ rfl g 8 (wcells a).toArray rfl rfl (by rw [Sa]; exact h1.out.there (by omega)) (by rw [Sa]; rfl) Oa ?_; simp only [Act.put, List.setIfInBounds_toArray, List.set_cons_zero, List.set_cons_succ]))
  refine wp_gen (fun W => Pr W g b a c d ∧ w.grownBy W (some g)) ⟨h2.out, g2.out⟩ ?_
  clear h h1 h2 g2
  rintro w1 ⟨h, g1⟩
  replace h := Lib.hid h
  replace g1 := Lib.hid g1
  have h1 := Lib.hid (h.out.set16 ld)
  have h2 := Lib.hid (h1.out.set24 lc)
  have g2 : Hid (w.grownBy ((w1.setCells g 16 (wcells d)).setCells g 24 (wcells c)) (some g)) := grown_trans' g1.out (grown_trans' grown_setCells grown_setCells)
  go_wp2_with (first
    | (refine wpList_load_mid rfl (ys := wcells d) rfl rfl h.out.at24 rfl rfl (by rw [Cd]; rfl) ?_; simp only [Act.put, List.setIfInBounds_toArray, List.set_cons_zero, List.set_cons_succ])
    | (refine wpList_load_mid rfl (ys := wcells c) rfl rfl h.out.at16 rfl rfl (by rw [Cc]; rfl) ?_; simp only [Act.put, List.setIfInBounds_toArray, List.set_cons_zero, List.set_cons_succ])
    | (refine wpList_store_mid rfl 81 _ _ rfl g 16 (wcells d).toArray rfl rfl (by rw [Sd]; exact h.out.there (by omega)) (by rw [Sd]; rfl) Od ?_; simp only [Act.put, List.setIfInBounds_toArray, List.set_cons_zero, List.set_cons_succ])
    | (refine wpList_store_mid rfl 81 _ _ rfl g 24 (wcells c).toArray rfl rfl (by rw [Sc]; exact h1.out.there (by omega)) (by rw [Sc]; rfl) Oc ?_; simp only [Act.put, List.setIfInBounds_toArray, List.set_cons_zero, List.set_cons_succ]))
  go_end0
  exact ⟨rfl, g2.out, h2.out⟩
theorem exch_one' {x g : Nat} {a b c d : List Nat} {w : World} (hx : x = 1) (h : Pr w g a b c d) :
    Calls Tryd.prog 46 #[.int .u8 (x : Int), .pointer (some ⟨g, 0, none⟩)] w fun e w' => e = .returned (.tuple #[]) ∧ w.grownBy w' (some g) ∧ Pr w' g b a d c := by
  subst hx
  exact exch_one h
set_option maxHeartbeats 1000000 in
theorem exch_zero {x g : Nat} {w : World} (hx : x ≠ 1) :
    Calls Tryd.prog 46 #[.int .u8 (x : Int), .pointer (some ⟨g, 0, none⟩)] w fun e w' => e = .returned (.tuple #[]) ∧ w' = w := by
  have t : ((x : Int) == 1) = false := by simp; omega
  go_enter Tryd.func46, Tryd.ntmps46
  go_wp2_with fail
  go_end0
  exact ⟨rfl, rfl⟩
end Go.Proofs.YtfhafednnnfmbaaDoor
end

section
/-
  curve.one, curve.curveFactor.
-/
namespace Go.Proofs.YtfhafednnnfmbaaDoor
open Go.ChangeShapes Go.WideShapes Go.ChangeAt Go.RowKit Go.Deep
set_option maxRecDepth 100000

def keyF : List UInt8 := [65, 219, 1] ++ List.replicate 29 0
def keyO : List UInt8 := [1] ++ List.replicate 31 0
def key9 : List UInt8 := [9] ++ List.replicate 31 0
theorem builtF : Tryd.prog.built 23 [(0, .int .u8 65), (1, .int .u8 219), (2, .int .u8 1)] = some (cellsOf keyF).toArray := by kernel_rfl
theorem builtO : Tryd.prog.built 23 [(0, .int .u8 1)] = some (cellsOf keyO).toArray := by kernel_rfl
theorem built9 : Tryd.prog.built 23 [(0, .int .u8 9)] = some (cellsOf key9).toArray := by kernel_rfl
theorem ofVF : ofV keyF = 121665 := by decide +kernel
theorem ofVO : ofV keyO = 1 := by decide +kernel
theorem ofV9 : ofV key9 = 9 := by decide +kernel

set_option maxHeartbeats 1000000 in
theorem one_calls {w : World} {tg : TypeId × Nat × Nat} (hG : Gp w tg) : Calls Tryd.prog 45 #[] w fun e w' => e = .returned (eV 1) ∧ Ext w w' := by
  have OF : Hid (∀ W, Ext w W → Calls Tryd.prog 43 #[.agg (cellsOf keyO).toArray] W fun e w' => e = .returned (eV 1) ∧ Ext W w') := fun W e => by
    have := of_calls (ks := keyO) rfl (hG.ext e)
    rwa [ofVO] at this
  clear hG
  unfold eV at *
  have RL := lbs_len 8 1
  generalize lbs 8 1 = rr at *
  have RS := wcells_size RL
  have OR := wcells_one rr
  have hal2 := elem_alloc
  have ZL : zw8.length = 8 := rfl
  generalize zw8 = zs at *
  have ZS := wcells_size ZL
  have hb := Lib.hid builtO
  generalize keyO = ks at *
  have B0 : Hid (Wr (w.alloc (Obj.cells (wcells zs).toArray 81)) w.heap.size 81 zs) := Wr.new _ _ _
  go_enter Tryd.func45, Tryd.ntmps45
  go_wp2_with (refine wpList_build_as rfl _ _ rfl (cellsOf ks).toArray (by simp only [List.map_toArray, List.map_cons, List.map_nil]; exact hb.out) ?_; simp only [Act.put, List.setIfInBounds_toArray, List.set_cons_zero, List.set_cons_succ])
  refine (OF.out _ ((Ext.refl w).alloc _)).mono ?_
  rintro e w1 ⟨rfl, e1⟩
  have kr := Lib.hid (B0.out.kept e1 B0.out.lt)
  have kx : Hid (Ext w w1) := ((Ext.refl w).alloc _).trans e1
  clear B0 OF e1
  go_wp2_with (refine wpList_store_row rfl 81 _ _ rfl w.heap.size (wcells rr).toArray rfl rfl 81 _ kr.out (by rw [RS]; rfl) (by rw [RS, ZS]) OR ?_; simp only [Act.put, List.setIfInBounds_toArray, List.set_cons_zero, List.set_cons_succ])
  (try simp only [Exit.inBlock, Exit.then])
  refine bodyPost_ret (results_cell_row rfl _ _ w.heap.size 81 (wcells rr).toArray (0, 0) _ rfl (setRow_heap _ _ _ _ _ _ kr.out) rfl rfl (by rw [RS]; rfl)) rfl ?_
  exact ⟨rfl, below_setRow kx.out (Nat.le_refl _) _⟩

set_option maxHeartbeats 1000000 in
theorem factor_calls {w : World} {tg : TypeId × Nat × Nat} (hG : Gp w tg) : Calls Tryd.prog 65 #[] w fun e w' => e = .returned (eV 121665) ∧ Ext w w' := by
  have OF : Hid (∀ W, Ext w W → Calls Tryd.prog 43 #[.agg (cellsOf keyF).toArray] W fun e w' => e = .returned (eV 121665) ∧ Ext W w') := fun W e => by
    have := of_calls (ks := keyF) rfl (hG.ext e)
    rwa [ofVF] at this
  clear hG
  unfold eV at *
  have RL := lbs_len 8 121665
  generalize lbs 8 121665 = rr at *
  have RS := wcells_size RL
  have OR := wcells_one rr
  have hal2 := elem_alloc
  have ZL : zw8.length = 8 := rfl
  generalize zw8 = zs at *
  have ZS := wcells_size ZL
  have hb := Lib.hid builtF
  generalize keyF = ks at *
  have B0 : Hid (Wr (w.alloc (Obj.cells (wcells zs).toArray 81)) w.heap.size 81 zs) := Wr.new _ _ _
  go_enter Tryd.func65, Tryd.ntmps65
  go_wp2_with (refine wpList_build_as rfl _ _ rfl (cellsOf ks).toArray (by simp only [List.map_toArray, List.map_cons, List.map_nil]; exact hb.out) ?_; simp only [Act.put, List.setIfInBounds_toArray, List.set_cons_zero, List.set_cons_succ])
  refine (OF.out _ ((Ext.refl w).alloc _)).mono ?_
  rintro e w1 ⟨rfl, e1⟩
  have kr := Lib.hid (B0.out.kept e1 B0.out.lt)
  have kx : Hid (Ext w w1) := ((Ext.refl w).alloc _).trans e1
  clear B0 OF e1
  go_wp2_with (refine wpList_store_row rfl 81 _ _ rfl w.heap.size (wcells rr).toArray rfl rfl 81 _ kr.out (by rw [RS]; rfl) (by rw [RS, ZS]) OR ?_; simp only [Act.put, List.setIfInBounds_toArray, List.set_cons_zero, List.set_cons_succ])
  (try simp only [Exit.inBlock, Exit.then])
  refine bodyPost_ret (results_cell_row rfl _ _ w.heap.size 81 (wcells rr).toArray (0, 0) _ rfl (setRow_heap _ _ _ _ _ _ kr.out) rfl rfl (by rw [RS]; rfl)) rfl ?_
  exact ⟨rfl, below_setRow kx.out (Nat.le_refl _) _⟩
end Go.Proofs.YtfhafednnnfmbaaDoor
end
