import Derived.Test.YtbnjmmefnjoofaaDoorPkO
import Derived.Deep.MidRow
import Derived.Deep.Upon
import Derived.Test.YtbnjmmefnjoofaaDoorPkP
import Derived.RegionTactic
section
/-
  An array in the midst of a block is read.
-/
namespace Go.Proofs.YtbnjmmefnjoofaaDoor
open Go.ChangeShapes Go.WideShapes Go.ChangeAt Go.RowKit Go.Deep

/-- An array in the midst of a block. -/
theorem exec_load_mid {P : Program} {o : Oper} {a : Act} {w : World} {ty : TypeId} {x : Operand} {g off : Nat} {ys : List Value} {d : TypeDesc} (ho : o.op = .load ty x) (hx : a.eval x = .pointer (some ⟨g, off, none⟩)) (hc : ∀ j v, ys[j]? = some v → w.cell? ⟨g, off + j, none⟩ = some v)
    (hu : P.underlying ty = some d) (hd : (match d with | .struct _ | .array _ _ => true | _ => false) = true) (hi : (P.info? ty).map (·.size) = some ys.length) : (execOp a.eval o).run P w = .ok (.value (.agg ys.toArray)) w := by
  have hl : (loadCells ⟨g, off, none⟩ ys.length).run P w = .ok ys.toArray w := run_loadCells_list (P := P) w ⟨g, off, none⟩ ys (fun j v hv => by
    have hadd : (⟨g, off, none⟩ : Addr).add j = ⟨g, off + j, none⟩ := by unfold Addr.add; split <;> simp_all
    rw [hadd]
    exact hc j v hv)
  have hv : (loadVar ty ⟨g, off, none⟩).run P w = .ok (.agg ys.toArray) w := by
    cases hq : P.info? ty with
    | none => simp [hq] at hi
    | some i =>
      have hs : i.size = ys.length := by simpa [hq] using hi
      have hagg : (isAgg ty).run P w = .ok true w := by
        unfold isAgg
        rw [Sem.run_bind, run_underlying hu w]
        cases d <;> simp_all
      simp [loadVar, Sem.run_bind, hagg, sizeOf, typeInfo, hq, hs, hl]
  unfold execOp
  simp only [ho, hx, Instr.loadAt, Instr.sureAddr, Sem.run_bind, Sem.run_pure, Result.andThen_ok, hv]

theorem wpList_load_mid {P : Program} {ops : Array Oper} {rest : List Oper} {o : Oper} {a : Act} {w : World} {Q : Exit → Act → World → Prop} (hw : Region.wanted o (yielded ops a.tmps) = true) {ty : TypeId} {x : Operand} {g off : Nat} {ys : List Value} {d : TypeDesc} (ho : o.op = .load ty x) (hx : a.eval x = .pointer (some ⟨g, off, none⟩)) (hc : ∀ j v, ys[j]? = some v → w.cell? ⟨g, off + j, none⟩ = some v)
    (hu : P.underlying ty = some d) (hd : (match d with | .struct _ | .array _ _ => true | _ => false) = true) (hi : (P.info? ty).map (·.size) = some ys.length) (h : wpList P ops Q rest (a.put o.dst (.agg ys.toArray)) w) : wpList P ops Q (o :: rest) a w :=
  wpList_exec hw (exec_load_mid ho hx hc hu hd hi) h
theorem exec_eql_keyB {o : Oper} {a : Act} {w : World} {x y : Operand} {t' : TypeId} {xs ys : List UInt8} {b : Bool} (hb : decide (xs = ys) = b) (lx : xs.length = 32) (ly : ys.length = 32) (ho : o.op = .binOp .eql 23 x y t') (hx : a.eval x = .agg (cellsOf xs).toArray) (hy : a.eval y = .agg (cellsOf ys).toArray) :
    (execOp a.eval o).run Tryd.prog w = .ok (.value (.bool b)) w := hb ▸ exec_eql_key ho hx hy lx ly
theorem exec_neq_keyB {o : Oper} {a : Act} {w : World} {x y : Operand} {t' : TypeId} {xs ys : List UInt8} {b : Bool} (hb : (!decide (xs = ys)) = b) (lx : xs.length = 32) (ly : ys.length = 32) (ho : o.op = .binOp .neq 23 x y t') (hx : a.eval x = .agg (cellsOf xs).toArray) (hy : a.eval y = .agg (cellsOf ys).toArray) :
    (execOp a.eval o).run Tryd.prog w = .ok (.value (.bool b)) w := hb ▸ exec_neq_key ho hx hy lx ly
end Go.Proofs.YtbnjmmefnjoofaaDoor
end

section
/-
  Cells stored into the midst of a block whose cells are known. No conditions.
-/
namespace Go.Proofs.YtbnjmmefnjoofaaDoor
open Go.ChangeShapes Go.WideShapes Go.ChangeAt Go.RowKit Go.Deep

theorem splice_cons {α : Type} (L : List α) (o : Nat) (v : α) (r : List α) (h : o < L.length) : splice (L.set o v) (o + 1) r = splice L o (v :: r) := by
  unfold splice
  rw [List.take_set, List.drop_set, if_pos (by omega)]
  have e : (L.take (o + 1)).set o v = L.take o ++ [v] := by
    apply List.ext_getElem?
    intro i
    rw [List.getElem?_set]
    by_cases hi : o = i
    · subst hi
      rw [if_pos rfl, if_pos (by simp; omega), List.getElem?_append_right (by rw [List.length_take]; omega), List.length_take]
      simp [show min o L.length = o by omega]
    · rw [if_neg hi]
      by_cases h2 : i < o
      · rw [List.getElem?_append_left (by simp; omega), List.getElem?_take, List.getElem?_take, if_pos (by omega), if_pos h2]
      · rw [List.getElem?_take, if_neg (by omega), List.getElem?_eq_none (by simp; omega)]
  rw [e, List.append_assoc, show o + 1 + r.length = o + (v :: r).length by simp; omega]
  rfl
theorem heap_setCells_row {g : Nat} {t : TypeId} {fr : Nat × Nat} : ∀ (vs : List Value) (o : Nat) (w : World) (A : List Value), w.heap[g]? = some (.cells A.toArray t fr) → o + vs.length ≤ A.length → (w.setCells g o vs).heap[g]? = some (.cells (splice A o vs).toArray t fr)
  | [], o, w, A, h, hl => by
    have : splice A o [] = A := by simp [splice]
    rw [this]; exact h
  | v :: r, o, w, A, h, hl => by
    have h1 : (w.setCell ⟨g, o, none⟩ v).heap[g]? = some (.cells (A.set o v).toArray t fr) := by
      simp [World.setCell, Array.getElem?_modify, h]
    have := heap_setCells_row r (o + 1) _ (A.set o v) h1 (by simp at hl ⊢; omega)
    rw [splice_cons A o v r (by simp at hl; omega)] at this
    exact this
theorem there_of_row {w : World} {g o n : Nat} {A : List Value} {t : TypeId} (h : w.heap[g]? = some (.cells A.toArray t (0, 0))) (hl : o + n ≤ A.length) : w.there g o n := fun j hj => by
  refine ⟨?_, frozen_of_row w g _ _ _ h⟩
  rw [cell_of_row w g _ _ _ _ h]
  simp
  omega
theorem grown_setCells {w : World} {g o : Nat} {vs : List Value} : w.grownBy (w.setCells g o vs) (some g) := by
  have hk := World.keptBut_setCells g (may := fun _ => True) vs o w (fun _ _ => trivial)
  refine ⟨hk.1, ?_, hk.2.1, ?_, fun i hi hne => World.heap_setCells_other w g o vs hi (fun e => hne (by rw [e]))⟩
  · clear hk
    induction vs generalizing o w with
    | nil => rfl
    | cons v r ih => exact (ih (o := o + 1) (w := w.setCell ⟨g, o, none⟩ v)).trans rfl
  · clear hk
    induction vs generalizing o w with
    | nil => exact Nat.le_refl _
    | cons v r ih => exact Nat.le_trans (by simp [World.setCell]) (ih (o := o + 1) (w := w.setCell ⟨g, o, none⟩ v))
theorem grown_trans' {a b c : World} {r : Option Nat} (h : a.grownBy b r) (k : b.grownBy c r) : a.grownBy c r :=
  ⟨k.os.trans h.os, k.tape.trans h.tape, k.output.trans h.output, Nat.le_trans h.size k.size, fun i hi hne => (k.block i (Nat.lt_of_lt_of_le hi h.size) hne).trans (h.block i hi hne)⟩
theorem below_grown {a b : World} {g : Nat} (hg : g < a.heap.size) (h : a.grownBy b (some g)) : Below g a b :=
  ⟨h.os, h.tape, h.output, h.size, fun i hi => h.block i (Nat.lt_trans hi hg) (fun q => by cases q; exact Nat.lt_irrefl _ hi)⟩
end Go.Proofs.YtbnjmmefnjoofaaDoor
end

section
/-
  A struct is laid part by part; parts of a block of bytes are read. No conditions.
-/
namespace Go.Proofs.YtbnjmmefnjoofaaDoor
open Go.ChangeShapes Go.WideShapes Go.ChangeAt Go.RowKit Go.Deep
set_option maxRecDepth 100000

theorem splice_at {α : Type} {L cs : List α} {off : Nat} (h : off + cs.length ≤ L.length) (k : Nat) : (splice L off cs)[k]? = if off ≤ k ∧ k < off + cs.length then cs[k - off]? else L[k]? := by
  unfold splice
  by_cases h1 : k < off
  · rw [List.getElem?_append_left (by simp; omega), List.getElem?_take, if_pos h1, if_neg (by omega)]
  · rw [List.getElem?_append_right (by simp; omega), List.length_take, Nat.min_eq_left (by omega)]
    by_cases h2 : k < off + cs.length
    · rw [List.getElem?_append_left (by omega), if_pos (by omega)]
    · rw [List.getElem?_append_right (by omega), List.getElem?_drop, if_neg (by omega)]
      congr 1
      omega
theorem fill_step {pl : Nat → Option (Nat × Nat)} {i off n : Nat} {v : Value} {ps : List (Nat × Value)} {Z : List Value} (h : pl i = some (off, n)) (hv : v.cells.size = n) (hz : off + n ≤ Z.length) :
    Instr.fill pl Z.toArray ((i, v) :: ps) = Instr.fill pl (splice Z off v.cells.toList).toArray ps := by
  conv => lhs; unfold Instr.fill
  simp only [h, hv]
  rw [if_neg (by simp; omega), fold_cells]
  congr 1
  obtain ⟨_, g2⟩ := Great.foldl_set off v.cells.toList 0 Z.toArray
  apply Array.ext_getElem?
  intro k
  rw [g2]
  simp only [List.getElem?_toArray]
  rw [splice_at (by simp [hv]; omega)]
  simp only [Nat.add_zero, Array.length_toList, hv, List.size_toArray, List.getElem?_toArray, Array.getElem?_toList]
  by_cases hk : off ≤ k ∧ k < off + n
  · rw [if_pos ⟨hk.1, hk.2, by omega⟩, if_pos hk]
  · rw [if_neg (fun q => hk ⟨q.1, q.2.1⟩), if_neg hk]
theorem splice_mid {α : Type} {p y q z : List α} {off : Nat} (hp : p.length = off) (hl : y.length = z.length) : splice (p ++ (y ++ q)) off z = p ++ (z ++ q) := by
  unfold splice
  rw [List.take_left' hp]
  congr 2
  rw [← hl, ← List.append_assoc, List.drop_left' (by rw [List.length_append, hp])]
theorem splice_zero {α : Type} {y q z : List α} (hl : y.length = z.length) : splice (y ++ q) 0 z = z ++ q := splice_mid (p := []) rfl hl
theorem cells_agg (K : Array Value) : (Value.agg K).cells = K := rfl
theorem cells_bool (b : Bool) : (Value.bool b).cells = #[.bool b] := rfl
theorem cellsOf_app (xs ys : List UInt8) : cellsOf (xs ++ ys) = cellsOf xs ++ cellsOf ys := by rw [cellsOf_map, cellsOf_map, cellsOf_map, List.map_append]

/-- Block g has these cells. -/
def Cb (w : World) (g : Nat) (T : TypeId) (L : List Value) : Prop := w.heap[g]? = some (.cells L.toArray T (0, 0))
section
variable {w w' : World} {g : Nat} {T : TypeId} {L : List Value}
theorem Cb.lt (h : Cb w g T L) : g < w.heap.size := heap_lt h
theorem Cb.ext (h : Cb w g T L) (e : Ext w w') : Cb w' g T L := (e.block g (heap_lt h)).trans h
theorem Cb.kept {B : Nat} (h : Cb w g T L) (e : Below B w w') (hB : g < B) : Cb w' g T L := (e.block g hB).trans h
theorem Cb.frozen (h : Cb w g T L) (j : Nat) : w.frozen? ⟨g, j, none⟩ = false := frozen_of_row w g j _ _ h
theorem Cb.cell (h : Cb w g T L) {j : Nat} {v : Value} (hv : L[j]? = some v) : w.cell? ⟨g, j, none⟩ = some v := by rw [cell_of_row w g _ _ _ _ h, List.getElem?_toArray, hv]
/-- A part of it. -/
theorem Cb.mid (h : Cb w g T L) {p y q : List Value} {off : Nat} (hL : L = p ++ (y ++ q)) (hp : p.length = off) : ∀ j v, y[j]? = some v → w.cell? ⟨g, off + j, none⟩ = some v := fun j v hv => h.cell (by
  rw [hL, List.getElem?_append_right (by omega), hp, Nat.add_sub_cancel_left, List.getElem?_append_left (List.getElem?_eq_some_iff.1 hv).1, hv])
theorem Cb.put (h : Cb w g T L) {p y q z : List Value} {off : Nat} (hL : L = p ++ (y ++ q)) (hp : p.length = off) (hl : y.length = z.length) : Cb (w.setCells g off z) g T (p ++ (z ++ q)) := by
  have := heap_setCells_row z off w L h (by rw [hL]; simp; omega)
  rwa [hL, splice_mid hp hl] at this
theorem Cb.there (h : Cb w g T L) {o n : Nat} (hl : o + n ≤ L.length) : w.there g o n := there_of_row h hl
theorem Cb.row (h : Cb w g T L) {r : Nat} {C : Array Value} (hne : g ≠ r) : Cb (w.setRow r C) g T L := (setRow_other _ _ _ _ hne).trans h
theorem Cb.new (w : World) (T : TypeId) (L : List Value) : Cb (w.alloc (.cells L.toArray T)) w.heap.size T L := heap_alloc_new _ _
theorem Cb.set {L' : List Value} (h : Cb w g T L) : Cb (w.setRow g L'.toArray) g T L' := setRow_heap _ _ _ _ _ _ h
theorem Cb.setCell (h : Cb w g T L) {o : Nat} {v : Value} : Cb (w.setCell ⟨g, o, none⟩ v) g T (L.set o v) := by
  unfold Cb at *
  simp [World.setCell, Array.getElem?_modify, h]
end
theorem one_cells {L : List Value} (h : ∀ v ∈ L, v.oneCell' = true) : L.toArray.all (·.oneCell') = true := by
  simp only [List.all_toArray, List.all_eq_true]
  exact h
theorem one_mem (xs : List UInt8) : ∀ v ∈ cellsOf xs, v.oneCell' = true := fun v hv => by
  simp only [cellsOf, List.mem_map] at hv
  obtain ⟨j, _, rfl⟩ := hv
  rfl
end Go.Proofs.YtbnjmmefnjoofaaDoor
end

section
/-
  The cells of heads and envelopes. No conditions.
-/
namespace Go.Proofs.YtbnjmmefnjoofaaDoor
open Go.ChangeShapes Go.WideShapes Go.ChangeAt Go.RowKit Go.Deep
set_option maxRecDepth 100000

def upB (z m : Int) : Bool := decide (0 ≤ z) && decide (z ≤ m)
/-- the cells of a head -/
def hdC (pk : List UInt8) (p n : Int) : List Value := cellsOf pk ++ [.int .i64 p, .int .i64 n]
theorem hdC_len {pk : List UInt8} (h : pk.length = 32) (p n : Int) : (hdC pk p n).length = 34 := by simp [hdC, cellsOf_len, h]
/-- the cells of an envelope -/
def evC (f t : Int) (cm pk : List UInt8) (p n : Int) (A : Option Addr) (m c : Nat) : List Value := [.int .i64 f, .int .i64 t] ++ (cellsOf cm ++ (hdC pk p n ++ [.slice A m c]))
theorem evC_len {cm pk : List UInt8} (hc : cm.length = 32) (hk : pk.length = 32) (f t p n : Int) (A : Option Addr) (m c : Nat) : (evC f t cm pk p n A m c).length = 69 := by simp [evC, hdC_len hk, cellsOf_len, hc]
theorem ev_cells {cm pk : List UInt8} (hc : cm.length = 32) (hk : pk.length = 32) (f t p n : Int) (A : Option Addr) (m c : Nat) :
    (evC f t cm pk p n A m c)[0]? = some (.int .i64 f) ∧ (evC f t cm pk p n A m c)[1]? = some (.int .i64 t) ∧ (evC f t cm pk p n A m c)[68]? = some (.slice A m c) ∧
    evC f t cm pk p n A m c = ([.int .i64 f, .int .i64 t] ++ cellsOf cm) ++ (hdC pk p n ++ [.slice A m c]) ∧ evC f t cm pk p n A m c = [.int .i64 f, .int .i64 t] ++ (cellsOf cm ++ (hdC pk p n ++ [.slice A m c])) := by
  refine ⟨rfl, rfl, ?_, by simp [evC], rfl⟩
  unfold evC
  rw [List.getElem?_append_right (by simp), List.getElem?_append_right (by simp [cellsOf_len, hc]), List.getElem?_append_right (by simp [cellsOf_len, hc, hdC_len hk])]
  simp [cellsOf_len, hc, hdC_len hk]
theorem one_hd {pk : List UInt8} {p n : Int} : ∀ v ∈ hdC pk p n, v.oneCell' = true := fun v hv => by
  simp only [hdC, List.mem_append, List.mem_cons, List.not_mem_nil, or_false] at hv
  rcases hv with h | rfl | rfl
  · exact one_mem _ v h
  · rfl
  · rfl
theorem one_ev {f t p n : Int} {cm pk : List UInt8} {A : Option Addr} {m c : Nat} : ∀ v ∈ evC f t cm pk p n A m c, v.oneCell' = true := fun v hv => by
  simp only [evC, List.mem_append, List.mem_cons, List.not_mem_nil, or_false] at hv
  rcases hv with (rfl | rfl) | h | h | rfl
  · rfl
  · rfl
  · exact one_mem _ v h
  · exact one_hd v h
  · rfl
end Go.Proofs.YtbnjmmefnjoofaaDoor
end

section
/-
  head.upTo and head.validHead.
-/
namespace Go.Proofs.YtbnjmmefnjoofaaDoor
open Go.ChangeShapes Go.WideShapes Go.ChangeAt Go.RowKit Go.Deep
set_option maxRecDepth 100000

theorem upTo_calls {w : World} {z m : Int} : Calls Tryd.prog 86 #[.int .i64 z, .int .i64 m] w fun e w' => e = .returned (.bool (upB z m)) ∧ Ext w w' := by
  by_cases h1 : 0 ≤ z
  · have d1 : decide (z ≥ 0) = true := decide_eq_true h1
    by_cases h2 : z ≤ m
    · have d2 : decide (z ≤ m) = true := decide_eq_true h2
      have hb : Hid (upB z m = true) := by unfold Hid upB; rw [decide_eq_true h1, d2]; rfl
      go_enter Tryd.func86, Tryd.ntmps86
      go_wp2_with fail
      go_ret
      exact ⟨by rw [hb.out]; rfl, Ext.refl _⟩
    · have d2 : decide (z ≤ m) = false := decide_eq_false h2
      have hb : Hid (upB z m = false) := by unfold Hid upB; rw [decide_eq_true h1, d2]; rfl
      go_enter Tryd.func86, Tryd.ntmps86
      go_wp2_with fail
      go_ret
      exact ⟨by rw [hb.out]; rfl, Ext.refl _⟩
  · have d1 : decide (z ≥ 0) = false := decide_eq_false h1
    have hb : Hid (upB z m = false) := by unfold Hid upB; rw [decide_eq_false h1]; rfl
    go_enter Tryd.func86, Tryd.ntmps86
    go_wp2_with fail
    go_ret
    exact ⟨by rw [hb.out]; rfl, Ext.refl _⟩
def okH (p n : Int) : Bool := upB p 1000000 && upB n 1000000
set_option maxHeartbeats 1000000 in
theorem validHead_calls {w : World} {pk : List UInt8} {p n : Int} (lp : pk.length = 32) : Calls Tryd.prog 87 #[.agg (hdC pk p n).toArray] w fun e w' => e = .returned (.bool (okH p n)) ∧ Ext w w' := by
  have UP : Hid (∀ (W : World) (z : Int), Calls Tryd.prog 86 #[.int .i64 z, .int .i64 1000000] W fun e w' => e = .returned (.bool (upB z 1000000)) ∧ Ext W w') := fun W z => upTo_calls
  have c32 : Hid ((hdC pk p n)[32]? = some (.int .i64 p)) := by unfold Hid hdC; rw [List.getElem?_append_right (by rw [cellsOf_len, lp]; omega)]; simp [cellsOf_len, lp]
  have c33 : Hid ((hdC pk p n)[33]? = some (.int .i64 n)) := by unfold Hid hdC; rw [List.getElem?_append_right (by rw [cellsOf_len, lp]; omega)]; simp [cellsOf_len, lp]
  have hR : Hid (okH p n = (upB p 1000000 && upB n 1000000)) := rfl
  generalize okH p n = ok at *
  generalize hdC pk p n = hd at *
  have B0 : Hid (Cb (w.alloc (Obj.cells hd.toArray 34)) w.heap.size 34 hd ∧ Ext w (w.alloc (Obj.cells hd.toArray 34))) := ⟨Cb.new _ _ _, (Ext.refl w).alloc _⟩
  go_enter Tryd.func87, Tryd.ntmps87
  go_upto_region 1 with fail
  refine wp_gen (fun W => Cb W w.heap.size 34 hd ∧ Ext w W) B0.out ?_
  clear B0
  rintro w0 ⟨k0, x0⟩
  have b0 := k0.cell c32.out
  replace k0 := Lib.hid k0
  replace x0 := Lib.hid x0
  go_wp2_with fail
  refine (UP.out _ _).mono ?_
  rintro e w1 ⟨rfl, e1⟩
  have b1 := (k0.out.ext e1).cell c33.out
  have x1 := Lib.hid (x0.out.trans e1)
  clear b0 k0 x0 e1
  by_cases hp : upB p 1000000 = true
  · rw [hp] at hR ⊢
    go_wp2_with fail
    refine (UP.out _ _).mono ?_
    rintro e w2 ⟨rfl, e2⟩
    have x2 := Lib.hid (x1.out.trans e2)
    have hR2 : Hid (upB n 1000000 = ok) := by unfold Hid; rw [hR.out]; rfl
    rw [hR2.out]
    clear b1 x1 e2 hR
    go_wp2_with fail
    go_ret
    exact ⟨rfl, x2.out⟩
  · rw [Bool.not_eq_true] at hp
    have hR2 : Hid (ok = false) := by unfold Hid; rw [hR.out, hp]; rfl
    rw [hp]
    clear b1 hR
    go_wp2_with fail
    go_ret
    exact ⟨by rw [hR2.out]; rfl, x1.out⟩
end Go.Proofs.YtbnjmmefnjoofaaDoor
end

section
/-
  octets.Low and OfLow alone (for seats that have no High).
-/
namespace Go.Proofs.YtbnjmmefnjoofaaDoor
open Go.ChangeShapes Go.WideShapes Go.ChangeAt Go.RowKit Go.Deep

def lowL (n m : Nat) : List UInt8 := (List.range m).map fun i => UInt8.ofNat (n / 256 ^ i)
theorem lowL_len (n m : Nat) : (lowL n m).length = m := by simp [lowL]
theorem bt_lowL {n m k : Nat} (hk : k < m) : bt (lowL n m) k = n / 256 ^ k % 256 := by
  unfold bt lowL
  simp [List.getD, hk]

/-- What is left of the number when k bytes are told. -/
def lowAt (n k : Nat) : Nat := n / 256 ^ k
theorem lowAt_succ (n k : Nat) : lowAt n k / 256 = lowAt n (k + 1) := by unfold lowAt; rw [Nat.div_div_eq_div_mul, Nat.pow_succ]
theorem lowAt_le (n k : Nat) : lowAt n k ≤ n := Nat.div_le_self _ _

theorem lowAt_int (n k : Nat) : (lowAt n k : Int) / 256 = (lowAt n (k + 1) : Int) := by rw [← lowAt_succ]; omega
theorem lowAt_byte (n k : Nat) : (lowAt n k : Int) % 256 = ((n / 256 ^ k % 256 : Nat) : Int) := by
  show (lowAt n k : Int) % 256 = ((lowAt n k % 256 : Nat) : Int)
  omega

set_option maxHeartbeats 400000 in
theorem low_calls {n m : Nat} {many : Int} {w : World} (hn : n < 18446744073709551616) (h1 : 0 ≤ many) (h2 : many ≤ 9223372036854775807) (hm8 : m ≤ 8) (hM : (if (8 : Int) < many then 8 else many) = (m : Int)) :
    Calls Tryd.prog 66 #[.int .u64 (n : Int), .int .i64 many] w (RetBs (lowL n m) w) := by
  have hmk := make8 m (by omega)
  have hz : lowAt n 0 = n := by simp [lowAt]
  go_enter Tryd.func66, Tryd.ntmps66
  go_wp2
  clear hmk hM
  go_loopw [0, 13] (fun x i wr => ∃ k : Nat, k ≤ m ∧ i = .int .i64 k ∧ x = .int .u64 (lowAt n k : Int) ∧ Fill w wr m k (fun j => n / 256 ^ j % 256)) (fun _ i _ => m - (intOf i).toNat)
  case atStart => exact ⟨0, Nat.zero_le _, rfl, by rw [hz], Fill.start _ _ _⟩
  case round =>
    obtain ⟨k, hk, rfl, rfl, hf⟩ := hrel
    clear hz
    by_cases hlt : k < m
    · have g3 := hf.cell hlt
      have g4 := hf.frozen k
      have hle := Nat.lt_of_le_of_lt (lowAt_le n k) hn
      go_wp2
      go_roundw
      case rel =>
        exact ⟨k + 1, by omega, by go_num, congrArg (Value.int .u64) (lowAt_int n k), hf.step (lowAt_byte n k)⟩
      case measure => simp [intOf]; omega
    · obtain rfl : k = m := by omega
      go_wp2
      go_ret
      exact ⟨_, _, _, rfl, hf.done (lowL_len n k) (by omega) (fun j hj => (bt_lowL hj).symm), hf.1⟩

/-- The number of bytes, the lowest first. -/
def ofLowL : List UInt8 → Nat
  | [] => 0
  | x :: xs => x.toNat + 256 * ofLowL xs
theorem ofLowL_lt : ∀ xs : List UInt8, ofLowL xs < 256 ^ xs.length
  | [] => by simp [ofLowL]
  | x :: xs => by
    have h := ofLowL_lt xs
    have hx : x.toNat < 256 := x.toNat_lt
    simp only [ofLowL, List.length_cons, Nat.pow_succ]
    omega
theorem ofLowL_append : ∀ (xs : List UInt8) (y : UInt8), ofLowL (xs ++ [y]) = ofLowL xs + 256 ^ xs.length * y.toNat
  | [], y => by simp [ofLowL]
  | x :: xs, y => by
    rw [List.cons_append, ofLowL, ofLowL_append xs y, ofLowL, List.length_cons, Nat.pow_succ, Nat.mul_add, Nat.mul_comm (256 ^ xs.length) 256, Nat.mul_assoc, Nat.add_assoc]
/-- The number of the first k bytes. -/
def ofLowAt (xs : List UInt8) (k : Nat) : Nat := ofLowL (xs.take k)
theorem ofLowAt_succ {xs : List UInt8} {k : Nat} (h : k < xs.length) : ofLowAt xs (k + 1) = ofLowAt xs k + 256 ^ k * bt xs k := by
  unfold ofLowAt
  rw [List.take_succ_eq_append_getElem h, ofLowL_append, List.length_take, Nat.min_eq_left (by omega)]
  simp [bt, List.getD, h]
theorem ofLowAt_lt {xs : List UInt8} {k : Nat} (h : k ≤ xs.length) : ofLowAt xs k < 256 ^ k := by
  have := ofLowL_lt (xs.take k)
  rwa [List.length_take, Nat.min_eq_left h] at this

theorem ofLow_bits {xs : List UInt8} {k : Nat} (h : k < xs.length) (hk : k < 8) :
    bits .or .u64 (ofLowAt xs k : Int) (IntKind.u64.wrap ((bt xs k : Int) * 2 ^ (8 * k))) = (ofLowAt xs (k + 1) : Int) := by
  have h1 := ofLowAt_lt (xs := xs) (k := k) (by omega)
  have hb := bt_lt xs k
  have hp : (256 : Nat) ^ k = 2 ^ (8 * k) := by rw [Nat.pow_mul]
  have hpk : (2 : Nat) ^ (8 * k) ≤ 2 ^ 56 := Nat.pow_le_pow_right (by omega) (by omega)
  have hlt : bt xs k * 2 ^ (8 * k) < 18446744073709551616 := by
    have : bt xs k * 2 ^ (8 * k) ≤ 255 * 2 ^ 56 := Nat.mul_le_mul (by omega) hpk
    omega
  have hc : ((bt xs k : Int) * 2 ^ (8 * k)) = ((bt xs k * 2 ^ (8 * k) : Nat) : Int) := by push_cast; rfl
  rw [hc, IntWalk.u64_in _ (by omega), ofLowAt_succ h, hp]
  rw [hp] at h1
  generalize ofLowAt xs k = y at *
  have hy : y < 18446744073709551616 := by omega
  rw [u64_or_nat _ _ hy hlt, Nat.or_comm, nat_join (8 * k) _ _ (Nat.mul_mod_left _ _) h1, Nat.mul_comm, Nat.add_comm]

set_option maxHeartbeats 400000 in
theorem ofLow_calls {A : Option Addr} {n c : Nat} {m : Nat} {xs : List UInt8} {w : World} (h : Bs w A n c xs) (hm8 : m ≤ 8) (hmn : m ≤ n) (hM : (if (8 : Int) < (n : Int) then 8 else (n : Int)) = (m : Int)) :
    Calls Tryd.prog 99 #[.slice A n c] w fun e w' => e = .returned (.int .u64 (ofLowL (xs.take m) : Int)) ∧ w' = w := by
  have h1 := h.le
  have h2 := h.cap
  go_enter Tryd.func99, Tryd.ntmps99
  go_wp2
  clear hM
  go_loop [3, 8] (fun x i => ∃ k : Nat, k ≤ m ∧ i = .int .i64 k ∧ x = .int .u64 (ofLowAt xs k : Int)) (fun _ i => m - (intOf i).toNat)
  case atStart => exact ⟨0, Nat.zero_le _, rfl, rfl⟩
  case round =>
    obtain ⟨k, hk, rfl, rfl⟩ := hrel
    by_cases hlt : k < m
    · obtain ⟨b, off, rfl, hb, hc⟩ := h.pos (by omega)
      have g1 := hc k (by omega)
      have hbt := bt_lt xs k
      clear hc
      go_wp2
      go_round
      case rel =>
        exact ⟨k + 1, by omega, by go_num, congrArg (Value.int .u64) (ofLow_bits (by rw [h.len]; omega) (by omega))⟩
      case measure => simp [intOf]; omega
    · obtain rfl : k = m := by omega
      go_wp2
      go_ret
      exact ⟨rfl, rfl⟩
end Go.Proofs.YtbnjmmefnjoofaaDoor
end
