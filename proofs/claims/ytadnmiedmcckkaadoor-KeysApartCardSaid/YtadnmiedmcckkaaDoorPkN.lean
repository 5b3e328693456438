import Derived.Test.YtadnmiedmcckkaaDoorPkO
import Derived.Great.FillDense
import Derived.Laws.StructEq
import Derived.Deep.MidRow
import Derived.Deep.Upon
section
/-
  A struct of two parts is laid of its parts. No conditions.
-/
namespace Go.Proofs.YtadnmiedmcckkaaDoor
open Go.ChangeShapes Go.WideShapes Go.ChangeAt Go.RowKit Go.Deep

theorem fold_cells (off : Nat) (v : Array Value) (cs : Array Value) : v.zipIdx.foldl (fun cs (c, j) => cs.setIfInBounds (off + j) c) cs = (v.toList.zipIdx 0).foldl (fun cs (x : Value × Nat) => cs.setIfInBounds (off + x.2) x.1) cs := by
  rw [← Array.foldl_toList, Array.toList_zipIdx]
theorem fill_two {p q : Nat} {K L Z : Array Value} (pl : Nat → Option (Nat × Nat)) (h0 : pl 0 = some (0, p)) (h1 : pl 1 = some (p, q)) (hK : K.size = p) (hL : L.size = q) (hZ : Z.size = p + q) : Instr.fill pl Z [(0, .agg K), (1, .agg L)] = some (K ++ L) := by
  have c0 : (Value.agg K).cells = K := rfl
  have c1 : (Value.agg L).cells = L := rfl
  obtain ⟨g1, g2⟩ := Great.foldl_set 0 K.toList 0 Z
  obtain ⟨g3, g4⟩ := Great.foldl_set p L.toList 0 ((K.toList.zipIdx 0).foldl (fun cs (x : Value × Nat) => cs.setIfInBounds (0 + x.2) x.1) Z)
  unfold Instr.fill
  simp only [h0, c0, hK]
  rw [if_neg (by simp; omega)]
  unfold Instr.fill
  simp only [h1, c1, hL]
  rw [if_neg (by rw [fold_cells, g1]; simp; omega)]
  unfold Instr.fill
  rw [fold_cells, fold_cells]
  congr 1
  apply Array.ext_getElem?
  intro k
  rw [g4 k, g2 k, g1]
  simp only [Nat.add_zero, Nat.zero_add, Nat.zero_le, true_and, Array.length_toList, hK, hL, hZ, Nat.sub_zero]
  by_cases a : k < p
  · rw [if_neg (by omega), if_pos ⟨a, by omega⟩, Array.getElem?_append_left (by omega)]
    simp
  · by_cases b : k < p + q
    · rw [if_pos ⟨by omega, b, b⟩, Array.getElem?_append_right (by omega), hK]
      simp
    · rw [if_neg (by omega), if_neg (by omega), Array.getElem?_eq_none (by omega), Array.getElem?_eq_none (by rw [Array.size_append]; omega)]
end Go.Proofs.YtadnmiedmcckkaaDoor
end

section
/-
  What is known of the type of keys. No conditions.
-/
namespace Go.Proofs.YtadnmiedmcckkaaDoor
open Go.ChangeShapes Go.WideShapes Go.ChangeAt Go.RowKit Go.Deep

theorem infoK : (Tryd.prog.info? 23).map (fun i => (i.zero, i.size, i.bytes)) = some (some (.agg zeros32), 32, 32) := by kernel_rfl
end Go.Proofs.YtadnmiedmcckkaaDoor
end

section
/-
  An array in the midst of a block is read.
-/
namespace Go.Proofs.YtadnmiedmcckkaaDoor
open Go.ChangeShapes Go.WideShapes Go.ChangeAt Go.RowKit Go.Deep

/-- An array in the midst of a block. -/
theorem exec_load_mid {P : Program} {o : Oper} {a : Act} {w : World} {ty : TypeId} {x : Operand} {g off : Nat} {ys : List Value} {d : TypeDesc} (ho : o.op = .load ty x) (hx : a.eval x = .pointer (some ⟨g, off, none⟩)) (hc : ∀ j v, ys[j]? = some v → w.cell? ⟨g, off + j, none⟩ = some v)
    (hu : P.underlying ty = some d) (hd : (match d with | .struct _ | .array _ _ => true | _ => false) = true) (hi : (P.info? ty).map (·.size) = some ys.length) : (execOp a.eval o).run P w = .ok (.value (.agg ys.toArray)) w := by
  have hl : (loadCells ⟨g, off, none⟩ ys.length).run P w = .ok ys.toArray w := run_loadCells_list (P := P) w ⟨g, off, none⟩ ys (fun j v hv => by
    have hadd : (⟨g, off, none⟩ : Addr).add j = ⟨g, off + j, none⟩ := by unfold Addr.add; split <;> simp_all
    rw [hadd]
    exact hc j v hv)
  have hv : (loadVar ty ⟨g, off, none⟩).run P w = .ok (.agg ys.toArray) w := by
    cases hq : P.info? ty with
    | none => simp [hq] at hi
    | some i =>
      have hs : i.size = ys.length := by simpa [hq] using hi
      have hagg : (isAgg ty).run P w = .ok true w := by
        unfold isAgg
        rw [Sem.run_bind, run_underlying hu w]
        cases d <;> simp_all
      simp [loadVar, Sem.run_bind, hagg, sizeOf, typeInfo, hq, hs, hl]
  unfold execOp
  simp only [ho, hx, Instr.loadAt, Instr.sureAddr, Sem.run_bind, Sem.run_pure, Result.andThen_ok, hv]

theorem wpList_load_mid {P : Program} {ops : Array Oper} {rest : List Oper} {o : Oper} {a : Act} {w : World} {Q : Exit → Act → World → Prop} (hw : Region.wanted o (yielded ops a.tmps) = true) {ty : TypeId} {x : Operand} {g off : Nat} {ys : List Value} {d : TypeDesc} (ho : o.op = .load ty x) (hx : a.eval x = .pointer (some ⟨g, off, none⟩)) (hc : ∀ j v, ys[j]? = some v → w.cell? ⟨g, off + j, none⟩ = some v)
    (hu : P.underlying ty = some d) (hd : (match d with | .struct _ | .array _ _ => true | _ => false) = true) (hi : (P.info? ty).map (·.size) = some ys.length) (h : wpList P ops Q rest (a.put o.dst (.agg ys.toArray)) w) : wpList P ops Q (o :: rest) a w :=
  wpList_exec hw (exec_load_mid ho hx hc hu hd hi) h
theorem exec_eql_keyB {o : Oper} {a : Act} {w : World} {x y : Operand} {t' : TypeId} {xs ys : List UInt8} {b : Bool} (hb : decide (xs = ys) = b) (lx : xs.length = 32) (ly : ys.length = 32) (ho : o.op = .binOp .eql 23 x y t') (hx : a.eval x = .agg (cellsOf xs).toArray) (hy : a.eval y = .agg (cellsOf ys).toArray) :
    (execOp a.eval o).run Tryd.prog w = .ok (.value (.bool b)) w := hb ▸ exec_eql_key ho hx hy lx ly
theorem exec_neq_keyB {o : Oper} {a : Act} {w : World} {x y : Operand} {t' : TypeId} {xs ys : List UInt8} {b : Bool} (hb : (!decide (xs = ys)) = b) (lx : xs.length = 32) (ly : ys.length = 32) (ho : o.op = .binOp .neq 23 x y t') (hx : a.eval x = .agg (cellsOf xs).toArray) (hy : a.eval y = .agg (cellsOf ys).toArray) :
    (execOp a.eval o).run Tryd.prog w = .ok (.value (.bool b)) w := hb ▸ exec_neq_key ho hx hy lx ly
end Go.Proofs.YtadnmiedmcckkaaDoor
end

section
/-
  api.Pair: two keys, as 64 bytes; laid of its parts, compared, read.
-/
namespace Go.Proofs.YtadnmiedmcckkaaDoor
open Go.ChangeShapes Go.WideShapes Go.ChangeAt Go.RowKit Go.Deep
set_option maxRecDepth 100000

theorem cellsOf_app (xs ys : List UInt8) : cellsOf (xs ++ ys) = cellsOf xs ++ cellsOf ys := by rw [cellsOf_map, cellsOf_map, cellsOf_map, List.map_append]
def Z64p : Array Value := (cellsOf (List.replicate 64 0)).toArray
theorem Z64p_size : Z64p.size = 64 := by simp [Z64p, cellsOf_len]
theorem apair_alloc (w : World) : (zeroValue 37).run Tryd.prog w = .ok (.agg (cellsOf (List.replicate 64 0)).toArray) w := by kernel_rfl
theorem apair_zero : Tryd.prog.built 37 [] = some (cellsOf (List.replicate 64 0)).toArray := by kernel_rfl
theorem apair_built {xs ys : List UInt8} (hx : xs.length = 32) (hy : ys.length = 32) : Tryd.prog.built 37 [(0, .agg (cellsOf xs).toArray), (1, .agg (cellsOf ys).toArray)] = some (cellsOf (xs ++ ys)).toArray := by
  have h : ∃ pl : Nat → Option (Nat × Nat), pl 0 = some (0, 32) ∧ pl 1 = some (32, 32) ∧ ∀ ps, Tryd.prog.built 37 ps = Instr.fill pl Z64p ps := ⟨(#[(0, 32), (32, 32)][·]?), rfl, rfl, fun ps => by kernel_rfl⟩
  obtain ⟨pl, h0, h1, h2⟩ := h
  rw [h2, fill_two pl h0 h1 (by simp [cellsOf_len, hx]) (by simp [cellsOf_len, hy]) Z64p_size, cellsOf_app, List.append_toArray]
theorem part_key0 {w : World} {K : Array Value} {off : Nat} : (part 23 K off).run Tryd.prog w = .ok (.agg (K.extract off (off + 32))) w := by
  obtain ⟨i, hi, hz0, hz1, hz2⟩ := info_parts infoK
  simp [part, isAgg, run_underlying Tryd.underlying23, sizeOf, typeInfo, hi, hz1]
theorem key_equal1 {d : Nat} {xs ys : List UInt8} (hx : xs.length = 32) (hy : ys.length = 32) (w : World) :
    (Op.equalIn (d + 2) 23 (.agg (cellsOf xs).toArray) (.agg (cellsOf ys).toArray)).run Tryd.prog w = .ok (decide (xs = ys)) w := by
  rw [cellsOf_cell, cellsOf_cell, run_equalIn_bytes w d 23 5 32 rfl rfl (fun _ => rfl) xs ys hx hy]
  congr 1
  rw [Bool.eq_iff_iff]; simp
theorem apair_fields : ∃ f g : Field, (Tryd.prog.fieldsOf 37).toList = [f, g] ∧ (f.type = 23 ∧ f.offset = 0 ∧ f.name ≠ "_") ∧ (g.type = 23 ∧ g.offset = 32 ∧ g.name ≠ "_") := by
  have h : ((Tryd.prog.fieldsOf 37).toList.map fun f => (f.name, f.type, f.offset)) = [("Secret", 23, 0), ("Public", 23, 32)] := by kernel_rfl
  match hl : (Tryd.prog.fieldsOf 37).toList with
  | [] => rw [hl] at h; simp at h
  | [f] => rw [hl] at h; simp at h
  | [f, g] =>
    rw [hl] at h
    simp only [List.map_cons, List.map_nil, List.cons.injEq, and_true, Prod.mk.injEq] at h
    exact ⟨f, g, rfl, ⟨h.1.2.1, h.1.2.2, by rw [h.1.1]; decide⟩, h.2.2.1, h.2.2.2, by rw [h.2.1]; decide⟩
  | f :: g :: e :: r => rw [hl] at h; simp at h
theorem ext_lo {xs ys : List UInt8} (hx : xs.length = 32) : (cellsOf (xs ++ ys)).toArray.extract 0 (0 + 32) = (cellsOf xs).toArray := by
  rw [cellsOf_app, List.extract_toArray, List.extract, List.drop_zero, List.take_left' (by simp [cellsOf_len, hx])]
theorem ext_hi {xs ys : List UInt8} (hx : xs.length = 32) (hy : ys.length = 32) : (cellsOf (xs ++ ys)).toArray.extract 32 (32 + 32) = (cellsOf ys).toArray := by
  rw [cellsOf_app, List.extract_toArray, List.extract, List.drop_left' (by simp [cellsOf_len, hx]), List.take_of_length_le (by simp [cellsOf_len, hy])]
theorem apair_equal {a b c d : List UInt8} (ha : a.length = 32) (hb : b.length = 32) (hc : c.length = 32) (hd : d.length = 32) (w : World) :
    (Op.equalIn 10000 37 (.agg (cellsOf (a ++ b)).toArray) (.agg (cellsOf (c ++ d)).toArray)).run Tryd.prog w = .ok (decide (a ++ b = c ++ d)) w := by
  obtain ⟨f, g, hf, ⟨ht, ho, hn⟩, gt, go, gn⟩ := apair_fields
  rw [run_equalIn_struct w 9999 37 _ _ (by kernel_rfl) (by kernel_rfl), hf]
  simp only [Op.eqFields, ht, ho, if_pos hn, gt, go, if_pos gn, Sem.run_bind, part_key0, Result.andThen_ok, ext_lo ha, ext_lo hc, ext_hi ha hb, ext_hi hc hd, key_equal1 (d := 9997) ha hc, key_equal1 (d := 9997) hb hd]
  have e : (a ++ b = c ++ d) ↔ (a = c ∧ b = d) := ⟨fun h => List.append_inj h (by rw [ha, hc]), fun h => by rw [h.1, h.2]⟩
  by_cases h1 : a = c
  · rw [decide_eq_true h1]
    simp only [Bool.not_true, Bool.false_eq_true, if_false, Sem.run_bind, part_key0, Result.andThen_ok, ext_hi ha hb, ext_hi hc hd, key_equal1 (d := 9997) hb hd]
    by_cases h2 : b = d
    · rw [decide_eq_true h2, decide_eq_true (e.2 ⟨h1, h2⟩)]; rfl
    · rw [decide_eq_false h2, decide_eq_false (fun h => h2 (e.1 h).2)]; rfl
  · rw [decide_eq_false h1, decide_eq_false (fun h => h1 (e.1 h).1)]; rfl
theorem apair_guard : Tryd.prog.eqGuardType Tryd.prog.depth 37 = false := by kernel_rfl
theorem split64 {xs : List UInt8} (h : xs.length = 64) : ∃ a b, xs = a ++ b ∧ a.length = 32 ∧ b.length = 32 := ⟨xs.take 32, xs.drop 32, (List.take_append_drop 32 xs).symm, by simp [h], by simp [h]⟩
theorem exec_eql_pairB {o : Oper} {a : Act} {w : World} {x y : Operand} {t' : TypeId} {xs ys : List UInt8} {b : Bool} (hb : decide (xs = ys) = b) (lx : xs.length = 64) (ly : ys.length = 64) (ho : o.op = .binOp .eql 37 x y t') (hx : a.eval x = .agg (cellsOf xs).toArray) (hy : a.eval y = .agg (cellsOf ys).toArray) :
    (execOp a.eval o).run Tryd.prog w = .ok (.value (.bool b)) w := by
  obtain ⟨p, q, rfl, hp, hq⟩ := split64 lx
  obtain ⟨r, s, rfl, hr, hs⟩ := split64 ly
  unfold execOp
  simp only [ho, hx, hy, Sem.run_bind, run_eqGuard_agg _ _ _ _ _ _ _ apair_guard, Result.andThen_ok, run_eql_struct, apair_equal hp hq hr hs, Sem.run_pure, hb]
theorem exec_neq_pairB {o : Oper} {a : Act} {w : World} {x y : Operand} {t' : TypeId} {xs ys : List UInt8} {b : Bool} (hb : (!decide (xs = ys)) = b) (lx : xs.length = 64) (ly : ys.length = 64) (ho : o.op = .binOp .neq 37 x y t') (hx : a.eval x = .agg (cellsOf xs).toArray) (hy : a.eval y = .agg (cellsOf ys).toArray) :
    (execOp a.eval o).run Tryd.prog w = .ok (.value (.bool b)) w := by
  obtain ⟨p, q, rfl, hp, hq⟩ := split64 lx
  obtain ⟨r, s, rfl, hr, hs⟩ := split64 ly
  unfold execOp
  simp only [ho, hx, hy, Sem.run_bind, run_eqGuard_agg _ _ _ _ _ _ _ apair_guard, Result.andThen_ok, run_neq_struct, apair_equal hp hq hr hs, Sem.run_pure, hb]

/-- Block g holds a pair. -/
def Kp (w : World) (g : Nat) (xs : List UInt8) : Prop := w.heap[g]? = some (.cells (cellsOf xs).toArray 37 (0, 0)) ∧ xs.length = 64
section
variable {w w' : World} {g : Nat} {xs ys : List UInt8}
theorem Kp.lt (h : Kp w g xs) : g < w.heap.size := heap_lt h.1
theorem Kp.ext (h : Kp w g xs) (e : Ext w w') : Kp w' g xs := ⟨(e.block g h.lt).trans h.1, h.2⟩
theorem Kp.other {h' : Nat} (h : Kp w g xs) (k : w.grownBy w' (some h')) (hne : g ≠ h') : Kp w' g xs := ⟨(k.block g h.lt (fun e => hne (Option.some.inj e))).trans h.1, h.2⟩
theorem Kp.at0 (h : Kp w g (xs ++ ys)) : ∀ j v, (cellsOf xs)[j]? = some v → w.cell? ⟨g, 0 + j, none⟩ = some v := fun j v hv => by
  rw [cell_of_row w g _ _ _ _ h.1, List.getElem?_toArray, cellsOf_app, Nat.zero_add, List.getElem?_append_left (List.getElem?_eq_some_iff.1 hv).1, hv]
theorem Kp.at32 (h : Kp w g (xs ++ ys)) (hx : xs.length = 32) : ∀ j v, (cellsOf ys)[j]? = some v → w.cell? ⟨g, 32 + j, none⟩ = some v := fun j v hv => by
  rw [cell_of_row w g _ _ _ _ h.1, List.getElem?_toArray, cellsOf_app, List.getElem?_append_right (by simp [cellsOf_len, hx]), cellsOf_len, hx, Nat.add_sub_cancel_left, hv]
end
end Go.Proofs.YtadnmiedmcckkaaDoor
end

section
/-
  Cells stored into the midst of a block whose cells are known. No conditions.
-/
namespace Go.Proofs.YtadnmiedmcckkaaDoor
open Go.ChangeShapes Go.WideShapes Go.ChangeAt Go.RowKit Go.Deep

theorem splice_cons {α : Type} (L : List α) (o : Nat) (v : α) (r : List α) (h : o < L.length) : splice (L.set o v) (o + 1) r = splice L o (v :: r) := by
  unfold splice
  rw [List.take_set, List.drop_set, if_pos (by omega)]
  have e : (L.take (o + 1)).set o v = L.take o ++ [v] := by
    apply List.ext_getElem?
    intro i
    rw [List.getElem?_set]
    by_cases hi : o = i
    · subst hi
      rw [if_pos rfl, if_pos (by simp; omega), List.getElem?_append_right (by rw [List.length_take]; omega), List.length_take]
      simp [show min o L.length = o by omega]
    · rw [if_neg hi]
      by_cases h2 : i < o
      · rw [List.getElem?_append_left (by simp; omega), List.getElem?_take, List.getElem?_take, if_pos (by omega), if_pos h2]
      · rw [List.getElem?_take, if_neg (by omega), List.getElem?_eq_none (by simp; omega)]
  rw [e, List.append_assoc, show o + 1 + r.length = o + (v :: r).length by simp; omega]
  rfl
theorem heap_setCells_row {g : Nat} {t : TypeId} {fr : Nat × Nat} : ∀ (vs : List Value) (o : Nat) (w : World) (A : List Value), w.heap[g]? = some (.cells A.toArray t fr) → o + vs.length ≤ A.length → (w.setCells g o vs).heap[g]? = some (.cells (splice A o vs).toArray t fr)
  | [], o, w, A, h, hl => by
    have : splice A o [] = A := by simp [splice]
    rw [this]; exact h
  | v :: r, o, w, A, h, hl => by
    have h1 : (w.setCell ⟨g, o, none⟩ v).heap[g]? = some (.cells (A.set o v).toArray t fr) := by
      simp [World.setCell, Array.getElem?_modify, h]
    have := heap_setCells_row r (o + 1) _ (A.set o v) h1 (by simp at hl ⊢; omega)
    rw [splice_cons A o v r (by simp at hl; omega)] at this
    exact this
theorem there_of_row {w : World} {g o n : Nat} {A : List Value} {t : TypeId} (h : w.heap[g]? = some (.cells A.toArray t (0, 0))) (hl : o + n ≤ A.length) : w.there g o n := fun j hj => by
  refine ⟨?_, frozen_of_row w g _ _ _ h⟩
  rw [cell_of_row w g _ _ _ _ h]
  simp
  omega
theorem grown_setCells {w : World} {g o : Nat} {vs : List Value} : w.grownBy (w.setCells g o vs) (some g) := by
  have hk := World.keptBut_setCells g (may := fun _ => True) vs o w (fun _ _ => trivial)
  refine ⟨hk.1, ?_, hk.2.1, ?_, fun i hi hne => World.heap_setCells_other w g o vs hi (fun e => hne (by rw [e]))⟩
  · clear hk
    induction vs generalizing o w with
    | nil => rfl
    | cons v r ih => exact (ih (o := o + 1) (w := w.setCell ⟨g, o, none⟩ v)).trans rfl
  · clear hk
    induction vs generalizing o w with
    | nil => exact Nat.le_refl _
    | cons v r ih => exact Nat.le_trans (by simp [World.setCell]) (ih (o := o + 1) (w := w.setCell ⟨g, o, none⟩ v))
theorem grown_trans' {a b c : World} {r : Option Nat} (h : a.grownBy b r) (k : b.grownBy c r) : a.grownBy c r :=
  ⟨k.os.trans h.os, k.tape.trans h.tape, k.output.trans h.output, Nat.le_trans h.size k.size, fun i hi hne => (k.block i (Nat.lt_of_lt_of_le hi h.size) hne).trans (h.block i hi hne)⟩
theorem below_grown {a b : World} {g : Nat} (hg : g < a.heap.size) (h : a.grownBy b (some g)) : Below g a b :=
  ⟨h.os, h.tape, h.output, h.size, fun i hi => h.block i (Nat.lt_trans hi hg) (fun q => by cases q; exact Nat.lt_irrefl _ hi)⟩
end Go.Proofs.YtadnmiedmcckkaaDoor
end
