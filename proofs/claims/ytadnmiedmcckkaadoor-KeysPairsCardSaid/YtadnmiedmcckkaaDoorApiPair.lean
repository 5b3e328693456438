/-
  api.Pair: two keys, as 64 bytes; laid of its parts, compared, read.
-/
import Derived.Test.YtadnmiedmcckkaaDoorKeyEq
import Derived.Test.YtadnmiedmcckkaaDoorFillTwo
import Derived.Test.YtadnmiedmcckkaaDoorInfoK
import Derived.Test.YtadnmiedmcckkaaDoorMid
import Derived.Laws.StructEq
namespace Go.Proofs.YtadnmiedmcckkaaDoor
open Go.ChangeShapes Go.WideShapes Go.ChangeAt Go.RowKit Go.Deep
set_option maxRecDepth 100000

theorem cellsOf_app (xs ys : List UInt8) : cellsOf (xs ++ ys) = cellsOf xs ++ cellsOf ys := by rw [cellsOf_map, cellsOf_map, cellsOf_map, List.map_append]
def Z64p : Array Value := (cellsOf (List.replicate 64 0)).toArray
theorem Z64p_size : Z64p.size = 64 := by simp [Z64p, cellsOf_len]
theorem apair_alloc (w : World) : (zeroValue 37).run Tryd.prog w = .ok (.agg (cellsOf (List.replicate 64 0)).toArray) w := by kernel_rfl
theorem apair_zero : Tryd.prog.built 37 [] = some (cellsOf (List.replicate 64 0)).toArray := by kernel_rfl
theorem apair_built {xs ys : List UInt8} (hx : xs.length = 32) (hy : ys.length = 32) : Tryd.prog.built 37 [(0, .agg (cellsOf xs).toArray), (1, .agg (cellsOf ys).toArray)] = some (cellsOf (xs ++ ys)).toArray := by
  have h : ∃ pl : Nat → Option (Nat × Nat), pl 0 = some (0, 32) ∧ pl 1 = some (32, 32) ∧ ∀ ps, Tryd.prog.built 37 ps = Instr.fill pl Z64p ps := ⟨(#[(0, 32), (32, 32)][·]?), rfl, rfl, fun ps => by kernel_rfl⟩
  obtain ⟨pl, h0, h1, h2⟩ := h
  rw [h2, fill_two pl h0 h1 (by simp [cellsOf_len, hx]) (by simp [cellsOf_len, hy]) Z64p_size, cellsOf_app, List.append_toArray]
theorem part_key0 {w : World} {K : Array Value} {off : Nat} : (part 23 K off).run Tryd.prog w = .ok (.agg (K.extract off (off + 32))) w := by
  obtain ⟨i, hi, hz0, hz1, hz2⟩ := info_parts infoK
  simp [part, isAgg, run_underlying Tryd.underlying23, sizeOf, typeInfo, hi, hz1]
theorem key_equal1 {d : Nat} {xs ys : List UInt8} (hx : xs.length = 32) (hy : ys.length = 32) (w : World) :
    (Op.equalIn (d + 2) 23 (.agg (cellsOf xs).toArray) (.agg (cellsOf ys).toArray)).run Tryd.prog w = .ok (decide (xs = ys)) w := by
  rw [cellsOf_cell, cellsOf_cell, run_equalIn_bytes w d 23 5 32 rfl rfl (fun _ => rfl) xs ys hx hy]
  congr 1
  rw [Bool.eq_iff_iff]; simp
theorem apair_fields : ∃ f g : Field, (Tryd.prog.fieldsOf 37).toList = [f, g] ∧ (f.type = 23 ∧ f.offset = 0 ∧ f.name ≠ "_") ∧ (g.type = 23 ∧ g.offset = 32 ∧ g.name ≠ "_") := by
  have h : ((Tryd.prog.fieldsOf 37).toList.map fun f => (f.name, f.type, f.offset)) = [("Secret", 23, 0), ("Public", 23, 32)] := by kernel_rfl
  match hl : (Tryd.prog.fieldsOf 37).toList with
  | [] => rw [hl] at h; simp at h
  | [f] => rw [hl] at h; simp at h
  | [f, g] =>
    rw [hl] at h
    simp only [List.map_cons, List.map_nil, List.cons.injEq, and_true, Prod.mk.injEq] at h
    exact ⟨f, g, rfl, ⟨h.1.2.1, h.1.2.2, by rw [h.1.1]; decide⟩, h.2.2.1, h.2.2.2, by rw [h.2.1]; decide⟩
  | f :: g :: e :: r => rw [hl] at h; simp at h
theorem ext_lo {xs ys : List UInt8} (hx : xs.length = 32) : (cellsOf (xs ++ ys)).toArray.extract 0 (0 + 32) = (cellsOf xs).toArray := by
  rw [cellsOf_app, List.extract_toArray, List.extract, List.drop_zero, List.take_left' (by simp [cellsOf_len, hx])]
theorem ext_hi {xs ys : List UInt8} (hx : xs.length = 32) (hy : ys.length = 32) : (cellsOf (xs ++ ys)).toArray.extract 32 (32 + 32) = (cellsOf ys).toArray := by
  rw [cellsOf_app, List.extract_toArray, List.extract, List.drop_left' (by simp [cellsOf_len, hx]), List.take_of_length_le (by simp [cellsOf_len, hy])]
theorem apair_equal {a b c d : List UInt8} (ha : a.length = 32) (hb : b.length = 32) (hc : c.length = 32) (hd : d.length = 32) (w : World) :
    (Op.equalIn 10000 37 (.agg (cellsOf (a ++ b)).toArray) (.agg (cellsOf (c ++ d)).toArray)).run Tryd.prog w = .ok (decide (a ++ b = c ++ d)) w := by
  obtain ⟨f, g, hf, ⟨ht, ho, hn⟩, gt, go, gn⟩ := apair_fields
  rw [run_equalIn_struct w 9999 37 _ _ (by kernel_rfl) (by kernel_rfl), hf]
  simp only [Op.eqFields, ht, ho, if_pos hn, gt, go, if_pos gn, Sem.run_bind, part_key0, Result.andThen_ok, ext_lo ha, ext_lo hc, ext_hi ha hb, ext_hi hc hd, key_equal1 (d := 9997) ha hc, key_equal1 (d := 9997) hb hd]
  have e : (a ++ b = c ++ d) ↔ (a = c ∧ b = d) := ⟨fun h => List.append_inj h (by rw [ha, hc]), fun h => by rw [h.1, h.2]⟩
  by_cases h1 : a = c
  · rw [decide_eq_true h1]
    simp only [Bool.not_true, Bool.false_eq_true, if_false, Sem.run_bind, part_key0, Result.andThen_ok, ext_hi ha hb, ext_hi hc hd, key_equal1 (d := 9997) hb hd]
    by_cases h2 : b = d
    · rw [decide_eq_true h2, decide_eq_true (e.2 ⟨h1, h2⟩)]; rfl
    · rw [decide_eq_false h2, decide_eq_false (fun h => h2 (e.1 h).2)]; rfl
  · rw [decide_eq_false h1, decide_eq_false (fun h => h1 (e.1 h).1)]; rfl
theorem apair_guard : Tryd.prog.eqGuardType Tryd.prog.depth 37 = false := by kernel_rfl
theorem split64 {xs : List UInt8} (h : xs.length = 64) : ∃ a b, xs = a ++ b ∧ a.length = 32 ∧ b.length = 32 := ⟨xs.take 32, xs.drop 32, (List.take_append_drop 32 xs).symm, by simp [h], by simp [h]⟩
theorem exec_eql_pairB {o : Oper} {a : Act} {w : World} {x y : Operand} {t' : TypeId} {xs ys : List UInt8} {b : Bool} (hb : decide (xs = ys) = b) (lx : xs.length = 64) (ly : ys.length = 64) (ho : o.op = .binOp .eql 37 x y t') (hx : a.eval x = .agg (cellsOf xs).toArray) (hy : a.eval y = .agg (cellsOf ys).toArray) :
    (execOp a.eval o).run Tryd.prog w = .ok (.value (.bool b)) w := by
  obtain ⟨p, q, rfl, hp, hq⟩ := split64 lx
  obtain ⟨r, s, rfl, hr, hs⟩ := split64 ly
  unfold execOp
  simp only [ho, hx, hy, Sem.run_bind, run_eqGuard_agg _ _ _ _ _ _ _ apair_guard, Result.andThen_ok, run_eql_struct, apair_equal hp hq hr hs, Sem.run_pure, hb]
theorem exec_neq_pairB {o : Oper} {a : Act} {w : World} {x y : Operand} {t' : TypeId} {xs ys : List UInt8} {b : Bool} (hb : (!decide (xs = ys)) = b) (lx : xs.length = 64) (ly : ys.length = 64) (ho : o.op = .binOp .neq 37 x y t') (hx : a.eval x = .agg (cellsOf xs).toArray) (hy : a.eval y = .agg (cellsOf ys).toArray) :
    (execOp a.eval o).run Tryd.prog w = .ok (.value (.bool b)) w := by
  obtain ⟨p, q, rfl, hp, hq⟩ := split64 lx
  obtain ⟨r, s, rfl, hr, hs⟩ := split64 ly
  unfold execOp
  simp only [ho, hx, hy, Sem.run_bind, run_eqGuard_agg _ _ _ _ _ _ _ apair_guard, Result.andThen_ok, run_neq_struct, apair_equal hp hq hr hs, Sem.run_pure, hb]

/-- Block g holds a pair. -/
def Kp (w : World) (g : Nat) (xs : List UInt8) : Prop := w.heap[g]? = some (.cells (cellsOf xs).toArray 37 (0, 0)) ∧ xs.length = 64
section
variable {w w' : World} {g : Nat} {xs ys : List UInt8}
theorem Kp.lt (h : Kp w g xs) : g < w.heap.size := heap_lt h.1
theorem Kp.ext (h : Kp w g xs) (e : Ext w w') : Kp w' g xs := ⟨(e.block g h.lt).trans h.1, h.2⟩
theorem Kp.other {h' : Nat} (h : Kp w g xs) (k : w.grownBy w' (some h')) (hne : g ≠ h') : Kp w' g xs := ⟨(k.block g h.lt (fun e => hne (Option.some.inj e))).trans h.1, h.2⟩
theorem Kp.at0 (h : Kp w g (xs ++ ys)) : ∀ j v, (cellsOf xs)[j]? = some v → w.cell? ⟨g, 0 + j, none⟩ = some v := fun j v hv => by
  rw [cell_of_row w g _ _ _ _ h.1, List.getElem?_toArray, cellsOf_app, Nat.zero_add, List.getElem?_append_left (List.getElem?_eq_some_iff.1 hv).1, hv]
theorem Kp.at32 (h : Kp w g (xs ++ ys)) (hx : xs.length = 32) : ∀ j v, (cellsOf ys)[j]? = some v → w.cell? ⟨g, 32 + j, none⟩ = some v := fun j v hv => by
  rw [cell_of_row w g _ _ _ _ h.1, List.getElem?_toArray, cellsOf_app, List.getElem?_append_right (by simp [cellsOf_len, hx]), cellsOf_len, hx, Nat.add_sub_cancel_left, hv]
end
end Go.Proofs.YtadnmiedmcckkaaDoor
