import Derived.Test.YtbkmnmhfjgmoiaaDoorKeyEq
import Derived.Test.YtbkmnmhfjgmoiaaDoorPkQ
section
/-
  Parts of structs are compared: keys and numbers.
-/
namespace Go.Proofs.YtbkmnmhfjgmoiaaDoor
open Go.ChangeShapes Go.WideShapes Go.ChangeAt Go.RowKit Go.Deep
set_option maxRecDepth 100000

theorem part_keyF {w : World} {K : Array Value} {off : Nat} : (part 23 K off).run Tryd.prog w = .ok (.agg (K.extract off (off + 32))) w := by
  obtain ⟨i, hi, hz0, hz1, hz2⟩ := info_parts (show (Tryd.prog.info? 23).map (fun i => (i.zero, i.size, i.bytes)) = some (some (.agg zeros32), 32, 32) by kernel_rfl)
  simp [part, isAgg, run_underlying Tryd.underlying23, sizeOf, typeInfo, hi, hz1]
theorem key_equalF {d : Nat} {xs ys : List UInt8} (hx : xs.length = 32) (hy : ys.length = 32) (w : World) :
    (Op.equalIn (d + 2) 23 (.agg (cellsOf xs).toArray) (.agg (cellsOf ys).toArray)).run Tryd.prog w = .ok (decide (xs = ys)) w := by
  rw [cellsOf_cell, cellsOf_cell, run_equalIn_bytes w d 23 5 32 rfl rfl (fun _ => rfl) xs ys hx hy]
  congr 1
  rw [Bool.eq_iff_iff]; simp
theorem part_intF {w : World} {K : Array Value} {off : Nat} {v : Value} (h : K[off]? = some v) : (part 3 K off).run Tryd.prog w = .ok v w := by
  simp [part, isAgg, run_underlying Tryd.underlying3, h]
theorem int_equalF {d : Nat} {a b : Int} (w : World) : (Op.equalIn (d + 1) 3 (.int .i64 a) (.int .i64 b)).run Tryd.prog w = .ok (a == b) w := by
  simp [Op.equalIn, run_underlying Tryd.underlying3]
end Go.Proofs.YtbkmnmhfjgmoiaaDoor
end

section
/-
  A stamp equals itself.
-/
namespace Go.Proofs.YtbkmnmhfjgmoiaaDoor
open Go.ChangeShapes Go.WideShapes Go.ChangeAt Go.RowKit Go.Deep
set_option maxRecDepth 100000

theorem stamp_fields : ∃ a b c d e f : Field, (Tryd.prog.fieldsOf 36).toList = [a, b, c, d, e, f] ∧ ((a.type = 3 ∧ a.offset = 0 ∧ a.name ≠ "_") ∧ (b.type = 3 ∧ b.offset = 1 ∧ b.name ≠ "_") ∧ (c.type = 3 ∧ c.offset = 2 ∧ c.name ≠ "_") ∧ (d.type = 3 ∧ d.offset = 3 ∧ d.name ≠ "_")) ∧ (e.type = 23 ∧ e.offset = 4 ∧ e.name ≠ "_") ∧ (f.type = 23 ∧ f.offset = 36 ∧ f.name ≠ "_") := by
  have h : ((Tryd.prog.fieldsOf 36).toList.map fun f => (f.name, f.type, f.offset)) = [("Epoch", 3, 0), ("From", 3, 1), ("To", 3, 2), ("Time", 3, 3), ("Commit", 23, 4), ("Tag", 23, 36)] := by kernel_rfl
  obtain ⟨a, l1, h0, ha, h⟩ := List.map_eq_cons_iff.1 h
  obtain ⟨b, l2, rfl, hb, h⟩ := List.map_eq_cons_iff.1 h
  obtain ⟨c, l3, rfl, hc, h⟩ := List.map_eq_cons_iff.1 h
  obtain ⟨d, l4, rfl, hd, h⟩ := List.map_eq_cons_iff.1 h
  obtain ⟨e, l5, rfl, he, h⟩ := List.map_eq_cons_iff.1 h
  obtain ⟨f, l6, rfl, hf, h⟩ := List.map_eq_cons_iff.1 h
  obtain rfl := List.map_eq_nil_iff.1 h
  simp only [Prod.mk.injEq] at ha hb hc hd he hf
  exact ⟨a, b, c, d, e, f, h0, ⟨⟨ha.2.1, ha.2.2, by rw [ha.1]; decide⟩, ⟨hb.2.1, hb.2.2, by rw [hb.1]; decide⟩, ⟨hc.2.1, hc.2.2, by rw [hc.1]; decide⟩, ⟨hd.2.1, hd.2.2, by rw [hd.1]; decide⟩⟩, ⟨he.2.1, he.2.2, by rw [he.1]; decide⟩, ⟨hf.2.1, hf.2.2, by rw [hf.1]; decide⟩⟩
theorem stamp_self {ep f t tm : Int} {cm tg : List UInt8} (hc : cm.length = 32) (hg : tg.length = 32) (w : World) :
    (Op.equalIn 10000 36 (.agg (stC ep f t tm cm tg).toArray) (.agg (stC ep f t tm cm tg).toArray)).run Tryd.prog w = .ok true w := by
  obtain ⟨a, b, c, d, e, k, hf, ⟨⟨a1, a2, a3⟩, ⟨b1, b2, b3⟩, ⟨c1, c2, c3⟩, ⟨d1, d2, d3⟩⟩, ⟨e1, e2, e3⟩, ⟨k1, k2, k3⟩⟩ := stamp_fields
  have x0 : (stC ep f t tm cm tg).toArray[0]? = some (.int .i64 ep) := rfl
  have x1 : (stC ep f t tm cm tg).toArray[1]? = some (.int .i64 f) := rfl
  have x2 : (stC ep f t tm cm tg).toArray[2]? = some (.int .i64 t) := rfl
  have x3 : (stC ep f t tm cm tg).toArray[3]? = some (.int .i64 tm) := rfl
  have x4 : (stC ep f t tm cm tg).toArray.extract 4 (4 + 32) = (cellsOf cm).toArray := by
    have q : (stC ep f t tm cm tg).drop 4 = cellsOf cm ++ cellsOf tg := rfl
    rw [List.extract_toArray, List.extract, q, Nat.add_sub_cancel_left, List.take_left' (by rw [cellsOf_len, hc])]
  have x5 : (stC ep f t tm cm tg).toArray.extract 36 (36 + 32) = (cellsOf tg).toArray := by
    rw [List.extract_toArray, List.extract, stC, ← List.append_assoc, List.drop_left' (by simp [cellsOf_len, hc]), Nat.add_sub_cancel_left, List.take_of_length_le (by rw [cellsOf_len, hg]; exact Nat.le_refl _)]
  generalize (stC ep f t tm cm tg).toArray = K at *
  rw [run_equalIn_struct w 9999 36 _ _ (by kernel_rfl) (by kernel_rfl), hf]
  have i0 := int_equalF (d := 9998) (a := ep) (b := ep) w
  have i1 := int_equalF (d := 9998) (a := f) (b := f) w
  have i2 := int_equalF (d := 9998) (a := t) (b := t) w
  have i3 := int_equalF (d := 9998) (a := tm) (b := tm) w
  simp only [Op.eqFields, a1, a2, if_pos a3, b1, b2, if_pos b3, c1, c2, if_pos c3, d1, d2, if_pos d3, e1, e2, if_pos e3, k1, k2, if_pos k3, Sem.run_bind, part_keyF, part_intF x0, part_intF x1, part_intF x2, part_intF x3, Result.andThen_ok, x4, x5, key_equalF (d := 9997) hc hc, key_equalF (d := 9997) hg hg, i0, i1, i2, i3, beq_self_eq_true, Bool.not_true, Bool.false_eq_true, if_false, decide_true]
  rfl
theorem stamp_guard : Tryd.prog.eqGuardType Tryd.prog.depth 36 = false := by kernel_rfl
theorem exec_eql_stamp {o : Oper} {a : Act} {w : World} {x y : Operand} {t' : TypeId} {L : List Value} (hL : ∃ ep f t tm cm tg, L = stC ep f t tm cm tg ∧ cm.length = 32 ∧ tg.length = 32) (ho : o.op = .binOp .eql 36 x y t') (hx : a.eval x = .agg L.toArray) (hy : a.eval y = .agg L.toArray) :
    (execOp a.eval o).run Tryd.prog w = .ok (.value (.bool true)) w := by
  obtain ⟨ep, f, t, tm, cm, tg, rfl, hp, hq⟩ := hL
  unfold execOp
  simp only [ho, hx, hy, Sem.run_bind, run_eqGuard_agg _ _ _ _ _ _ _ stamp_guard, Result.andThen_ok, run_eql_struct, stamp_self hp hq, Sem.run_pure]
theorem exec_neq_stamp {o : Oper} {a : Act} {w : World} {x y : Operand} {t' : TypeId} {L : List Value} (hL : ∃ ep f t tm cm tg, L = stC ep f t tm cm tg ∧ cm.length = 32 ∧ tg.length = 32) (ho : o.op = .binOp .neq 36 x y t') (hx : a.eval x = .agg L.toArray) (hy : a.eval y = .agg L.toArray) :
    (execOp a.eval o).run Tryd.prog w = .ok (.value (.bool false)) w := by
  obtain ⟨ep, f, t, tm, cm, tg, rfl, hp, hq⟩ := hL
  unfold execOp
  simp only [ho, hx, hy, Sem.run_bind, run_eqGuard_agg _ _ _ _ _ _ _ stamp_guard, Result.andThen_ok, run_neq_struct, run_eql_struct, stamp_self hp hq, Sem.run_pure, Bool.not_true]
end Go.Proofs.YtbkmnmhfjgmoiaaDoor
end
