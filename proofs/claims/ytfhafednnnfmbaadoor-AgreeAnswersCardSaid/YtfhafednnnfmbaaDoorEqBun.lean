import Derived.Test.YtfhafednnnfmbaaDoorPkS
/-
  A bundle equals itself.
-/
namespace Go.Proofs.YtfhafednnnfmbaaDoor
open Go.ChangeShapes Go.WideShapes Go.ChangeAt Go.RowKit Go.Deep
set_option maxRecDepth 100000

theorem bun_fields : ∃ f g k l : Field, (Tryd.prog.fieldsOf 27).toList = [f, g, k, l] ∧ (f.type = 23 ∧ f.offset = 0 ∧ f.name ≠ "_") ∧ (g.type = 23 ∧ g.offset = 32 ∧ g.name ≠ "_") ∧ (k.type = 23 ∧ k.offset = 64 ∧ k.name ≠ "_") ∧ (l.type = 4 ∧ l.offset = 96 ∧ l.name ≠ "_") := by
  have h : ((Tryd.prog.fieldsOf 27).toList.map fun f => (f.name, f.type, f.offset)) = [("Identity", 23, 0), ("Signed", 23, 32), ("Once", 23, 64), ("HasOnce", 4, 96)] := by kernel_rfl
  match hl : (Tryd.prog.fieldsOf 27).toList with
  | [] => rw [hl] at h; simp at h
  | [f] => rw [hl] at h; simp at h
  | [f, g] => rw [hl] at h; simp at h
  | [f, g, k] => rw [hl] at h; simp at h
  | [f, g, k, l] =>
    rw [hl] at h
    simp only [List.map_cons, List.map_nil, List.cons.injEq, and_true, Prod.mk.injEq] at h
    exact ⟨f, g, k, l, rfl, ⟨h.1.2.1, h.1.2.2, by rw [h.1.1]; decide⟩, ⟨h.2.1.2.1, h.2.1.2.2, by rw [h.2.1.1]; decide⟩, ⟨h.2.2.1.2.1, h.2.2.1.2.2, by rw [h.2.2.1.1]; decide⟩, h.2.2.2.2.1, h.2.2.2.2.2, by rw [h.2.2.2.1]; decide⟩
  | f :: g :: k :: l :: e :: r => rw [hl] at h; simp at h
theorem part_bool0 {w : World} {K : Array Value} {off : Nat} {v : Value} (h : K[off]? = some v) : (part 4 K off).run Tryd.prog w = .ok v w := by
  simp [part, isAgg, run_underlying Tryd.underlying4, h]
theorem bool_equal1 {d : Nat} {b : Bool} (w : World) : (Op.equalIn (d + 1) 4 (.bool b) (.bool b)).run Tryd.prog w = .ok true w := by
  simp [Op.equalIn, run_underlying Tryd.underlying4]
theorem key_self {d : Nat} {xs : List UInt8} (hx : xs.length = 32) (w : World) : (Op.equalIn (d + 2) 23 (.agg (cellsOf xs).toArray) (.agg (cellsOf xs).toArray)).run Tryd.prog w = .ok true w := by
  rw [key_equal1 hx hx, decide_eq_true rfl]
theorem ext_mid {p y q : List Value} {off n : Nat} (hp : p.length = off) (hy : y.length = n) : (p ++ (y ++ q)).toArray.extract off (off + n) = y.toArray := by
  rw [List.extract_toArray, List.extract, List.drop_left' hp, Nat.add_sub_cancel_left, List.take_left' hy]
theorem bun_equal {xs ys zs : List UInt8} {o : Bool} (hx : xs.length = 32) (hy : ys.length = 32) (hz : zs.length = 32) (w : World) :
    (Op.equalIn 10000 27 (.agg (bbC (xs ++ (ys ++ zs)) o).toArray) (.agg (bbC (xs ++ (ys ++ zs)) o).toArray)).run Tryd.prog w = .ok true w := by
  obtain ⟨f, g, k, l, hf, ⟨ht, ho, hn⟩, ⟨gt, go, gn⟩, ⟨kt, ko, kn⟩, lt, lo, ln⟩ := bun_fields
  have e0 : (bbC (xs ++ (ys ++ zs)) o).toArray.extract 0 (0 + 32) = (cellsOf xs).toArray := by
    rw [show bbC (xs ++ (ys ++ zs)) o = [] ++ (cellsOf xs ++ (cellsOf ys ++ (cellsOf zs ++ [.bool o]))) by simp [bbC, cellsOf_app]]
    exact ext_mid rfl (by rw [cellsOf_len, hx])
  have e1 : (bbC (xs ++ (ys ++ zs)) o).toArray.extract 32 (32 + 32) = (cellsOf ys).toArray := by
    rw [show bbC (xs ++ (ys ++ zs)) o = cellsOf xs ++ (cellsOf ys ++ (cellsOf zs ++ [.bool o])) by simp [bbC, cellsOf_app]]
    exact ext_mid (by rw [cellsOf_len, hx]) (by rw [cellsOf_len, hy])
  have e2 : (bbC (xs ++ (ys ++ zs)) o).toArray.extract 64 (64 + 32) = (cellsOf zs).toArray := by
    rw [show bbC (xs ++ (ys ++ zs)) o = (cellsOf xs ++ cellsOf ys) ++ (cellsOf zs ++ [.bool o]) by simp [bbC, cellsOf_app]]
    exact ext_mid (by simp [cellsOf_len, hx, hy]) (by rw [cellsOf_len, hz])
  have e3 : (bbC (xs ++ (ys ++ zs)) o).toArray[96]? = some (.bool o) := by
    rw [List.getElem?_toArray, bbC, List.getElem?_append_right (by simp [cellsOf_len, hx, hy, hz])]
    simp [cellsOf_len, hx, hy, hz]
  generalize (bbC (xs ++ (ys ++ zs)) o).toArray = K at *
  rw [run_equalIn_struct w 9999 27 _ _ (by kernel_rfl) (by kernel_rfl), hf]
  have b9 := bool_equal1 (d := 9998) (b := o) w
  simp only [Op.eqFields, ht, ho, if_pos hn, gt, go, if_pos gn, kt, ko, if_pos kn, lt, lo, if_pos ln, Sem.run_bind, part_key0, part_bool0 e3, Result.andThen_ok, e0, e1, e2, key_self (d := 9997) hx, key_self (d := 9997) hy, key_self (d := 9997) hz, b9, Bool.not_true, Bool.false_eq_true, if_false]
  rfl
theorem bun_guard : Tryd.prog.eqGuardType Tryd.prog.depth 27 = false := by kernel_rfl
theorem exec_eql_bun {o : Oper} {a : Act} {w : World} {x y : Operand} {t' : TypeId} {L : List Value} (hL : ∃ xs ys zs b, L = bbC (xs ++ (ys ++ zs)) b ∧ xs.length = 32 ∧ ys.length = 32 ∧ zs.length = 32) (ho : o.op = .binOp .eql 27 x y t') (hx : a.eval x = .agg L.toArray) (hy : a.eval y = .agg L.toArray) :
    (execOp a.eval o).run Tryd.prog w = .ok (.value (.bool true)) w := by
  obtain ⟨xs, ys, zs, b, rfl, hp, hq, hr⟩ := hL
  unfold execOp
  simp only [ho, hx, hy, Sem.run_bind, run_eqGuard_agg _ _ _ _ _ _ _ bun_guard, Result.andThen_ok, run_eql_struct, bun_equal hp hq hr, Sem.run_pure]
end Go.Proofs.YtfhafednnnfmbaaDoor
