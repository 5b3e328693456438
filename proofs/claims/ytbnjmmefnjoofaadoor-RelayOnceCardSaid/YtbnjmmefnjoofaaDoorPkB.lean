import Derived.Test.YtbnjmmefnjoofaaDoorAw20
import Derived.Test.YtbnjmmefnjoofaaDoorPkO
import Derived.Test.YtbnjmmefnjoofaaDoorPkI
section
/-
  What a law of layer 20 has in memory: a relay, an envelope of one byte, a tag.
-/
namespace Go.Proofs.YtbnjmmefnjoofaaDoor
open Go.ChangeShapes Go.WideShapes Go.ChangeAt Go.RowKit Go.Deep Go.Maps
set_option maxRecDepth 100000

/-- A relay that was begun since w, and what stands beside it. -/
structure Lp (w W : World) (g : Nat) (root : List UInt8) (f : Nat → Option Ac) (N : Nat) : Prop where
  ry : RY w.heap.size W g root 5 f N
  xt : Ext w W
/-- An envelope of one byte in block r, and a tag in block gT. -/
structure Ep (w W : World) (r : Nat) (i j : Nat) (A : Option Addr) (x : UInt8) (gT : Nat) (tag : List UInt8) : Prop where
  ev : Cb W r 37 (xvC i j A)
  bs : BsB w.heap.size W A 1 1 [x]
  kt : Ky W gT tag
section
variable {w W W' : World} {g N N' r i j gT : Nat} {root tag : List UInt8} {f f' : Nat → Option Ac} {A : Option Addr} {x : UInt8}
theorem Lp.ext (h : Lp w W g root f N) (e : Ext W W') : Lp w W' g root f N := ⟨h.ry.ext e, h.xt.trans e⟩
theorem Lp.tm (h : Lp w W g root f N) (r' : RY w.heap.size W' g root 5 f' N') (t : Tm w.heap.size tagY W W') : Lp w W' g root f' N' := ⟨r', Tm.ext h.xt t⟩
theorem Lp.size (h : Lp w W g root f N) : w.heap.size ≤ W.heap.size := h.xt.size
theorem Ep.ext (h : Ep w W r i j A x gT tag) (e : Ext W W') : Ep w W' r i j A x gT tag := ⟨h.ev.ext e, h.bs.ext e, h.kt.ext e⟩
theorem Ep.tm (h : Ep w W r i j A x gT tag) (t : Tm w.heap.size tagY W W') : Ep w W' r i j A x gT tag := ⟨t.cb h.ev rfl, h.bs.tm t, ⟨t.row h.kt.1 rfl, h.kt.2⟩⟩
theorem Lp.send (h : Lp w W g root f N) (e : Ep w W r i j A x gT tag) (hN : N ≤ 100000) {a b : Ac} (ha : f i = some a) (hl : a.lk = linkL (i : Int)) (hb : f j = some b) (i8 : i < 8) (j8 : j < 8) (hij : i ≠ j) {now : Int} (n0 : 0 ≤ now) (n1 : now ≤ 1000000) {tg : TypeId × Nat × Nat} (hG : Gl w tg) :
    Calls Tryd.prog 25 #[.pointer (some ⟨g, 0, none⟩), .agg (xvC i j A).toArray, .agg (cellsOf tag).toArray, .int .i64 now] W fun e w' => ∃ (s : Sm) (er : Int) (f' : Nat → Option Ac), e = .returned (.tuple #[.agg s.C.toArray, .int .i64 er]) ∧ s.ok ∧ Lp w w' g root f' (N + 1) ∧ Tm w.heap.size tagY W w' ∧ StepS f f' i j a b root tag x now s er :=
  (send_std h.ry h.size hN ha hl hb i8 j8 hij e.bs e.kt.2 n0 n1 (hG.kept h.xt hG.lt) hG.lt).mono fun e w' ⟨s, er, f', h1, h2, h3, h4, h5⟩ => ⟨s, er, f', h1, h2, h.tm h3 h4, h4, h5⟩
end
/-- One who is not suspended, to a box with room, at a time that is not past. -/
theorem StepS.rate {f f' : Nat → Option Ac} {i j : Nat} {a b : Ac} {root tag : List UInt8} {x : UInt8} {now : Int} {s : Sm} {er : Int} (h : StepS f f' i j a b root tag x now s er) (hm : macL (linkL (i : Int)) (xvL i j x) = tag) (ho : a.out = false) (hL : b.L.length < 8) (h1 : a.t ≤ now) (h2 : now ≤ 1000000) :
    (bkAt 5 10 a.t a.k now = 0 ∧ er = 10 ∧ f' = upd f i (some { a with t := now, k := 0 })) ∨
    (bkAt 5 10 a.t a.k now ≠ 0 ∧ er = 0 ∧ s = mkS root 5 (i : Int) (j : Int) zk now ∧ ∃ A' c', f' = upd (upd f i (some { a with t := now, k := bkAt 5 10 a.t a.k now - 1 })) j (some { b with L := b.L ++ [⟨(mlOf (i : Int) (j : Int) zk zk 0 0 [x] s).as (b.last + 1), A', c'⟩], last := b.last + 1 })) := by
  rcases h with ⟨q, _⟩ | ⟨_, q, _⟩ | ⟨_, _, q, _⟩ | ⟨_, _, _, et, t', k', q1, q2, q3⟩
  · exact absurd hm q
  · rw [ho] at q; cases q
  · omega
  · unfold bkTake at q1
    rw [if_neg (by omega), if_neg (by omega)] at q1
    by_cases hq : bkAt 5 10 a.t a.k now = 0
    · rw [if_pos hq] at q1
      injection q1 with z1 z2
      injection z2 with z2 z3
      subst z1 z2 z3
      rcases q3 with ⟨_, q⟩ | ⟨q, _⟩
      · exact .inl ⟨hq, q2, q⟩
      · cases q
    · rw [if_neg hq] at q1
      injection q1 with z1 z2
      injection z2 with z2 z3
      subst z1 z2 z3
      rcases q3 with ⟨q, _⟩ | ⟨_, qs, A', c', q⟩
      · exact absurd rfl q
      · exact .inr ⟨hq, q2, qs, A', c', q⟩
theorem bkAt_same {m v t k : Int} (h : k ≤ m) : bkAt m v t k t = k := by
  unfold bkAt
  rw [Int.sub_self, Int.add_zero, if_neg (by omega)]
/-- A box of one is let go. -/
theorem ak_one {x : Wm} {last : Int} (h1 : x.d.id = last) (h2 : 1 ≤ last) : akE [x] last last = 0 ∧ akL [x] last last = [] := by
  have hh : hasI last [x] = true := by unfold hasI; simp [h1]
  have hn : ¬(last < 1 ∨ last < last) := by omega
  refine ⟨?_, ?_⟩
  · unfold akE
    rw [if_neg hn, hh]
    rfl
  · unfold akL
    rw [if_neg hn, dropI, if_pos h1]
theorem ak_nil {last id : Int} : akL [] last id = [] := by
  unfold akL
  split <;> rfl
end Go.Proofs.YtbnjmmefnjoofaaDoor
end

section
/-
  Parts of structs are compared: keys and numbers.
-/
namespace Go.Proofs.YtbnjmmefnjoofaaDoor
open Go.ChangeShapes Go.WideShapes Go.ChangeAt Go.RowKit Go.Deep
set_option maxRecDepth 100000

theorem part_keyF {w : World} {K : Array Value} {off : Nat} : (part 23 K off).run Tryd.prog w = .ok (.agg (K.extract off (off + 32))) w := by
  obtain ⟨i, hi, hz0, hz1, hz2⟩ := info_parts (show (Tryd.prog.info? 23).map (fun i => (i.zero, i.size, i.bytes)) = some (some (.agg zeros32), 32, 32) by kernel_rfl)
  simp [part, isAgg, run_underlying Tryd.underlying23, sizeOf, typeInfo, hi, hz1]
theorem key_equalF {d : Nat} {xs ys : List UInt8} (hx : xs.length = 32) (hy : ys.length = 32) (w : World) :
    (Op.equalIn (d + 2) 23 (.agg (cellsOf xs).toArray) (.agg (cellsOf ys).toArray)).run Tryd.prog w = .ok (decide (xs = ys)) w := by
  rw [cellsOf_cell, cellsOf_cell, run_equalIn_bytes w d 23 5 32 rfl rfl (fun _ => rfl) xs ys hx hy]
  congr 1
  rw [Bool.eq_iff_iff]; simp
theorem part_intF {w : World} {K : Array Value} {off : Nat} {v : Value} (h : K[off]? = some v) : (part 3 K off).run Tryd.prog w = .ok v w := by
  simp [part, isAgg, run_underlying Tryd.underlying3, h]
theorem int_equalF {d : Nat} {a b : Int} (w : World) : (Op.equalIn (d + 1) 3 (.int .i64 a) (.int .i64 b)).run Tryd.prog w = .ok (a == b) w := by
  simp [Op.equalIn, run_underlying Tryd.underlying3]
end Go.Proofs.YtbnjmmefnjoofaaDoor
end

section
/-
  A bundle equals itself.
-/
namespace Go.Proofs.YtbnjmmefnjoofaaDoor
open Go.ChangeShapes Go.WideShapes Go.ChangeAt Go.RowKit Go.Deep
set_option maxRecDepth 100000

theorem bun_fields : ∃ f g k l : Field, (Tryd.prog.fieldsOf 53).toList = [f, g, k, l] ∧ (f.type = 23 ∧ f.offset = 0 ∧ f.name ≠ "_") ∧ (g.type = 23 ∧ g.offset = 32 ∧ g.name ≠ "_") ∧ (k.type = 23 ∧ k.offset = 64 ∧ k.name ≠ "_") ∧ (l.type = 4 ∧ l.offset = 96 ∧ l.name ≠ "_") := by
  have h : ((Tryd.prog.fieldsOf 53).toList.map fun f => (f.name, f.type, f.offset)) = [("Identity", 23, 0), ("Signed", 23, 32), ("Once", 23, 64), ("HasOnce", 4, 96)] := by kernel_rfl
  match hl : (Tryd.prog.fieldsOf 53).toList with
  | [] => rw [hl] at h; simp at h
  | [f] => rw [hl] at h; simp at h
  | [f, g] => rw [hl] at h; simp at h
  | [f, g, k] => rw [hl] at h; simp at h
  | [f, g, k, l] =>
    rw [hl] at h
    simp only [List.map_cons, List.map_nil, List.cons.injEq, and_true, Prod.mk.injEq] at h
    exact ⟨f, g, k, l, rfl, ⟨h.1.2.1, h.1.2.2, by rw [h.1.1]; decide⟩, ⟨h.2.1.2.1, h.2.1.2.2, by rw [h.2.1.1]; decide⟩, ⟨h.2.2.1.2.1, h.2.2.1.2.2, by rw [h.2.2.1.1]; decide⟩, h.2.2.2.2.1, h.2.2.2.2.2, by rw [h.2.2.2.1]; decide⟩
  | f :: g :: k :: l :: e :: r => rw [hl] at h; simp at h
theorem part_bool0 {w : World} {K : Array Value} {off : Nat} {v : Value} (h : K[off]? = some v) : (part 4 K off).run Tryd.prog w = .ok v w := by
  simp [part, isAgg, run_underlying Tryd.underlying4, h]
theorem bool_equal1 {d : Nat} {b : Bool} (w : World) : (Op.equalIn (d + 1) 4 (.bool b) (.bool b)).run Tryd.prog w = .ok true w := by
  simp [Op.equalIn, run_underlying Tryd.underlying4]
theorem key_self {d : Nat} {xs : List UInt8} (hx : xs.length = 32) (w : World) : (Op.equalIn (d + 2) 23 (.agg (cellsOf xs).toArray) (.agg (cellsOf xs).toArray)).run Tryd.prog w = .ok true w := by
  rw [key_equalF hx hx, decide_eq_true rfl]
theorem ext_mid {p y q : List Value} {off n : Nat} (hp : p.length = off) (hy : y.length = n) : (p ++ (y ++ q)).toArray.extract off (off + n) = y.toArray := by
  rw [List.extract_toArray, List.extract, List.drop_left' hp, Nat.add_sub_cancel_left, List.take_left' hy]
theorem bun_equal {xs ys zs : List UInt8} {o : Bool} (hx : xs.length = 32) (hy : ys.length = 32) (hz : zs.length = 32) (w : World) :
    (Op.equalIn 10000 53 (.agg (bbC (xs ++ (ys ++ zs)) o).toArray) (.agg (bbC (xs ++ (ys ++ zs)) o).toArray)).run Tryd.prog w = .ok true w := by
  obtain ⟨f, g, k, l, hf, ⟨ht, ho, hn⟩, ⟨gt, go, gn⟩, ⟨kt, ko, kn⟩, lt, lo, ln⟩ := bun_fields
  have e0 : (bbC (xs ++ (ys ++ zs)) o).toArray.extract 0 (0 + 32) = (cellsOf xs).toArray := by
    rw [show bbC (xs ++ (ys ++ zs)) o = [] ++ (cellsOf xs ++ (cellsOf ys ++ (cellsOf zs ++ [.bool o]))) by simp [bbC, cellsOf_app]]
    exact ext_mid rfl (by rw [cellsOf_len, hx])
  have e1 : (bbC (xs ++ (ys ++ zs)) o).toArray.extract 32 (32 + 32) = (cellsOf ys).toArray := by
    rw [show bbC (xs ++ (ys ++ zs)) o = cellsOf xs ++ (cellsOf ys ++ (cellsOf zs ++ [.bool o])) by simp [bbC, cellsOf_app]]
    exact ext_mid (by rw [cellsOf_len, hx]) (by rw [cellsOf_len, hy])
  have e2 : (bbC (xs ++ (ys ++ zs)) o).toArray.extract 64 (64 + 32) = (cellsOf zs).toArray := by
    rw [show bbC (xs ++ (ys ++ zs)) o = (cellsOf xs ++ cellsOf ys) ++ (cellsOf zs ++ [.bool o]) by simp [bbC, cellsOf_app]]
    exact ext_mid (by simp [cellsOf_len, hx, hy]) (by rw [cellsOf_len, hz])
  have e3 : (bbC (xs ++ (ys ++ zs)) o).toArray[96]? = some (.bool o) := by
    rw [List.getElem?_toArray, bbC, List.getElem?_append_right (by simp [cellsOf_len, hx, hy, hz])]
    simp [cellsOf_len, hx, hy, hz]
  generalize (bbC (xs ++ (ys ++ zs)) o).toArray = K at *
  rw [run_equalIn_struct w 9999 53 _ _ (by kernel_rfl) (by kernel_rfl), hf]
  have b9 := bool_equal1 (d := 9998) (b := o) w
  simp only [Op.eqFields, ht, ho, if_pos hn, gt, go, if_pos gn, kt, ko, if_pos kn, lt, lo, if_pos ln, Sem.run_bind, part_keyF, part_bool0 e3, Result.andThen_ok, e0, e1, e2, key_self (d := 9997) hx, key_self (d := 9997) hy, key_self (d := 9997) hz, b9, Bool.not_true, Bool.false_eq_true, if_false]
  rfl
theorem bun_guard : Tryd.prog.eqGuardType Tryd.prog.depth 53 = false := by kernel_rfl
theorem exec_eql_bun {o : Oper} {a : Act} {w : World} {x y : Operand} {t' : TypeId} {L : List Value} (hL : ∃ xs ys zs b, L = bbC (xs ++ (ys ++ zs)) b ∧ xs.length = 32 ∧ ys.length = 32 ∧ zs.length = 32) (ho : o.op = .binOp .eql 53 x y t') (hx : a.eval x = .agg L.toArray) (hy : a.eval y = .agg L.toArray) :
    (execOp a.eval o).run Tryd.prog w = .ok (.value (.bool true)) w := by
  obtain ⟨xs, ys, zs, b, rfl, hp, hq, hr⟩ := hL
  unfold execOp
  simp only [ho, hx, hy, Sem.run_bind, run_eqGuard_agg _ _ _ _ _ _ _ bun_guard, Result.andThen_ok, run_eql_struct, bun_equal hp hq hr, Sem.run_pure]
theorem exec_neq_bun {o : Oper} {a : Act} {w : World} {x y : Operand} {t' : TypeId} {L : List Value} (hL : ∃ xs ys zs b, L = bbC (xs ++ (ys ++ zs)) b ∧ xs.length = 32 ∧ ys.length = 32 ∧ zs.length = 32) (ho : o.op = .binOp .neq 53 x y t') (hx : a.eval x = .agg L.toArray) (hy : a.eval y = .agg L.toArray) :
    (execOp a.eval o).run Tryd.prog w = .ok (.value (.bool false)) w := by
  obtain ⟨xs, ys, zs, b, rfl, hp, hq, hr⟩ := hL
  unfold execOp
  simp only [ho, hx, hy, Sem.run_bind, run_eqGuard_agg _ _ _ _ _ _ _ bun_guard, Result.andThen_ok, run_neq_struct, run_eql_struct, bun_equal hp hq hr, Sem.run_pure, Bool.not_true]
end Go.Proofs.YtbnjmmefnjoofaaDoor
end
