/-
  How a place reads as a map's key: the bytes of a public key and a number. No conditions.
-/
import Derived.Test.YtonjialkfbbhpaaMp
import Derived.Test.YtonjialkfbbhpaaFillS
import Derived.DeepKeys4
namespace Go.Proofs.Ytonjialkfbbhpaa
open Go.ChangeShapes Go.WideShapes Go.ChangeAt Go.RowKit Go.Deep Go.Maps
set_option maxRecDepth 100000

/-- A key and a number: a place, an entry. -/
def knC (pk : List UInt8) (n : Int) : List Value := cellsOf pk ++ [.int .i64 n]
theorem knC_len {pk : List UInt8} (h : pk.length = 32) (n : Int) : (knC pk n).length = 33 := by simp [knC, cellsOf_len, h]
theorem one_kn {pk : List UInt8} {n : Int} : ∀ v ∈ knC pk n, v.oneCell' = true := fun v hv => by
  simp only [knC, List.mem_append, List.mem_cons, List.not_mem_nil, or_false] at hv
  rcases hv with h | rfl
  · exact one_mem _ v h
  · rfl
theorem kn_cells {pk : List UInt8} (h : pk.length = 32) (n : Int) : (knC pk n)[32]? = some (.int .i64 n) := by
  unfold knC
  rw [List.getElem?_append_right (by rw [cellsOf_len, h]; omega), cellsOf_len, h]
  rfl
theorem kn_key {pk : List UInt8} (n : Int) (j : Nat) (v : Value) (hv : (cellsOf pk)[j]? = some v) : (knC pk n)[j]? = some v := by
  unfold knC
  rw [List.getElem?_append_left (List.getElem?_eq_some_iff.1 hv).1, hv]
theorem map_inj_u8 : ∀ {a b : List UInt8}, (a.map fun x => Value.int .u8 (x.toNat : Int)) = (b.map fun x => Value.int .u8 (x.toNat : Int)) → a = b
  | [], [], _ => rfl
  | [], _ :: _, h => by cases h
  | _ :: _, [], h => by cases h
  | x :: a, y :: b, h => by
    rw [List.map_cons, List.map_cons] at h
    injection h with h1 h2
    injection h1 with _ h1
    rw [UInt8.toNat_inj.1 (show x.toNat = y.toNat by omega), map_inj_u8 h2]
theorem mapM_some {α β : Type} {f : α → Option β} {g : α → β} : ∀ {l : List α}, (∀ i ∈ l, f i = some (g i)) → l.mapM f = some (l.map g)
  | [], _ => rfl
  | x :: r, h => by
    rw [List.mapM_cons, h x (List.mem_cons_self ..), mapM_some fun i hi => h i (List.mem_cons_of_mem _ hi)]
    rfl
theorem kn_inj {pk pk' : List UInt8} {n n' : Int} (h : pk.length = 32) (h' : pk'.length = 32) (e : (Value.agg (knC pk n).toArray) = .agg (knC pk' n').toArray) : pk = pk' ∧ n = n' := by
  injection e with e
  have e := congrArg Array.toList e
  have e : cellsOf pk ++ [Value.int .i64 n] = cellsOf pk' ++ [Value.int .i64 n'] := e
  obtain ⟨e1, e2⟩ := List.append_inj e (by rw [cellsOf_len, cellsOf_len, h, h'])
  refine ⟨?_, by injection e2 with e2; injection e2⟩
  rw [cellsOf_map, cellsOf_map] at e1
  exact map_inj_u8 e1

theorem u8_lits {P : Program} {e : TypeId} (he : P.underlying e = some (.int .u8)) (d : Nat) (x : UInt8) : P.keyLits (d + 1) e [.int .u8 (x.toNat : Int)] = some [.int .u8 (x.toNat : Int)] := by
  unfold Program.keyLits
  have := x.toNat_lt
  simp [he, Lit.wf, IntKind.min, IntKind.max, IntKind.signed, IntKind.bits]
  omega
theorem bytes_lits {P : Program} {t e : TypeId} (ht : P.underlying t = some (.array 32 e)) (he : P.underlying e = some (.int .u8)) (ce : P.cellsOf e = 1) (ct : P.cellsOf t = 32) (d : Nat) {pk : List UInt8} (h : pk.length = 32) : ∃ l, P.keyLits (d + 2) t (cellsOf pk) = some l := by
  unfold Program.keyLits
  simp only [ht]
  rw [if_pos (by rw [cellsOf_len, h, ct])]
  have : ((List.range 32).mapM fun i => P.keyLits (d + 1) e (((cellsOf pk).drop (i * P.cellsOf e)).take (P.cellsOf e))) = some ((List.range 32).map fun i => [Lit.int .u8 ((pk.getD i 0).toNat : Int)]) := by
    refine mapM_some fun i hi => ?_
    have hi : i < 32 := List.mem_range.1 hi
    have e1 : ((cellsOf pk).drop (i * P.cellsOf e)).take (P.cellsOf e) = [.int .u8 ((pk.getD i 0).toNat : Int)] := by
      rw [ce, Nat.mul_one, cellsOf_map, ← List.map_drop, ← List.map_take]
      rw [List.drop_eq_getElem_cons (by omega), List.take_succ_cons, List.take_zero]
      simp [List.getD, show i < pk.length by omega]
    rw [e1]
    exact u8_lits he d _
  rw [this]
  exact ⟨_, rfl⟩
end Go.Proofs.Ytonjialkfbbhpaa
