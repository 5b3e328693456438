/-
  A look-up in the map of a disk.
-/
import Derived.Test.YteaoacinhdjkeaaDkW
namespace Go.Proofs.Yteaoacinhdjkeaa
open Go.ChangeShapes Go.WideShapes Go.ChangeAt Go.RowKit Go.Deep Go.Maps
set_option maxRecDepth 100000

theorem wpList_lookup_mp {P : Program} {ops : Array Oper} {rest : List Oper} {o : Oper} {a : Act} {w : World} {Q : Exit → Act → World → Prop} {c : Bool} {t : TypeId} {mv xv v : Value} (hg : o.guard = none) (m x : Operand) (hop : o.op = Op.lookup t m x c) (hm : a.eval m = mv) (hx : a.eval x = xv)
    (hr : (Instr.lookup t mv xv c).run P w = .ok v w) (h : wpList P ops Q rest (a.put o.dst v) w) : wpList P ops Q (o :: rest) a w := by
  refine wpList_plain hg fun K' hK' => ?_
  unfold Oper.wp
  simp [execOp, hop, hm, hx, hr, Result.andThen]
  exact hK' _ _ h
/-- What a look-up tells. -/
theorem DK.look {w : World} {g r b : Nat} {d : Ds} (h : DK w g r b d) {n : Nat} (hn : n < d.S.length) :
    (Instr.lookup 84 (.map (some b)) (.int .i64 (n : Int)) true).run Try.prog w = .ok (.tuple #[.agg (cellsOf ((d.N n).getD (List.replicate 64 0))).toArray, .bool (d.N n).isSome]) w := by
  have hm := h.ok.most
  rcases h.mp.look int_law Try.underlying84 (sector_alloc w) (int_key Try.underlying3 (i := (n : Int)) (by omega)) with ⟨v, h1, h2, _⟩ | ⟨h1, h2, _⟩
  · obtain ⟨j, u, hj, hu, he⟩ := entN_mem.1 h1
    injection he with e1 e2
    injection e1 with _ e1
    obtain rfl : n = j := by omega
    obtain ⟨s, hs, rfl⟩ := Option.map_eq_some_iff.1 hu
    rw [h2, hs, e2]
    rfl
  · have : d.N n = none := by
      cases q : d.N n
      · rfl
      · exact absurd rfl (h1 _ (entN_mem.2 ⟨n, _, hn, by rw [q]; rfl, rfl⟩))
    rw [h2, this]
    rfl
end Go.Proofs.Yteaoacinhdjkeaa
