/-
  A store's places as keys of its map; the state of a store. No conditions.
-/
import Derived.Test.YtonjialkfbbhpaaPlK
import Derived.Test.YtonjialkfbbhpaaTwo
namespace Go.Proofs.Ytonjialkfbbhpaa
open Go.ChangeShapes Go.WideShapes Go.ChangeAt Go.RowKit Go.Deep Go.Maps
set_option maxRecDepth 100000

theorem place_law : Keyed Try.prog 82 := Keyed.of_law (deep_law_laid (by kernel_rfl) (m := 3) (by omega) (of_decide_eq_true (by kernel_rfl)) (by kernel_rfl) (by kernel_rfl))
theorem place_key {pk : List UInt8} (h : pk.length = 32) {n : Int} (hn : -9223372036854775808 ≤ n ∧ n ≤ 9223372036854775807) : ∃ kl, keyOf Try.prog 82 (.agg (knC pk n).toArray) = some kl := by
  have hk : Try.prog.keyType 82 = true := by kernel_rfl
  have hc : Try.prog.cellsOf 82 = 33 := by kernel_rfl
  have c0 : Try.prog.cellsOf 31 = 32 := by kernel_rfl
  have ce : Try.prog.cellsOf 5 = 1 := by kernel_rfl
  have ci : Try.prog.cellsOf 3 = 1 := by kernel_rfl
  have h2 : 2 ≤ Try.prog.types.size := of_decide_eq_true (by kernel_rfl)
  obtain ⟨m, hm⟩ : ∃ m, Try.prog.types.size + 1 = m + 3 := ⟨Try.prog.types.size - 2, by omega⟩
  obtain ⟨l, hl⟩ := bytes_lits Try.underlying31 Try.underlying5 ce c0 m h
  have hi : Try.prog.keyLits (m + 2) 3 [.int .i64 n] = some [.int .i64 n] := by
    unfold Program.keyLits
    simp [Try.underlying3, Lit.wf, IntKind.min, IntKind.max, IntKind.signed, IntKind.bits]
    omega
  have t0 : ((knC pk n).drop 0).take 32 = cellsOf pk := by unfold knC; rw [List.drop_zero, List.take_left' (by rw [cellsOf_len, h])]
  have t1 : ((knC pk n).drop 32).take 1 = [.int .i64 n] := by unfold knC; rw [List.drop_left' (by rw [cellsOf_len, h])]; rfl
  have hL : Try.prog.keyLits (m + 3) 82 (knC pk n) = some ([l, [.int .i64 n]].flatten) := by
    unfold Program.keyLits
    simp only [Try.underlying82]
    rw [if_pos ⟨by rw [knC_len h, hc], by kernel_rfl⟩]
    simp only [List.mapM_cons, List.mapM_nil, c0, ci, t0, t1, hl, hi]
    rfl
  have hf : (Value.agg (knC pk n).toArray).formed Try.prog 82 = true := by
    unfold Value.formed
    simp [Try.underlying82, hc, knC_len h]
  unfold keyOf
  simp only [Try.underlying82, hk, hf, hm]
  rw [show (Value.agg (knC pk n).toArray).cells.toList = knC pk n from rfl, hL]
  exact ⟨_, rfl⟩
end Go.Proofs.Ytonjialkfbbhpaa
