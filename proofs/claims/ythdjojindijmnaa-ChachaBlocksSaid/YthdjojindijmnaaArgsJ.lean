/-
  How a job reads as an argument. No conditions.
-/
import Derived.Test.YthdjojindijmnaaArgsK
import Derived.Test.YthdjojindijmnaaJob
import Derived.Deep.Fields
namespace Go.Proofs.Ythdjojindijmnaa
open Go.ChangeShapes Go.WideShapes Go.ChangeAt Go.RowKit Go.Deep

section
variable {H : Type} {enc : TypeId × Value → H} {W : World}
theorem job_of_trod {r : Reach} {b : Nat} {v : Value} {d : DataW H} {p : List MemPlace} (hv : Value.okWide Try.prog W r b 27 v) (h : DataW.Trod enc Try.prog W 0 (fun _ => true) true 27 v d p) :
    ∃ ks ns n, v = .agg (jobL ks ns n).toArray ∧ ks.length = 32 ∧ ns.length = 12 ∧ n < 4294967296 := by
  obtain ⟨cs, rfl, hsz⟩ := okWide_struct Try.underlying27 hv
  have hC : Try.prog.cellsOf 27 = 45 := by kernel_rfl
  obtain ⟨fuel, hf⟩ := h
  obtain ⟨xs, n, _, hx, _, hlen, hg⟩ := DataW.trod_struct Try.underlying27 hf
  have c0 : Try.prog.cellsOf 23 = 32 := by kernel_rfl
  have c1 : Try.prog.cellsOf 24 = 12 := by kernel_rfl
  have c2 : Try.prog.cellsOf 25 = 1 := by kernel_rfl
  have ce : Try.prog.cellsOf 5 = 1 := by kernel_rfl
  have hl : cs.toList.length = 45 := by rw [Array.length_toList, hsz, hC]
  have g0 : DataW.trod enc Try.prog W 0 (fun _ => true) true n 23 ((cs.toList.drop 0).take 32) = xs[0]? := by rw [← c0]; exact hg 0 _ rfl
  have g1 : DataW.trod enc Try.prog W 0 (fun _ => true) true n 24 ((cs.toList.drop 32).take 12) = xs[1]? := by rw [← c1]; exact hg 1 _ rfl
  have g2 : DataW.trod enc Try.prog W 0 (fun _ => true) true n 25 ((cs.toList.drop 44).take 1) = xs[2]? := by rw [← c2]; exact hg 2 _ rfl
  have hxl : xs.length = 3 := hlen
  rw [List.getElem?_eq_getElem (by omega)] at g0 g1 g2
  obtain ⟨ks, hk, lk⟩ := bytes_of_trod Try.underlying23 Try.underlying5 ce c0 g0
  obtain ⟨ns, hn, ln⟩ := bytes_of_trod Try.underlying24 Try.underlying5 ce c1 g1
  obtain ⟨z, hz, _, hw⟩ := DataW.trod_int Try.underlying25 g2
  have hb : 0 ≤ z ∧ z ≤ 4294967295 := by simpa [Lit.wf, IntKind.min, IntKind.max, IntKind.signed, IntKind.bits] using hw
  refine ⟨ks, ns, z.toNat, ?_, lk, ln, by omega⟩
  congr 1
  apply Array.ext'
  have e1 : cs.toList = (cs.toList.drop 0).take 32 ++ ((cs.toList.drop 32).take 12 ++ (cs.toList.drop 44).take 1) := by
    rw [List.drop_zero]
    conv => lhs; rw [← List.take_append_drop 32 cs.toList]
    congr 1
    conv => lhs; rw [← List.take_append_drop 12 (cs.toList.drop 32), List.drop_drop]
    congr 1
    rw [List.take_of_length_le (by simp; omega)]
  rw [e1, hk, hn, hz]
  show _ = jobL ks ns z.toNat
  unfold jobL
  rw [show ((z.toNat : Nat) : Int) = z by omega]
end
end Go.Proofs.Ythdjojindijmnaa
