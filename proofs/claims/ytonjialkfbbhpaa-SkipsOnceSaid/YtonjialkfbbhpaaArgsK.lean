/-
  How an argument that is an array of bytes reads. No conditions.
-/
import Derived.Test.YtonjialkfbbhpaaArgs
import Derived.Test.YtonjialkfbbhpaaKeyEq
import Derived.Lib.LaidTab
namespace Go.Proofs.Ytonjialkfbbhpaa
open Go.ChangeShapes Go.WideShapes Go.ChangeAt Go.RowKit Go.Deep

section
variable {H : Type} {enc : TypeId × Value → H} {W : World} {P : Program}
theorem okWide_array {r : Reach} {b n : Nat} {t e : TypeId} {v : Value} (ht : P.underlying t = some (.array n e)) (h : Value.okWide P W r b t v) : ∃ cs, v = .agg cs ∧ cs.size = P.cellsOf t := by
  simp only [Value.okWide, ht] at h
  obtain ⟨cs, h1, h2, _⟩ := h
  exact ⟨cs, h1, h2⟩
def byteV : Option Value → Nat
  | some (.int _ z) => z.toNat
  | _ => 0
theorem bytes_of_trod {n fuel : Nat} {t e : TypeId} {cs : List Value} {x : DataW H × List MemPlace} (ht : P.underlying t = some (.array n e)) (he : P.underlying e = some (.int .u8)) (hce : P.cellsOf e = 1) (hct : P.cellsOf t = n)
    (hf : DataW.trod enc P W 0 (fun _ => true) true fuel t cs = some x) : ∃ xs, cs = cellsOf xs ∧ xs.length = n := by
  cases fuel with
  | zero => simp [DataW.trod] at hf
  | succ fuel =>
    simp only [DataW.trod, ht, hce, hct, Nat.mul_one] at hf
    split at hf
    · rename_i hl
      obtain ⟨xs, hm, hx⟩ := Option.map_eq_some_iff.1 hf
      have hcell : ∀ i, i < n → ∃ z : Int, cs[i]? = some (.int .u8 z) ∧ 0 ≤ z ∧ z ≤ 255 := fun i hi => by
        obtain ⟨y, hy, hfy⟩ := Lib.mapM_at hm i i (by simp [hi])
        obtain ⟨z, hc, rfl, hw⟩ := DataW.trod_int he hfy
        have h1 : cs[i]? = some (.int .u8 z) := by
          have := congrArg (·[0]?) hc
          simpa [List.getElem?_take, List.getElem?_drop] using this
        have hb : 0 ≤ z ∧ z ≤ 255 := by simpa [Lit.wf, IntKind.min, IntKind.max, IntKind.signed, IntKind.bits] using hw
        exact ⟨z, h1, hb⟩
      refine ⟨(List.range n).map fun i => UInt8.ofNat (byteV cs[i]?), ?_, by simp⟩
      apply List.ext_getElem?
      intro i
      by_cases hi : i < n
      · obtain ⟨z, h1, h2, h3⟩ := hcell i hi
        have h4 := cellsOf_get (xs := (List.range n).map fun i => UInt8.ofNat (byteV cs[i]?)) (j := i) (by simp; exact hi)
        rw [h1]
        refine Eq.trans ?_ h4.symm
        congr 2
        unfold bt
        simp [List.getD, hi, h1, byteV]
        omega
      · rw [List.getElem?_eq_none (by omega), List.getElem?_eq_none (by simp [cellsOf_len]; omega)]
    · cases hf
theorem key_of_trod {r : Reach} {b n : Nat} {t e : TypeId} {v : Value} {d : DataW H} {p : List MemPlace} (ht : P.underlying t = some (.array n e)) (he : P.underlying e = some (.int .u8)) (hce : P.cellsOf e = 1) (hct : P.cellsOf t = n)
    (hv : Value.okWide P W r b t v) (h : DataW.Trod enc P W 0 (fun _ => true) true t v d p) : ∃ xs, v = .agg (cellsOf xs).toArray ∧ xs.length = n := by
  obtain ⟨cs, rfl, hsz⟩ := okWide_array ht hv
  obtain ⟨fuel, hf⟩ := h
  obtain ⟨xs, hx, hl⟩ := bytes_of_trod ht he hce hct hf
  refine ⟨xs, ?_, hl⟩
  congr 1
  apply Array.ext'
  rw [← hx]; rfl
end
end Go.Proofs.Ytonjialkfbbhpaa
