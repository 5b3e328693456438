import Derived.Test.YtojgmgghlkpfoaaBase
import Derived.Deep.Matrix
import Derived.Test.YtojgmgghlkpfoaaKeyEq
import Derived.Lib.LaidTab
import Derived.Test.YtojgmgghlkpfoaaEnvV
import Derived.Deep.Fields
section
/-
  How the arguments of the statements read: a slice of bytes, of slices of bytes, of numbers. No conditions.
-/
namespace Go.Proofs.Ytojgmgghlkpfoaa
open Go.ChangeShapes Go.WideShapes Go.ChangeAt Go.RowKit Go.Deep

theorem bounds_i64 {a : Int} (h : (Lit.int .i64 a).wf = true) : -9223372036854775808 ≤ a ∧ a ≤ 9223372036854775807 := by
  simpa [Lit.wf, IntKind.min, IntKind.max, IntKind.signed, IntKind.bits] using h

section
variable {H : Type} {enc : TypeId × Value → H} {W : World} {P : Program}
theorem bs_of_trod {t e : TypeId} {a : Option Addr} {len cap : Nat} {d : DataW H} {p : List MemPlace} (ht : P.underlying t = some (.slice e)) (he : P.underlying e = some (.int .u8)) (hc : P.cellsOf e = 1)
    (h : DataW.Trod enc P W 0 (fun _ => true) true t (.slice a len cap) d p) : ∃ xs, Bs W a len cap xs := by
  obtain ⟨fuel, hf⟩ := h
  rcases open_ints ht he hc hf with ⟨hcs, _⟩ | ⟨x, l, c, zs, hcs, _, hl, hm, hz, _, hcell, hwz⟩
  · simp [Value.cells] at hcs
    obtain ⟨rfl, rfl, rfl⟩ := hcs
    exact ⟨[], Bs.nil W⟩
  · simp [Value.cells] at hcs
    obtain ⟨rfl, rfl, rfl⟩ := hcs
    exact bs_of_row (.inr ⟨_, rfl, hl, hm, by simpa using hz, hcell, hwz⟩)
end
end Go.Proofs.Ytojgmgghlkpfoaa
end

section
/-
  How an argument that is an array of bytes reads. No conditions.
-/
namespace Go.Proofs.Ytojgmgghlkpfoaa
open Go.ChangeShapes Go.WideShapes Go.ChangeAt Go.RowKit Go.Deep

section
variable {H : Type} {enc : TypeId × Value → H} {W : World} {P : Program}
theorem okWide_array {r : Reach} {b n : Nat} {t e : TypeId} {v : Value} (ht : P.underlying t = some (.array n e)) (h : Value.okWide P W r b t v) : ∃ cs, v = .agg cs ∧ cs.size = P.cellsOf t := by
  simp only [Value.okWide, ht] at h
  obtain ⟨cs, h1, h2, _⟩ := h
  exact ⟨cs, h1, h2⟩
def byteV : Option Value → Nat
  | some (.int _ z) => z.toNat
  | _ => 0
theorem bytes_of_trod {n fuel : Nat} {t e : TypeId} {cs : List Value} {x : DataW H × List MemPlace} (ht : P.underlying t = some (.array n e)) (he : P.underlying e = some (.int .u8)) (hce : P.cellsOf e = 1) (hct : P.cellsOf t = n)
    (hf : DataW.trod enc P W 0 (fun _ => true) true fuel t cs = some x) : ∃ xs, cs = cellsOf xs ∧ xs.length = n := by
  cases fuel with
  | zero => simp [DataW.trod] at hf
  | succ fuel =>
    simp only [DataW.trod, ht, hce, hct, Nat.mul_one] at hf
    split at hf
    · rename_i hl
      obtain ⟨xs, hm, hx⟩ := Option.map_eq_some_iff.1 hf
      have hcell : ∀ i, i < n → ∃ z : Int, cs[i]? = some (.int .u8 z) ∧ 0 ≤ z ∧ z ≤ 255 := fun i hi => by
        obtain ⟨y, hy, hfy⟩ := Lib.mapM_at hm i i (by simp [hi])
        obtain ⟨z, hc, rfl, hw⟩ := DataW.trod_int he hfy
        have h1 : cs[i]? = some (.int .u8 z) := by
          have := congrArg (·[0]?) hc
          simpa [List.getElem?_take, List.getElem?_drop] using this
        have hb : 0 ≤ z ∧ z ≤ 255 := by simpa [Lit.wf, IntKind.min, IntKind.max, IntKind.signed, IntKind.bits] using hw
        exact ⟨z, h1, hb⟩
      refine ⟨(List.range n).map fun i => UInt8.ofNat (byteV cs[i]?), ?_, by simp⟩
      apply List.ext_getElem?
      intro i
      by_cases hi : i < n
      · obtain ⟨z, h1, h2, h3⟩ := hcell i hi
        have h4 := cellsOf_get (xs := (List.range n).map fun i => UInt8.ofNat (byteV cs[i]?)) (j := i) (by simp; exact hi)
        rw [h1]
        refine Eq.trans ?_ h4.symm
        congr 2
        unfold bt
        simp [List.getD, hi, h1, byteV]
        omega
      · rw [List.getElem?_eq_none (by omega), List.getElem?_eq_none (by simp [cellsOf_len]; omega)]
    · cases hf
theorem key_of_trod {r : Reach} {b n : Nat} {t e : TypeId} {v : Value} {d : DataW H} {p : List MemPlace} (ht : P.underlying t = some (.array n e)) (he : P.underlying e = some (.int .u8)) (hce : P.cellsOf e = 1) (hct : P.cellsOf t = n)
    (hv : Value.okWide P W r b t v) (h : DataW.Trod enc P W 0 (fun _ => true) true t v d p) : ∃ xs, v = .agg (cellsOf xs).toArray ∧ xs.length = n := by
  obtain ⟨cs, rfl, hsz⟩ := okWide_array ht hv
  obtain ⟨fuel, hf⟩ := h
  obtain ⟨xs, hx, hl⟩ := bytes_of_trod ht he hce hct hf
  refine ⟨xs, ?_, hl⟩
  congr 1
  apply Array.ext'
  rw [← hx]; rfl
end
end Go.Proofs.Ytojgmgghlkpfoaa
end

section
/-
  How a head, and an envelope, read as arguments. No conditions.
-/
namespace Go.Proofs.Ytojgmgghlkpfoaa
open Go.ChangeShapes Go.WideShapes Go.ChangeAt Go.RowKit Go.Deep
set_option maxRecDepth 100000

section
variable {H : Type} {enc : TypeId × Value → H} {W : World}
theorem bs_of_cells {P : Program} {fuel : Nat} {t e : TypeId} {cs : List Value} {x : DataW H × List MemPlace} (ht : P.underlying t = some (.slice e)) (he : P.underlying e = some (.int .u8)) (hc : P.cellsOf e = 1)
    (hf : DataW.trod enc P W 0 (fun _ => true) true fuel t cs = some x) : ∃ a len cap xs, cs = [.slice a len cap] ∧ Bs W a len cap xs := by
  rcases open_ints ht he hc hf with ⟨hcs, _⟩ | ⟨x, l, c, zs, hcs, _, hl, hm, hz, _, hcell, hwz⟩
  · exact ⟨_, _, _, [], hcs, Bs.nil W⟩
  · obtain ⟨xs, h⟩ := bs_of_row (.inr ⟨_, rfl, hl, hm, by simpa using hz, hcell, hwz⟩)
    exact ⟨_, _, _, xs, hcs, h⟩
theorem cut_at {α : Type} (l : List α) (a b : Nat) : l.drop a = (l.drop a).take b ++ l.drop (a + b) := by
  rw [← List.drop_drop, List.take_append_drop]
theorem head_of_cells {n : Nat} {cs : List Value} {x : DataW H × List MemPlace} (hf : DataW.trod enc Try.prog W 0 (fun _ => true) true n 25 cs = some x) : ∃ pk p k, cs = hdC pk p k ∧ pk.length = 32 := by
  have hC : Try.prog.cellsOf 25 = 34 := by kernel_rfl
  obtain ⟨xs, n, _, hx, hl, hlen, hg⟩ := DataW.trod_struct Try.underlying25 hf
  rw [hC] at hl
  have c0 : Try.prog.cellsOf 23 = 32 := by kernel_rfl
  have ce : Try.prog.cellsOf 5 = 1 := by kernel_rfl
  have ci : Try.prog.cellsOf 3 = 1 := by kernel_rfl
  have g0 : DataW.trod enc Try.prog W 0 (fun _ => true) true n 23 ((cs.drop 0).take 32) = xs[0]? := by rw [← c0]; exact hg 0 _ rfl
  have g1 : DataW.trod enc Try.prog W 0 (fun _ => true) true n 3 ((cs.drop 32).take 1) = xs[1]? := by rw [← ci]; exact hg 1 _ rfl
  have g2 : DataW.trod enc Try.prog W 0 (fun _ => true) true n 3 ((cs.drop 33).take 1) = xs[2]? := by rw [← ci]; exact hg 2 _ rfl
  have hxl : xs.length = 3 := hlen
  rw [List.getElem?_eq_getElem (by omega)] at g0 g1 g2
  obtain ⟨ks, hk, lk⟩ := bytes_of_trod Try.underlying23 Try.underlying5 ce c0 g0
  obtain ⟨p, hp, _, _⟩ := DataW.trod_int Try.underlying3 g1
  obtain ⟨k, hk2, _, _⟩ := DataW.trod_int Try.underlying3 g2
  refine ⟨ks, p, k, ?_, lk⟩
  have e := (cut_at cs 0 32).trans (congrArg ((cs.drop 0).take 32 ++ ·) ((cut_at cs 32 1).trans (congrArg ((cs.drop 32).take 1 ++ ·) (cut_at cs 33 1))))
  have z : cs.drop 34 = [] := List.drop_eq_nil_of_le (by omega)
  simp only [hk, hp, hk2, Nat.reduceAdd, z, List.append_nil] at e
  exact e
theorem head_of_trod {r : Reach} {b : Nat} {v : Value} {d : DataW H} {p : List MemPlace} (hv : Value.okWide Try.prog W r b 25 v) (h : DataW.Trod enc Try.prog W 0 (fun _ => true) true 25 v d p) :
    ∃ pk q k, v = .agg (hdC pk q k).toArray ∧ pk.length = 32 := by
  obtain ⟨cs, rfl, hsz⟩ := okWide_struct Try.underlying25 hv
  obtain ⟨fuel, hf⟩ := h
  obtain ⟨pk, q, k, e, l⟩ := head_of_cells hf
  refine ⟨pk, q, k, ?_, l⟩
  congr 1
  apply Array.ext'
  exact e
theorem env_of_trod {r : Reach} {b : Nat} {v : Value} {d : DataW H} {p : List MemPlace} (hv : Value.okWide Try.prog W r b 35 v) (h : DataW.Trod enc Try.prog W 0 (fun _ => true) true 35 v d p) :
    ∃ f t cm pk q k A m c body, v = .agg (evC f t cm pk q k A m c).toArray ∧ cm.length = 32 ∧ pk.length = 32 ∧ Bs W A m c body := by
  obtain ⟨cs, rfl, hsz⟩ := okWide_struct Try.underlying35 hv
  have hC : Try.prog.cellsOf 35 = 69 := by kernel_rfl
  obtain ⟨fuel, hf⟩ := h
  obtain ⟨xs, n, _, hx, _, hlen, hg⟩ := DataW.trod_struct Try.underlying35 hf
  have c0 : Try.prog.cellsOf 23 = 32 := by kernel_rfl
  have ch : Try.prog.cellsOf 25 = 34 := by kernel_rfl
  have ce : Try.prog.cellsOf 5 = 1 := by kernel_rfl
  have ci : Try.prog.cellsOf 3 = 1 := by kernel_rfl
  have cl : Try.prog.cellsOf 26 = 1 := by kernel_rfl
  have hl : cs.toList.length = 69 := by rw [Array.length_toList, hsz, hC]
  have g0 : DataW.trod enc Try.prog W 0 (fun _ => true) true n 3 ((cs.toList.drop 0).take 1) = xs[0]? := by rw [← ci]; exact hg 0 _ rfl
  have g1 : DataW.trod enc Try.prog W 0 (fun _ => true) true n 3 ((cs.toList.drop 1).take 1) = xs[1]? := by rw [← ci]; exact hg 1 _ rfl
  have g2 : DataW.trod enc Try.prog W 0 (fun _ => true) true n 23 ((cs.toList.drop 2).take 32) = xs[2]? := by rw [← c0]; exact hg 2 _ rfl
  have g3 : DataW.trod enc Try.prog W 0 (fun _ => true) true n 25 ((cs.toList.drop 34).take 34) = xs[3]? := by rw [← ch]; exact hg 3 _ rfl
  have g4 : DataW.trod enc Try.prog W 0 (fun _ => true) true n 26 ((cs.toList.drop 68).take 1) = xs[4]? := by rw [← cl]; exact hg 4 _ rfl
  have hxl : xs.length = 5 := hlen
  rw [List.getElem?_eq_getElem (by omega)] at g0 g1 g2 g3 g4
  obtain ⟨f, h0, _, _⟩ := DataW.trod_int Try.underlying3 g0
  obtain ⟨t, h1, _, _⟩ := DataW.trod_int Try.underlying3 g1
  obtain ⟨cm, h2, lc⟩ := bytes_of_trod Try.underlying23 Try.underlying5 ce c0 g2
  obtain ⟨pk, q, k, h3, lk⟩ := head_of_cells g3
  obtain ⟨A, m, c, body, h4, hb⟩ := bs_of_cells Try.underlying26 Try.underlying5 ce g4
  refine ⟨f, t, cm, pk, q, k, A, m, c, body, ?_, lc, lk, hb⟩
  congr 1
  apply Array.ext'
  have e := (cut_at cs.toList 0 1).trans (congrArg ((cs.toList.drop 0).take 1 ++ ·) ((cut_at cs.toList 1 1).trans (congrArg ((cs.toList.drop 1).take 1 ++ ·) ((cut_at cs.toList 2 32).trans (congrArg ((cs.toList.drop 2).take 32 ++ ·) ((cut_at cs.toList 34 34).trans (congrArg ((cs.toList.drop 34).take 34 ++ ·) (cut_at cs.toList 68 1))))))))
  have z : cs.toList.drop 69 = [] := List.drop_eq_nil_of_le (by omega)
  simp only [h0, h1, h2, h3, h4, Nat.reduceAdd, z, List.append_nil] at e
  exact e
end
end Go.Proofs.Ytojgmgghlkpfoaa
end
