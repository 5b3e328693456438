import Derived.Test.YtfhafednnnfmbaaDoorPkO
import Derived.Lib.LaidTab
import Derived.Test.YtfhafednnnfmbaaDoorPkS
import Derived.Test.YtfhafednnnfmbaaDoorBase
import Derived.Deep.Matrix
import Derived.Test.YtfhafednnnfmbaaDoorPkT
import Derived.Deep.Fields
section
/-
  What the row's list says of blake.initial.
-/
namespace Go.Proofs.YtfhafednnnfmbaaDoor
open Go.ChangeShapes Go.WideShapes Go.ChangeAt Go.RowKit Go.Deep

def initZ : List Int := [1779033703, 3144134277, 1013904242, 2773480762, 1359893119, 2600822924, 528734635, 1541459225]
theorem gBlake : Tryd.prog.globalNamed "palfrey/blake.initial" = some 0 := by kernel_rfl
theorem gBlakeType : (Tryd.prog.globals[0]?).map (·.type) = some 79 := by kernel_rfl
theorem gl_of_tab {W : World} (h : Lib.TabIs Tryd.prog W "palfrey/blake.initial" .u32 initZ) : ∃ tg, Gl W tg := by
  unfold Lib.TabIs World.var? at h
  rw [gBlake] at h
  simp only [Option.bind_some] at h
  cases hh : W.heap[0]? with
  | none => rw [hh] at h; cases h
  | some o =>
    rw [hh] at h
    cases o with
    | cells cs t fr =>
      simp only [Option.some.injEq] at h
      subst h
      exact ⟨(t, fr), hh⟩
    | _ => cases h
theorem gl_of_laid {W : World} {rest : List (String × DataW Unit)} (h : laidMet Tryd.prog (("palfrey/blake.initial", Lib.tabData .u32 initZ) :: rest) W) : ∃ tg, Gl W tg :=
  gl_of_tab (Lib.tabIs_of_head (rest := rest) gBlake gBlakeType Tryd.underlying79 Tryd.underlying76 (by kernel_rfl) (by kernel_rfl) h)
end Go.Proofs.YtfhafednnnfmbaaDoor
end

section
/-
  What the row's list says of field.prime.
-/
namespace Go.Proofs.YtfhafednnnfmbaaDoor
open Go.ChangeShapes Go.WideShapes Go.ChangeAt Go.RowKit Go.Deep
set_option maxRecDepth 100000

def primeZ : List Int := [4294967277, 4294967295, 4294967295, 4294967295, 4294967295, 4294967295, 4294967295, 2147483647]
theorem gPrime : Tryd.prog.globalNamed "palfrey/field.prime" = some 1 := by kernel_rfl
theorem gPrimeType : (Tryd.prog.globals[1]?).map (·.type) = some 79 := by kernel_rfl
theorem gp_of_tab {W : World} (h : Lib.TabIs Tryd.prog W "palfrey/field.prime" .u32 primeZ) : ∃ tg, Gp W tg := by
  unfold Lib.TabIs World.var? at h
  rw [gPrime] at h
  simp only [Option.bind_some] at h
  cases hh : W.heap[1]? with
  | none => rw [hh] at h; cases h
  | some o =>
    rw [hh] at h
    cases o with
    | cells cs t fr =>
      simp only [Option.some.injEq] at h
      subst h
      refine ⟨(t, fr), ?_⟩
      unfold Gp
      rw [← primeL_eq]
      exact hh
    | _ => cases h
theorem gp_of_laid {W : World} {rest : List (String × DataW Unit)} (h : laidMet Tryd.prog (("palfrey/field.prime", Lib.tabData .u32 primeZ) :: rest) W) : ∃ tg, Gp W tg :=
  gp_of_tab (Lib.tabIs_of_head (rest := rest) gPrime gPrimeType Tryd.underlying79 Tryd.underlying76 (by kernel_rfl) (by kernel_rfl) h)
end Go.Proofs.YtfhafednnnfmbaaDoor
end

section
/-
  What the row's list says of field.prime and blake.initial.
-/
namespace Go.Proofs.YtfhafednnnfmbaaDoor
open Go.ChangeShapes Go.WideShapes Go.ChangeAt Go.RowKit Go.Deep
set_option maxRecDepth 100000

theorem laidMet_tail {P : Program} {W : World} {x : String × DataW Unit} {rest : List (String × DataW Unit)} (h : laidMet P (x :: rest) W) : laidMet P rest W := by
  obtain ⟨n, d⟩ := x
  obtain ⟨ps, ⟨g, t, cs, fuel, p, q, _, _, _, _, hr, rfl⟩, hnd, hall⟩ := h
  exact ⟨q, hr, (List.nodup_append.1 hnd).2.1, fun b off hm => hall b off (List.mem_append_right _ hm)⟩
theorem both_of_laid {W : World} {rest : List (String × DataW Unit)} (h : laidMet Tryd.prog (("palfrey/field.prime", Lib.tabData .u32 primeZ) :: ("palfrey/blake.initial", Lib.tabData .u32 initZ) :: rest) W) : (∃ tp, Gp W tp) ∧ ∃ tg, Gl W tg :=
  ⟨gp_of_laid h, gl_of_laid (laidMet_tail h)⟩
end Go.Proofs.YtfhafednnnfmbaaDoor
end

section
/-
  How the arguments of the statements read: a slice of bytes, of slices of bytes, of numbers. No conditions.
-/
namespace Go.Proofs.YtfhafednnnfmbaaDoor
open Go.ChangeShapes Go.WideShapes Go.ChangeAt Go.RowKit Go.Deep

theorem bounds_i64 {a : Int} (h : (Lit.int .i64 a).wf = true) : -9223372036854775808 ≤ a ∧ a ≤ 9223372036854775807 := by
  simpa [Lit.wf, IntKind.min, IntKind.max, IntKind.signed, IntKind.bits] using h

section
variable {H : Type} {enc : TypeId × Value → H} {W : World} {P : Program}
theorem bs_of_trod {t e : TypeId} {a : Option Addr} {len cap : Nat} {d : DataW H} {p : List MemPlace} (ht : P.underlying t = some (.slice e)) (he : P.underlying e = some (.int .u8)) (hc : P.cellsOf e = 1)
    (h : DataW.Trod enc P W 0 (fun _ => true) true t (.slice a len cap) d p) : ∃ xs, Bs W a len cap xs := by
  obtain ⟨fuel, hf⟩ := h
  rcases open_ints ht he hc hf with ⟨hcs, _⟩ | ⟨x, l, c, zs, hcs, _, hl, hm, hz, _, hcell, hwz⟩
  · simp [Value.cells] at hcs
    obtain ⟨rfl, rfl, rfl⟩ := hcs
    exact ⟨[], Bs.nil W⟩
  · simp [Value.cells] at hcs
    obtain ⟨rfl, rfl, rfl⟩ := hcs
    exact bs_of_row (.inr ⟨_, rfl, hl, hm, by simpa using hz, hcell, hwz⟩)
end
end Go.Proofs.YtfhafednnnfmbaaDoor
end

section
/-
  How an argument that is an array of bytes reads. No conditions.
-/
namespace Go.Proofs.YtfhafednnnfmbaaDoor
open Go.ChangeShapes Go.WideShapes Go.ChangeAt Go.RowKit Go.Deep

section
variable {H : Type} {enc : TypeId × Value → H} {W : World} {P : Program}
theorem okWide_array {r : Reach} {b n : Nat} {t e : TypeId} {v : Value} (ht : P.underlying t = some (.array n e)) (h : Value.okWide P W r b t v) : ∃ cs, v = .agg cs ∧ cs.size = P.cellsOf t := by
  simp only [Value.okWide, ht] at h
  obtain ⟨cs, h1, h2, _⟩ := h
  exact ⟨cs, h1, h2⟩
def byteV : Option Value → Nat
  | some (.int _ z) => z.toNat
  | _ => 0
theorem bytes_of_trod {n fuel : Nat} {t e : TypeId} {cs : List Value} {x : DataW H × List MemPlace} (ht : P.underlying t = some (.array n e)) (he : P.underlying e = some (.int .u8)) (hce : P.cellsOf e = 1) (hct : P.cellsOf t = n)
    (hf : DataW.trod enc P W 0 (fun _ => true) true fuel t cs = some x) : ∃ xs, cs = cellsOf xs ∧ xs.length = n := by
  cases fuel with
  | zero => simp [DataW.trod] at hf
  | succ fuel =>
    simp only [DataW.trod, ht, hce, hct, Nat.mul_one] at hf
    split at hf
    · rename_i hl
      obtain ⟨xs, hm, hx⟩ := Option.map_eq_some_iff.1 hf
      have hcell : ∀ i, i < n → ∃ z : Int, cs[i]? = some (.int .u8 z) ∧ 0 ≤ z ∧ z ≤ 255 := fun i hi => by
        obtain ⟨y, hy, hfy⟩ := Lib.mapM_at hm i i (by simp [hi])
        obtain ⟨z, hc, rfl, hw⟩ := DataW.trod_int he hfy
        have h1 : cs[i]? = some (.int .u8 z) := by
          have := congrArg (·[0]?) hc
          simpa [List.getElem?_take, List.getElem?_drop] using this
        have hb : 0 ≤ z ∧ z ≤ 255 := by simpa [Lit.wf, IntKind.min, IntKind.max, IntKind.signed, IntKind.bits] using hw
        exact ⟨z, h1, hb⟩
      refine ⟨(List.range n).map fun i => UInt8.ofNat (byteV cs[i]?), ?_, by simp⟩
      apply List.ext_getElem?
      intro i
      by_cases hi : i < n
      · obtain ⟨z, h1, h2, h3⟩ := hcell i hi
        have h4 := cellsOf_get (xs := (List.range n).map fun i => UInt8.ofNat (byteV cs[i]?)) (j := i) (by simp; exact hi)
        rw [h1]
        refine Eq.trans ?_ h4.symm
        congr 2
        unfold bt
        simp [List.getD, hi, h1, byteV]
        omega
      · rw [List.getElem?_eq_none (by omega), List.getElem?_eq_none (by simp [cellsOf_len]; omega)]
    · cases hf
theorem key_of_trod {r : Reach} {b n : Nat} {t e : TypeId} {v : Value} {d : DataW H} {p : List MemPlace} (ht : P.underlying t = some (.array n e)) (he : P.underlying e = some (.int .u8)) (hce : P.cellsOf e = 1) (hct : P.cellsOf t = n)
    (hv : Value.okWide P W r b t v) (h : DataW.Trod enc P W 0 (fun _ => true) true t v d p) : ∃ xs, v = .agg (cellsOf xs).toArray ∧ xs.length = n := by
  obtain ⟨cs, rfl, hsz⟩ := okWide_array ht hv
  obtain ⟨fuel, hf⟩ := h
  obtain ⟨xs, hx, hl⟩ := bytes_of_trod ht he hce hct hf
  refine ⟨xs, ?_, hl⟩
  congr 1
  apply Array.ext'
  rw [← hx]; rfl
end
end Go.Proofs.YtfhafednnnfmbaaDoor
end

section
/-
  How a pair of keys reads as an argument. No conditions.
-/
namespace Go.Proofs.YtfhafednnnfmbaaDoor
open Go.ChangeShapes Go.WideShapes Go.ChangeAt Go.RowKit Go.Deep
set_option maxRecDepth 100000

section
variable {H : Type} {enc : TypeId × Value → H} {W : World}
theorem pair64_of_trod {r : Reach} {b : Nat} {v : Value} {d : DataW H} {p : List MemPlace} (hv : Value.okWide Tryd.prog W r b 25 v) (h : DataW.Trod enc Tryd.prog W 0 (fun _ => true) true 25 v d p) :
    ∃ xs ys, v = .agg (cellsOf (xs ++ ys)).toArray ∧ xs.length = 32 ∧ ys.length = 32 := by
  obtain ⟨cs, rfl, hsz⟩ := okWide_struct Tryd.underlying25 hv
  have hC : Tryd.prog.cellsOf 25 = 64 := by kernel_rfl
  obtain ⟨fuel, hf⟩ := h
  obtain ⟨xs, n, _, hx, _, hlen, hg⟩ := DataW.trod_struct Tryd.underlying25 hf
  have c0 : Tryd.prog.cellsOf 23 = 32 := by kernel_rfl
  have ce : Tryd.prog.cellsOf 5 = 1 := by kernel_rfl
  have hl : cs.toList.length = 64 := by rw [Array.length_toList, hsz, hC]
  have g0 : DataW.trod enc Tryd.prog W 0 (fun _ => true) true n 23 ((cs.toList.drop 0).take 32) = xs[0]? := by rw [← c0]; exact hg 0 _ rfl
  have g1 : DataW.trod enc Tryd.prog W 0 (fun _ => true) true n 23 ((cs.toList.drop 32).take 32) = xs[1]? := by rw [← c0]; exact hg 1 _ rfl
  have hxl : xs.length = 2 := hlen
  rw [List.getElem?_eq_getElem (by omega)] at g0 g1
  obtain ⟨ks, hk, lk⟩ := bytes_of_trod Tryd.underlying23 Tryd.underlying5 ce c0 g0
  obtain ⟨ns, hn, ln⟩ := bytes_of_trod Tryd.underlying23 Tryd.underlying5 ce c0 g1
  refine ⟨ks, ns, ?_, lk, ln⟩
  congr 1
  apply Array.ext'
  have e1 : cs.toList = (cs.toList.drop 0).take 32 ++ (cs.toList.drop 32).take 32 := by
    rw [List.drop_zero]
    conv => lhs; rw [← List.take_append_drop 32 cs.toList]
    congr 1
    rw [List.take_of_length_le (by simp; omega)]
  rw [e1, hk, hn, cellsOf_app]
end
end Go.Proofs.YtfhafednnnfmbaaDoor
end

section
/-
  How a bundle, and one's own keys, read as arguments. No conditions.
-/
namespace Go.Proofs.YtfhafednnnfmbaaDoor
open Go.ChangeShapes Go.WideShapes Go.ChangeAt Go.RowKit Go.Deep
set_option maxRecDepth 100000

section
variable {H : Type} {enc : TypeId × Value → H} {W : World}
theorem bool_of_trod {P : Program} {fuel : Nat} {t : TypeId} {cs : List Value} {x : DataW H × List MemPlace} (ht : P.underlying t = some .bool) (h : DataW.trod enc P W 0 (fun _ => true) true fuel t cs = some x) : ∃ b, cs = [.bool b] := by
  cases fuel with
  | zero => simp [DataW.trod] at h
  | succ fuel =>
    simp only [DataW.trod, ht] at h
    split at h <;> simp_all
theorem take4 {α : Type} (l : List α) (a b c : Nat) {n : Nat} (h : l.length = n) (hn : n = a + (b + (c + 1))) : l = l.take a ++ ((l.drop a).take b ++ ((l.drop (a + b)).take c ++ (l.drop (a + b + c)).take 1)) := by
  conv => lhs; rw [← List.take_append_drop a l]
  congr 1
  conv => lhs; rw [← List.take_append_drop b (l.drop a)]
  congr 1
  rw [List.drop_drop]
  conv => lhs; rw [← List.take_append_drop c (l.drop (a + b))]
  congr 1
  rw [List.drop_drop, List.take_of_length_le (by simp; omega)]
theorem bundle_of_trod {r : Reach} {b : Nat} {v : Value} {d : DataW H} {p : List MemPlace} (hv : Value.okWide Tryd.prog W r b 27 v) (h : DataW.Trod enc Tryd.prog W 0 (fun _ => true) true 27 v d p) :
    ∃ xs ys zs o, v = .agg (bbC (xs ++ (ys ++ zs)) o).toArray ∧ xs.length = 32 ∧ ys.length = 32 ∧ zs.length = 32 := by
  obtain ⟨cs, rfl, hsz⟩ := okWide_struct Tryd.underlying27 hv
  have hC : Tryd.prog.cellsOf 27 = 97 := by kernel_rfl
  obtain ⟨fuel, hf⟩ := h
  obtain ⟨xs, n, _, hx, _, hlen, hg⟩ := DataW.trod_struct Tryd.underlying27 hf
  have c0 : Tryd.prog.cellsOf 23 = 32 := by kernel_rfl
  have ce : Tryd.prog.cellsOf 5 = 1 := by kernel_rfl
  have cb : Tryd.prog.cellsOf 4 = 1 := by kernel_rfl
  have hl : cs.toList.length = 97 := by rw [Array.length_toList, hsz, hC]
  have g0 : DataW.trod enc Tryd.prog W 0 (fun _ => true) true n 23 ((cs.toList.drop 0).take 32) = xs[0]? := by rw [← c0]; exact hg 0 _ rfl
  have g1 : DataW.trod enc Tryd.prog W 0 (fun _ => true) true n 23 ((cs.toList.drop 32).take 32) = xs[1]? := by rw [← c0]; exact hg 1 _ rfl
  have g2 : DataW.trod enc Tryd.prog W 0 (fun _ => true) true n 23 ((cs.toList.drop 64).take 32) = xs[2]? := by rw [← c0]; exact hg 2 _ rfl
  have g3 : DataW.trod enc Tryd.prog W 0 (fun _ => true) true n 4 ((cs.toList.drop 96).take 1) = xs[3]? := by rw [← cb]; exact hg 3 _ rfl
  have hxl : xs.length = 4 := hlen
  rw [List.getElem?_eq_getElem (by omega)] at g0 g1 g2 g3
  obtain ⟨ks, hk, lk⟩ := bytes_of_trod Tryd.underlying23 Tryd.underlying5 ce c0 g0
  obtain ⟨ns, hn, ln⟩ := bytes_of_trod Tryd.underlying23 Tryd.underlying5 ce c0 g1
  obtain ⟨ms, hm, lm⟩ := bytes_of_trod Tryd.underlying23 Tryd.underlying5 ce c0 g2
  obtain ⟨o, ho⟩ := bool_of_trod Tryd.underlying4 g3
  refine ⟨ks, ns, ms, o, ?_, lk, ln, lm⟩
  congr 1
  apply Array.ext'
  have e1 := take4 cs.toList 32 32 32 hl rfl
  rw [List.drop_zero] at hk
  rw [e1, hk, hn, hm, ho, bbC, cellsOf_app, cellsOf_app]
  simp
theorem pair_of_cells {n : Nat} {cs : List Value} {x : DataW H × List MemPlace} (hf : DataW.trod enc Tryd.prog W 0 (fun _ => true) true n 25 cs = some x) : ∃ xs : List UInt8, cs = cellsOf xs ∧ xs.length = 64 := by
  have hC : Tryd.prog.cellsOf 25 = 64 := by kernel_rfl
  obtain ⟨xs, n, _, hx, hl, hlen, hg⟩ := DataW.trod_struct Tryd.underlying25 hf
  rw [hC] at hl
  have c0 : Tryd.prog.cellsOf 23 = 32 := by kernel_rfl
  have ce : Tryd.prog.cellsOf 5 = 1 := by kernel_rfl
  have g0 : DataW.trod enc Tryd.prog W 0 (fun _ => true) true n 23 ((cs.drop 0).take 32) = xs[0]? := by rw [← c0]; exact hg 0 _ rfl
  have g1 : DataW.trod enc Tryd.prog W 0 (fun _ => true) true n 23 ((cs.drop 32).take 32) = xs[1]? := by rw [← c0]; exact hg 1 _ rfl
  have hxl : xs.length = 2 := hlen
  rw [List.getElem?_eq_getElem (by omega)] at g0 g1
  obtain ⟨ks, hk, lk⟩ := bytes_of_trod Tryd.underlying23 Tryd.underlying5 ce c0 g0
  obtain ⟨ns, hn, ln⟩ := bytes_of_trod Tryd.underlying23 Tryd.underlying5 ce c0 g1
  refine ⟨ks ++ ns, ?_, by rw [List.length_append, lk, ln]⟩
  have e1 : cs = (cs.drop 0).take 32 ++ (cs.drop 32).take 32 := by
    rw [List.drop_zero]
    conv => lhs; rw [← List.take_append_drop 32 cs]
    congr 1
    rw [List.take_of_length_le (by simp; omega)]
  rw [e1, hk, hn, cellsOf_app]
theorem own_of_trod {r : Reach} {b : Nat} {v : Value} {d : DataW H} {p : List MemPlace} (hv : Value.okWide Tryd.prog W r b 34 v) (h : DataW.Trod enc Tryd.prog W 0 (fun _ => true) true 34 v d p) :
    ∃ xs ys zs o, v = .agg (bbC (xs ++ (ys ++ zs)) o).toArray ∧ xs.length = 64 ∧ ys.length = 64 ∧ zs.length = 64 := by
  obtain ⟨cs, rfl, hsz⟩ := okWide_struct Tryd.underlying34 hv
  have hC : Tryd.prog.cellsOf 34 = 193 := by kernel_rfl
  obtain ⟨fuel, hf⟩ := h
  obtain ⟨xs, n, _, hx, _, hlen, hg⟩ := DataW.trod_struct Tryd.underlying34 hf
  have c0 : Tryd.prog.cellsOf 25 = 64 := by kernel_rfl
  have cb : Tryd.prog.cellsOf 4 = 1 := by kernel_rfl
  have hl : cs.toList.length = 193 := by rw [Array.length_toList, hsz, hC]
  have g0 : DataW.trod enc Tryd.prog W 0 (fun _ => true) true n 25 ((cs.toList.drop 0).take 64) = xs[0]? := by rw [← c0]; exact hg 0 _ rfl
  have g1 : DataW.trod enc Tryd.prog W 0 (fun _ => true) true n 25 ((cs.toList.drop 64).take 64) = xs[1]? := by rw [← c0]; exact hg 1 _ rfl
  have g2 : DataW.trod enc Tryd.prog W 0 (fun _ => true) true n 25 ((cs.toList.drop 128).take 64) = xs[2]? := by rw [← c0]; exact hg 2 _ rfl
  have g3 : DataW.trod enc Tryd.prog W 0 (fun _ => true) true n 4 ((cs.toList.drop 192).take 1) = xs[3]? := by rw [← cb]; exact hg 3 _ rfl
  have hxl : xs.length = 4 := hlen
  rw [List.getElem?_eq_getElem (by omega)] at g0 g1 g2 g3
  obtain ⟨ks, hk, lk⟩ := pair_of_cells g0
  obtain ⟨ns, hn, ln⟩ := pair_of_cells g1
  obtain ⟨ms, hm, lm⟩ := pair_of_cells g2
  obtain ⟨o, ho⟩ := bool_of_trod Tryd.underlying4 g3
  refine ⟨ks, ns, ms, o, ?_, lk, ln, lm⟩
  congr 1
  apply Array.ext'
  have e1 := take4 cs.toList 64 64 64 hl rfl
  rw [List.drop_zero] at hk
  rw [e1, hk, hn, hm, ho, bbC, cellsOf_app, cellsOf_app]
  simp
end
end Go.Proofs.YtfhafednnnfmbaaDoor
end
