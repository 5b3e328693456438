import Derived.Test.YtbnjmmefnjoofaaDoorPkH
import Derived.Lib.LaidTab
import Derived.Test.YtbnjmmefnjoofaaDoorBase
import Derived.Deep.Matrix
import Derived.Test.YtbnjmmefnjoofaaDoorPkO
import Derived.Test.YtbnjmmefnjoofaaDoorPkK
section
/-
  What the row's list says of blake.initial.
-/
namespace Go.Proofs.YtbnjmmefnjoofaaDoor
open Go.ChangeShapes Go.WideShapes Go.ChangeAt Go.RowKit Go.Deep

def initZ : List Int := [1779033703, 3144134277, 1013904242, 2773480762, 1359893119, 2600822924, 528734635, 1541459225]
theorem gBlake : Tryd.prog.globalNamed "palfrey/blake.initial" = some 0 := by kernel_rfl
theorem gBlakeType : (Tryd.prog.globals[0]?).map (·.type) = some 135 := by kernel_rfl
theorem gl_of_tab {W : World} (h : Lib.TabIs Tryd.prog W "palfrey/blake.initial" .u32 initZ) : ∃ tg, Gl W tg := by
  unfold Lib.TabIs World.var? at h
  rw [gBlake] at h
  simp only [Option.bind_some] at h
  cases hh : W.heap[0]? with
  | none => rw [hh] at h; cases h
  | some o =>
    rw [hh] at h
    cases o with
    | cells cs t fr =>
      simp only [Option.some.injEq] at h
      subst h
      exact ⟨(t, fr), hh⟩
    | _ => cases h
theorem gl_of_laid {W : World} {rest : List (String × DataW Unit)} (h : laidMet Tryd.prog (("palfrey/blake.initial", Lib.tabData .u32 initZ) :: rest) W) : ∃ tg, Gl W tg :=
  gl_of_tab (Lib.tabIs_of_head (rest := rest) gBlake gBlakeType Tryd.underlying135 Tryd.underlying134 (by kernel_rfl) (by kernel_rfl) h)
end Go.Proofs.YtbnjmmefnjoofaaDoor
end

section
/-
  How the arguments of the statements read: a slice of bytes, of slices of bytes, of numbers. No conditions.
-/
namespace Go.Proofs.YtbnjmmefnjoofaaDoor
open Go.ChangeShapes Go.WideShapes Go.ChangeAt Go.RowKit Go.Deep

theorem bounds_i64 {a : Int} (h : (Lit.int .i64 a).wf = true) : -9223372036854775808 ≤ a ∧ a ≤ 9223372036854775807 := by
  simpa [Lit.wf, IntKind.min, IntKind.max, IntKind.signed, IntKind.bits] using h

section
variable {H : Type} {enc : TypeId × Value → H} {W : World} {P : Program}
theorem bs_of_trod {t e : TypeId} {a : Option Addr} {len cap : Nat} {d : DataW H} {p : List MemPlace} (ht : P.underlying t = some (.slice e)) (he : P.underlying e = some (.int .u8)) (hc : P.cellsOf e = 1)
    (h : DataW.Trod enc P W 0 (fun _ => true) true t (.slice a len cap) d p) : ∃ xs, Bs W a len cap xs := by
  obtain ⟨fuel, hf⟩ := h
  rcases open_ints ht he hc hf with ⟨hcs, _⟩ | ⟨x, l, c, zs, hcs, _, hl, hm, hz, _, hcell, hwz⟩
  · simp [Value.cells] at hcs
    obtain ⟨rfl, rfl, rfl⟩ := hcs
    exact ⟨[], Bs.nil W⟩
  · simp [Value.cells] at hcs
    obtain ⟨rfl, rfl, rfl⟩ := hcs
    exact bs_of_row (.inr ⟨_, rfl, hl, hm, by simpa using hz, hcell, hwz⟩)
end
end Go.Proofs.YtbnjmmefnjoofaaDoor
end

section
/-
  How an argument that is an array of bytes reads. No conditions.
-/
namespace Go.Proofs.YtbnjmmefnjoofaaDoor
open Go.ChangeShapes Go.WideShapes Go.ChangeAt Go.RowKit Go.Deep

section
variable {H : Type} {enc : TypeId × Value → H} {W : World} {P : Program}
theorem okWide_array {r : Reach} {b n : Nat} {t e : TypeId} {v : Value} (ht : P.underlying t = some (.array n e)) (h : Value.okWide P W r b t v) : ∃ cs, v = .agg cs ∧ cs.size = P.cellsOf t := by
  simp only [Value.okWide, ht] at h
  obtain ⟨cs, h1, h2, _⟩ := h
  exact ⟨cs, h1, h2⟩
def byteV : Option Value → Nat
  | some (.int _ z) => z.toNat
  | _ => 0
theorem bytes_of_trod {n fuel : Nat} {t e : TypeId} {cs : List Value} {x : DataW H × List MemPlace} (ht : P.underlying t = some (.array n e)) (he : P.underlying e = some (.int .u8)) (hce : P.cellsOf e = 1) (hct : P.cellsOf t = n)
    (hf : DataW.trod enc P W 0 (fun _ => true) true fuel t cs = some x) : ∃ xs, cs = cellsOf xs ∧ xs.length = n := by
  cases fuel with
  | zero => simp [DataW.trod] at hf
  | succ fuel =>
    simp only [DataW.trod, ht, hce, hct, Nat.mul_one] at hf
    split at hf
    · rename_i hl
      obtain ⟨xs, hm, hx⟩ := Option.map_eq_some_iff.1 hf
      have hcell : ∀ i, i < n → ∃ z : Int, cs[i]? = some (.int .u8 z) ∧ 0 ≤ z ∧ z ≤ 255 := fun i hi => by
        obtain ⟨y, hy, hfy⟩ := Lib.mapM_at hm i i (by simp [hi])
        obtain ⟨z, hc, rfl, hw⟩ := DataW.trod_int he hfy
        have h1 : cs[i]? = some (.int .u8 z) := by
          have := congrArg (·[0]?) hc
          simpa [List.getElem?_take, List.getElem?_drop] using this
        have hb : 0 ≤ z ∧ z ≤ 255 := by simpa [Lit.wf, IntKind.min, IntKind.max, IntKind.signed, IntKind.bits] using hw
        exact ⟨z, h1, hb⟩
      refine ⟨(List.range n).map fun i => UInt8.ofNat (byteV cs[i]?), ?_, by simp⟩
      apply List.ext_getElem?
      intro i
      by_cases hi : i < n
      · obtain ⟨z, h1, h2, h3⟩ := hcell i hi
        have h4 := cellsOf_get (xs := (List.range n).map fun i => UInt8.ofNat (byteV cs[i]?)) (j := i) (by simp; exact hi)
        rw [h1]
        refine Eq.trans ?_ h4.symm
        congr 2
        unfold bt
        simp [List.getD, hi, h1, byteV]
        omega
      · rw [List.getElem?_eq_none (by omega), List.getElem?_eq_none (by simp [cellsOf_len]; omega)]
    · cases hf
theorem key_of_trod {r : Reach} {b n : Nat} {t e : TypeId} {v : Value} {d : DataW H} {p : List MemPlace} (ht : P.underlying t = some (.array n e)) (he : P.underlying e = some (.int .u8)) (hce : P.cellsOf e = 1) (hct : P.cellsOf t = n)
    (hv : Value.okWide P W r b t v) (h : DataW.Trod enc P W 0 (fun _ => true) true t v d p) : ∃ xs, v = .agg (cellsOf xs).toArray ∧ xs.length = n := by
  obtain ⟨cs, rfl, hsz⟩ := okWide_array ht hv
  obtain ⟨fuel, hf⟩ := h
  obtain ⟨xs, hx, hl⟩ := bytes_of_trod ht he hce hct hf
  refine ⟨xs, ?_, hl⟩
  congr 1
  apply Array.ext'
  rw [← hx]; rfl
end
end Go.Proofs.YtbnjmmefnjoofaaDoor
end

section
/-
  How arguments read that are slices of elements of several cells. No conditions.
-/
namespace Go.Proofs.YtbnjmmefnjoofaaDoor
open Go.ChangeShapes Go.WideShapes Go.ChangeAt Go.RowKit Go.Deep

section
variable {H : Type} {enc : TypeId × Value → H} {W : World} {P : Program}
/-- The cells of an element are these. -/
def At (w : World) (b o : Nat) (cs : List Value) : Prop := ∀ i v, cs[i]? = some v → w.cell? ⟨b, o + i, none⟩ = some v
theorem slice_of_trod {t e : TypeId} {c : Nat} {a : Option Addr} {len cap : Nat} {d : DataW H} {p : List MemPlace} (ht : P.underlying t = some (.slice e)) (hc : P.cellsOf e = c) (c0 : 0 < c)
    (h : DataW.Trod enc P W 0 (fun _ => true) true t (.slice a len cap) d p) :
    len ≤ cap ∧ cap ≤ maxLen ∧ (0 < cap → ∃ b off, a = some ⟨b, off, none⟩ ∧ b < W.heap.size ∧ ∀ j, j < cap → ∃ cs, cs.length = c ∧ At W b (off + j * c) cs ∧ ∃ n y, DataW.trod enc P W 0 (fun _ => true) true n e cs = some y) := by
  obtain ⟨fuel, hf⟩ := h
  rcases open_slice ht hf with ⟨hcs, _⟩ | ⟨x, ln, cp, m, n, D, Pl, hcs, _, hl, hm, hmm, _, hr⟩
  · simp [Value.cells] at hcs
    obtain ⟨rfl, rfl, rfl⟩ := hcs
    exact ⟨Nat.le_refl _, Nat.zero_le _, fun h => absurd h (by omega)⟩
  · simp [Value.cells] at hcs
    obtain ⟨rfl, rfl, rfl⟩ := hcs
    simp only [if_true] at hmm
    subst hmm
    refine ⟨hl, hm, fun h0 => ?_⟩
    obtain ⟨b, off, spot⟩ := x
    obtain ⟨cs0, h1, _⟩ := hr 0 h0
    obtain ⟨_, l0, e0⟩ := World.cells?_some h1
    rw [hc] at l0 e0
    have q := e0 0 c0
    rw [List.getElem?_eq_getElem (by omega)] at q
    have hsp : spot = none := by
      have := World.cell?_spot q
      simpa [Addr.add] using this
    subst hsp
    have hplain : ∀ j, (⟨b, off, none⟩ : Addr).add j = ⟨b, off + j, none⟩ := fun j => by unfold Addr.add; split <;> simp_all
    have hplain2 : ∀ o j, (⟨b, o, none⟩ : Addr).add j = ⟨b, o + j, none⟩ := fun o j => by unfold Addr.add; split <;> simp_all
    refine ⟨b, off, rfl, ?_, fun j hj => ?_⟩
    · have := World.block_lt_of_cell? W _ q
      rw [hplain, hplain2] at this
      exact this
    · obtain ⟨cs, h2, h3⟩ := hr j hj
      obtain ⟨_, l, e⟩ := World.cells?_some h2
      rw [hc, hplain] at *
      refine ⟨cs, l, fun i v hv => ?_, n, _, h3⟩
      have hi : i < c := by rw [← l]; exact (List.getElem?_eq_some_iff.1 hv).1
      have := e i hi
      rw [hplain2] at this
      rw [this]; exact hv
end

/-- The slice reads as these keys. -/
def Kx (w : World) (A : Option Addr) (n : Nat) (l : List (List UInt8)) : Prop :=
  l.length = n ∧ (∀ x ∈ l, x.length = 32) ∧ (0 < n → ∃ b off, A = some ⟨b, off, none⟩ ∧ b < w.heap.size ∧ ∀ j, j < n → At w b (off + j * 32) (cellsOf (l.getD j [])))
theorem keys_of_trod {H : Type} {enc : TypeId × Value → H} {W : World} {P : Program} {t e u : TypeId} {a : Option Addr} {len cap : Nat} {d : DataW H} {p : List MemPlace} (ht : P.underlying t = some (.slice e)) (he : P.underlying e = some (.array 32 u)) (hu : P.underlying u = some (.int .u8)) (hc : P.cellsOf e = 32) (hcu : P.cellsOf u = 1)
    (h : DataW.Trod enc P W 0 (fun _ => true) true t (.slice a len cap) d p) : ∃ l, Kx W a len l ∧ len ≤ cap ∧ cap ≤ maxLen := by
  obtain ⟨h1, h2, h3⟩ := slice_of_trod ht hc (by decide) h
  by_cases h0 : 0 < cap
  · obtain ⟨b, off, rfl, hb, hj⟩ := h3 h0
    have hk : ∀ j, j < cap → ∃ xs : List UInt8, xs.length = 32 ∧ At W b (off + j * 32) (cellsOf xs) := fun j h => by
      obtain ⟨cs, _, hat, n, y, hy⟩ := hj j h
      obtain ⟨xs, rfl, hl⟩ := bytes_of_trod he hu hcu hc hy
      exact ⟨xs, hl, hat⟩
    refine ⟨(List.range len).map fun j => if h : j < cap then (hk j h).choose else [], ⟨by simp, fun x hx => ?_, fun _ => ⟨b, off, rfl, hb, fun j hjl => ?_⟩⟩, h1, h2⟩
    · obtain ⟨j, hjm, rfl⟩ := List.mem_map.1 hx
      have : j < cap := by have := List.mem_range.1 hjm; omega
      rw [dif_pos this]
      exact (hk j this).choose_spec.1
    · have hjc : j < cap := by omega
      have e : ((List.range len).map fun j => if h : j < cap then (hk j h).choose else []).getD j [] = (hk j hjc).choose := by simp [List.getD, hjl, hjc]
      rw [e]
      exact (hk j hjc).choose_spec.2
  · obtain rfl : len = 0 := by omega
    exact ⟨[], ⟨rfl, fun x hx => by simp at hx, fun h => absurd h (by omega)⟩, h1, h2⟩
theorem Kx.ext {w w' : World} {A : Option Addr} {n : Nat} {l : List (List UInt8)} (h : Kx w A n l) (e : Ext w w') : Kx w' A n l :=
  ⟨h.1, h.2.1, fun h0 => by
    obtain ⟨b, off, rfl, hb, hj⟩ := h.2.2 h0
    exact ⟨b, off, rfl, Nat.lt_of_lt_of_le hb e.size, fun j hjn i v hv => (e.cell hb).trans (hj j hjn i v hv)⟩⟩
end Go.Proofs.YtbnjmmefnjoofaaDoor
end

section
/-
  Keys in a slice, as an argument reads. No conditions.
-/
namespace Go.Proofs.YtbnjmmefnjoofaaDoor
open Go.ChangeShapes Go.WideShapes Go.ChangeAt Go.RowKit Go.Deep

theorem Kx.cs {W : World} {A : Option Addr} {n c : Nat} {l : List (List UInt8)} (h : Kx W A n l) (le : n ≤ c ∧ c ≤ maxLen) : Cs W 32 A n c (l.map cellsOf) := by
  have hl : ∀ x ∈ l.map cellsOf, x.length = 32 := fun x hx => by
    obtain ⟨y, hy, rfl⟩ := List.mem_map.1 hx
    rw [cellsOf_len]; exact h.2.1 y hy
  refine ⟨⟨by rw [List.length_map]; exact h.1, hl⟩, le, fun h0 => ?_⟩
  obtain ⟨b, off, hA, hb, hc⟩ := h.2.2 h0
  refine ⟨b, off, hA, hb, fun q v hq => ?_⟩
  have ln : (l.map cellsOf).length = n := by rw [List.length_map]; exact h.1
  have hq2 : q < n * 32 := by
    have := (List.getElem?_eq_some_iff.1 hq).1
    rwa [flatten_len hl, ln] at this
  have hj : q / 32 < (l.map cellsOf).length := by rw [ln]; omega
  have e : q / 32 * 32 + q % 32 = q := by omega
  have f := flat_at hl (j := q / 32) (i := q % 32) hj (by omega)
  rw [e, hq] at f
  have ei : (l.map cellsOf).getD (q / 32) [] = cellsOf (l.getD (q / 32) []) := by
    have hj' : q / 32 < l.length := by rw [h.1]; omega
    simp [List.getD_eq_getElem?_getD, List.getElem?_map, List.getElem?_eq_getElem hj']
  rw [ei] at f
  have := hc (q / 32) (by omega) (q % 32) v f.symm
  rwa [show off + q / 32 * 32 + q % 32 = off + q by omega] at this
end Go.Proofs.YtbnjmmefnjoofaaDoor
end
