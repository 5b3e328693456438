import Derived.Test.YtbnjmmefnjoofaaDoorBase
import Derived.Deep.Matrix
import Derived.Test.YtbnjmmefnjoofaaDoorPkO
import Derived.DeepKeys2
import Derived.Deep.Slices
import Derived.Test.YtbnjmmefnjoofaaDoorEvC
import Derived.Test.YtbnjmmefnjoofaaDoorPkC
import Derived.Test.YtbnjmmefnjoofaaDoorRw20g
import Derived.Test.YtbnjmmefnjoofaaDoorRy7
import Derived.Test.YtbnjmmefnjoofaaDoorPkM
import Derived.Test.YtbnjmmefnjoofaaDoorPkI
import Derived.Test.YtbnjmmefnjoofaaDoorPkP
section
/-
  How the arguments of the statements read: a slice of bytes, of slices of bytes, of numbers. No conditions.
-/
namespace Go.Proofs.YtbnjmmefnjoofaaDoor
open Go.ChangeShapes Go.WideShapes Go.ChangeAt Go.RowKit Go.Deep

theorem bounds_i64 {a : Int} (h : (Lit.int .i64 a).wf = true) : -9223372036854775808 ≤ a ∧ a ≤ 9223372036854775807 := by
  simpa [Lit.wf, IntKind.min, IntKind.max, IntKind.signed, IntKind.bits] using h

section
variable {H : Type} {enc : TypeId × Value → H} {W : World} {P : Program}
theorem bs_of_trod {t e : TypeId} {a : Option Addr} {len cap : Nat} {d : DataW H} {p : List MemPlace} (ht : P.underlying t = some (.slice e)) (he : P.underlying e = some (.int .u8)) (hc : P.cellsOf e = 1)
    (h : DataW.Trod enc P W 0 (fun _ => true) true t (.slice a len cap) d p) : ∃ xs, Bs W a len cap xs := by
  obtain ⟨fuel, hf⟩ := h
  rcases open_ints ht he hc hf with ⟨hcs, _⟩ | ⟨x, l, c, zs, hcs, _, hl, hm, hz, _, hcell, hwz⟩
  · simp [Value.cells] at hcs
    obtain ⟨rfl, rfl, rfl⟩ := hcs
    exact ⟨[], Bs.nil W⟩
  · simp [Value.cells] at hcs
    obtain ⟨rfl, rfl, rfl⟩ := hcs
    exact bs_of_row (.inr ⟨_, rfl, hl, hm, by simpa using hz, hcell, hwz⟩)
end
end Go.Proofs.YtbnjmmefnjoofaaDoor
end

section
/-
  How arguments read that are made of numbers, bools and slices of bytes, at whatever depth of structs and arrays; slices of such. No conditions.
-/
namespace Go.Proofs.YtbnjmmefnjoofaaDoor
open Go.ChangeShapes Go.WideShapes Go.ChangeAt Go.RowKit Go.Deep
set_option maxRecDepth 100000

/-- What a cell may be. -/
inductive Lf where
  | i (k : IntKind)
  | b
  | s8
  | sk
  deriving DecidableEq
def Fit1 (W : World) : Lf → Value → Prop
  | .i k, v => ∃ n, v = .int k n ∧ (Lit.int k n).wf = true
  | .b, v => ∃ x, v = .bool x
  | .s8, v => ∃ A n c xs, v = .slice A n c ∧ Bs W A n c xs
  | .sk, v => ∃ (A : Option Addr) (n c : Nat) (K : List (List UInt8)), v = .slice A n c ∧ Cs W 32 A n c (K.map cellsOf)
def FitL (W : World) : List Lf → List Value → Prop
  | [], [] => True
  | l :: ls, v :: vs => Fit1 W l v ∧ FitL W ls vs
  | _, _ => False
section
variable {W : World}
theorem FitL.app : ∀ {a b : List Lf} {x y : List Value}, FitL W a x → FitL W b y → FitL W (a ++ b) (x ++ y)
  | [], _, [], _, _, h => h
  | [], _, _ :: _, _, h, _ => h.elim
  | _ :: _, _, [], _, h, _ => h.elim
  | l :: a, _, v :: x, _, h, k => ⟨h.1, FitL.app h.2 k⟩
theorem FitL.flat : ∀ {A : List (List Lf)} {X : List (List Value)}, A.length = X.length → (∀ (i : Nat) (a : List Lf) (x : List Value), A[i]? = some a → X[i]? = some x → FitL W a x) → FitL W A.flatten X.flatten
  | [], [], _, _ => trivial
  | [], _ :: _, h, _ => by simp at h
  | _ :: _, [], h, _ => by simp at h
  | a :: A, x :: X, h, k => by
    rw [List.flatten_cons, List.flatten_cons]
    exact (k 0 a x rfl rfl).app (FitL.flat (by simpa using h) fun i a' x' h1 h2 => k (i + 1) a' x' h1 h2)
theorem FitL.part : ∀ {a b : List Lf} {cs : List Value}, FitL W (a ++ b) cs → ∃ x y, cs = x ++ y ∧ FitL W a x ∧ FitL W b y
  | [], _, cs, h => ⟨[], cs, rfl, trivial, h⟩
  | _ :: _, _, [], h => h.elim
  | l :: a, _, v :: cs, h => by
    obtain ⟨x, y, rfl, h1, h2⟩ := FitL.part h.2
    exact ⟨v :: x, y, rfl, ⟨h.1, h1⟩, h2⟩
theorem FitL.nil {cs : List Value} (h : FitL W [] cs) : cs = [] := by
  cases cs with
  | nil => rfl
  | cons v r => exact h.elim
theorem FitL.one {l : Lf} {ls : List Lf} {cs : List Value} (h : FitL W (l :: ls) cs) : ∃ v r, cs = v :: r ∧ Fit1 W l v ∧ FitL W ls r := by
  cases cs with
  | nil => exact h.elim
  | cons v r => exact ⟨v, r, rfl, h.1, h.2⟩
theorem FitL.int {ls : List Lf} {cs : List Value} (h : FitL W (.i .i64 :: ls) cs) : ∃ n r, cs = .int .i64 n :: r ∧ (-9223372036854775808 ≤ n ∧ n ≤ 9223372036854775807) ∧ FitL W ls r := by
  obtain ⟨v, r, rfl, ⟨n, rfl, w⟩, h'⟩ := h.one
  exact ⟨n, r, rfl, bounds_i64 w, h'⟩
theorem FitL.u64 {ls : List Lf} {cs : List Value} (h : FitL W (.i .u64 :: ls) cs) : ∃ (n : Nat) (r : List Value), cs = .int .u64 (n : Int) :: r ∧ n < 18446744073709551616 ∧ FitL W ls r := by
  obtain ⟨v, r, rfl, ⟨n, rfl, w⟩, h'⟩ := h.one
  obtain ⟨z, rfl, hz⟩ := nat_u64 w
  exact ⟨z, r, rfl, hz, h'⟩
theorem FitL.u8 {ls : List Lf} {cs : List Value} (h : FitL W (.i .u8 :: ls) cs) : ∃ (n : UInt8) (r : List Value), cs = .int .u8 (n.toNat : Int) :: r ∧ FitL W ls r := by
  obtain ⟨v, r, rfl, ⟨n, rfl, w⟩, h'⟩ := h.one
  have hb : 0 ≤ n ∧ n ≤ 255 := by simpa [Lit.wf, IntKind.min, IntKind.max, IntKind.signed, IntKind.bits] using w
  exact ⟨UInt8.ofNat n.toNat, r, by congr 2; simp; omega, h'⟩
theorem FitL.bool {ls : List Lf} {cs : List Value} (h : FitL W (.b :: ls) cs) : ∃ x r, cs = .bool x :: r ∧ FitL W ls r := by
  obtain ⟨v, r, rfl, ⟨n, rfl⟩, h'⟩ := h.one
  exact ⟨n, r, rfl, h'⟩
theorem FitL.bs {ls : List Lf} {cs : List Value} (h : FitL W (.s8 :: ls) cs) : ∃ A n c xs r, cs = .slice A n c :: r ∧ Bs W A n c xs ∧ FitL W ls r := by
  obtain ⟨v, r, rfl, ⟨A, n, c, xs, rfl, q⟩, h'⟩ := h.one
  exact ⟨A, n, c, xs, r, rfl, q, h'⟩
theorem FitL.ks {ls : List Lf} {cs : List Value} (h : FitL W (.sk :: ls) cs) : ∃ (A : Option Addr) (n c : Nat) (K : List (List UInt8)) (r : List Value), cs = .slice A n c :: r ∧ Cs W 32 A n c (K.map cellsOf) ∧ FitL W ls r := by
  obtain ⟨v, r, rfl, ⟨A, n, c, K, rfl, q⟩, h'⟩ := h.one
  exact ⟨A, n, c, K, r, rfl, q, h'⟩
theorem FitL.bytes : ∀ {n : Nat} {cs : List Value}, FitL W (List.replicate n (.i .u8)) cs → ∃ xs : List UInt8, cs = cellsOf xs ∧ xs.length = n
  | 0, cs, h => ⟨[], FitL.nil h, rfl⟩
  | n + 1, cs, h => by
    rw [List.replicate_succ] at h
    obtain ⟨x, r, rfl, h'⟩ := h.u8
    obtain ⟨xs, rfl, l⟩ := FitL.bytes h'
    exact ⟨x :: xs, by rw [cellsOf_map, cellsOf_map]; rfl, by rw [List.length_cons, l]⟩
theorem FitL.key {ls : List Lf} {cs : List Value} (h : FitL W (List.replicate 32 (.i .u8) ++ ls) cs) : ∃ (xs : List UInt8) (r : List Value), cs = cellsOf xs ++ r ∧ xs.length = 32 ∧ FitL W ls r := by
  obtain ⟨x, y, rfl, h1, h2⟩ := h.part
  obtain ⟨xs, rfl, l⟩ := h1.bytes
  exact ⟨xs, y, rfl, l, h2⟩
end
/-- The cells of a type, where they all are numbers, bools, slices of bytes. -/
def leafs (P : Program) : Nat → TypeId → Option (List Lf)
  | 0, _ => none
  | d + 1, t =>
    match P.underlying t with
    | some .bool => some [.b]
    | some (.int k) => some [.i k]
    | some (.slice e) => (match P.underlying e with | some (.int .u8) => if P.cellsOf e = 1 then some [.s8] else none | _ => if leafs P d e = some (List.replicate 32 (.i .u8)) ∧ P.cellsOf e = 32 then some [.sk] else none)
    | some (.array n e) => if P.cellsOf t = n * P.cellsOf e then (leafs P d e).map fun l => (List.replicate n l).flatten else none
    | some (.struct fs) => if P.runs 0 fs.toList = some (P.cellsOf t) then (fs.toList.mapM fun f => leafs P d f.type).map List.flatten else none
    | _ => none
theorem mapM_at' {α β : Type} {f : α → Option β} : ∀ {l : List α} {r : List β}, l.mapM f = some r → l.length = r.length ∧ ∀ (i : Nat) (a : α) (b : β), l[i]? = some a → r[i]? = some b → f a = some b
  | [], r, h => by
    obtain rfl : [] = r := by simpa using h
    exact ⟨rfl, fun i a b h => by simp at h⟩
  | x :: l, r, h => by
    rw [List.mapM_cons] at h
    obtain ⟨y, hy, h⟩ := Option.bind_eq_some_iff.1 h
    obtain ⟨ys, hys, h⟩ := Option.bind_eq_some_iff.1 h
    obtain rfl : y :: ys = r := by simpa using h
    obtain ⟨h1, h2⟩ := mapM_at' hys
    refine ⟨by simp [h1], fun i a b ha hb => ?_⟩
    cases i with
    | zero => simp at ha hb; subst ha; subst hb; exact hy
    | succ i => exact h2 i a b (by simpa using ha) (by simpa using hb)
section
variable {H : Type} {enc : TypeId × Value → H} {W : World} {P : Program}
/-- A slice of rows of cells, each of which fits. -/
theorem row_of_trod {e : TypeId} {t : TypeId} {ls : List Lf} (ht : P.underlying t = some (.slice e)) {s : Nat} (hs : P.cellsOf e = s) (s0 : 0 < s) (F : ∀ {fuel : Nat} {cs : List Value} {x : DataW H × List MemPlace}, DataW.trod enc P W 0 (fun _ => true) true fuel e cs = some x → FitL W ls cs)
    {fuel : Nat} {cs : List Value} {x : DataW H × List MemPlace} (hf : DataW.trod enc P W 0 (fun _ => true) true fuel t cs = some x) : ∃ a len cap K, cs = [.slice a len cap] ∧ Cs W s a len cap K ∧ ∀ x ∈ K, FitL W ls x := by
  subst hs
  rcases open_slice ht hf with ⟨hcs, _⟩ | ⟨x, l, c, m, n, D, Pl, hcs, _, hlc, hcm, hm, _, hr⟩
  · exact ⟨none, 0, 0, [], hcs, ⟨⟨rfl, fun x hx => by cases hx⟩, ⟨Nat.le_refl _, Nat.zero_le _⟩, fun h => absurd h (by omega)⟩, fun x hx => by cases hx⟩
  · simp only [if_true] at hm
    subst hm
    have each : ∀ i, i < l → ∃ cs', W.cells? 0 (x.add (i * P.cellsOf e)) (P.cellsOf e) = some cs' ∧ FitL W ls cs' := fun i hi => by
      obtain ⟨cs', h1, h2⟩ := hr i (by omega)
      exact ⟨cs', h1, F h2⟩
    have cell : ∀ {a : Addr} {k : Nat} {cs' : List Value}, W.cells? 0 a k = some cs' → cs'.length = k ∧ ∀ q v, cs'[q]? = some v → W.cell? (a.add q) = some v := fun {a k cs'} q => by
      unfold World.cells? at q
      rw [if_pos (Nat.zero_le _)] at q
      obtain ⟨h1, h2⟩ := mapM_at' q
      rw [List.length_range] at h1
      refine ⟨h1.symm, fun i v hv => h2 i i v ?_ hv⟩
      rw [List.getElem?_range (by rw [h1]; exact (List.getElem?_eq_some_iff.1 hv).1)]
    refine ⟨some x, l, _, (List.range l).map fun r => if h : r < l then (each r h).choose else [], hcs, ⟨⟨by simp, fun y hy => ?_⟩, ⟨hlc, hcm⟩, fun h0 => ?_⟩, fun y hy => ?_⟩
    · obtain ⟨i, hi, rfl⟩ := List.mem_map.1 hy
      rw [List.mem_range] at hi
      rw [dif_pos hi]
      exact (cell (each i hi).choose_spec.1).1
    · obtain ⟨b, off, spot⟩ := x
      have c0 := cell (each 0 h0).choose_spec.1
      obtain ⟨v0, hv0⟩ : ∃ v, (each 0 h0).choose[0]? = some v := ⟨_, List.getElem?_eq_getElem (by rw [c0.1]; exact s0)⟩
      have g0 := c0.2 0 v0 hv0
      have hsp : spot = none := by
        have := World.cell?_spot g0
        simpa [Addr.add] using this
      subst hsp
      have hplain : ∀ o j, (⟨b, o, none⟩ : Addr).add j = ⟨b, o + j, none⟩ := fun o j => by unfold Addr.add; split <;> simp_all
      refine ⟨b, off, rfl, ?_, fun q v hq => ?_⟩
      · rw [hplain, hplain] at g0
        exact World.block_lt_of_cell? W _ g0
      · have hL : ∀ y ∈ (List.range l).map (fun r => if h : r < l then (each r h).choose else []), y.length = P.cellsOf e := fun y hy => by
          obtain ⟨i, hi, rfl⟩ := List.mem_map.1 hy
          rw [List.mem_range] at hi
          rw [dif_pos hi]
          exact (cell (each i hi).choose_spec.1).1
        have hql := (List.getElem?_eq_some_iff.1 hq).1
        rw [flatten_len hL, List.length_map, List.length_range] at hql
        have hj : q / P.cellsOf e < l := Nat.div_lt_of_lt_mul (by rw [Nat.mul_comm]; exact hql)
        have hrm := Nat.mod_lt q s0
        have ee : q / P.cellsOf e * P.cellsOf e + q % P.cellsOf e = q := by rw [Nat.mul_comm]; exact Nat.div_add_mod q _
        have fa := flat_at hL (j := q / P.cellsOf e) (i := q % P.cellsOf e) (by rw [List.length_map, List.length_range]; exact hj) hrm
        rw [ee, hq, List.getD_eq_getElem?_getD, List.getElem?_map, List.getElem?_range hj, Option.map_some, Option.getD_some, dif_pos hj] at fa
        have := (cell (each _ hj).choose_spec.1).2 _ _ fa.symm
        rw [hplain, hplain, Nat.add_assoc, ee] at this
        exact this
    · obtain ⟨i, hi, rfl⟩ := List.mem_map.1 hy
      rw [List.mem_range] at hi
      rw [dif_pos hi]
      exact (each i hi).choose_spec.2
theorem keys_of_fit {A : Option Addr} {n c : Nat} {K : List (List Value)} (h : Cs W 32 A n c K) (f : ∀ x ∈ K, FitL W (List.replicate 32 (.i .u8)) x) : ∃ L : List (List UInt8), Cs W 32 A n c (L.map cellsOf) := by
  have q : ∀ K : List (List Value), (∀ x ∈ K, FitL W (List.replicate 32 (.i .u8)) x) → ∃ L : List (List UInt8), K = L.map cellsOf := fun K => by
    induction K with
    | nil => exact fun _ => ⟨[], rfl⟩
    | cons x K ih =>
      intro f
      obtain ⟨L, rfl⟩ := ih fun y hy => f y (List.mem_cons_of_mem _ hy)
      obtain ⟨xs, rfl, _⟩ := (f x (List.mem_cons_self ..)).bytes
      exact ⟨xs :: L, rfl⟩
  obtain ⟨L, rfl⟩ := q K f
  exact ⟨L, h⟩
theorem fit_of_trod : ∀ {d : Nat} {t : TypeId} {ls : List Lf}, leafs P d t = some ls → ∀ {fuel : Nat} {cs : List Value} {x : DataW H × List MemPlace}, DataW.trod enc P W 0 (fun _ => true) true fuel t cs = some x → FitL W ls cs
  | 0, _, _, h, _, _, _, _ => by cases h
  | d + 1, t, ls, h, fuel, cs, x, hf => by
    unfold leafs at h
    split at h
    · rename_i hu
      obtain rfl := Option.some.inj h
      obtain ⟨b, rfl, _⟩ := DataW.trod_bool hu hf
      exact ⟨⟨b, rfl⟩, trivial⟩
    · rename_i k hu
      obtain rfl := Option.some.inj h
      obtain ⟨n, rfl, _, w⟩ := DataW.trod_int hu hf
      exact ⟨⟨n, rfl, w⟩, trivial⟩
    · rename_i e hu
      split at h
      · rename_i hue
        split at h
        · rename_i he
          obtain rfl := Option.some.inj h
          rcases open_ints hu hue he hf with ⟨hcs, _⟩ | ⟨a, l, c, zs, hcs, _, hl, hm, hz, _, hcell, hwz⟩
          · subst hcs
            exact ⟨⟨_, _, _, [], rfl, Bs.nil W⟩, trivial⟩
          · subst hcs
            obtain ⟨xs, q⟩ := bs_of_row (.inr ⟨_, rfl, hl, hm, by simpa using hz, hcell, hwz⟩)
            exact ⟨⟨_, _, _, xs, rfl, q⟩, trivial⟩
        · cases h
      · split at h
        · rename_i he
          obtain rfl := Option.some.inj h
          obtain ⟨a, len, cap, K, rfl, hK, hF⟩ := row_of_trod hu he.2 (by decide) (fun h => fit_of_trod he.1 h) hf
          obtain ⟨L, hL⟩ := keys_of_fit hK hF
          exact ⟨⟨_, _, _, L, rfl, hL⟩, trivial⟩
        · cases h
    · rename_i n e hu
      split at h
      · rename_i hc
        obtain ⟨l, hl, rfl⟩ := Option.map_eq_some_iff.1 h
        obtain ⟨xs, m, _, _, hlen, hxl, hg⟩ := DataW.trod_array hu hf
        rw [← chunks_flatten (P.cellsOf e) n cs (by rw [hlen, hc])]
        refine FitL.flat (by simp) fun i a y ha hy => ?_
        have hi : i < n := by
          have := (List.getElem?_eq_some_iff.1 ha).1
          simpa using this
        obtain rfl : l = a := by rw [List.getElem?_replicate, if_pos hi] at ha; exact Option.some.inj ha
        obtain rfl : (cs.drop (i * P.cellsOf e)).take (P.cellsOf e) = y := by
          rw [List.getElem?_map, List.getElem?_range hi] at hy
          exact Option.some.inj hy
        have := hg i hi
        rw [List.getElem?_eq_getElem (by omega)] at this
        exact fit_of_trod hl this
      · cases h
    · rename_i fs hu
      split at h
      · rename_i hr
        obtain ⟨ll, hl, rfl⟩ := Option.map_eq_some_iff.1 h
        obtain ⟨xs, m, _, _, hlen, hxl, hg⟩ := DataW.trod_struct hu hf
        have e := fields_flatten cs fs.toList 0 _ hr hlen
        rw [List.drop_zero] at e
        rw [← e]
        obtain ⟨h1, h2⟩ := mapM_at' hl
        refine FitL.flat (by rw [List.length_map]; exact h1.symm) fun i a y ha hy => ?_
        obtain ⟨f, hfi, rfl⟩ : ∃ f, fs.toList[i]? = some f ∧ (cs.drop f.offset).take (P.cellsOf f.type) = y := by
          rw [List.getElem?_map] at hy
          exact Option.map_eq_some_iff.1 hy
        have := hg i f (by rwa [Array.getElem?_toList] at hfi)
        have hi : i < xs.length := by
          have := (List.getElem?_eq_some_iff.1 hfi).1
          rw [hxl]; simpa using this
        rw [List.getElem?_eq_getElem hi] at this
        exact fit_of_trod (h2 i f a hfi ha) this
      · cases h
    · cases h
theorem leaf_of_trod {t : TypeId} {v : Value} {r : Reach} {b : Nat} {dt : DataW H} {p : List MemPlace} (d : Nat) {ls : List Lf} (hl : leafs P d t = some ls) (hw : (match P.underlying t with | some (.struct _) | some (.array _ _) => true | _ => false) = true)
    (hv : Value.okWide P W r b t v) (h : DataW.Trod enc P W 0 (fun _ => true) true t v dt p) : ∃ cs, v = .agg cs.toArray ∧ FitL W ls cs := by
  obtain ⟨fuel, hf⟩ := h
  obtain ⟨cs, rfl⟩ : ∃ cs : Array Value, v = .agg cs := by
    split at hw
    · rename_i fs hu
      obtain ⟨cs, q, _⟩ := okWide_struct hu hv
      exact ⟨cs, q⟩
    · rename_i n e hu
      simp only [Value.okWide, hu] at hv
      obtain ⟨cs, q, _⟩ := hv
      exact ⟨cs, q⟩
    · cases hw
  exact ⟨cs.toList, by rw [Array.toArray_toList], fit_of_trod hl hf⟩
theorem leafs_of_trod {t e : TypeId} {a : Option Addr} {len cap : Nat} {dt : DataW H} {p : List MemPlace} (ht : P.underlying t = some (.slice e)) (d : Nat) {ls : List Lf} (hl : leafs P d e = some ls) {s : Nat} (hs : P.cellsOf e = s) (s0 : 0 < s)
    (h : DataW.Trod enc P W 0 (fun _ => true) true t (.slice a len cap) dt p) : ∃ K, Cs W s a len cap K ∧ ∀ x ∈ K, FitL W ls x := by
  obtain ⟨fuel, hf⟩ := h
  obtain ⟨a', len', cap', K, hcs, h1, h2⟩ := row_of_trod ht hs s0 (fun h => fit_of_trod hl h) hf
  simp [Value.cells] at hcs
  obtain ⟨rfl, rfl, rfl⟩ := hcs
  exact ⟨K, h1, h2⟩
end
end Go.Proofs.YtbnjmmefnjoofaaDoor
end

section
/-
  Calls as the law RelayPlays lists them. No conditions.
-/
namespace Go.Proofs.YtbnjmmefnjoofaaDoor
open Go.ChangeShapes Go.WideShapes Go.ChangeAt Go.RowKit Go.Deep
set_option maxRecDepth 100000

structure O20 where
  d : Int
  n : Int
  i : Int
  t : Int
  fr : Int
  tw : Int
  cm : List UInt8
  pk : List UInt8
  p : Int
  k : Int
  A : Option Addr
  c : Nat
  b : List UInt8
  tg : List UInt8
  KA : Option Addr
  kn : Nat
  kc : Nat
  K : List (List UInt8)
def O20.ev (o : O20) : List Value := evC o.fr o.tw o.cm o.pk o.p o.k o.A o.b.length o.c
def O20.C (o : O20) : List Value := [.int .i64 o.d, .int .i64 o.n, .int .i64 o.i, .int .i64 o.t] ++ (o.ev ++ (cellsOf o.tg ++ [.slice o.KA o.kn o.kc]))
def In64 (z : Int) : Prop := -9223372036854775808 ≤ z ∧ z ≤ 9223372036854775807
structure O20.ok (o : O20) (W : World) : Prop where
  n : In64 o.n
  i : In64 o.i
  t : In64 o.t
  fr : In64 o.fr
  tw : In64 o.tw
  cm : o.cm.length = 32
  pk : o.pk.length = 32
  tg : o.tg.length = 32
  bs : Bs W o.A o.b.length o.c o.b
  ks : Cs W 32 o.KA o.kn o.kc (o.K.map cellsOf)
theorem o20_of {W : World} {x : List Value} (h : FitL W (.i .i64 :: (.i .i64 :: (.i .i64 :: (.i .i64 :: (.i .i64 :: (.i .i64 :: (List.replicate 32 (.i .u8) ++ (List.replicate 32 (.i .u8) ++ (.i .i64 :: (.i .i64 :: (.s8 :: (List.replicate 32 (.i .u8) ++ (.sk :: []))))))))))))) x) : ∃ o : O20, x = o.C ∧ o.ok W := by
  obtain ⟨d, r, rfl, _, h⟩ := h.int
  obtain ⟨n, r, rfl, q1, h⟩ := h.int
  obtain ⟨i, r, rfl, q2, h⟩ := h.int
  obtain ⟨t, r, rfl, q3, h⟩ := h.int
  obtain ⟨fr, r, rfl, q4, h⟩ := h.int
  obtain ⟨tw, r, rfl, q5, h⟩ := h.int
  obtain ⟨cm, r, rfl, q6, h⟩ := h.key
  obtain ⟨pk, r, rfl, q7, h⟩ := h.key
  obtain ⟨p, r, rfl, _, h⟩ := h.int
  obtain ⟨k, r, rfl, _, h⟩ := h.int
  obtain ⟨A, m, c, xs, r, rfl, bs, h⟩ := h.bs
  obtain ⟨tg, r, rfl, q8, h⟩ := h.key
  obtain ⟨KA, kn, kc, K, r, rfl, ks, h⟩ := h.ks
  obtain rfl := h.nil
  obtain rfl : xs.length = m := bs.len
  exact ⟨⟨d, n, i, t, fr, tw, cm, pk, p, k, A, c, xs, tg, KA, kn, kc, K⟩, by simp [O20.C, O20.ev, evC, hdC], q1, q2, q3, q4, q5, q6, q7, q8, bs, ks⟩
theorem O20.ev_len {o : O20} {W : World} (h : o.ok W) : o.ev.length = 69 := evC_len h.cm h.pk _ _ _ _ _ _ _
theorem O20.C_len {o : O20} {W : World} (h : o.ok W) : o.C.length = 106 := by
  simp [O20.C, O20.ev_len h, cellsOf_len, h.tg]
theorem list_of20 {W : World} : ∀ {K : List (List Value)}, (∀ x ∈ K, ∃ o : O20, x = o.C ∧ o.ok W) → ∃ L : List O20, K = L.map O20.C ∧ ∀ o ∈ L, o.ok W
  | [], _ => ⟨[], rfl, fun o h => by cases h⟩
  | x :: K, h => by
    obtain ⟨o, rfl, ho⟩ := h x (List.mem_cons_self ..)
    obtain ⟨L, rfl, hL⟩ := list_of20 fun y hy => h y (List.mem_cons_of_mem _ hy)
    exact ⟨o :: L, rfl, fun y hy => by
      rcases List.mem_cons.1 hy with rfl | hy
      · exact ho
      · exact hL y hy⟩
/-- The whole i-th call. -/
theorem o20_all {w : World} {A : Option Addr} {n c : Nat} {L : List O20} (h : Cs w 106 A n c (L.map O20.C)) (ok : ∀ o ∈ L, o.ok w) {i : Nat} (hi : i < n) :
    ∃ b off, ∃ o : O20, A = some ⟨b, off, none⟩ ∧ o.ok w ∧ ∀ s, Ext w s → ∀ q v, o.C[q]? = some v → s.cell? ⟨b, off + i * 106 + q, none⟩ = some v := by
  have hl : L.length = n := by have := h.1.1; rwa [List.length_map] at this
  have hok := ok _ (List.getElem_mem (show i < L.length by omega))
  obtain ⟨b, off, hA, hb, hc⟩ := h.at hi
  have e1 : (L.map O20.C).getD i [] = (L[i]'(by omega)).C := by rw [List.getD_eq_getElem?_getD, List.getElem?_map, List.getElem?_eq_getElem (show i < L.length by omega)]; rfl
  rw [e1] at hc
  exact ⟨b, off, _, hA, hok, fun s e q v hv => (e.cell hb).trans (hc q v hv)⟩
/-- Where the parts of a call lie. -/
theorem O20.parts {o : O20} {W : World} (h : o.ok W) : o.C[0]? = some (.int .i64 o.d) ∧ o.C[1]? = some (.int .i64 o.n) ∧ o.C[2]? = some (.int .i64 o.i) ∧ o.C[3]? = some (.int .i64 o.t) ∧ o.C[4]? = some (.int .i64 o.fr) ∧ o.C[72]? = some (.slice o.A o.b.length o.c) ∧ o.C[105]? = some (.slice o.KA o.kn o.kc) ∧ (∀ q v, o.ev[q]? = some v → o.C[4 + q]? = some v) ∧ ∀ q v, (cellsOf o.tg)[q]? = some v → o.C[73 + q]? = some v := by
  have le := o.ev_len h
  have lt : (cellsOf o.tg).length = 32 := by rw [cellsOf_len, h.tg]
  have E : ∀ q v, o.ev[q]? = some v → o.C[4 + q]? = some v := fun q v hv => by
    show ([Value.int .i64 o.d, .int .i64 o.n, .int .i64 o.i, .int .i64 o.t] ++ (o.ev ++ (cellsOf o.tg ++ [.slice o.KA o.kn o.kc])))[4 + q]? = some v
    rw [List.getElem?_append_right (by simp), show 4 + q - ([Value.int .i64 o.d, .int .i64 o.n, .int .i64 o.i, .int .i64 o.t] : List Value).length = q by simp, List.getElem?_append_left (List.getElem?_eq_some_iff.1 hv).1]
    exact hv
  have ec := ev_cells h.cm h.pk o.fr o.tw o.p o.k o.A o.b.length o.c
  have T : ∀ q, o.C[73 + q]? = (cellsOf o.tg ++ [Value.slice o.KA o.kn o.kc])[q]? := fun q => by
    show ([Value.int .i64 o.d, .int .i64 o.n, .int .i64 o.i, .int .i64 o.t] ++ (o.ev ++ (cellsOf o.tg ++ [.slice o.KA o.kn o.kc])))[73 + q]? = _
    rw [List.getElem?_append_right (by simp; omega), List.getElem?_append_right (by simp; omega)]
    congr 1
    simp; omega
  refine ⟨rfl, rfl, rfl, rfl, E 0 _ ec.1, E 68 _ ec.2.2.1, ?_, E, fun q v hv => ?_⟩
  · have := T 32
    rw [List.getElem?_append_right (by omega), lt] at this
    exact this
  · rw [T, List.getElem?_append_left (List.getElem?_eq_some_iff.1 hv).1]
    exact hv
theorem O20.one (o : O20) : ∀ v ∈ o.C, v.oneCell' = true := fun v hv => by
  simp only [O20.C, O20.ev, evC, hdC, List.mem_append, List.mem_cons, List.not_mem_nil, or_false] at hv
  rcases hv with (rfl | rfl | rfl | rfl) | ((rfl | rfl) | h | (h | rfl | rfl) | rfl) | h | rfl <;> first | rfl | exact one_mem _ v h
theorem o20_built : Tryd.prog.built 40 [] = some (⟨0, 0, 0, 0, 0, 0, List.replicate 32 0, List.replicate 32 0, 0, 0, none, 0, [], List.replicate 32 0, none, 0, 0, []⟩ : O20).C.toArray := by kernel_rfl
theorem o20_alloc (w : World) : (zeroValue 40).run Tryd.prog w = .ok (.agg (⟨0, 0, 0, 0, 0, 0, List.replicate 32 0, List.replicate 32 0, 0, 0, none, 0, [], List.replicate 32 0, none, 0, 0, []⟩ : O20).C.toArray) w := by kernel_rfl
end Go.Proofs.YtbnjmmefnjoofaaDoor
end

section
/-
  The program's relay and the document's side by side: what each call yields.
-/
namespace Go.Proofs.YtbnjmmefnjoofaaDoor
open Go.ChangeShapes Go.WideShapes Go.ChangeAt Go.RowKit Go.Deep Go.Maps
set_option maxRecDepth 100000

theorem hasI_data {id : Int} : ∀ {L R : List Wm}, L.map (·.d) = R.map (·.d) → hasI id L = hasI id R
  | [], [], _ => rfl
  | [], _ :: _, h => by cases h
  | _ :: _, [], h => by cases h
  | x :: L, y :: R, h => by
    have h1 : x.d = y.d := (List.cons.inj h).1
    have h2 := hasI_data (id := id) (L := L) (R := R) (List.cons.inj h).2
    unfold hasI at h2 ⊢
    rw [List.any_cons, List.any_cons, h1, h2]
theorem dropI_data {id : Int} : ∀ {L R : List Wm}, L.map (·.d) = R.map (·.d) → (dropI id L).map (·.d) = (dropI id R).map (·.d)
  | [], [], _ => rfl
  | [], _ :: _, h => by cases h
  | _ :: _, [], h => by cases h
  | x :: L, y :: R, h => by
    have h1 : x.d = y.d := (List.cons.inj h).1
    have h2 : L.map (·.d) = R.map (·.d) := (List.cons.inj h).2
    rw [dropI, dropI, h1]
    split
    · exact h2
    · rw [List.map_cons, List.map_cons, h1, dropI_data h2]
theorem akE_data {last id : Int} {L R : List Wm} (h : L.map (·.d) = R.map (·.d)) : akE L last id = akE R last id := by unfold akE; rw [hasI_data h]
theorem akL_data {last id : Int} {L R : List Wm} (h : L.map (·.d) = R.map (·.d)) : (akL L last id).map (·.d) = (akL R last id).map (·.d) := by
  unfold akL
  split
  · exact h
  · exact dropI_data h
def tagZ (t : TypeId) : Bool := tagY t || tagX t
theorem Tm.z {B : Nat} {a b : World} (h : Tm B tagY a b) : Tm B tagZ a b := ⟨h.1, h.2.1, h.2.2.1, h.2.2.2.1, fun i o hi hc => h.2.2.2.2 i o hi (hc.imp id fun q => by
  cases o with
  | cells cs t f =>
    replace q : tagZ t = false := q
    show tagY t = false
    unfold tagZ at q
    simp only [Bool.or_eq_false_iff] at q
    exact q.1
  | map => exact q
  | _ => rfl)⟩
theorem Tb.z {B : Nat} {a b : World} (h : Tb B tagX a b) : Tm B tagZ a b := ⟨h.1, h.2.1, h.2.2.1, h.2.2.2.1, fun i o hi hc => h.2.2.2.2 i o hi (hc.imp id fun q => by
  cases o with
  | cells cs t f =>
    replace q : tagZ t = false := q
    show tagX t = false
    unfold tagZ at q
    simp only [Bool.or_eq_false_iff] at q
    exact q.2
  | map => rfl
  | _ => rfl)⟩
/-- Both relays, made since w. -/
structure PR (w W : World) (g g' : Nat) (root : List UInt8) (ticks : Nat) (f : Nat → Option Ac) (h : Nat → Option Ra) (N : Nat) : Prop where
  ry : RY w.heap.size W g root ticks f N
  rd : RW w.heap.size W g' root ticks h N
  xt : Ext w W
  sd : Sd20 f h
/-- What a call of the program, and then one of the document's, yield. -/
def St2 (w W : World) (g g' : Nat) (root : List UInt8) (ticks : Nat) (h : Nat → Option Ra) (N N' : Nat) (c1 c2 : FuncId) (a1 a2 : Array Value) (z : Value) : Prop :=
  Calls Tryd.prog c1 a1 W fun e w1 => e = .returned z ∧ ∃ f', RY w.heap.size w1 g root ticks f' N' ∧ Tm w.heap.size tagY W w1 ∧
    ∀ W1, RW w.heap.size W1 g' root ticks h N → Ext w W1 → Calls Tryd.prog c2 a2 W1 fun e w2 => e = .returned z ∧ ∃ h', RW w.heap.size w2 g' root ticks h' N' ∧ Tb w.heap.size tagX W1 w2 ∧ Sd20 f' h'
section
variable {w W W' : World} {g g' ticks N : Nat} {root : List UInt8} {f : Nat → Option Ac} {h : Nat → Option Ra}
theorem PR.ext (p : PR w W g g' root ticks f h N) (e : Ext W W') : PR w W' g g' root ticks f h N := ⟨p.ry.ext e, p.rd.ext e, p.xt.trans e, p.sd⟩
theorem PR.more (p : PR w W g g' root ticks f h N) {N' : Nat} (hN : N ≤ N') : PR w W g g' root ticks f h N' := ⟨p.ry.more hN, p.rd.more hN, p.xt, p.sd⟩
theorem PR.size (p : PR w W g g' root ticks f h N) : w.heap.size ≤ W.heap.size := p.xt.size
/-- Nothing comes of it. -/
theorem PR.idle (p : PR w W g g' root ticks f h N) {c1 c2 : FuncId} {a1 a2 : Array Value} {z : Value} {N' : Nat} (hN : N ≤ N') (h1 : Calls Tryd.prog c1 a1 W fun e w1 => e = .returned z ∧ Ext W w1) (h2 : ∀ W1, RW w.heap.size W1 g' root ticks h N → Ext w W1 → Calls Tryd.prog c2 a2 W1 fun e w2 => e = .returned z ∧ Ext W1 w2) : St2 w W g g' root ticks h N N' c1 c2 a1 a2 z :=
  h1.mono fun e w1 ⟨he, x⟩ => ⟨he, f, (p.ry.ext x).more hN, Tm.of_ext x, fun W1 r x1 => (h2 W1 r x1).mono fun e w2 ⟨he, x2⟩ => ⟨he, h, (r.ext x2).more hN, Tb.of_ext x2, p.sd⟩⟩
theorem Ext.of_eq {a b : World} (h : b = a) : Ext a b := by subst h; exact Ext.refl _
theorem PR.fd (p : PR w W g g' root ticks f h N) (n : Int) : fdR h n = Go.Proofs.YtbnjmmefnjoofaaDoor.fd f n := (p.sd.fd n).symm
theorem PR.ack (p : PR w W g g' root ticks f h N) {n id : Int} (hn : In64 n) : ∃ z : Int, St2 w W g g' root ticks h N N 28 31 #[.pointer (some ⟨g, 0, none⟩), .int .i64 n, .int .i64 id] #[.pointer (some ⟨g', 0, none⟩), .int .i64 n, .int .i64 id] (.int .i64 z) := by
  rcases hf : Go.Proofs.YtbnjmmefnjoofaaDoor.fd f n with _ | j
  · exact ⟨7, p.idle (Nat.le_refl _) ((ryack_no p.ry hn.1 hn.2 hf).mono fun e w1 q => ⟨q.1, Ext.of_eq q.2⟩) fun W1 r x => (rwack_no r hn.1 hn.2 ((p.fd n).trans hf)).mono fun e w2 q => ⟨q.1, Ext.of_eq q.2⟩⟩
  · obtain ⟨rfl, j8, a, ha⟩ := fd_some hf
    obtain ⟨b, hb, t⟩ := p.sd.at ha
    have e1 : akE b.L b.last id = akE a.L a.last id := by
      rw [akE_data t.L, t.last]
    have e2 : (akL a.L a.last id).map (·.d) = (akL b.L b.last id).map (·.d) := by rw [← t.last]; exact akL_data t.L
    refine ⟨akE a.L a.last id, (ryack_ok p.ry p.size ha j8 id).mono fun e w1 ⟨he, r1, t1⟩ => ⟨he, _, r1, t1, fun W1 r x => (rwack_ok r x.size hb j8 id).mono fun e w2 ⟨he, r2, t2⟩ => ⟨by rw [he, e1], _, r2, t2, p.sd.upd ⟨t.lk, t.ib, t.sb, t.K, t.out, e2, t.last, t.t, t.k⟩⟩⟩⟩
theorem PR.susp (p : PR w W g g' root ticks f h N) {n : Int} (hn : In64 n) (b : Bool) : ∃ z : Int, St2 w W g g' root ticks h N N 24 32 #[.pointer (some ⟨g, 0, none⟩), .int .i64 n, .bool b] #[.pointer (some ⟨g', 0, none⟩), .int .i64 n, .bool b] (.int .i64 z) := by
  rcases hf : Go.Proofs.YtbnjmmefnjoofaaDoor.fd f n with _ | j
  · exact ⟨7, p.idle (Nat.le_refl _) ((suspend_no p.ry hn.1 hn.2 hf b).mono fun e w1 q => ⟨q.1, Ext.of_eq q.2⟩) fun W1 r x => (rsuspend_no r hn.1 hn.2 ((p.fd n).trans hf) b).mono fun e w2 q => ⟨q.1, Ext.of_eq q.2⟩⟩
  · obtain ⟨rfl, j8, a, ha⟩ := fd_some hf
    obtain ⟨c, hb, t⟩ := p.sd.at ha
    exact ⟨0, (suspend_ok p.ry ha j8 b).mono fun e w1 ⟨he, r1, t1⟩ => ⟨he, _, r1, t1, fun W1 r x => (rsuspend_ok r hb j8 b).mono fun e w2 ⟨he, r2, t2⟩ => ⟨he, _, r2, t2, p.sd.upd ⟨t.lk, t.ib, t.sb, t.K, rfl, t.L, t.last, t.t, t.k⟩⟩⟩⟩
theorem PR.fetch (p : PR w W g g' root ticks f h N) {n : Int} (hn : In64 n) : ∃ (bb : List UInt8) (ho : Bool) (z : Int), bb.length = 96 ∧ St2 w W g g' root ticks h N N 20 30 #[.pointer (some ⟨g, 0, none⟩), .int .i64 n] #[.pointer (some ⟨g', 0, none⟩), .int .i64 n] (.tuple #[.agg (bbC bb ho).toArray, .int .i64 z]) := by
  rcases hf : Go.Proofs.YtbnjmmefnjoofaaDoor.fd f n with _ | j
  · exact ⟨_, _, 7, rfl, p.idle (Nat.le_refl _) (fetch_no p.ry hn.1 hn.2 hf) fun W1 r x => rwfetch_no r hn.1 hn.2 ((p.fd n).trans hf)⟩
  · obtain ⟨rfl, j8, a, ha⟩ := fd_some hf
    obtain ⟨b, hb, t⟩ := p.sd.at ha
    have la := p.ry.lens ha
    rcases hk : a.K with _ | ⟨k0, ks⟩
    · refine ⟨a.bb, false, 0, a.bb_len la, p.idle (Nat.le_refl _) ((fetch_ok p.ry ha j8 p.size).mono fun e w1 q => q.1 hk) fun W1 r x => (rwfetch_ok r hb j8).mono fun e w2 q => ?_⟩
      have := q.1 (t.K.symm.trans hk)
      rw [← t.ib, ← t.sb] at this
      exact this
    · refine ⟨a.ib ++ (a.sb ++ k0), true, 0, ?_, (fetch_ok p.ry ha j8 p.size).mono fun e w1 q => ?_⟩
      · have l0 : k0.length = 32 := by
          have q := (p.ry.kc ha).1.1.2 (cellsOf k0) (by rw [hk]; exact List.mem_cons_self ..)
          rwa [cellsOf_len] at q
        simp [la.2.1, la.2.2, l0]
      · obtain ⟨he, ⟨A', n', c', r1⟩, t1⟩ := q.2 k0 ks hk
        refine ⟨he, _, r1, t1, fun W1 r x => (rwfetch_ok r hb j8).mono fun e w2 q => ?_⟩
        obtain ⟨he, ⟨A2, n2, c2, r2⟩, t2⟩ := q.2 k0 ks (t.K.symm.trans hk)
        rw [← t.ib, ← t.sb] at he
        exact ⟨he, _, r2, t2, p.sd.upd ⟨t.lk, t.ib, t.sb, rfl, t.out, t.L, t.last, t.t, t.k⟩⟩
theorem PR.reg (p : PR w W g g' root ticks f h N) {n : Int} (hn : In64 n) {lk ib sb ob : List UInt8} {ho : Bool} (h1 : lk.length = 32) (h2 : ib.length = 32) (h3 : sb.length = 32) (h4 : ob.length = 32) {A : Option Addr} {m c : Nat} {K : List (List UInt8)} (hK : Cs w 32 A m c (K.map cellsOf)) :
    ∃ z : Int, St2 w W g g' root ticks h N N 17 29 #[.pointer (some ⟨g, 0, none⟩), .int .i64 n, .agg (cellsOf lk).toArray, .agg (bbC (ib ++ (sb ++ ob)) ho).toArray, .slice A m c] #[.pointer (some ⟨g', 0, none⟩), .int .i64 n, .agg (cellsOf lk).toArray, .agg (bbC (ib ++ (sb ++ ob)) ho).toArray, .slice A m c] (.int .i64 z) := by
  have hm : m ≤ 9223372036854775807 := by have := hK.2.1; unfold maxLen at this; omega
  by_cases hq : n < 0 ∨ 8 ≤ n ∨ 8 < m
  · exact ⟨1, p.idle (Nat.le_refl _) (register_arg hq hn.1 hn.2 hm) fun W1 r x => rwreg_arg hq hn.1 hn.2 hm⟩
  obtain ⟨j, rfl⟩ : ∃ j : Nat, n = (j : Int) := ⟨n.toNat, by omega⟩
  have j8 : j < 8 := by omega
  have m8 : m ≤ 8 := by omega
  rcases p.sd j with ⟨q1, q2⟩ | ⟨a, b, q1, q2, t⟩
  · exact ⟨0, (register_ok p.ry p.size q1 j8 m8 h1 h2 h3 h4 (hK.ext p.xt)).mono fun e w1 ⟨he, ⟨A', c', bx, tk, r1⟩, t1⟩ => ⟨he, _, r1, t1, fun W1 r x => (rwreg_ok r x.size q2 j8 m8 h1 h2 h3 h4 (hK.ext x)).mono fun e w2 ⟨he, ⟨bk, A2, c2, bx2, tk2, r2⟩, t2⟩ => ⟨he, _, r2, t2, p.sd.upd ⟨rfl, rfl, rfl, rfl, rfl, rfl, rfl, rfl, rfl⟩⟩⟩⟩
  · exact ⟨9, p.idle (Nat.le_refl _) (register_twice p.ry q1 j8 m8) fun W1 r x => rwreg_twice r q2 j8 m8⟩
theorem snE_zero {ok : Bool} {fr tw : Int} {T : List UInt8 → List UInt8} {tg : List UInt8} {now : Int} {f : Nat → Option Ac} {X : List UInt8} (hz : adE f ok fr tw X tg now = 0) (he : adE f ok fr tw X tg now = snE h ok fr tw T tg now) : snE h ok fr tw T tg now = 0 := by rw [← he, hz]
theorem bsb_old {A : Option Addr} {m c : Nat} {xs : List UInt8} (h : Bs w A m c xs) (x : Ext w W) : BsB w.heap.size W A m c xs := ⟨h.ext x, fun h0 q hq => by
  obtain ⟨b, off, e, hlt, _⟩ := h.pos h0
  rw [e] at hq
  injection hq with hq
  subst hq
  exact .inl hlt⟩
theorem PR.send (p : PR w W g g' root ticks f h N) (hN : N ≤ 100000) {fr tw pp n : Int} {cm pk body tag : List UInt8} {A : Option Addr} {c : Nat} {now : Int} (hc : cm.length = 32) (hk : pk.length = 32) (ht : tag.length = 32) (hb : Bs w A body.length c body) (hf : In64 fr) (htw : In64 tw) (hnow : In64 now) {tg : TypeId × Nat × Nat} (hG : Gl w tg) :
    ∃ (s : Sm) (z : Int), s.ok ∧ St2 w W g g' root ticks h N (N + 1) 25 34 #[.pointer (some ⟨g, 0, none⟩), .agg (evC fr tw cm pk pp n A body.length c).toArray, .agg (cellsOf tag).toArray, .int .i64 now] #[.pointer (some ⟨g', 0, none⟩), .agg (evC fr tw cm pk pp n A body.length c).toArray, .agg (cellsOf tag).toArray, .int .i64 now] (.tuple #[.agg s.C.toArray, .int .i64 z]) := by
  have S1 := send_calls p.ry p.size hN (p := pp) (n := n) hc hk ht (bsb_old hb p.xt) hf.1 hf.2 htw.1 htw.2 hnow.1 hnow.2 (hG.kept p.xt hG.lt) hG.lt
  have S2 : ∀ W1, RW w.heap.size W1 g' root ticks h N → Ext w W1 → _ := fun W1 r x => rwsend_calls (w := W1) r x.size hN (p := pp) (n := n) hc hk ht (bsb_old hb x) hf.1 hf.2 htw.1 htw.2 hnow.1 hnow.2
  have EE := p.sd.adE (fr := fr) (tw := tw) (p := pp) (n := n) (now := now) (cm := cm) (pk := pk) (body := body) (tag := tag)
  by_cases h0 : adE f (okE fr tw pp n body.length) fr tw (enX fr tw cm pk pp n body) tag now = 0
  · obtain ⟨_, _, i, j, a, b, rfl, rfl, hij, ha, hb', i8, j8, _, _, l8⟩ := adE_zero h0
    obtain ⟨a', ha', ta⟩ := p.sd.at ha
    obtain ⟨b', hb2, tb⟩ := p.sd.at hb'
    obtain ⟨⟨et, t', k'⟩, hq⟩ : ∃ q, bkTake 5 10 a.t a.k now = q := ⟨_, rfl⟩
    have hq' := hq
    rw [ta.t, ta.k] at hq'
    by_cases he : et = 0
    · refine ⟨mkS root ticks (i : Int) (j : Int) cm now, 0, ?_, S1.mono fun e w1 q => ?_⟩
      · exact mkS_ok _ _ _ _ _ hc
      · obtain ⟨e1, ⟨A1, c1, r1⟩, t1⟩ := (q.2 h0 i j a b rfl rfl ha hb' et t' k' hq).2 he
        refine ⟨e1, _, r1, t1, fun W1 r x => (S2 W1 r x).mono fun e w2 q => ?_⟩
        obtain ⟨e2, ⟨A2, c2, r2⟩, t2⟩ := (q.2 (EE ▸ h0) i j a' b' rfl rfl ha' hb2 et t' k' hq').2 he
        have s1 : Sd20 (upd f i (some { a with t := t', k := k' })) (updR h i (some { a' with t := t', k := k' })) := p.sd.upd ⟨ta.lk, ta.ib, ta.sb, ta.K, ta.out, ta.L, ta.last, rfl, rfl⟩
        refine ⟨e2, _, r2, t2, ?_⟩
        refine Sd20.upd s1 ?_
        refine ⟨tb.lk, tb.ib, tb.sb, tb.K, tb.out, ?_, ?_, tb.t, tb.k⟩
        · show (b.L ++ [_]).map _ = (b'.L ++ [_]).map _
          rw [List.map_append, List.map_append, tb.L, tb.last]; rfl
        · show b.last + 1 = b'.last + 1
          rw [tb.last]
    · refine ⟨zSm, et, zSm_ok, S1.mono fun e w1 q => ?_⟩
      obtain ⟨e1, r1, t1⟩ := (q.2 h0 i j a b rfl rfl ha hb' et t' k' hq).1 he
      refine ⟨e1, _, r1.more (Nat.le_succ _), t1, fun W1 r x => (S2 W1 r x).mono fun e w2 q => ?_⟩
      obtain ⟨e2, r2, t2⟩ := (q.2 (EE ▸ h0) i j a' b' rfl rfl ha' hb2 et t' k' hq').1 he
      exact ⟨e2, _, r2.more (Nat.le_succ _), t2, p.sd.upd ⟨ta.lk, ta.ib, ta.sb, ta.K, ta.out, ta.L, ta.last, rfl, rfl⟩⟩
  · refine ⟨zSm, _, zSm_ok, p.idle (Nat.le_succ _) (S1.mono fun e w1 q => q.1 h0) fun W1 r x => (S2 W1 r x).mono fun e w2 q => ?_⟩
    have := q.1 (EE ▸ h0)
    rw [← EE] at this
    exact this
end
end Go.Proofs.YtbnjmmefnjoofaaDoor
end

section
/-
  palfreylaw20: link, bundle, begun.
-/
namespace Go.Proofs.YtbnjmmefnjoofaaDoor
open Go.ChangeShapes Go.WideShapes Go.ChangeAt Go.RowKit Go.Deep Go.Maps
set_option maxRecDepth 100000

/-- A number's byte. -/
def nB (n : Int) : UInt8 := UInt8.ofNat (n % 256).toNat
theorem nB_wrap (n : Int) : IntKind.u8.wrap n = ((nB n).toNat : Int) := by
  rw [IntKind.wrap_u8]
  unfold nB
  rw [UInt8.toNat_ofNat']
  omega
def kyL (n : Int) (x : UInt8) : List UInt8 := [nB n, x] ++ List.replicate 30 0
theorem kyL_len (n : Int) (x : UInt8) : (kyL n x).length = 32 := by simp [kyL]
def linkL (n : Int) : List UInt8 := kyL n 77
def onL : List UInt8 := [9] ++ List.replicate 31 0
theorem onL_len : onL.length = 32 := rfl
theorem zcells (n : Nat) : cellsOf (List.replicate n (0 : UInt8)) = List.replicate n (.int .u8 0) := by
  rw [cellsOf_map, List.map_replicate]
  rfl
theorem kyL_cells (n : Int) (x : UInt8) : cellsOf (kyL n x) = [Value.int .u8 ((nB n).toNat : Int), .int .u8 (x.toNat : Int)] ++ List.replicate 30 (Value.int .u8 0) := by
  unfold kyL
  rw [cellsOf_app, zcells]
  rfl
theorem ky_built (y x : Int) : Tryd.prog.built 23 [(0, .int .u8 y), (1, .int .u8 x)] = some ([Value.int .u8 y, .int .u8 x] ++ List.replicate 30 (Value.int .u8 0)).toArray := by kernel_rfl
theorem link_built (n : Int) (x : UInt8) : Tryd.prog.built 23 [(0, .int .u8 ((nB n).toNat : Int)), (1, .int .u8 (x.toNat : Int))] = some (cellsOf (kyL n x)).toArray := by rw [ky_built, kyL_cells]
theorem on_built : Tryd.prog.built 23 [(0, .int .u8 9)] = some (cellsOf onL).toArray := by kernel_rfl
theorem bundle4 {i s o : List UInt8} {h : Bool} (hi : i.length = 32) (hs : s.length = 32) (ho : o.length = 32) : Tryd.prog.built 53 [(0, .agg (cellsOf i).toArray), (1, .agg (cellsOf s).toArray), (2, .agg (cellsOf o).toArray), (3, .bool h)] = some (bbC (i ++ (s ++ o)) h).toArray := by
  obtain ⟨pl, ⟨q0, q1, q2, q3⟩, hp⟩ := bundle_fill
  rw [hp, zb_split, fill_step q0 (sz32 hi) (by simp [cellsOf_len]), cells_agg, splice_zero (by simpa using cl32 hi), fill_step q1 (sz32 hs) (by simp [cellsOf_len, hi]), cells_agg,
    splice_mid (by simp [cellsOf_len, hi]) (by simpa using cl32 hs)]
  simp only [List.toList_toArray]
  rw [← List.append_assoc (cellsOf i), fill_step q2 (sz32 ho) (by simp [cellsOf_len, hi, hs]), cells_agg, splice_mid (by simp [cellsOf_len, hi, hs]) (by simpa using cl32 ho)]
  simp only [List.toList_toArray]
  have e : (cellsOf i ++ cellsOf s) ++ (cellsOf o ++ [Value.bool false]) = ((cellsOf i ++ cellsOf s) ++ cellsOf o) ++ ([Value.bool false] ++ []) := by simp
  rw [e, fill_step q3 rfl (by simp [cellsOf_len, hi, hs, ho]), cells_bool, splice_mid (by simp [cellsOf_len, hi, hs, ho]) (by simp)]
  simp [Instr.fill, bbC, cellsOf_app]
set_option maxHeartbeats 2000000 in
theorem link_calls {w : World} {n : Int} : Calls Tryd.prog 18 #[.int .i64 n] w fun e w' => e = .returned (.agg (cellsOf (linkL n)).toArray) ∧ Ext w w' := by
  have hw := nB_wrap n
  have BL := Lib.hid (link_built n 77)
  have L : (linkL n).length = 32 := kyL_len n 77
  have hal := key_alloc16
  have S_Z := zeros32_size
  rw [show kyL n 77 = linkL n from rfl] at BL
  have bn : ((nB n).toNat : Int) ≤ 255 := by have := (nB n).toNat_lt; omega
  generalize linkL n = kk at *
  generalize nB n = b at *
  have S_k : (cellsOf kk).toArray.size = 32 := by simp [cellsOf_len, L]
  have O_k := cellsOf_one kk
  generalize zeros32 = Z at *
  have k0 : (w.alloc (.cells Z 23)).heap[w.heap.size]? = some (.cells Z 23 (0, 0)) := heap_alloc_new _ _
  have FIN : Hid (Ext w ((w.alloc (.cells Z 23)).setRow w.heap.size (cellsOf kk).toArray)) := below_setRow ((Ext.refl w).alloc _) (Nat.le_refl _) _
  go_enter Tryd.func18, Tryd.ntmps18
  go_wp2_with (first
    | (refine wpList_build_as rfl _ _ rfl (cellsOf kk).toArray (by simp only [List.map_toArray, List.map_cons, List.map_nil]; exact BL.out) ?_; go_frame)
    | (refine wpList_store_row rfl 23 _ _ rfl w.heap.size (cellsOf kk).toArray rfl rfl 23 Z k0 (by rw [S_k]; rfl) (by rw [S_k, S_Z]) O_k ?_; simp only [Act.put]))
  (try simp only [Exit.inBlock, Exit.then])
  refine bodyPost_ret (results_cell_row rfl _ _ w.heap.size 23 (cellsOf kk).toArray (0, 0) _ rfl (setRow_heap _ _ _ _ _ _ k0) rfl rfl (by rw [S_k]; rfl)) rfl ?_
  exact ⟨rfl, FIN.out⟩
/-- The bundle of an account. -/
def bunN (n : Int) : List Value := bbC (kyL n 1 ++ (kyL n 2 ++ onL)) true
theorem bunN_len (n : Int) : (bunN n).length = 97 := by unfold bunN; rw [bbC_len]; simp [kyL_len, onL_len]
set_option maxHeartbeats 2000000 in
theorem lbundle_calls {w : World} {n : Int} : Calls Tryd.prog 19 #[.int .i64 n] w fun e w' => e = .returned (.agg (bunN n).toArray) ∧ Ext w w' := by
  have hw := nB_wrap n
  have B1 := Lib.hid (link_built n 1)
  have B2 := Lib.hid (link_built n 2)
  have B3 := Lib.hid on_built
  have B4 := Lib.hid (bundle4 (h := true) (kyL_len n 1) (kyL_len n 2) onL_len)
  have L := bunN_len n
  rw [show bbC (kyL n 1 ++ (kyL n 2 ++ onL)) true = bunN n from rfl] at B4
  have hal := bundle_alloc
  have L_z : (bbC (List.replicate 96 0) false).length = 97 := rfl
  have O_b : Hid ((bunN n).toArray.all (·.oneCell') = true) := bbC_one _ _
  generalize bunN n = bb at *
  generalize kyL n 1 = k1 at *
  generalize kyL n 2 = k2 at *
  generalize onL = k3 at *
  generalize nB n = b at *
  generalize bbC (List.replicate 96 0) false = Z at *
  have S_z : Z.toArray.size = 97 := by rw [List.size_toArray, L_z]
  have S_b : bb.toArray.size = 97 := by rw [List.size_toArray, L]
  have k0 : (w.alloc (.cells Z.toArray 53)).heap[w.heap.size]? = some (.cells Z.toArray 53 (0, 0)) := heap_alloc_new _ _
  have FIN : Hid (Ext w ((w.alloc (.cells Z.toArray 53)).setRow w.heap.size bb.toArray)) := below_setRow ((Ext.refl w).alloc _) (Nat.le_refl _) _
  go_enter Tryd.func19, Tryd.ntmps19
  go_wp2_with (first
    | (refine wpList_build_as rfl _ _ rfl (cellsOf k1).toArray (by simp only [List.map_toArray, List.map_cons, List.map_nil]; exact B1.out) ?_; go_frame)
    | (refine wpList_build_as rfl _ _ rfl (cellsOf k2).toArray (by simp only [List.map_toArray, List.map_cons, List.map_nil]; exact B2.out) ?_; go_frame)
    | (refine wpList_build_as rfl _ _ rfl (cellsOf k3).toArray (by simp only [List.map_toArray, List.map_cons, List.map_nil]; exact B3.out) ?_; go_frame)
    | (refine wpList_build_as rfl _ _ rfl bb.toArray (by simp only [List.map_toArray, List.map_cons, List.map_nil]; exact B4.out) ?_; go_frame)
    | (refine wpList_store_row rfl 53 _ _ rfl w.heap.size bb.toArray rfl rfl 53 Z.toArray k0 (by rw [S_b]; rfl) (by rw [S_b, S_z]) O_b.out ?_; simp only [Act.put]))
  (try simp only [Exit.inBlock, Exit.then])
  refine bodyPost_ret (results_cell_row rfl _ _ w.heap.size 53 bb.toArray (0, 0) _ rfl (setRow_heap _ _ _ _ _ _ k0) rfl rfl (by rw [S_b]; rfl)) rfl ?_
  exact ⟨rfl, FIN.out⟩
section
variable {B B' g ticks N : Nat} {w : World} {root : List UInt8} {f : Nat → Option Ac}
theorem RY.lower (h : RY B w g root ticks f N) (hB : B' ≤ B) : RY B' w g root ticks f N := by
  obtain ⟨s, mb, q, own, EE, h⟩ := h
  exact ⟨s, mb, q, own, EE, ⟨h.cb, h.sr, h.en, h.ti, h.ac, ⟨Nat.le_trans hB h.lo.1, Nat.le_trans hB h.lo.2⟩, fun i j z => Nat.le_trans hB (h.ow i j z)⟩⟩
end
/-- A new one's data. -/
def Ac.isNew (a : Ac) (n : Nat) : Prop := a.lk = linkL (n : Int) ∧ a.ib = kyL (n : Int) 1 ∧ a.sb = kyL (n : Int) 2 ∧ a.K = [] ∧ a.out = false ∧ a.L = [] ∧ a.last = 0 ∧ a.t = 0 ∧ a.k = 5
/-- Accounts below k have been registered, just so. -/
def Bg (f : Nat → Option Ac) (k : Nat) : Prop := (∀ n, n < k → ∃ a, f n = some a ∧ a.isNew n) ∧ ∀ n, k ≤ n → f n = none
theorem Bg.more {f : Nat → Option Ac} {k : Nat} (h : Bg f k) {a : Ac} (ha : a.isNew k) : Bg (upd f k (some a)) (k + 1) := by
  refine ⟨fun n hn => ?_, fun n hn => ?_⟩
  · by_cases e : n = k
    · subst e; exact ⟨a, upd_same _ _ _, ha⟩
    · obtain ⟨b, hb, hn'⟩ := h.1 n (by omega)
      exact ⟨b, (upd_other _ _ e).trans hb, hn'⟩
  · rw [upd_other _ _ (by omega)]; exact h.2 n (by omega)
set_option maxHeartbeats 4000000 in
theorem begun20_calls {w : World} {root : List UInt8} (lr : root.length = 32) {B : Nat} (hB : B ≤ w.heap.size) : Calls Tryd.prog 21 #[.agg (cellsOf root).toArray] w fun e w' => ∃ (g : Nat) (f : Nat → Option Ac), e = .returned (.pointer (some ⟨g, 0, none⟩)) ∧ RY B w' g root 5 f 0 ∧ Bg f 3 ∧ B ≤ g ∧ Ext w w' := by
  have NW := Lib.hid (fun W : World => rnew_ok (w := W) (n := 5) lr (by omega) (by omega))
  have LK := Lib.hid (fun (W : World) (n : Nat) => link_calls (w := W) (n := (n : Int)))
  have BN := Lib.hid (fun (W : World) (n : Nat) => lbundle_calls (w := W) (n := (n : Int)))
  have S_r : (cellsOf root).toArray.size = 32 := by simp [cellsOf_len, lr]
  have B0 : Hid ((w.alloc (.cells (cellsOf root).toArray 23)).heap[w.heap.size]? = some (.cells (cellsOf root).toArray 23 (0, 0)) ∧ Ext w (w.alloc (.cells (cellsOf root).toArray 23))) := ⟨heap_alloc_new _ _, (Ext.refl w).alloc _⟩
  go_enter Tryd.func21, Tryd.ntmps21
  go_upto_region 1 with fail
  refine wp_gen (fun W => W.heap[w.heap.size]? = some (.cells (cellsOf root).toArray 23 (0, 0)) ∧ Ext w W) B0.out ?_
  clear B0
  rintro w0 ⟨k0, x0⟩
  replace x0 := Lib.hid x0
  go_wp2_with (first | ((with_reducible refine wpList_load_rowW (o := ⟨some 7, _, _, _, _, _⟩) ?_ 23 _ rfl w.heap.size ?_ 23 (cellsOf root).toArray (0, 0) _ ?_ Tryd.underlying23 ?_ ?_ ?_); (· rfl); (· rfl); (· exact k0); (· rfl); (· rw [S_r]; rfl); go_frame))
  refine (NW.out w0).mono ?_
  rintro e w1 ⟨g, rfl, hg, r1, x1⟩
  have R1 : Hid (RY w.heap.size w1 g root 5 (fun _ => none) 0) := r1.lower x0.out.size
  have X1 : Hid (Ext w w1) := x0.out.trans x1
  have gB : B ≤ g := Nat.le_trans hB (Nat.le_trans x0.out.size hg)
  clear k0 x0 x1 r1 NW hg
  go_wp2_with fail
  go_loopw [5] (fun v wr => ∃ (k : Nat) (f : Nat → Option Ac), k ≤ 3 ∧ v = .int .i64 (k : Int) ∧ RY w.heap.size wr g root 5 f 0 ∧ Bg f k ∧ Ext w wr) (fun v _ => 3 - (intOf v).toNat)
  case atStart => exact ⟨0, fun _ => none, by omega, rfl, R1.out, ⟨fun n hn => absurd hn (by omega), fun _ _ => rfl⟩, X1.out⟩
  case round =>
    obtain ⟨k, f, hk3, rfl, ry, bg, xr⟩ := hrel
    clear R1 X1
    replace ry := Lib.hid ry
    replace bg := Lib.hid bg
    replace xr := Lib.hid xr
    by_cases hlt : k < 3
    · have u1 : decide ((k : Int) < 3) = true := decide_eq_true (by omega)
      go_wp2_with fail
      refine (LK.out _ k).mono ?_
      rintro e w2 ⟨rfl, x2⟩
      replace x2 := Lib.hid x2
      go_wp2_with fail
      refine (BN.out _ k).mono ?_
      rintro e w3 ⟨rfl, x3⟩
      have X3 : Hid (Ext wr w3) := x2.out.trans x3
      have RG := Lib.hid (register_ok (B := w.heap.size) (K := []) (A := none) (m := 0) (c := 0) (ho := true) (ry.out.ext X3.out) (Nat.le_trans xr.out.size X3.out.size) (bg.out.2 k (Nat.le_refl _)) (by omega) (by omega) (kyL_len (k : Int) 77) (kyL_len (k : Int) 1) (kyL_len (k : Int) 2) onL_len (Kc.nil _).1)
      rw [show bbC (kyL (k : Int) 1 ++ (kyL (k : Int) 2 ++ onL)) true = bunN (k : Int) from rfl, show kyL (k : Int) 77 = linkL (k : Int) from rfl] at RG
      have NEWA : Hid (∀ A' c' bx tk, (newA (linkL (k : Int)) (kyL (k : Int) 1) (kyL (k : Int) 2) A' 0 c' [] bx tk).isNew k) := fun _ _ _ _ => ⟨rfl, rfl, rfl, rfl, rfl, rfl, rfl, rfl, rfl⟩
      clear x2 x3
      generalize newA (linkL (k : Int)) (kyL (k : Int) 1) (kyL (k : Int) 2) = NA at *
      generalize linkL (k : Int) = lk at *
      generalize bunN (k : Int) = bn at *
      go_wp2_with fail
      refine RG.out.mono ?_
      rintro e w4 ⟨rfl, ⟨A', c', bx, tk, r4⟩, t4⟩
      replace r4 := Lib.hid r4
      have X4 : Hid (Ext w w4) := Tm.ext (xr.out.trans X3.out) t4
      clear RG t4
      go_wp2_with fail
      go_round
      case rel => exact ⟨k + 1, _, by omega, by go_num, r4.out, bg.out.more (NEWA.out A' c' bx tk), X4.out⟩
      case measure => simp [intOf]; omega
    · obtain rfl : k = 3 := by omega
      have u1 : decide ((3 : Int) < 3) = false := by decide
      rw [show ((3 : Nat) : Int) = 3 from rfl]
      go_wp2_with fail
      go_ret
      exact ⟨g, f, rfl, ry.out.lower hB, bg.out, gB, xr.out⟩
end Go.Proofs.YtbnjmmefnjoofaaDoor
end

section
/-
  A bundle equals itself.
-/
namespace Go.Proofs.YtbnjmmefnjoofaaDoor
open Go.ChangeShapes Go.WideShapes Go.ChangeAt Go.RowKit Go.Deep
set_option maxRecDepth 100000

theorem bun_fields : ∃ f g k l : Field, (Tryd.prog.fieldsOf 53).toList = [f, g, k, l] ∧ (f.type = 23 ∧ f.offset = 0 ∧ f.name ≠ "_") ∧ (g.type = 23 ∧ g.offset = 32 ∧ g.name ≠ "_") ∧ (k.type = 23 ∧ k.offset = 64 ∧ k.name ≠ "_") ∧ (l.type = 4 ∧ l.offset = 96 ∧ l.name ≠ "_") := by
  have h : ((Tryd.prog.fieldsOf 53).toList.map fun f => (f.name, f.type, f.offset)) = [("Identity", 23, 0), ("Signed", 23, 32), ("Once", 23, 64), ("HasOnce", 4, 96)] := by kernel_rfl
  match hl : (Tryd.prog.fieldsOf 53).toList with
  | [] => rw [hl] at h; simp at h
  | [f] => rw [hl] at h; simp at h
  | [f, g] => rw [hl] at h; simp at h
  | [f, g, k] => rw [hl] at h; simp at h
  | [f, g, k, l] =>
    rw [hl] at h
    simp only [List.map_cons, List.map_nil, List.cons.injEq, and_true, Prod.mk.injEq] at h
    exact ⟨f, g, k, l, rfl, ⟨h.1.2.1, h.1.2.2, by rw [h.1.1]; decide⟩, ⟨h.2.1.2.1, h.2.1.2.2, by rw [h.2.1.1]; decide⟩, ⟨h.2.2.1.2.1, h.2.2.1.2.2, by rw [h.2.2.1.1]; decide⟩, h.2.2.2.2.1, h.2.2.2.2.2, by rw [h.2.2.2.1]; decide⟩
  | f :: g :: k :: l :: e :: r => rw [hl] at h; simp at h
theorem part_bool0 {w : World} {K : Array Value} {off : Nat} {v : Value} (h : K[off]? = some v) : (part 4 K off).run Tryd.prog w = .ok v w := by
  simp [part, isAgg, run_underlying Tryd.underlying4, h]
theorem bool_equal1 {d : Nat} {b : Bool} (w : World) : (Op.equalIn (d + 1) 4 (.bool b) (.bool b)).run Tryd.prog w = .ok true w := by
  simp [Op.equalIn, run_underlying Tryd.underlying4]
theorem key_self {d : Nat} {xs : List UInt8} (hx : xs.length = 32) (w : World) : (Op.equalIn (d + 2) 23 (.agg (cellsOf xs).toArray) (.agg (cellsOf xs).toArray)).run Tryd.prog w = .ok true w := by
  rw [key_equalF hx hx, decide_eq_true rfl]
theorem ext_mid {p y q : List Value} {off n : Nat} (hp : p.length = off) (hy : y.length = n) : (p ++ (y ++ q)).toArray.extract off (off + n) = y.toArray := by
  rw [List.extract_toArray, List.extract, List.drop_left' hp, Nat.add_sub_cancel_left, List.take_left' hy]
theorem bun_equal {xs ys zs : List UInt8} {o : Bool} (hx : xs.length = 32) (hy : ys.length = 32) (hz : zs.length = 32) (w : World) :
    (Op.equalIn 10000 53 (.agg (bbC (xs ++ (ys ++ zs)) o).toArray) (.agg (bbC (xs ++ (ys ++ zs)) o).toArray)).run Tryd.prog w = .ok true w := by
  obtain ⟨f, g, k, l, hf, ⟨ht, ho, hn⟩, ⟨gt, go, gn⟩, ⟨kt, ko, kn⟩, lt, lo, ln⟩ := bun_fields
  have e0 : (bbC (xs ++ (ys ++ zs)) o).toArray.extract 0 (0 + 32) = (cellsOf xs).toArray := by
    rw [show bbC (xs ++ (ys ++ zs)) o = [] ++ (cellsOf xs ++ (cellsOf ys ++ (cellsOf zs ++ [.bool o]))) by simp [bbC, cellsOf_app]]
    exact ext_mid rfl (by rw [cellsOf_len, hx])
  have e1 : (bbC (xs ++ (ys ++ zs)) o).toArray.extract 32 (32 + 32) = (cellsOf ys).toArray := by
    rw [show bbC (xs ++ (ys ++ zs)) o = cellsOf xs ++ (cellsOf ys ++ (cellsOf zs ++ [.bool o])) by simp [bbC, cellsOf_app]]
    exact ext_mid (by rw [cellsOf_len, hx]) (by rw [cellsOf_len, hy])
  have e2 : (bbC (xs ++ (ys ++ zs)) o).toArray.extract 64 (64 + 32) = (cellsOf zs).toArray := by
    rw [show bbC (xs ++ (ys ++ zs)) o = (cellsOf xs ++ cellsOf ys) ++ (cellsOf zs ++ [.bool o]) by simp [bbC, cellsOf_app]]
    exact ext_mid (by simp [cellsOf_len, hx, hy]) (by rw [cellsOf_len, hz])
  have e3 : (bbC (xs ++ (ys ++ zs)) o).toArray[96]? = some (.bool o) := by
    rw [List.getElem?_toArray, bbC, List.getElem?_append_right (by simp [cellsOf_len, hx, hy, hz])]
    simp [cellsOf_len, hx, hy, hz]
  generalize (bbC (xs ++ (ys ++ zs)) o).toArray = K at *
  rw [run_equalIn_struct w 9999 53 _ _ (by kernel_rfl) (by kernel_rfl), hf]
  have b9 := bool_equal1 (d := 9998) (b := o) w
  simp only [Op.eqFields, ht, ho, if_pos hn, gt, go, if_pos gn, kt, ko, if_pos kn, lt, lo, if_pos ln, Sem.run_bind, part_keyF, part_bool0 e3, Result.andThen_ok, e0, e1, e2, key_self (d := 9997) hx, key_self (d := 9997) hy, key_self (d := 9997) hz, b9, Bool.not_true, Bool.false_eq_true, if_false]
  rfl
theorem bun_guard : Tryd.prog.eqGuardType Tryd.prog.depth 53 = false := by kernel_rfl
theorem exec_eql_bun {o : Oper} {a : Act} {w : World} {x y : Operand} {t' : TypeId} {L : List Value} (hL : ∃ xs ys zs b, L = bbC (xs ++ (ys ++ zs)) b ∧ xs.length = 32 ∧ ys.length = 32 ∧ zs.length = 32) (ho : o.op = .binOp .eql 53 x y t') (hx : a.eval x = .agg L.toArray) (hy : a.eval y = .agg L.toArray) :
    (execOp a.eval o).run Tryd.prog w = .ok (.value (.bool true)) w := by
  obtain ⟨xs, ys, zs, b, rfl, hp, hq, hr⟩ := hL
  unfold execOp
  simp only [ho, hx, hy, Sem.run_bind, run_eqGuard_agg _ _ _ _ _ _ _ bun_guard, Result.andThen_ok, run_eql_struct, bun_equal hp hq hr, Sem.run_pure]
theorem exec_neq_bun {o : Oper} {a : Act} {w : World} {x y : Operand} {t' : TypeId} {L : List Value} (hL : ∃ xs ys zs b, L = bbC (xs ++ (ys ++ zs)) b ∧ xs.length = 32 ∧ ys.length = 32 ∧ zs.length = 32) (ho : o.op = .binOp .neq 53 x y t') (hx : a.eval x = .agg L.toArray) (hy : a.eval y = .agg L.toArray) :
    (execOp a.eval o).run Tryd.prog w = .ok (.value (.bool false)) w := by
  obtain ⟨xs, ys, zs, b, rfl, hp, hq, hr⟩ := hL
  unfold execOp
  simp only [ho, hx, hy, Sem.run_bind, run_eqGuard_agg _ _ _ _ _ _ _ bun_guard, Result.andThen_ok, run_neq_struct, run_eql_struct, bun_equal hp hq hr, Sem.run_pure, Bool.not_true]
end Go.Proofs.YtbnjmmefnjoofaaDoor
end

section
/-
  A stamp equals itself.
-/
namespace Go.Proofs.YtbnjmmefnjoofaaDoor
open Go.ChangeShapes Go.WideShapes Go.ChangeAt Go.RowKit Go.Deep
set_option maxRecDepth 100000

theorem stamp_fields : ∃ a b c d e f : Field, (Tryd.prog.fieldsOf 67).toList = [a, b, c, d, e, f] ∧ ((a.type = 3 ∧ a.offset = 0 ∧ a.name ≠ "_") ∧ (b.type = 3 ∧ b.offset = 1 ∧ b.name ≠ "_") ∧ (c.type = 3 ∧ c.offset = 2 ∧ c.name ≠ "_") ∧ (d.type = 3 ∧ d.offset = 3 ∧ d.name ≠ "_")) ∧ (e.type = 23 ∧ e.offset = 4 ∧ e.name ≠ "_") ∧ (f.type = 23 ∧ f.offset = 36 ∧ f.name ≠ "_") := by
  have h : ((Tryd.prog.fieldsOf 67).toList.map fun f => (f.name, f.type, f.offset)) = [("Epoch", 3, 0), ("From", 3, 1), ("To", 3, 2), ("Time", 3, 3), ("Commit", 23, 4), ("Tag", 23, 36)] := by kernel_rfl
  obtain ⟨a, l1, h0, ha, h⟩ := List.map_eq_cons_iff.1 h
  obtain ⟨b, l2, rfl, hb, h⟩ := List.map_eq_cons_iff.1 h
  obtain ⟨c, l3, rfl, hc, h⟩ := List.map_eq_cons_iff.1 h
  obtain ⟨d, l4, rfl, hd, h⟩ := List.map_eq_cons_iff.1 h
  obtain ⟨e, l5, rfl, he, h⟩ := List.map_eq_cons_iff.1 h
  obtain ⟨f, l6, rfl, hf, h⟩ := List.map_eq_cons_iff.1 h
  obtain rfl := List.map_eq_nil_iff.1 h
  simp only [Prod.mk.injEq] at ha hb hc hd he hf
  exact ⟨a, b, c, d, e, f, h0, ⟨⟨ha.2.1, ha.2.2, by rw [ha.1]; decide⟩, ⟨hb.2.1, hb.2.2, by rw [hb.1]; decide⟩, ⟨hc.2.1, hc.2.2, by rw [hc.1]; decide⟩, ⟨hd.2.1, hd.2.2, by rw [hd.1]; decide⟩⟩, ⟨he.2.1, he.2.2, by rw [he.1]; decide⟩, ⟨hf.2.1, hf.2.2, by rw [hf.1]; decide⟩⟩
theorem stamp_self {ep f t tm : Int} {cm tg : List UInt8} (hc : cm.length = 32) (hg : tg.length = 32) (w : World) :
    (Op.equalIn 10000 67 (.agg (stC ep f t tm cm tg).toArray) (.agg (stC ep f t tm cm tg).toArray)).run Tryd.prog w = .ok true w := by
  obtain ⟨a, b, c, d, e, k, hf, ⟨⟨a1, a2, a3⟩, ⟨b1, b2, b3⟩, ⟨c1, c2, c3⟩, ⟨d1, d2, d3⟩⟩, ⟨e1, e2, e3⟩, ⟨k1, k2, k3⟩⟩ := stamp_fields
  have x0 : (stC ep f t tm cm tg).toArray[0]? = some (.int .i64 ep) := rfl
  have x1 : (stC ep f t tm cm tg).toArray[1]? = some (.int .i64 f) := rfl
  have x2 : (stC ep f t tm cm tg).toArray[2]? = some (.int .i64 t) := rfl
  have x3 : (stC ep f t tm cm tg).toArray[3]? = some (.int .i64 tm) := rfl
  have x4 : (stC ep f t tm cm tg).toArray.extract 4 (4 + 32) = (cellsOf cm).toArray := by
    have q : (stC ep f t tm cm tg).drop 4 = cellsOf cm ++ cellsOf tg := rfl
    rw [List.extract_toArray, List.extract, q, Nat.add_sub_cancel_left, List.take_left' (by rw [cellsOf_len, hc])]
  have x5 : (stC ep f t tm cm tg).toArray.extract 36 (36 + 32) = (cellsOf tg).toArray := by
    rw [List.extract_toArray, List.extract, stC, ← List.append_assoc, List.drop_left' (by simp [cellsOf_len, hc]), Nat.add_sub_cancel_left, List.take_of_length_le (by rw [cellsOf_len, hg]; exact Nat.le_refl _)]
  generalize (stC ep f t tm cm tg).toArray = K at *
  rw [run_equalIn_struct w 9999 67 _ _ (by kernel_rfl) (by kernel_rfl), hf]
  have i0 := int_equalF (d := 9998) (a := ep) (b := ep) w
  have i1 := int_equalF (d := 9998) (a := f) (b := f) w
  have i2 := int_equalF (d := 9998) (a := t) (b := t) w
  have i3 := int_equalF (d := 9998) (a := tm) (b := tm) w
  simp only [Op.eqFields, a1, a2, if_pos a3, b1, b2, if_pos b3, c1, c2, if_pos c3, d1, d2, if_pos d3, e1, e2, if_pos e3, k1, k2, if_pos k3, Sem.run_bind, part_keyF, part_intF x0, part_intF x1, part_intF x2, part_intF x3, Result.andThen_ok, x4, x5, key_equalF (d := 9997) hc hc, key_equalF (d := 9997) hg hg, i0, i1, i2, i3, beq_self_eq_true, Bool.not_true, Bool.false_eq_true, if_false, decide_true]
  rfl
theorem stamp_guard : Tryd.prog.eqGuardType Tryd.prog.depth 67 = false := by kernel_rfl
theorem exec_eql_stamp {o : Oper} {a : Act} {w : World} {x y : Operand} {t' : TypeId} {L : List Value} (hL : ∃ ep f t tm cm tg, L = stC ep f t tm cm tg ∧ cm.length = 32 ∧ tg.length = 32) (ho : o.op = .binOp .eql 67 x y t') (hx : a.eval x = .agg L.toArray) (hy : a.eval y = .agg L.toArray) :
    (execOp a.eval o).run Tryd.prog w = .ok (.value (.bool true)) w := by
  obtain ⟨ep, f, t, tm, cm, tg, rfl, hp, hq⟩ := hL
  unfold execOp
  simp only [ho, hx, hy, Sem.run_bind, run_eqGuard_agg _ _ _ _ _ _ _ stamp_guard, Result.andThen_ok, run_eql_struct, stamp_self hp hq, Sem.run_pure]
theorem exec_neq_stamp {o : Oper} {a : Act} {w : World} {x y : Operand} {t' : TypeId} {L : List Value} (hL : ∃ ep f t tm cm tg, L = stC ep f t tm cm tg ∧ cm.length = 32 ∧ tg.length = 32) (ho : o.op = .binOp .neq 67 x y t') (hx : a.eval x = .agg L.toArray) (hy : a.eval y = .agg L.toArray) :
    (execOp a.eval o).run Tryd.prog w = .ok (.value (.bool false)) w := by
  obtain ⟨ep, f, t, tm, cm, tg, rfl, hp, hq⟩ := hL
  unfold execOp
  simp only [ho, hx, hy, Sem.run_bind, run_eqGuard_agg _ _ _ _ _ _ _ stamp_guard, Result.andThen_ok, run_neq_struct, run_eql_struct, stamp_self hp hq, Sem.run_pure, Bool.not_true]
end Go.Proofs.YtbnjmmefnjoofaaDoor
end
