import Derived.Test.YteaoacinhdjkeaaBase
import Derived.Deep.Matrix
import Derived.Test.YteaoacinhdjkeaaPkH
import Derived.DeepKeys2
import Derived.Deep.Slices
section
/-
  How the arguments of the statements read: a slice of bytes, of slices of bytes, of numbers. No conditions.
-/
namespace Go.Proofs.Yteaoacinhdjkeaa
open Go.ChangeShapes Go.WideShapes Go.ChangeAt Go.RowKit Go.Deep

theorem bounds_i64 {a : Int} (h : (Lit.int .i64 a).wf = true) : -9223372036854775808 ≤ a ∧ a ≤ 9223372036854775807 := by
  simpa [Lit.wf, IntKind.min, IntKind.max, IntKind.signed, IntKind.bits] using h

section
variable {H : Type} {enc : TypeId × Value → H} {W : World} {P : Program}
theorem bs_of_trod {t e : TypeId} {a : Option Addr} {len cap : Nat} {d : DataW H} {p : List MemPlace} (ht : P.underlying t = some (.slice e)) (he : P.underlying e = some (.int .u8)) (hc : P.cellsOf e = 1)
    (h : DataW.Trod enc P W 0 (fun _ => true) true t (.slice a len cap) d p) : ∃ xs, Bs W a len cap xs := by
  obtain ⟨fuel, hf⟩ := h
  rcases open_ints ht he hc hf with ⟨hcs, _⟩ | ⟨x, l, c, zs, hcs, _, hl, hm, hz, _, hcell, hwz⟩
  · simp [Value.cells] at hcs
    obtain ⟨rfl, rfl, rfl⟩ := hcs
    exact ⟨[], Bs.nil W⟩
  · simp [Value.cells] at hcs
    obtain ⟨rfl, rfl, rfl⟩ := hcs
    exact bs_of_row (.inr ⟨_, rfl, hl, hm, by simpa using hz, hcell, hwz⟩)
end
end Go.Proofs.Yteaoacinhdjkeaa
end

section
/-
  How arguments read that are made of numbers, bools and slices of bytes, at whatever depth of structs and arrays; slices of such. No conditions.
-/
namespace Go.Proofs.Yteaoacinhdjkeaa
open Go.ChangeShapes Go.WideShapes Go.ChangeAt Go.RowKit Go.Deep
set_option maxRecDepth 100000

/-- What a cell may be. -/
inductive Lf where
  | i (k : IntKind)
  | b
  | s8
  deriving DecidableEq
def Fit1 (W : World) : Lf → Value → Prop
  | .i k, v => ∃ n, v = .int k n ∧ (Lit.int k n).wf = true
  | .b, v => ∃ x, v = .bool x
  | .s8, v => ∃ A n c xs, v = .slice A n c ∧ Bs W A n c xs
def FitL (W : World) : List Lf → List Value → Prop
  | [], [] => True
  | l :: ls, v :: vs => Fit1 W l v ∧ FitL W ls vs
  | _, _ => False
section
variable {W : World}
theorem FitL.app : ∀ {a b : List Lf} {x y : List Value}, FitL W a x → FitL W b y → FitL W (a ++ b) (x ++ y)
  | [], _, [], _, _, h => h
  | [], _, _ :: _, _, h, _ => h.elim
  | _ :: _, _, [], _, h, _ => h.elim
  | l :: a, _, v :: x, _, h, k => ⟨h.1, FitL.app h.2 k⟩
theorem FitL.flat : ∀ {A : List (List Lf)} {X : List (List Value)}, A.length = X.length → (∀ (i : Nat) (a : List Lf) (x : List Value), A[i]? = some a → X[i]? = some x → FitL W a x) → FitL W A.flatten X.flatten
  | [], [], _, _ => trivial
  | [], _ :: _, h, _ => by simp at h
  | _ :: _, [], h, _ => by simp at h
  | a :: A, x :: X, h, k => by
    rw [List.flatten_cons, List.flatten_cons]
    exact (k 0 a x rfl rfl).app (FitL.flat (by simpa using h) fun i a' x' h1 h2 => k (i + 1) a' x' h1 h2)
theorem FitL.part : ∀ {a b : List Lf} {cs : List Value}, FitL W (a ++ b) cs → ∃ x y, cs = x ++ y ∧ FitL W a x ∧ FitL W b y
  | [], _, cs, h => ⟨[], cs, rfl, trivial, h⟩
  | _ :: _, _, [], h => h.elim
  | l :: a, _, v :: cs, h => by
    obtain ⟨x, y, rfl, h1, h2⟩ := FitL.part h.2
    exact ⟨v :: x, y, rfl, ⟨h.1, h1⟩, h2⟩
theorem FitL.nil {cs : List Value} (h : FitL W [] cs) : cs = [] := by
  cases cs with
  | nil => rfl
  | cons v r => exact h.elim
theorem FitL.one {l : Lf} {ls : List Lf} {cs : List Value} (h : FitL W (l :: ls) cs) : ∃ v r, cs = v :: r ∧ Fit1 W l v ∧ FitL W ls r := by
  cases cs with
  | nil => exact h.elim
  | cons v r => exact ⟨v, r, rfl, h.1, h.2⟩
theorem FitL.int {ls : List Lf} {cs : List Value} (h : FitL W (.i .i64 :: ls) cs) : ∃ n r, cs = .int .i64 n :: r ∧ (-9223372036854775808 ≤ n ∧ n ≤ 9223372036854775807) ∧ FitL W ls r := by
  obtain ⟨v, r, rfl, ⟨n, rfl, w⟩, h'⟩ := h.one
  exact ⟨n, r, rfl, bounds_i64 w, h'⟩
theorem FitL.u64 {ls : List Lf} {cs : List Value} (h : FitL W (.i .u64 :: ls) cs) : ∃ (n : Nat) (r : List Value), cs = .int .u64 (n : Int) :: r ∧ n < 18446744073709551616 ∧ FitL W ls r := by
  obtain ⟨v, r, rfl, ⟨n, rfl, w⟩, h'⟩ := h.one
  obtain ⟨z, rfl, hz⟩ := nat_u64 w
  exact ⟨z, r, rfl, hz, h'⟩
theorem FitL.u8 {ls : List Lf} {cs : List Value} (h : FitL W (.i .u8 :: ls) cs) : ∃ (n : UInt8) (r : List Value), cs = .int .u8 (n.toNat : Int) :: r ∧ FitL W ls r := by
  obtain ⟨v, r, rfl, ⟨n, rfl, w⟩, h'⟩ := h.one
  have hb : 0 ≤ n ∧ n ≤ 255 := by simpa [Lit.wf, IntKind.min, IntKind.max, IntKind.signed, IntKind.bits] using w
  exact ⟨UInt8.ofNat n.toNat, r, by congr 2; simp; omega, h'⟩
theorem FitL.bool {ls : List Lf} {cs : List Value} (h : FitL W (.b :: ls) cs) : ∃ x r, cs = .bool x :: r ∧ FitL W ls r := by
  obtain ⟨v, r, rfl, ⟨n, rfl⟩, h'⟩ := h.one
  exact ⟨n, r, rfl, h'⟩
theorem FitL.bs {ls : List Lf} {cs : List Value} (h : FitL W (.s8 :: ls) cs) : ∃ A n c xs r, cs = .slice A n c :: r ∧ Bs W A n c xs ∧ FitL W ls r := by
  obtain ⟨v, r, rfl, ⟨A, n, c, xs, rfl, q⟩, h'⟩ := h.one
  exact ⟨A, n, c, xs, r, rfl, q, h'⟩
theorem FitL.bytes : ∀ {n : Nat} {cs : List Value}, FitL W (List.replicate n (.i .u8)) cs → ∃ xs : List UInt8, cs = cellsOf xs ∧ xs.length = n
  | 0, cs, h => ⟨[], FitL.nil h, rfl⟩
  | n + 1, cs, h => by
    rw [List.replicate_succ] at h
    obtain ⟨x, r, rfl, h'⟩ := h.u8
    obtain ⟨xs, rfl, l⟩ := FitL.bytes h'
    exact ⟨x :: xs, by rw [cellsOf_map, cellsOf_map]; rfl, by rw [List.length_cons, l]⟩
theorem FitL.key {ls : List Lf} {cs : List Value} (h : FitL W (List.replicate 32 (.i .u8) ++ ls) cs) : ∃ (xs : List UInt8) (r : List Value), cs = cellsOf xs ++ r ∧ xs.length = 32 ∧ FitL W ls r := by
  obtain ⟨x, y, rfl, h1, h2⟩ := h.part
  obtain ⟨xs, rfl, l⟩ := h1.bytes
  exact ⟨xs, y, rfl, l, h2⟩
end
/-- The cells of a type, where they all are numbers, bools, slices of bytes. -/
def leafs (P : Program) : Nat → TypeId → Option (List Lf)
  | 0, _ => none
  | d + 1, t =>
    match P.underlying t with
    | some .bool => some [.b]
    | some (.int k) => some [.i k]
    | some (.slice e) => (match P.underlying e with | some (.int .u8) => if P.cellsOf e = 1 then some [.s8] else none | _ => none)
    | some (.array n e) => if P.cellsOf t = n * P.cellsOf e then (leafs P d e).map fun l => (List.replicate n l).flatten else none
    | some (.struct fs) => if P.runs 0 fs.toList = some (P.cellsOf t) then (fs.toList.mapM fun f => leafs P d f.type).map List.flatten else none
    | _ => none
theorem mapM_at' {α β : Type} {f : α → Option β} : ∀ {l : List α} {r : List β}, l.mapM f = some r → l.length = r.length ∧ ∀ (i : Nat) (a : α) (b : β), l[i]? = some a → r[i]? = some b → f a = some b
  | [], r, h => by
    obtain rfl : [] = r := by simpa using h
    exact ⟨rfl, fun i a b h => by simp at h⟩
  | x :: l, r, h => by
    rw [List.mapM_cons] at h
    obtain ⟨y, hy, h⟩ := Option.bind_eq_some_iff.1 h
    obtain ⟨ys, hys, h⟩ := Option.bind_eq_some_iff.1 h
    obtain rfl : y :: ys = r := by simpa using h
    obtain ⟨h1, h2⟩ := mapM_at' hys
    refine ⟨by simp [h1], fun i a b ha hb => ?_⟩
    cases i with
    | zero => simp at ha hb; subst ha; subst hb; exact hy
    | succ i => exact h2 i a b (by simpa using ha) (by simpa using hb)
section
variable {H : Type} {enc : TypeId × Value → H} {W : World} {P : Program}
theorem fit_of_trod : ∀ {d : Nat} {t : TypeId} {ls : List Lf}, leafs P d t = some ls → ∀ {fuel : Nat} {cs : List Value} {x : DataW H × List MemPlace}, DataW.trod enc P W 0 (fun _ => true) true fuel t cs = some x → FitL W ls cs
  | 0, _, _, h, _, _, _, _ => by cases h
  | d + 1, t, ls, h, fuel, cs, x, hf => by
    unfold leafs at h
    split at h
    · rename_i hu
      obtain rfl := Option.some.inj h
      obtain ⟨b, rfl, _⟩ := DataW.trod_bool hu hf
      exact ⟨⟨b, rfl⟩, trivial⟩
    · rename_i k hu
      obtain rfl := Option.some.inj h
      obtain ⟨n, rfl, _, w⟩ := DataW.trod_int hu hf
      exact ⟨⟨n, rfl, w⟩, trivial⟩
    · rename_i e hu
      split at h
      · rename_i hue
        split at h
        · rename_i he
          obtain rfl := Option.some.inj h
          rcases open_ints hu hue he hf with ⟨hcs, _⟩ | ⟨a, l, c, zs, hcs, _, hl, hm, hz, _, hcell, hwz⟩
          · subst hcs
            exact ⟨⟨_, _, _, [], rfl, Bs.nil W⟩, trivial⟩
          · subst hcs
            obtain ⟨xs, q⟩ := bs_of_row (.inr ⟨_, rfl, hl, hm, by simpa using hz, hcell, hwz⟩)
            exact ⟨⟨_, _, _, xs, rfl, q⟩, trivial⟩
        · cases h
      · cases h
    · rename_i n e hu
      split at h
      · rename_i hc
        obtain ⟨l, hl, rfl⟩ := Option.map_eq_some_iff.1 h
        obtain ⟨xs, m, _, _, hlen, hxl, hg⟩ := DataW.trod_array hu hf
        rw [← chunks_flatten (P.cellsOf e) n cs (by rw [hlen, hc])]
        refine FitL.flat (by simp) fun i a y ha hy => ?_
        have hi : i < n := by
          have := (List.getElem?_eq_some_iff.1 ha).1
          simpa using this
        obtain rfl : l = a := by rw [List.getElem?_replicate, if_pos hi] at ha; exact Option.some.inj ha
        obtain rfl : (cs.drop (i * P.cellsOf e)).take (P.cellsOf e) = y := by
          rw [List.getElem?_map, List.getElem?_range hi] at hy
          exact Option.some.inj hy
        have := hg i hi
        rw [List.getElem?_eq_getElem (by omega)] at this
        exact fit_of_trod hl this
      · cases h
    · rename_i fs hu
      split at h
      · rename_i hr
        obtain ⟨ll, hl, rfl⟩ := Option.map_eq_some_iff.1 h
        obtain ⟨xs, m, _, _, hlen, hxl, hg⟩ := DataW.trod_struct hu hf
        have e := fields_flatten cs fs.toList 0 _ hr hlen
        rw [List.drop_zero] at e
        rw [← e]
        obtain ⟨h1, h2⟩ := mapM_at' hl
        refine FitL.flat (by rw [List.length_map]; exact h1.symm) fun i a y ha hy => ?_
        obtain ⟨f, hfi, rfl⟩ : ∃ f, fs.toList[i]? = some f ∧ (cs.drop f.offset).take (P.cellsOf f.type) = y := by
          rw [List.getElem?_map] at hy
          exact Option.map_eq_some_iff.1 hy
        have := hg i f (by rwa [Array.getElem?_toList] at hfi)
        have hi : i < xs.length := by
          have := (List.getElem?_eq_some_iff.1 hfi).1
          rw [hxl]; simpa using this
        rw [List.getElem?_eq_getElem hi] at this
        exact fit_of_trod (h2 i f a hfi ha) this
      · cases h
    · cases h
theorem leaf_of_trod {t : TypeId} {v : Value} {r : Reach} {b : Nat} {dt : DataW H} {p : List MemPlace} (d : Nat) {ls : List Lf} (hl : leafs P d t = some ls) (hw : (match P.underlying t with | some (.struct _) | some (.array _ _) => true | _ => false) = true)
    (hv : Value.okWide P W r b t v) (h : DataW.Trod enc P W 0 (fun _ => true) true t v dt p) : ∃ cs, v = .agg cs.toArray ∧ FitL W ls cs := by
  obtain ⟨fuel, hf⟩ := h
  obtain ⟨cs, rfl⟩ : ∃ cs : Array Value, v = .agg cs := by
    split at hw
    · rename_i fs hu
      obtain ⟨cs, q, _⟩ := okWide_struct hu hv
      exact ⟨cs, q⟩
    · rename_i n e hu
      simp only [Value.okWide, hu] at hv
      obtain ⟨cs, q, _⟩ := hv
      exact ⟨cs, q⟩
    · cases hw
  exact ⟨cs.toList, by rw [Array.toArray_toList], fit_of_trod hl hf⟩
theorem leafs_of_trod {t e : TypeId} {a : Option Addr} {len cap : Nat} {dt : DataW H} {p : List MemPlace} (ht : P.underlying t = some (.slice e)) (d : Nat) {ls : List Lf} (hl : leafs P d e = some ls) {s : Nat} (hs : P.cellsOf e = s) (s0 : 0 < s)
    (h : DataW.Trod enc P W 0 (fun _ => true) true t (.slice a len cap) dt p) : ∃ K, Cs W s a len cap K ∧ ∀ x ∈ K, FitL W ls x := by
  subst hs
  obtain ⟨fuel, hf⟩ := h
  rcases open_slice ht hf with ⟨hcs, _⟩ | ⟨x, l, c, m, n, D, Pl, hcs, _, hlc, hcm, hm, _, hr⟩
  · simp [Value.cells] at hcs
    obtain ⟨rfl, rfl, rfl⟩ := hcs
    exact ⟨[], ⟨⟨rfl, fun x hx => by cases hx⟩, ⟨Nat.le_refl _, Nat.zero_le _⟩, fun h => absurd h (by omega)⟩, fun x hx => by cases hx⟩
  · simp [Value.cells] at hcs
    obtain ⟨rfl, rfl, rfl⟩ := hcs
    simp only [if_true] at hm
    subst hm
    have each : ∀ i, i < len → ∃ cs', W.cells? 0 (x.add (i * P.cellsOf e)) (P.cellsOf e) = some cs' ∧ FitL W ls cs' := fun i hi => by
      obtain ⟨cs', h1, h2⟩ := hr i (by omega)
      exact ⟨cs', h1, fit_of_trod hl h2⟩
    have cell : ∀ {a : Addr} {k : Nat} {cs' : List Value}, W.cells? 0 a k = some cs' → cs'.length = k ∧ ∀ q v, cs'[q]? = some v → W.cell? (a.add q) = some v := fun {a k cs'} q => by
      unfold World.cells? at q
      rw [if_pos (Nat.zero_le _)] at q
      obtain ⟨h1, h2⟩ := mapM_at' q
      rw [List.length_range] at h1
      refine ⟨h1.symm, fun i v hv => h2 i i v ?_ hv⟩
      rw [List.getElem?_range (by rw [h1]; exact (List.getElem?_eq_some_iff.1 hv).1)]
    refine ⟨(List.range len).map fun r => if h : r < len then (each r h).choose else [], ⟨⟨by simp, fun y hy => ?_⟩, ⟨hlc, hcm⟩, fun h0 => ?_⟩, fun y hy => ?_⟩
    · obtain ⟨i, hi, rfl⟩ := List.mem_map.1 hy
      rw [List.mem_range] at hi
      rw [dif_pos hi]
      exact (cell (each i hi).choose_spec.1).1
    · obtain ⟨b, off, spot⟩ := x
      have c0 := cell (each 0 h0).choose_spec.1
      obtain ⟨v0, hv0⟩ : ∃ v, (each 0 h0).choose[0]? = some v := ⟨_, List.getElem?_eq_getElem (by rw [c0.1]; exact s0)⟩
      have g0 := c0.2 0 v0 hv0
      have hsp : spot = none := by
        have := World.cell?_spot g0
        simpa [Addr.add] using this
      subst hsp
      have hplain : ∀ o j, (⟨b, o, none⟩ : Addr).add j = ⟨b, o + j, none⟩ := fun o j => by unfold Addr.add; split <;> simp_all
      refine ⟨b, off, rfl, ?_, fun q v hq => ?_⟩
      · rw [hplain, hplain] at g0
        exact World.block_lt_of_cell? W _ g0
      · have hL : ∀ y ∈ (List.range len).map (fun r => if h : r < len then (each r h).choose else []), y.length = P.cellsOf e := fun y hy => by
          obtain ⟨i, hi, rfl⟩ := List.mem_map.1 hy
          rw [List.mem_range] at hi
          rw [dif_pos hi]
          exact (cell (each i hi).choose_spec.1).1
        have hql := (List.getElem?_eq_some_iff.1 hq).1
        rw [flatten_len hL, List.length_map, List.length_range] at hql
        have hj : q / P.cellsOf e < len := Nat.div_lt_of_lt_mul (by rw [Nat.mul_comm]; exact hql)
        have hrm := Nat.mod_lt q s0
        have ee : q / P.cellsOf e * P.cellsOf e + q % P.cellsOf e = q := by rw [Nat.mul_comm]; exact Nat.div_add_mod q _
        have fa := flat_at hL (j := q / P.cellsOf e) (i := q % P.cellsOf e) (by rw [List.length_map, List.length_range]; exact hj) hrm
        rw [ee, hq, List.getD_eq_getElem?_getD, List.getElem?_map, List.getElem?_range hj, Option.map_some, Option.getD_some, dif_pos hj] at fa
        have := (cell (each _ hj).choose_spec.1).2 _ _ fa.symm
        rw [hplain, hplain, Nat.add_assoc, ee] at this
        exact this
    · obtain ⟨i, hi, rfl⟩ := List.mem_map.1 hy
      rw [List.mem_range] at hi
      rw [dif_pos hi]
      exact (each i hi).choose_spec.2
end
end Go.Proofs.Yteaoacinhdjkeaa
end
