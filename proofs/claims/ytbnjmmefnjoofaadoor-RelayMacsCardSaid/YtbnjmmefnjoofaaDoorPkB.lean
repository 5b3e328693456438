import Derived.Test.YtbnjmmefnjoofaaDoorAw20
import Derived.Test.YtbnjmmefnjoofaaDoorPkO
section
/-
  What a law of layer 20 has in memory: a relay, an envelope of one byte, a tag.
-/
namespace Go.Proofs.YtbnjmmefnjoofaaDoor
open Go.ChangeShapes Go.WideShapes Go.ChangeAt Go.RowKit Go.Deep Go.Maps
set_option maxRecDepth 100000

/-- A relay that was begun since w, and what stands beside it. -/
structure Lp (w W : World) (g : Nat) (root : List UInt8) (f : Nat → Option Ac) (N : Nat) : Prop where
  ry : RY w.heap.size W g root 5 f N
  xt : Ext w W
/-- An envelope of one byte in block r, and a tag in block gT. -/
structure Ep (w W : World) (r : Nat) (i j : Nat) (A : Option Addr) (x : UInt8) (gT : Nat) (tag : List UInt8) : Prop where
  ev : Cb W r 37 (xvC i j A)
  bs : BsB w.heap.size W A 1 1 [x]
  kt : Ky W gT tag
section
variable {w W W' : World} {g N N' r i j gT : Nat} {root tag : List UInt8} {f f' : Nat → Option Ac} {A : Option Addr} {x : UInt8}
theorem Lp.ext (h : Lp w W g root f N) (e : Ext W W') : Lp w W' g root f N := ⟨h.ry.ext e, h.xt.trans e⟩
theorem Lp.tm (h : Lp w W g root f N) (r' : RY w.heap.size W' g root 5 f' N') (t : Tm w.heap.size tagY W W') : Lp w W' g root f' N' := ⟨r', Tm.ext h.xt t⟩
theorem Lp.size (h : Lp w W g root f N) : w.heap.size ≤ W.heap.size := h.xt.size
theorem Ep.ext (h : Ep w W r i j A x gT tag) (e : Ext W W') : Ep w W' r i j A x gT tag := ⟨h.ev.ext e, h.bs.ext e, h.kt.ext e⟩
theorem Ep.tm (h : Ep w W r i j A x gT tag) (t : Tm w.heap.size tagY W W') : Ep w W' r i j A x gT tag := ⟨t.cb h.ev rfl, h.bs.tm t, ⟨t.row h.kt.1 rfl, h.kt.2⟩⟩
theorem Lp.send (h : Lp w W g root f N) (e : Ep w W r i j A x gT tag) (hN : N ≤ 100000) {a b : Ac} (ha : f i = some a) (hl : a.lk = linkL (i : Int)) (hb : f j = some b) (i8 : i < 8) (j8 : j < 8) (hij : i ≠ j) {now : Int} (n0 : 0 ≤ now) (n1 : now ≤ 1000000) {tg : TypeId × Nat × Nat} (hG : Gl w tg) :
    Calls Tryd.prog 25 #[.pointer (some ⟨g, 0, none⟩), .agg (xvC i j A).toArray, .agg (cellsOf tag).toArray, .int .i64 now] W fun e w' => ∃ (s : Sm) (er : Int) (f' : Nat → Option Ac), e = .returned (.tuple #[.agg s.C.toArray, .int .i64 er]) ∧ s.ok ∧ Lp w w' g root f' (N + 1) ∧ Tm w.heap.size tagY W w' ∧ StepS f f' i j a b root tag x now s er :=
  (send_std h.ry h.size hN ha hl hb i8 j8 hij e.bs e.kt.2 n0 n1 (hG.kept h.xt hG.lt) hG.lt).mono fun e w' ⟨s, er, f', h1, h2, h3, h4, h5⟩ => ⟨s, er, f', h1, h2, h.tm h3 h4, h4, h5⟩
end
/-- One who is not suspended, to a box with room, at a time that is not past. -/
theorem StepS.rate {f f' : Nat → Option Ac} {i j : Nat} {a b : Ac} {root tag : List UInt8} {x : UInt8} {now : Int} {s : Sm} {er : Int} (h : StepS f f' i j a b root tag x now s er) (hm : macL (linkL (i : Int)) (xvL i j x) = tag) (ho : a.out = false) (hL : b.L.length < 8) (h1 : a.t ≤ now) (h2 : now ≤ 1000000) :
    (bkAt 5 10 a.t a.k now = 0 ∧ er = 10 ∧ f' = upd f i (some { a with t := now, k := 0 })) ∨
    (bkAt 5 10 a.t a.k now ≠ 0 ∧ er = 0 ∧ s = mkS root 5 (i : Int) (j : Int) zk now ∧ ∃ A' c', f' = upd (upd f i (some { a with t := now, k := bkAt 5 10 a.t a.k now - 1 })) j (some { b with L := b.L ++ [⟨(mlOf (i : Int) (j : Int) zk zk 0 0 [x] s).as (b.last + 1), A', c'⟩], last := b.last + 1 })) := by
  rcases h with ⟨q, _⟩ | ⟨_, q, _⟩ | ⟨_, _, q, _⟩ | ⟨_, _, _, et, t', k', q1, q2, q3⟩
  · exact absurd hm q
  · rw [ho] at q; cases q
  · omega
  · unfold bkTake at q1
    rw [if_neg (by omega), if_neg (by omega)] at q1
    by_cases hq : bkAt 5 10 a.t a.k now = 0
    · rw [if_pos hq] at q1
      injection q1 with z1 z2
      injection z2 with z2 z3
      subst z1 z2 z3
      rcases q3 with ⟨_, q⟩ | ⟨q, _⟩
      · exact .inl ⟨hq, q2, q⟩
      · cases q
    · rw [if_neg hq] at q1
      injection q1 with z1 z2
      injection z2 with z2 z3
      subst z1 z2 z3
      rcases q3 with ⟨q, _⟩ | ⟨_, qs, A', c', q⟩
      · exact absurd rfl q
      · exact .inr ⟨hq, q2, qs, A', c', q⟩
theorem bkAt_same {m v t k : Int} (h : k ≤ m) : bkAt m v t k t = k := by
  unfold bkAt
  rw [Int.sub_self, Int.add_zero, if_neg (by omega)]
/-- A box of one is let go. -/
theorem ak_one {x : Wm} {last : Int} (h1 : x.d.id = last) (h2 : 1 ≤ last) : akE [x] last last = 0 ∧ akL [x] last last = [] := by
  have hh : hasI last [x] = true := by unfold hasI; simp [h1]
  have hn : ¬(last < 1 ∨ last < last) := by omega
  refine ⟨?_, ?_⟩
  · unfold akE
    rw [if_neg hn, hh]
    rfl
  · unfold akL
    rw [if_neg hn, dropI, if_pos h1]
theorem ak_nil {last id : Int} : akL [] last id = [] := by
  unfold akL
  split <;> rfl
end Go.Proofs.YtbnjmmefnjoofaaDoor
end

section
/-
  A bit of a key is turned.
-/
namespace Go.Proofs.YtbnjmmefnjoofaaDoor
open Go.ChangeShapes Go.WideShapes Go.ChangeAt Go.RowKit Go.Deep

theorem UInt8.xor_ne {x : Nat} {k : Nat} (hk : k < 8) (hx : x < 256) : x ^^^ 2 ^ k ≠ x := by
  intro h
  have : x ^^^ (x ^^^ 2 ^ k) = x ^^^ x := by rw [h]
  rw [← Nat.xor_assoc, Nat.xor_self, Nat.zero_xor] at this
  have := Nat.pos_of_ne_zero (n := 2 ^ k) (by have := Nat.two_pow_pos k; omega)
  omega

/-- A bit of a byte is turned. -/
def flip (xs : List UInt8) (j k : Nat) : List UInt8 := xs.set j (UInt8.ofNat (bt xs j ^^^ 2 ^ k))
theorem flip_len (xs : List UInt8) (j k : Nat) : (flip xs j k).length = xs.length := by simp [flip]
theorem flip_lt {xs : List UInt8} {j k : Nat} (hk : k < 8) : bt xs j ^^^ 2 ^ k < 256 := Nat.xor_lt_two_pow (n := 8) (bt_lt _ _) (Nat.pow_lt_pow_right (by omega) hk)
theorem bt_set {xs : List UInt8} {j i x : Nat} (hj : j < xs.length) (hx : x < 256) : bt (xs.set j (UInt8.ofNat x)) i = if i = j then x else bt xs i := by
  unfold bt
  by_cases h : i = j
  · subst h
    simp [List.getD, hj]
    omega
  · simp [List.getD, h, List.getElem?_set_ne (Ne.symm h)]
theorem flip_ne {xs : List UInt8} {j k : Nat} (hj : j < xs.length) (hk : k < 8) : ¬ xs = flip xs j k := fun h => by
  have h1 : bt xs j = bt (flip xs j k) j := by rw [← h]
  unfold flip at h1
  rw [bt_set hj (flip_lt hk), if_pos rfl] at h1
  exact UInt8.xor_ne hk (bt_lt _ _) h1.symm
theorem Ky.flip {w : World} {g j k : Nat} {xs : List UInt8} (h : Ky w g xs) (hj : j < 32) (hk : k < 8) : Ky (w.setCell ⟨g, j, none⟩ (.int .u8 ((bt xs j ^^^ 2 ^ k : Nat) : Int))) g (flip xs j k) := by
  refine ⟨?_, by rw [flip_len]; exact h.2⟩
  rw [setCell_eq_setRow w g j _ _ (0, 0) _ h.1, setRow_heap w g _ _ _ _ h.1]
  congr 2
  have hl := h.2
  apply Array.ext'
  rw [Array.toList_setIfInBounds]
  apply List.ext_getElem?
  intro i
  simp only [List.getElem?_set, cellsOf_len]
  by_cases hi : i < 32
  · rw [cellsOf_get (xs := Go.Proofs.YtbnjmmefnjoofaaDoor.flip xs j k) (by rw [flip_len]; omega)]
    unfold Go.Proofs.YtbnjmmefnjoofaaDoor.flip
    rw [bt_set (by omega) (flip_lt hk)]
    by_cases e : j = i
    · subst e; simp [show j < xs.length by omega]
    · rw [if_neg e, if_neg (Ne.symm e)]
      have := cellsOf_get (xs := xs) (j := i) (by omega)
      simpa using this
  · have h1 : (cellsOf xs)[i]? = none := List.getElem?_eq_none (by rw [cellsOf_len]; omega)
    have h2 : (cellsOf (Go.Proofs.YtbnjmmefnjoofaaDoor.flip xs j k))[i]? = none := List.getElem?_eq_none (by rw [cellsOf_len, flip_len]; omega)
    rw [if_neg (by omega)]
    simp only [h2]
    simpa using h1
theorem flip_int {xs : List UInt8} {j k : Nat} (hk : k < 8) : bits .xor .u8 (bt xs j : Int) (IntKind.u8.wrap (2 ^ k)) = ((bt xs j ^^^ 2 ^ k : Nat) : Int) := by
  have h1 : 2 ^ k < 256 := Nat.pow_lt_pow_right (a := 2) (by omega) hk
  have h2 : IntKind.u8.wrap (2 ^ k) = ((2 ^ k : Nat) : Int) := by
    rw [IntKind.wrap_u8, show ((2 : Int) ^ k) = ((2 ^ k : Nat) : Int) by simp]
    generalize 2 ^ k = x at *
    omega
  rw [h2, u8_xor_nat _ _ (bt_lt _ _) h1]
end Go.Proofs.YtbnjmmefnjoofaaDoor
end
