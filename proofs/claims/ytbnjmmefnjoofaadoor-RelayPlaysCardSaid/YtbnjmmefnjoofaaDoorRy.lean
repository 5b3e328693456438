import Derived.Test.YtbnjmmefnjoofaaDoorPutP
import Derived.Test.YtbnjmmefnjoofaaDoorPkM
import Derived.Test.YtbnjmmefnjoofaaDoorStamp16
/-
  The state of a relay in memory: accounts, boxes, buckets, the stamps' relay. No conditions.
-/
namespace Go.Proofs.YtbnjmmefnjoofaaDoor
open Go.ChangeShapes Go.WideShapes Go.ChangeAt Go.RowKit Go.Deep Go.Maps
set_option maxRecDepth 100000

def zk : List UInt8 := List.replicate 32 0
theorem zk_len : zk.length = 32 := rfl
/-- What is known of one that is registered. -/
structure Ac where
  lk : List UInt8
  ib : List UInt8
  sb : List UInt8
  A : Option Addr
  n : Nat
  c : Nat
  K : List (List UInt8)
  bx : Nat
  tk : Nat
  out : Bool
  L : List Wm
  last : Int
  t : Int
  k : Int
def acL (is : Bool) (lk bb : List UInt8) (h : Bool) (o x y : Value) (out : Bool) : List Value := [.bool is] ++ (cellsOf lk ++ (bbC bb h ++ [o, x, y, .bool out]))
theorem acL_len {is : Bool} {lk bb : List UInt8} {h : Bool} {o x y : Value} {out : Bool} (h1 : lk.length = 32) (h2 : bb.length = 96) : (acL is lk bb h o x y out).length = 134 := by
  simp [acL, cellsOf_len, bbC_len, h1, h2]
theorem acL_at {is : Bool} {lk bb : List UInt8} {h : Bool} {o x y : Value} {out : Bool} (h1 : lk.length = 32) (h2 : bb.length = 96) :
    (acL is lk bb h o x y out)[0]? = some (.bool is) ∧ (acL is lk bb h o x y out)[130]? = some o ∧ (acL is lk bb h o x y out)[131]? = some x ∧ (acL is lk bb h o x y out)[132]? = some y ∧ (acL is lk bb h o x y out)[133]? = some (.bool out) := by
  have q : ∀ i, (acL is lk bb h o x y out)[130 + i]? = [o, x, y, Value.bool out][i]? := fun i => by
    unfold acL
    rw [List.getElem?_append_right (by simp; omega), List.getElem?_append_right (by simp [cellsOf_len, h1]; omega), List.getElem?_append_right (by simp [cellsOf_len, bbC_len, h1, h2]; omega)]
    congr 1
    simp [cellsOf_len, bbC_len, h1, h2]
    omega
  exact ⟨rfl, q 0, q 1, q 2, q 3⟩
theorem acL_set {is : Bool} {lk bb : List UInt8} {h : Bool} {o x y o' : Value} {out out' : Bool} (h1 : lk.length = 32) (h2 : bb.length = 96) :
    (acL is lk bb h o x y out).set 130 o' = acL is lk bb h o' x y out ∧ (acL is lk bb h o x y out).set 133 (.bool out') = acL is lk bb h o x y out' := by
  have q : ∀ i v, i < 4 → (acL is lk bb h o x y out).set (130 + i) v = [.bool is] ++ (cellsOf lk ++ (bbC bb h ++ ([o, x, y, Value.bool out].set i v))) := fun i v hi => by
    unfold acL
    rw [List.set_append_right _ _ (by simp; omega), List.set_append_right _ _ (by simp [cellsOf_len, h1]; omega), List.set_append_right _ _ (by simp [cellsOf_len, bbC_len, h1, h2]; omega)]
    have e : 130 + i - ([Value.bool is] : List Value).length - (cellsOf lk).length - (bbC bb h).length = i := by simp [cellsOf_len, bbC_len, h1, h2]; omega
    rw [e]
  exact ⟨q 0 o' (by omega), q 3 (.bool out') (by omega)⟩
/-- The link's key, and the bundle. -/
theorem acL_link {is : Bool} {lk bb : List UInt8} {h : Bool} {o x y : Value} {out : Bool} (i : Nat) (v : Value) (hv : (cellsOf lk)[i]? = some v) : (acL is lk bb h o x y out)[1 + i]? = some v := by
  unfold acL
  rw [List.getElem?_append_right (by simp), List.getElem?_append_left (by simpa using (List.getElem?_eq_some_iff.1 hv).1)]
  simpa using hv
theorem acL_bun {is : Bool} {lk bb : List UInt8} {h : Bool} {o x y : Value} {out : Bool} (h1 : lk.length = 32) (i : Nat) (v : Value) (hv : (bbC bb h)[i]? = some v) : (acL is lk bb h o x y out)[33 + i]? = some v := by
  unfold acL
  rw [List.getElem?_append_right (by simp <;> omega), List.getElem?_append_right (by simp [cellsOf_len, h1] <;> omega)]
  have e : 33 + i - ([Value.bool is] : List Value).length - (cellsOf lk).length = i := by simp [cellsOf_len, h1] <;> omega
  rw [e, List.getElem?_append_left (List.getElem?_eq_some_iff.1 hv).1]
  exact hv
def Ac.bb (a : Ac) : List UInt8 := a.ib ++ (a.sb ++ zk)
def Ac.C (a : Ac) : List Value := acL true a.lk a.bb false (.slice a.A a.n a.c) (.pointer (some ⟨a.bx, 0, none⟩)) (.pointer (some ⟨a.tk, 0, none⟩)) a.out
def zA : List Value := acL false zk (zk ++ (zk ++ zk)) false (.slice none 0 0) (.pointer none) (.pointer none) false
def oC : Option Ac → List Value
  | none => zA
  | some a => a.C
def Ac.lens (a : Ac) : Prop := a.lk.length = 32 ∧ a.ib.length = 32 ∧ a.sb.length = 32
theorem Ac.bb_len {a : Ac} (h : a.lens) : a.bb.length = 96 := by simp [Ac.bb, h.2.1, h.2.2, zk_len]
theorem Ac.C_len {a : Ac} (h : a.lens) : a.C.length = 134 := acL_len h.1 (a.bb_len h)
theorem zA_len : zA.length = 134 := rfl
theorem acL_one {is : Bool} {lk bb : List UInt8} {h : Bool} {o x y : Value} {out : Bool} (ho : o.oneCell' = true) (hx : x.oneCell' = true) (hy : y.oneCell' = true) : ∀ v ∈ acL is lk bb h o x y out, v.oneCell' = true := fun v hv => by
  simp only [acL, bbC, List.mem_append, List.mem_cons, List.not_mem_nil, or_false] at hv
  rcases hv with rfl | h | (h | rfl) | rfl | rfl | rfl | rfl
  · rfl
  · exact one_mem _ v h
  · exact one_mem _ v h
  · rfl
  · exact ho
  · exact hx
  · exact hy
  · rfl
def FOk (f : Nat → Option Ac) : Prop := ∀ j a, f j = some a → a.lens
theorem oC_len {f : Nat → Option Ac} (h : FOk f) (j : Nat) : (oC (f j)).length = 134 := by
  rcases q : f j with _ | a
  · exact zA_len
  · exact a.C_len (h j a q)
def rC (s : Nat) (f : Nat → Option Ac) : List Value := [.pointer (some ⟨s, 0, none⟩)] ++ ((List.range 8).map fun j => oC (f j)).flatten
def rCp (s : Nat) (f : Nat → Option Ac) (j : Nat) : List Value := [.pointer (some ⟨s, 0, none⟩)] ++ ((List.range j).map fun j => oC (f j)).flatten
def rCq (f : Nat → Option Ac) (j : Nat) : List Value := ((List.range' (j + 1) (7 - j)).map fun j => oC (f j)).flatten
theorem rC_split (s : Nat) (f : Nat → Option Ac) {j : Nat} (hj : j < 8) : rC s f = rCp s f j ++ (oC (f j) ++ rCq f j) := by
  have q : ∀ j < 8, List.range 8 = List.range j ++ j :: List.range' (j + 1) (7 - j) := by decide
  unfold rC rCp rCq
  rw [q j hj, List.map_append, List.flatten_append, List.map_cons, List.flatten_cons, List.append_assoc]
theorem rCp_len {s : Nat} {f : Nat → Option Ac} (h : FOk f) (j : Nat) : (rCp s f j).length = 1 + j * 134 := by
  unfold rCp
  rw [List.length_append, flatten_len (s := 134) (fun x hx => by obtain ⟨i, _, rfl⟩ := List.mem_map.1 hx; exact oC_len h i), List.length_map, List.length_range]
  rfl
def upd (f : Nat → Option Ac) (j : Nat) (x : Option Ac) : Nat → Option Ac := fun i => if i = j then x else f i
theorem upd_same (f : Nat → Option Ac) (j : Nat) (x : Option Ac) : upd f j x j = x := if_pos rfl
theorem upd_other (f : Nat → Option Ac) {i j : Nat} (x : Option Ac) (h : i ≠ j) : upd f j x i = f i := if_neg h
theorem rC_upd (s : Nat) (f : Nat → Option Ac) {j : Nat} (x : Option Ac) (hj : j < 8) : rC s (upd f j x) = rCp s f j ++ (oC x ++ rCq f j) := by
  rw [rC_split s _ hj, upd_same]
  have e1 : rCp s (upd f j x) j = rCp s f j := by
    unfold rCp
    congr 2
    refine List.map_congr_left fun i hi => ?_
    have := List.mem_range.1 hi
    rw [upd_other _ _ (by omega)]
  have e2 : rCq (upd f j x) j = rCq f j := by
    unfold rCq
    congr 1
    refine List.map_congr_left fun i hi => ?_
    obtain ⟨h1, _⟩ := List.mem_range'_1.1 hi
    rw [upd_other _ _ (by omega)]
  rw [e1, e2]
theorem FOk.upd {f : Nat → Option Ac} (h : FOk f) {j : Nat} {x : Option Ac} (hx : ∀ a, x = some a → a.lens) : FOk (upd f j x) := fun i a hi => by
  by_cases e : i = j
  · subst e
    rw [upd_same] at hi
    exact hx a hi
  · rw [upd_other _ _ e] at hi
    exact h i a hi
/-- A cell of an account. -/
theorem rC_cell {s : Nat} {f : Nat → Option Ac} (h : FOk f) {j : Nat} (hj : j < 8) {i : Nat} {v : Value} (hv : (oC (f j))[i]? = some v) : (rC s f)[1 + j * 134 + i]? = some v := by
  rw [rC_split s f hj, List.getElem?_append_right (by rw [rCp_len h]; omega), rCp_len h, Nat.add_sub_cancel_left, List.getElem?_append_left (List.getElem?_eq_some_iff.1 hv).1, hv]
/-- A cell of an account is set. -/
theorem rC_set {s : Nat} {f : Nat → Option Ac} (h : FOk f) {j : Nat} (hj : j < 8) {i : Nat} (hi : i < 134) {v : Value} {x : Option Ac} (hx : (oC (f j)).set i v = oC x) : (rC s f).set (1 + j * 134 + i) v = rC s (upd f j x) := by
  rw [rC_upd s f x hj, rC_split s f hj, List.set_append_right _ _ (by rw [rCp_len h]; omega), rCp_len h, Nat.add_sub_cancel_left, List.set_append_left _ _ (by rw [oC_len h]; exact hi), hx]

/-- Keys in a slice, in a block of keys. -/
def Kc (w : World) (A : Option Addr) (n c : Nat) (K : List (List UInt8)) : Prop := Cs w 32 A n c (K.map cellsOf) ∧ (0 < n → ∀ q, A = some q → ∃ cs, w.heap[q.block]? = some (Obj.cells cs 23 (0, 0)))
theorem Kc.keep {w w' : World} {A : Option Addr} {n c : Nat} {K : List (List UInt8)} (h : Kc w A n c K) (k : ∀ (i : Nat) (cs : Array Value), w.heap[i]? = some (Obj.cells cs 23 (0, 0)) → w'.heap[i]? = some (Obj.cells cs 23 (0, 0))) : Kc w' A n c K := by
  refine ⟨⟨h.1.1, h.1.2.1, fun h0 => ?_⟩, fun h0 q hq => ?_⟩
  · obtain ⟨b, off, hA, hb, hc⟩ := h.1.2.2 h0
    obtain ⟨cs, h2⟩ := h.2 h0 _ hA
    have h3 := k _ _ h2
    exact ⟨b, off, hA, heap_lt h3, fun j v hj => (World.cell?_of_block (w := w) (a := ⟨b, off + j, none⟩) (h3.trans h2.symm)).trans (hc j v hj)⟩
  · obtain ⟨cs, h2⟩ := h.2 h0 q hq
    exact ⟨cs, k _ _ h2⟩
theorem Kc.nil (w : World) : Kc w none 0 0 [] := ⟨⟨⟨rfl, fun x hx => by simp at hx⟩, ⟨Nat.le_refl _, by unfold maxLen; omega⟩, fun h => absurd h (by omega)⟩, fun h => absurd h (by omega)⟩

def tagA (t : TypeId) : Bool := t == 126 || t == 73 || t == 148
def tagY (t : TypeId) : Bool := t == 86 || tagA t
def tagM (S : TypeId → Bool) : Obj → Bool
  | .cells _ t _ => S t
  | .map .. => true
  | _ => false
/-- Blocks are as they were, but maps, and such of types among S, from B on. -/
def Tm (B : Nat) (S : TypeId → Bool) (a b : World) : Prop := b.os = a.os ∧ b.tape = a.tape ∧ b.output = a.output ∧ a.heap.size ≤ b.heap.size ∧ ∀ i o, a.heap[i]? = some o → (i < B ∨ tagM S o = false) → b.heap[i]? = some o
section
variable {B : Nat} {S : TypeId → Bool} {a b c : World}
theorem Tm.refl (B : Nat) (S : TypeId → Bool) (w : World) : Tm B S w w := ⟨rfl, rfl, rfl, Nat.le_refl _, fun _ _ h _ => h⟩
theorem Tm.trans (h : Tm B S a b) (k : Tm B S b c) : Tm B S a c := ⟨k.1.trans h.1, k.2.1.trans h.2.1, k.2.2.1.trans h.2.2.1, Nat.le_trans h.2.2.2.1 k.2.2.2.1, fun i o hi hc => k.2.2.2.2 i o (h.2.2.2.2 i o hi hc) hc⟩
theorem Tm.of_ext (h : Ext a b) : Tm B S a b := ⟨h.os, h.tape, h.output, h.size, fun _ _ hi _ => (h.block _ (heap_lt hi)).trans hi⟩
theorem Tm.drew (h : Tm B S a b) : Tm B S a b.drew := h
theorem Tm.size (h : Tm B S a b) : a.heap.size ≤ b.heap.size := h.2.2.2.1
theorem Tm.ext {w0 : World} (h : Ext w0 a) (k : Tm w0.heap.size S a b) : Ext w0 b := Below.trans h ⟨k.1, k.2.1, k.2.2.1, k.2.2.2.1, fun i hi => by
  have hi' : i < a.heap.size := Nat.lt_of_lt_of_le hi h.size
  obtain ⟨o, ho⟩ : ∃ o, a.heap[i]? = some o := ⟨_, Array.getElem?_eq_getElem hi'⟩
  rw [ho]
  exact k.2.2.2.2 i o ho (.inl hi)⟩
theorem Tm.cb {g : Nat} {t : TypeId} {L : List Value} (h : Tm B S a b) (k : Cb a g t L) (ht : S t = false) : Cb b g t L := h.2.2.2.2 _ _ k (.inr ht)
theorem Tm.row {g : Nat} {t : TypeId} {C : Array Value} (h : Tm B S a b) (k : a.heap[g]? = some (Obj.cells C t (0, 0))) (ht : S t = false) : b.heap[g]? = some (Obj.cells C t (0, 0)) := h.2.2.2.2 _ _ k (.inr ht)
theorem Tm.of_grown {r : Nat} (h : a.grownBy b (some r)) (hB : B ≤ r) (hr : ∀ o, a.heap[r]? = some o → tagM S o = true) : Tm B S a b := ⟨h.os, h.tape, h.output, h.size, fun i o hi hc => by
  refine (h.block i (heap_lt hi) fun q => ?_).trans hi
  obtain rfl := Option.some.inj q
  rcases hc with z | z
  · omega
  · rw [hr o hi] at z; cases z⟩
theorem Tm.of_tbp {P : Nat → Prop} {S' : TypeId → Bool} (h : TbP P S' a b) (hP : ∀ i, i < a.heap.size → P i → B ≤ i) (hS : ∀ t, S' t = true → S t = true) : Tm B S a b := ⟨h.1, h.2.1, h.2.2.1, h.2.2.2.1, fun i o hi hc => h.2.2.2.2 i o hi (by
  rcases hc with z | z
  · exact .inl fun q => by have := hP i (heap_lt hi) q; omega
  · right
    cases o with
    | cells cs t fr =>
      have z : S t = false := z
      show S' t = false
      rcases e : S' t with _ | _
      · rfl
      · rw [hS t e] at z; cases z
    | _ => rfl)⟩
theorem Tm.gl {tg : TypeId × Nat × Nat} {w0 : World} (h : Ext w0 a) (k : Tm w0.heap.size S a b) (hG : Gl w0 tg) : Gl b tg := hG.kept (Tm.ext h k) hG.lt
end

/-- An account in memory; its blocks are those that 'own' gives it. -/
structure Ac.at (own : Nat → Option Nat) (j : Nat) (N : Nat) (w : World) (a : Ac) : Prop where
  ln : a.lens
  ks : Kc w a.A a.n a.c a.K
  mb : MBP 126 73 (fun i => own i = some j) w a.bx a.L a.last
  ob : own a.bx = some j
  bk : Bk w a.tk 5 10 a.t a.k
  ok : BkOk 5 10 a.t a.k
  ot : own a.tk = some j
  le : a.L.length ≤ 8 ∧ 0 ≤ a.last ∧ a.last ≤ N
theorem Ac.at.keep {own own' : Nat → Option Nat} {j N N' : Nat} {w w' : World} {a : Ac} (h : a.at own j N w) (ho : ∀ i, i < w.heap.size → own i = some j → own' i = some j) (hN : N ≤ N') (K : ∀ (i : Nat) (cs : Array Value) (t : TypeId), w.heap[i]? = some (Obj.cells cs t (0, 0)) → (own i = some j ∧ tagA t = true ∨ t = 5 ∨ t = 23) → w'.heap[i]? = some (Obj.cells cs t (0, 0))) : a.at own' j N' w' where
  ln := h.ln
  ks := h.ks.keep fun i cs q => K i cs _ q (.inr (.inr rfl))
  mb := h.mb.keep ho fun i cs t q z => K i cs t q (by
    rcases z with ⟨rfl, rfl⟩ | ⟨z, rfl⟩ | rfl
    · exact .inl ⟨h.ob, rfl⟩
    · exact .inl ⟨z, rfl⟩
    · exact .inr (.inl rfl))
  ob := ho _ h.mb.lt h.ob
  bk := K _ _ _ h.bk (.inl ⟨h.ot, rfl⟩)
  ok := h.ok
  ot := ho _ h.bk.lt h.ot
  le := ⟨h.le.1, h.le.2.1, by have := h.le.2.2; omega⟩
/-- The relay at block g, with all that it has. -/
structure RYx (B : Nat) (w : World) (g : Nat) (root : List UInt8) (ticks : Nat) (s mb q : Nat) (own : Nat → Option Nat) (EE : List (Value × Value)) (f : Nat → Option Ac) (N : Nat) : Prop where
  cb : Cb w g 86 (rC s f)
  sr : SR w s mb q root ticks EE
  en : EE.length ≤ N
  ti : 1 ≤ ticks ∧ ticks ≤ 1000000
  ac : ∀ j a, f j = some a → a.at own j N w
  lo : B ≤ g ∧ B ≤ mb
  ow : ∀ i j, own i = some j → B ≤ i
def RY (B : Nat) (w : World) (g : Nat) (root : List UInt8) (ticks : Nat) (f : Nat → Option Ac) (N : Nat) : Prop := ∃ s mb q own EE, RYx B w g root ticks s mb q own EE f N
section
variable {B g ticks s mb q : Nat} {w w' : World} {root : List UInt8} {own : Nat → Option Nat} {EE : List (Value × Value)} {f : Nat → Option Ac} {N : Nat}
theorem RYx.fok (h : RYx B w g root ticks s mb q own EE f N) : FOk f := fun j a hj => (h.ac j a hj).ln
theorem RYx.ext (h : RYx B w g root ticks s mb q own EE f N) (e : Ext w w') : RYx B w' g root ticks s mb q own EE f N where
  cb := h.cb.ext e
  sr := h.sr.ext e
  en := h.en
  ti := h.ti
  ac := fun j a hj => (h.ac j a hj).keep (fun _ _ z => z) (Nat.le_refl _) fun i cs t z _ => (e.block _ (heap_lt z)).trans z
  lo := h.lo
  ow := h.ow
theorem RY.ext (h : RY B w g root ticks f N) (e : Ext w w') : RY B w' g root ticks f N := by
  obtain ⟨s, mb, q, own, EE, h⟩ := h
  exact ⟨s, mb, q, own, EE, h.ext e⟩
theorem RYx.more {N' : Nat} (h : RYx B w g root ticks s mb q own EE f N) (hN : N ≤ N') : RYx B w g root ticks s mb q own EE f N' :=
  ⟨h.cb, h.sr, Nat.le_trans h.en hN, h.ti, fun j a hj => (h.ac j a hj).keep (fun _ _ z => z) hN fun _ _ _ z _ => z, h.lo, h.ow⟩
theorem RY.more {N' : Nat} (h : RY B w g root ticks f N) (hN : N ≤ N') : RY B w g root ticks f N' := by
  obtain ⟨s, mb, q, own, EE, h⟩ := h
  exact ⟨s, mb, q, own, EE, h.more hN⟩
theorem cells_ne {i j : Nat} {t t' : TypeId} {C D : Array Value} (h : w.heap[i]? = some (Obj.cells C t (0, 0))) (k : w.heap[j]? = some (Obj.cells D t' (0, 0))) (ht : t ≠ t') : i ≠ j := by
  rintro rfl
  rw [h] at k
  injection k with k
  injection k with _ k
  exact ht k
theorem map_ne {i j : Nat} {t : TypeId} {C : Array Value} {k : TypeId} {E : List (Value × Value)} (h : w.heap[i]? = some (Obj.cells C t (0, 0))) (m : Mp Tryd.prog k w j E) : i ≠ j := by
  rintro rfl
  obtain ⟨es, c, z⟩ := m.obj
  rw [h] at z
  cases z
/-- The stamps' relay has told. -/
theorem RYx.told (h : RYx B w g root ticks s mb q own EE f N) {E' : List (Value × Value)} {N' : Nat} (hs : SR w' s mb q root ticks E') (hE : E'.length ≤ N') (hN : N ≤ N') (x : w.grownBy w' (some mb)) : RYx B w' g root ticks s mb q own E' f N' ∧ Tm B tagY w w' := by
  have K : ∀ (i : Nat) (cs : Array Value) (t : TypeId), w.heap[i]? = some (Obj.cells cs t (0, 0)) → w'.heap[i]? = some (Obj.cells cs t (0, 0)) := fun i cs t hi => (x.block i (heap_lt hi) fun z => map_ne hi h.sr.mp (Option.some.inj z)).trans hi
  refine ⟨⟨K _ _ _ h.cb, hs, hE, h.ti, fun j a hj => (h.ac j a hj).keep (fun _ _ z => z) hN fun i cs t z _ => K i cs t z, h.lo, h.ow⟩, Tm.of_grown x h.lo.2 fun o ho => ?_⟩
  obtain ⟨es, c, z⟩ := h.sr.mp.obj
  rw [z] at ho
  injection ho with ho
  subst ho
  rfl
/-- A bucket is taken from. -/
theorem RYx.took (h : RYx B w g root ticks s mb q own EE f N) {j : Nat} {a : Ac} (hj : f j = some a) (j8 : j < 8) {t k : Int} (hb : Bk w' a.tk 5 10 t k) (ok : BkOk 5 10 t k) (x : w.grownBy w' (some a.tk)) : RYx B w' g root ticks s mb q own EE (upd f j (some { a with t := t, k := k })) N ∧ Tm B tagY w w' := by
  have hA := h.ac j a hj
  have K : ∀ (i : Nat) (cs : Array Value) (t : TypeId), w.heap[i]? = some (Obj.cells cs t (0, 0)) → i ≠ a.tk → w'.heap[i]? = some (Obj.cells cs t (0, 0)) := fun i cs t hi hn => (x.block i (heap_lt hi) fun z => hn (Option.some.inj z)).trans hi
  have KT : ∀ (i : Nat) (cs : Array Value) (t : TypeId), w.heap[i]? = some (Obj.cells cs t (0, 0)) → t ≠ 148 → w'.heap[i]? = some (Obj.cells cs t (0, 0)) := fun i cs t hi hn => K i cs t hi (cells_ne hi hA.bk hn)
  refine ⟨⟨?_, h.sr.stay ((KT _ _ _ h.sr.cb (by decide)).trans h.sr.cb.symm) ((KT _ _ _ h.sr.kr.1 (by decide)).trans h.sr.kr.1.symm) (x.block _ h.sr.mp.lt fun z => map_ne hA.bk h.sr.mp (Option.some.inj z).symm), h.en, h.ti, fun l b hl => ?_, h.lo, h.ow⟩, Tm.of_grown x (h.ow _ _ hA.ot) fun o ho => ?_⟩
  · have e : rC s (upd f j (some { a with t := t, k := k })) = rC s f := by
      rw [rC_upd s f _ j8, rC_split s f j8, hj]; rfl
    rw [e]
    exact KT _ _ _ h.cb (by decide)
  · by_cases e : l = j
    · subst e
      rw [upd_same] at hl
      injection hl with hl
      subst hl
      exact ⟨hA.ln, hA.ks.keep fun i cs z => KT i cs _ z (by decide), hA.mb.keep (fun _ _ z => z) fun i cs t z y => KT i cs t z (by rcases y with ⟨_, rfl⟩ | ⟨_, rfl⟩ | rfl <;> decide), hA.ob, hb, ok, hA.ot, hA.le⟩
    · rw [upd_other _ _ e] at hl
      refine (h.ac l b hl).keep (fun _ _ z => z) (Nat.le_refl _) fun i cs t z y => K i cs t z fun q => ?_
      subst q
      rcases y with ⟨y, _⟩ | rfl | rfl
      · rw [hA.ot] at y
        exact e (Option.some.inj y).symm
      · exact cells_ne z hA.bk (by decide) rfl
      · exact cells_ne z hA.bk (by decide) rfl
  · have z := hA.bk
    unfold Bk at z
    rw [z] at ho
    injection ho with ho
    subst ho
    rfl
/-- What is new belongs to account j. -/
def fresh (own : Nat → Option Nat) (w : World) (j : Nat) : Nat → Option Nat := fun i => if i < w.heap.size then own i else some j
theorem fresh_old {i j : Nat} (h : i < w.heap.size) : fresh own w j i = own i := if_pos h
theorem fresh_new {i j : Nat} (h : w.heap.size ≤ i) : fresh own w j i = some j := if_neg (by omega)
/-- A box is put into, or let go from. -/
theorem RYx.boxed (h : RYx B w g root ticks s mb q own EE f N) {j : Nat} {a : Ac} (hj : f j = some a) (j8 : j < 8) (hB : B ≤ w.heap.size) {L : List Wm} {last : Int} {N' : Nat} (hN : N ≤ N') (hm : MBP 126 73 (fun i => fresh own w j i = some j) w' a.bx L last) (hl : L.length ≤ 8 ∧ 0 ≤ last ∧ last ≤ N') (x : TbP (fun i => fresh own w j i = some j) tagP w w') :
    RYx B w' g root ticks s mb q (fresh own w j) EE (upd f j (some { a with L := L, last := last })) N' ∧ Tm B tagY w w' := by
  have hA := h.ac j a hj
  have KT : ∀ (i : Nat) (cs : Array Value) (t : TypeId), w.heap[i]? = some (Obj.cells cs t (0, 0)) → tagP t = false → w'.heap[i]? = some (Obj.cells cs t (0, 0)) := fun i cs t hi hn => x.2.2.2.2 i _ hi (.inr hn)
  have ow : ∀ i l, fresh own w j i = some l → B ≤ i := fun i l hi => by
    by_cases q : i < w.heap.size
    · rw [fresh_old q] at hi; exact h.ow i l hi
    · omega
  refine ⟨⟨?_, h.sr.stay ((KT _ _ _ h.sr.cb (by decide)).trans h.sr.cb.symm) ((KT _ _ _ h.sr.kr.1 (by decide)).trans h.sr.kr.1.symm) ?_, Nat.le_trans h.en hN, h.ti, fun l b hl' => ?_, h.lo, ow⟩, Tm.of_tbp x (fun i _ hi => ow i j hi) (fun t ht => ?_)⟩
  · have e : rC s (upd f j (some { a with L := L, last := last })) = rC s f := by
      rw [rC_upd s f _ j8, rC_split s f j8, hj]; rfl
    rw [e]
    exact KT _ _ _ h.cb (by decide)
  · obtain ⟨es, c, z⟩ := h.sr.mp.obj
    rw [z]
    exact x.2.2.2.2 _ _ z (.inr rfl)
  · by_cases e : l = j
    · subst e
      rw [upd_same] at hl'
      injection hl' with hl'
      subst hl'
      exact ⟨hA.ln, hA.ks.keep fun i cs z => KT i cs _ z (by decide), hm, (fresh_old hA.mb.lt).trans hA.ob, KT _ _ _ hA.bk (by decide), hA.ok, (fresh_old hA.bk.lt).trans hA.ot, hl⟩
    · rw [upd_other _ _ e] at hl'
      refine (h.ac l b hl').keep (fun i hi z => (fresh_old hi).trans z) hN fun i cs t z y => ?_
      rcases y with ⟨y, _⟩ | rfl | rfl
      · refine x.2.2.2.2 i _ z (.inl fun q => ?_)
        replace q : fresh own w j i = some j := q
        rw [fresh_old (heap_lt z), y] at q
        exact e (Option.some.inj q)
      · exact KT i cs _ z (by decide)
      · exact KT i cs _ z (by decide)
  · unfold tagP at ht
    unfold tagY tagA
    simp only [Bool.or_eq_true] at ht ⊢
    rcases ht with ht | ht
    · exact .inr (.inl (.inl ht))
    · exact .inr (.inl (.inr ht))
/-- The relay's own row turns. -/
theorem RYx.row (h : RYx B w g root ticks s mb q own EE f N) {own' : Nat → Option Nat} {f' : Nat → Option Ac} {N' : Nat} (hN : N ≤ N') (hc : Cb w' g 86 (rC s f')) (x : w.grownBy w' (some g)) (ha : ∀ j a, f' j = some a → a.at own' j N' w') (ow : ∀ i j, own' i = some j → B ≤ i) : RYx B w' g root ticks s mb q own' EE f' N' ∧ Tm B tagY w w' := by
  have KT : ∀ (i : Nat) (cs : Array Value) (t : TypeId), w.heap[i]? = some (Obj.cells cs t (0, 0)) → t ≠ 86 → w'.heap[i]? = some (Obj.cells cs t (0, 0)) := fun i cs t hi hn => (x.block i (heap_lt hi) fun z => cells_ne hi h.cb hn (Option.some.inj z)).trans hi
  refine ⟨⟨hc, h.sr.stay ((KT _ _ _ h.sr.cb (by decide)).trans h.sr.cb.symm) ((KT _ _ _ h.sr.kr.1 (by decide)).trans h.sr.kr.1.symm) (x.block _ h.sr.mp.lt fun z => map_ne h.cb h.sr.mp (Option.some.inj z).symm), Nat.le_trans h.en hN, h.ti, ha, h.lo, ow⟩, Tm.of_grown x h.lo.1 fun o ho => ?_⟩
  have z := h.cb
  unfold Cb at z
  rw [z] at ho
  injection ho with ho
  subst ho
  rfl
theorem Ac.at.row {a : Ac} {j : Nat} (h : a.at own j N w) {L : List Value} (hc : Cb w g 86 L) (x : w.grownBy w' (some g)) : a.at own j N w' := h.keep (fun _ _ z => z) (Nat.le_refl _) fun i cs t z y => (x.block i (heap_lt z) fun e => by
  have e := Option.some.inj e
  subst e
  rcases y with ⟨_, y⟩ | rfl | rfl
  · refine cells_ne z hc (fun q => ?_) rfl
    subst q
    exact absurd y (by decide)
  · exact cells_ne z hc (by decide) rfl
  · exact cells_ne z hc (by decide) rfl).trans z
end
end Go.Proofs.YtbnjmmefnjoofaaDoor
