import Derived.Test.YtbnjmmefnjoofaaDoorPkL
/-
  Envelopes that wait: their data, their cells, the state of a box, worlds in which only blocks of some types turn. No conditions.
-/
namespace Go.Proofs.YtbnjmmefnjoofaaDoor
open Go.ChangeShapes Go.WideShapes Go.ChangeAt Go.RowKit Go.Deep
set_option maxRecDepth 100000

structure Ml where
  id : Int
  f : Int
  t : Int
  cm : List UInt8
  pk : List UInt8
  p : Int
  n : Int
  body : List UInt8
  ep : Int
  sf : Int
  st : Int
  tm : Int
  sc : List UInt8
  sg : List UInt8
def Ml.ok (x : Ml) : Prop := (x.cm.length = 32 ∧ x.pk.length = 32) ∧ (x.sc.length = 32 ∧ x.sg.length = 32) ∧ x.body.length ≤ 1000
/-- One with the place of its bytes. -/
structure Wm where
  d : Ml
  A : Option Addr
  c : Nat
def Wm.ev (x : Wm) : List Value := evC x.d.f x.d.t x.d.cm x.d.pk x.d.p x.d.n x.A x.d.body.length x.c
def Ml.stm (d : Ml) : List Value := stC d.ep d.sf d.st d.tm d.sc d.sg
def Wm.C (x : Wm) : List Value := [.int .i64 x.d.id] ++ (x.ev ++ x.d.stm)
theorem Wm.ev_len {x : Wm} (h : x.d.ok) : x.ev.length = 69 := evC_len h.1.1 h.1.2 _ _ _ _ _ _ _
theorem Ml.stm_len {d : Ml} (h : d.ok) : d.stm.length = 68 := stC_len h.2.1.1 h.2.1.2 _ _ _ _
theorem Wm.C_len {x : Wm} (h : x.d.ok) : x.C.length = 138 := by simp [Wm.C, x.ev_len h, x.d.stm_len h]
theorem Wm.one (x : Wm) : ∀ v ∈ x.C, v.oneCell' = true := fun v hv => by
  simp only [Wm.C, List.mem_append, List.mem_cons, List.not_mem_nil, or_false] at hv
  rcases hv with rfl | h | h
  · rfl
  · exact one_ev v h
  · exact one_st v h
theorem Wm.c0 (x : Wm) : x.C[0]? = some (.int .i64 x.d.id) := rfl
theorem Wm.c69 {x : Wm} (h : x.d.ok) : x.C[69]? = some (.slice x.A x.d.body.length x.c) := by
  have q : x.C = [.int .i64 x.d.id] ++ (x.ev ++ x.d.stm) := rfl
  rw [q, List.getElem?_append_right (by simp), List.getElem?_append_left (by rw [x.ev_len h]; simp)]
  exact (ev_cells h.1.1 h.1.2 x.d.f x.d.t x.d.p x.d.n x.A x.d.body.length x.c).2.2.1
theorem Wm.c73 {x : Wm} (h : x.d.ok) : x.C[73]? = some (.int .i64 x.d.tm) := by
  have q : x.C = [.int .i64 x.d.id] ++ (x.ev ++ x.d.stm) := rfl
  rw [q, List.getElem?_append_right (by simp), List.getElem?_append_right (by rw [x.ev_len h]; simp), x.ev_len h]
  rfl
theorem Wm.set69 {x : Wm} (h : x.d.ok) (A : Option Addr) (c : Nat) : x.C.set 69 (Value.slice A x.d.body.length c) = (⟨x.d, A, c⟩ : Wm).C := by
  have l2 : x.d.cm.length = 32 := h.1.1
  have l3 := hdC_len h.1.2 x.d.p x.d.n
  show (([Value.int .i64 x.d.id] ++ (([Value.int .i64 x.d.f, .int .i64 x.d.t] ++ (cellsOf x.d.cm ++ (hdC x.d.pk x.d.p x.d.n ++ [Value.slice x.A x.d.body.length x.c]))) ++ x.d.stm)) : List Value).set 69 (Value.slice A x.d.body.length c) = _
  rw [List.set_append_right _ _ (by simp), List.set_append_left _ _ (by simp [cellsOf_len, l2, l3]), List.set_append_right _ _ (by simp), List.set_append_right _ _ (by simp [cellsOf_len, l2]), List.set_append_right _ _ (by simp [cellsOf_len, l2, l3])]
  simp [cellsOf_len, l2, l3, Wm.C, Wm.ev, evC]

/-- A slice that reads as bytes, in a block of bytes from B on. -/
def BsF (B : Nat) (w : World) (A : Option Addr) (n c : Nat) (xs : List UInt8) : Prop := Bs w A n c xs ∧ (0 < n → ∀ q, A = some q → B ≤ q.block ∧ ∃ cs, w.heap[q.block]? = some (.cells cs 5 (0, 0)))
theorem BsF.keep {B : Nat} {w w' : World} {A : Option Addr} {n c : Nat} {xs : List UInt8} (h : BsF B w A n c xs) (K : ∀ i cs, w.heap[i]? = some (.cells cs 5 (0, 0)) → B ≤ i → w'.heap[i]? = some (.cells cs 5 (0, 0))) : BsF B w' A n c xs := by
  refine ⟨⟨h.1.1, h.1.2.1, h.1.2.2.1, fun h0 => ?_⟩, fun h0 q hq => ?_⟩
  · obtain ⟨b, off, hA, hb, hc⟩ := h.1.2.2.2 h0
    obtain ⟨h1, cs, h2⟩ := h.2 h0 _ hA
    have h3 := K _ _ h2 h1
    exact ⟨b, off, hA, heap_lt h3, fun j hj => (World.cell?_of_block (w := w) (a := ⟨b, off + j, none⟩) (h3.trans h2.symm)).trans (hc j hj)⟩
  · obtain ⟨h1, cs, h2⟩ := h.2 h0 q hq
    exact ⟨h1, cs, K _ _ h2 h1⟩
theorem BsF.ext {B : Nat} {w w' : World} {A : Option Addr} {n c : Nat} {xs : List UInt8} (h : BsF B w A n c xs) (e : Ext w w') : BsF B w' A n c xs := h.keep fun _ _ q _ => (e.block _ (heap_lt q)).trans q
theorem BsF.mono {B B' : Nat} {w : World} {A : Option Addr} {n c : Nat} {xs : List UInt8} (h : BsF B w A n c xs) (hB : B' ≤ B) : BsF B' w A n c xs := ⟨h.1, fun h0 q hq => ⟨Nat.le_trans hB (h.2 h0 q hq).1, (h.2 h0 q hq).2⟩⟩

/-- The state of a box at block g: those that are kept, the last number. -/
def MB (TB TM : TypeId) (B : Nat) (w : World) (g : Nat) (L : List Wm) (last : Int) : Prop :=
  ∃ A n c, Cb w g TB [.slice A n c, .int .i64 last] ∧ OwnC B w TM 138 A n c (L.map Wm.C) ∧ ∀ x ∈ L, x.d.ok ∧ BsF B w x.A x.d.body.length x.c x.d.body
section
variable {TB TM : TypeId} {B : Nat} {w w' : World} {g : Nat} {L : List Wm} {last : Int}
theorem OwnC.keep {e : TypeId} {s : Nat} {A : Option Addr} {n c : Nat} {L : List (List Value)} (h : OwnC B w e s A n c L) (K : ∀ i cs, w.heap[i]? = some (.cells cs e (0, 0)) → B ≤ i → w'.heap[i]? = some (.cells cs e (0, 0))) : OwnC B w' e s A n c L := by
  refine ⟨⟨h.1.1, ?_⟩, h.2⟩
  rcases h.1.2 with h | ⟨g, cap, cur, hv, hb, hg, r⟩
  · exact .inl h
  · exact .inr ⟨g, cap, cur, hv, hb, K _ _ hg hb, r⟩
theorem MB.keep (h : MB TB TM B w g L last) (K : ∀ i cs t, w.heap[i]? = some (.cells cs t (0, 0)) → (i = g ∧ t = TB ∨ B ≤ i ∧ (t = TM ∨ t = 5)) → w'.heap[i]? = some (.cells cs t (0, 0))) : MB TB TM B w' g L last := by
  obtain ⟨A, n, c, h1, h2, h3⟩ := h
  exact ⟨A, n, c, K _ _ _ h1 (.inl ⟨rfl, rfl⟩), h2.keep fun i cs hi hb => K i cs _ hi (.inr ⟨hb, .inl rfl⟩), fun x hx => ⟨(h3 x hx).1, (h3 x hx).2.keep fun i cs hi hb => K i cs _ hi (.inr ⟨hb, .inr rfl⟩)⟩⟩
theorem MB.ext (h : MB TB TM B w g L last) (e : Ext w w') : MB TB TM B w' g L last := h.keep fun _ _ _ q _ => (e.block _ (heap_lt q)).trans q
theorem MB.lt (h : MB TB TM B w g L last) : g < w.heap.size := by
  obtain ⟨A, n, c, h1, _⟩ := h
  exact heap_lt h1
/-- A block of another type, or from below, turns. -/
theorem MB.other {r : Nat} {C : Array Value} (h : MB TB TM B w g L last) (k : ∀ cs t, w.heap[r]? = some (.cells cs t (0, 0)) → ¬(r = g ∧ t = TB ∨ B ≤ r ∧ (t = TM ∨ t = 5))) : MB TB TM B (w.setRow r C) g L last := h.keep fun i cs t q z => by
  by_cases e : i = r
  · subst e
    exact absurd z (k _ _ q)
  · exact (setRow_other _ _ _ _ e).trans q
theorem MB.len {n c : Nat} {A : Option Addr} (h : OwnC B w TM 138 A n c (L.map Wm.C)) : L.length = n := by have := h.2.2; rwa [List.length_map] at this
end

/-- Blocks are as they were, but those from B on whose type is among S. -/
def tagIn (S : TypeId → Bool) : Obj → Bool
  | .cells _ t _ => S t
  | _ => false
def Tb (B : Nat) (S : TypeId → Bool) (a b : World) : Prop := b.os = a.os ∧ b.tape = a.tape ∧ b.output = a.output ∧ a.heap.size ≤ b.heap.size ∧ ∀ i o, a.heap[i]? = some o → (i < B ∨ tagIn S o = false) → b.heap[i]? = some o
section
variable {B : Nat} {S : TypeId → Bool} {a b c : World}
theorem Tb.refl (B : Nat) (S : TypeId → Bool) (w : World) : Tb B S w w := ⟨rfl, rfl, rfl, Nat.le_refl _, fun _ _ h _ => h⟩
theorem Tb.trans (h : Tb B S a b) (k : Tb B S b c) : Tb B S a c := ⟨k.1.trans h.1, k.2.1.trans h.2.1, k.2.2.1.trans h.2.2.1, Nat.le_trans h.2.2.2.1 k.2.2.2.1, fun i o hi hc => k.2.2.2.2 i o (h.2.2.2.2 i o hi hc) hc⟩
theorem Tb.of_ext (h : Ext a b) : Tb B S a b := ⟨h.os, h.tape, h.output, h.size, fun _ _ hi _ => (h.block _ (heap_lt hi)).trans hi⟩
theorem Tb.drew (h : Tb B S a b) : Tb B S a b.drew := h
theorem Tb.size (h : Tb B S a b) : a.heap.size ≤ b.heap.size := h.2.2.2.1
theorem Tb.mono {B' : Nat} (h : Tb B S a b) (hB : B' ≤ B) : Tb B' S a b := ⟨h.1, h.2.1, h.2.2.1, h.2.2.2.1, fun i o hi hc => h.2.2.2.2 i o hi (hc.imp (fun q => Nat.lt_of_lt_of_le q hB) id)⟩
theorem Tb.row {g : Nat} {t : TypeId} {L : List Value} (C : Array Value) (h : Cb a g t L) (hB : B ≤ g) (hS : S t = true) : Tb B S a (a.setRow g C) := ⟨rfl, rfl, rfl, by simp, fun i o hi hc => by
  by_cases e : i = g
  · subst e
    rw [h] at hi
    injection hi with hi
    subst hi
    rcases hc with q | q
    · omega
    · rw [show tagIn S _ = S t from rfl, hS] at q; cases q
  · exact (setRow_other _ _ _ _ e).trans hi⟩
theorem Tb.cell {g : Nat} {t : TypeId} {L : List Value} (o : Nat) (u : Value) (h : Cb a g t L) (hB : B ≤ g) (hS : S t = true) : Tb B S a (a.setCell ⟨g, o, none⟩ u) := ⟨rfl, rfl, rfl, by simp [World.setCell], fun i o' hi hc => by
  by_cases e : i = g
  · subst e
    rw [h] at hi
    injection hi with hi
    subst hi
    rcases hc with q | q
    · omega
    · rw [show tagIn S _ = S t from rfl, hS] at q; cases q
  · exact (Below.heap_setCell _ _ _ _ e).trans hi⟩
theorem Tb.grown {row : Option Nat} (h : a.grownBy b row) (hr : ∀ k, row = some k → B ≤ k ∧ ∀ o, a.heap[k]? = some o → tagIn S o = true) : Tb B S a b := ⟨h.os, h.tape, h.output, h.size, fun i o hi hc => by
  refine (h.block i (heap_lt hi) fun q => ?_).trans hi
  obtain ⟨h1, h2⟩ := hr i q.symm
  rcases hc with z | z
  · omega
  · rw [h2 o hi] at z; cases z⟩
theorem Tb.below (h : Tb B S a b) (hB : B ≤ a.heap.size) : Below B a b := ⟨h.1, h.2.1, h.2.2.1, h.2.2.2.1, fun i hi => by
  obtain ⟨o, ho⟩ : ∃ o, a.heap[i]? = some o := ⟨_, Array.getElem?_eq_getElem (by omega)⟩
  rw [ho]
  exact h.2.2.2.2 i o ho (.inl hi)⟩
/-- What was there ahead is as it was. -/
theorem Tb.ext {w0 : World} (h : Ext w0 a) (k : Tb w0.heap.size S a b) : Ext w0 b := Below.trans h (k.below h.size)
theorem Tb.cb {g : Nat} {t : TypeId} {L : List Value} (h : Tb B S a b) (k : Cb a g t L) (ht : S t = false) : Cb b g t L := h.2.2.2.2 _ _ k (.inr ht)
theorem BsF.tb {B' : Nat} {A : Option Addr} {n m : Nat} {xs : List UInt8} (k : BsF B' a A n m xs) (h : Tb B S a b) (ht : S 5 = false) : BsF B' b A n m xs := k.keep fun _ _ q _ => h.2.2.2.2 _ _ q (.inr ht)
theorem MB.tb {TB TM : TypeId} {B' g : Nat} {L : List Wm} {last : Int} (k : MB TB TM B' a g L last) (h : Tb B S a b) (h1 : S TB = false) (h2 : S TM = false) (h3 : S 5 = false) : MB TB TM B' b g L last := k.keep fun _ _ _ q z => h.2.2.2.2 _ _ q (.inr (by
  show S _ = false
  rcases z with ⟨_, rfl⟩ | ⟨_, rfl | rfl⟩
  · exact h1
  · exact h2
  · exact h3))
end
theorem OwnC.tag {B : Nat} {w : World} {e : TypeId} {s : Nat} {A : Option Addr} {n c : Nat} {L : List (List Value)} {S : TypeId → Bool} (h : OwnC B w e s A n c L) (hS : S e = true) : ∀ k, Value.ownBlock (.slice A n c) = some k → B ≤ k ∧ ∀ o, w.heap[k]? = some o → tagIn S o = true := fun k hk => by
  refine ⟨h.ge k hk, fun o ho => ?_⟩
  rcases h.1.2 with ⟨hv, _⟩ | ⟨g, cap, cur, hv, _, hg, _⟩
  · rw [hv] at hk; cases hk
  · rw [hv] at hk
    injection hk with hk
    subst hk
    rw [hg] at ho
    injection ho with ho
    subst ho
    exact hS
theorem OwnC.row {B : Nat} {w : World} {e : TypeId} {s r : Nat} {A : Option Addr} {n c : Nat} {L : List (List Value)} {C : Array Value} {t : TypeId} {K : List Value} (h : OwnC B w e s A n c L) (k : Cb w r t K) (ht : t ≠ e) : OwnC B (w.setRow r C) e s A n c L := h.keep fun i cs hi _ => by
  by_cases q : i = r
  · subst q
    rw [k] at hi
    injection hi with hi
    injection hi with _ hi
    exact absurd hi ht
  · exact (setRow_other _ _ _ _ q).trans hi
end Go.Proofs.YtbnjmmefnjoofaaDoor
