/-
  A region that draws its order, proved in no order: each operation by itself, from what those before it have left, whatever others have come up meanwhile. No conditions.
-/
import Derived.Test.YteaoacinhdjkeaaSeq
namespace Go.Proofs.Yteaoacinhdjkeaa

/-- An operation that has been dealt with: its number, its slot (+ 1; 0: none), what holds of its value from then on. -/
structure Ent where
  i : Nat
  d : Nat
  Φ : Value → World → Prop
  nw : Bool := false

/-- The block to which a value leads. -/
def blk : Value → Option Nat
  | .pointer (some a) => some a.block
  | .slice (some a) _ _ => some a.block
  | .map (some b) => some b
  | _ => none
def newIdx (L : List Ent) (i : Nat) : Bool := L.any fun e => e.i == i && e.nw
def lookE (a0 : Act) (s : Nat) : List Ent → Value → World → Prop
  | [], u, _ => u = a0.tmps.getD s undef
  | e :: r, u, w => if e.d == s + 1 then e.Φ u w else lookE a0 s r u w
def AllE (v : Nat → Value) (w : World) : List Ent → Prop
  | [] => True
  | e :: r => e.Φ (v e.i) w ∧ AllE v w r
def dOpt : Nat → Option Nat
  | 0 => none
  | d + 1 => some d
def putE (a0 : Act) (v : Nat → Value) : List Ent → Act
  | [] => a0
  | e :: r => (putE a0 v r).put (dOpt e.d) (v e.i)

section
variable {P : Program} {ops : Array Oper} {Q : Exit → Act → World → Prop}

def Ob (P : Program) (ops : Array Oper) (Q : Exit → Act → World → Prop) (R : World → World → Prop) (w0 : World) (a0 : Act) (L : List Ent) (i : Nat) (nw : Bool) (Φ : Value → World → Prop) : Prop :=
  ∀ o, ops[i]? = some o → ∀ a w, R w0 w → (∀ s, (o.looksAt ops).contains s = true → lookE a0 s L (a.tmps.getD s undef) w) →
    wpOp P ops Q i (fun a' w' => ∃ v, a' = a.put o.dst v ∧ R w w' ∧ Φ v w' ∧ (nw = true → ∀ g, blk v = some g → w.heap.size ≤ g)) a w
def Good (P : Program) (ops : Array Oper) (Q : Exit → Act → World → Prop) (R : World → World → Prop) (w0 : World) (a0 : Act) (L : List Ent) (e : Ent) : Prop :=
  (∀ o, ops[e.i]? = some o → dstOf o = e.d) ∧ (∀ u w w', e.Φ u w → R w w' → e.Φ u w') ∧ Ob P ops Q R w0 a0 L e.i e.nw e.Φ ∧ (e.nw = true → e.d ≠ 0 ∧ ∀ u w, e.Φ u w → ∃ g, blk u = some g ∧ g < w.heap.size)
def freeE (P : Program) (ops : Array Oper) (Q : Exit → Act → World → Prop) (R : World → World → Prop) (w0 : World) (a0 : Act) (F : List Ent → Prop) : List Ent → List Nat → Prop
  | L, [] => F L
  | L, i :: r => ∃ Φ d nw, Good P ops Q R w0 a0 L ⟨i, d, Φ, nw⟩ ∧ freeE P ops Q R w0 a0 F (⟨i, d, Φ, nw⟩ :: L) r
/-- All that were dealt with are good. -/
def Coll (P : Program) (ops : Array Oper) (Q : Exit → Act → World → Prop) (R : World → World → Prop) (w0 : World) (a0 : Act) : List Ent → Prop
  | [] => True
  | e :: r => Good P ops Q R w0 a0 r e ∧ Coll P ops Q R w0 a0 r
theorem coll_of {R : World → World → Prop} {w0 : World} {a0 : Act} {F : List Ent → Prop} : ∀ (r : List Nat) (L : List Ent), freeE P ops Q R w0 a0 F L r → Coll P ops Q R w0 a0 L → ∃ L', Coll P ops Q R w0 a0 L' ∧ L'.map (·.i) = r.reverse ++ L.map (·.i) ∧ F L'
  | [], L, h, hc => ⟨L, hc, by simp, h⟩
  | i :: r, L, ⟨Φ, d, nw, hg, h⟩, hc => by
    obtain ⟨L', h1, h2, h3⟩ := coll_of r _ h ⟨hg, hc⟩
    exact ⟨L', h1, by rw [h2]; simp, h3⟩

/-- The checks, over numbers: D as in 'encOf'; pre: for whom each one waits, by whatever way; es: the operations in the order in which they are dealt with, the last one first; Z: those that come behind all these. -/
def preB (D : List (Nat × Nat × Nat)) (pre : List Nat) : Bool :=
  (List.range D.length).all fun i => match D[i]? with
    | none => false
    | some x => (List.range D.length).all fun k => !(pre.getD i 0).testBit k || x.1.testBit k || (List.range D.length).any fun d => x.1.testBit d && (pre.getD d 0).testBit k
def condB (D : List (Nat × Nat × Nat)) (pre : List Nat) (i : Nat) (r : List Nat) : Bool :=
  match D[i]? with
  | none => false
  | some x => (List.range D.length).all (fun k => !x.1.testBit k || r.contains k) && r.all fun j => match D[j]? with
      | none => false
      | some y => (y.2.1 == 0 || !x.2.2.testBit y.2.1 || (pre.getD i 0).testBit j) && (x.2.1 == 0 || !y.2.2.testBit x.2.1 || (pre.getD i 0).testBit j) && (x.2.1 == 0 || x.2.1 != y.2.1) && i != j
def okB (D : List (Nat × Nat × Nat)) (pre : List Nat) : List Nat → Bool
  | [] => true
  | i :: r => condB D pre i r && okB D pre r
def zB (D : List (Nat × Nat × Nat)) (pre : List Nat) (es Z : List Nat) : Bool :=
  (List.range D.length).all fun i => es.contains i || (Z.contains i && es.all fun j => (pre.getD i 0).testBit j)
theorem okB_at {D : List (Nat × Nat × Nat)} {pre : List Nat} : ∀ {a : List Nat} {i : Nat} {r : List Nat}, okB D pre (a ++ i :: r) = true → condB D pre i r = true
  | [], i, r, h => by simp only [List.nil_append, okB, Bool.and_eq_true] at h; exact h.1
  | b :: a, i, r, h => by simp only [List.cons_append, okB, Bool.and_eq_true] at h; exact okB_at h.2
/-- What the check says of one and an earlier one. -/
theorem cond_spec {D : List (Nat × Nat × Nat)} {pre : List Nat} {i j : Nat} {r : List Nat} {x y : Nat × Nat × Nat} (h : condB D pre i r = true) (hx : D[i]? = some x) (hj : j ∈ r) (hy : D[j]? = some y) :
    (∀ s, y.2.1 = s + 1 → x.2.2.testBit (s + 1) = true → (pre.getD i 0).testBit j = true) ∧ (∀ s, x.2.1 = s + 1 → y.2.2.testBit (s + 1) = true → (pre.getD i 0).testBit j = true) ∧ (∀ s, x.2.1 = s + 1 → y.2.1 ≠ s + 1) ∧ i ≠ j := by
  unfold condB at h
  rw [hx] at h
  simp only [Bool.and_eq_true] at h
  have h2 := List.all_eq_true.1 h.2 j hj
  rw [hy] at h2
  simp only [Bool.and_eq_true, Bool.or_eq_true, beq_iff_eq, Bool.not_eq_true', bne_iff_ne, ne_eq] at h2
  obtain ⟨⟨⟨q1, q2⟩, q3⟩, q4⟩ := h2
  refine ⟨fun s e b => ?_, fun s e b => ?_, fun s e e' => ?_, q4⟩
  · rcases q1 with (q | q) | q
    · omega
    · rw [e, b] at q; cases q
    · exact q
  · rcases q2 with (q | q) | q
    · omega
    · rw [e, b] at q; cases q
    · exact q
  · rcases q3 with q | q
    · omega
    · exact q (by rw [e, e'])
theorem lookE_of {a0 : Act} {s : Nat} {u : Value} {w : World} : ∀ {L : List Ent}, (∀ e ∈ L, e.d = s + 1 → e.Φ u w) → ((∀ e ∈ L, e.d ≠ s + 1) → u = a0.tmps.getD s undef) → lookE a0 s L u w
  | [], _, h => h (by simp)
  | e :: r, h1, h2 => by
    unfold lookE
    by_cases hd : e.d = s + 1
    · rw [if_pos (by simp [hd])]
      exact h1 e (List.mem_cons_self ..) hd
    · rw [if_neg (by simp [hd])]
      exact lookE_of (fun e he => h1 e (List.mem_cons_of_mem _ he)) fun hn => h2 fun e' he' => by
        rcases List.mem_cons.1 he' with rfl | q
        · exact hd
        · exact hn e' q
theorem coll_at {R : World → World → Prop} {w0 : World} {a0 : Act} : ∀ {A : List Ent} {e : Ent} {B : List Ent}, Coll P ops Q R w0 a0 (A ++ e :: B) → Good P ops Q R w0 a0 B e
  | [], _, _, h => h.1
  | _ :: _, _, _, h => coll_at h.2

/-- What holds on the way. -/
structure Inv (ops : Array Oper) (R : World → World → Prop) (w0 : World) (a0 : Act) (pre : List Nat) (L : List Ent) (done : Nat) (listed : Array Bool) (a : Act) (w : World) : Prop where
  hL : Listed ops.size done listed
  hR : R w0 w
  h2 : ∀ e ∈ L, done.testBit e.i = true → ∃ v, e.Φ v w ∧ ∀ s, e.d = s + 1 → a.tmps.getD s undef = v
  h3 : ∀ s, (∀ e ∈ L, done.testBit e.i = true → e.d ≠ s + 1) → a.tmps.getD s undef = a0.tmps.getD s undef
  h4 : a.tmps.size = a0.tmps.size ∧ a.defers = a0.defers
  h5 : ∀ i, i < ops.size → done.testBit i = true → ∀ k, k < ops.size → (pre.getD i 0).testBit k = true → done.testBit k = true
  h6 : ∀ i, done.testBit i = true → i ∈ L.map (·.i)
  h7 : ∀ e ∈ L, ∀ e' ∈ L, e.i ≠ e'.i → done.testBit e.i = true → done.testBit e'.i = true → e.nw = true → e'.nw = true → blk (a.tmps.getD (e.d - 1) undef) ≠ blk (a.tmps.getD (e'.d - 1) undef)
theorem put_getD_same {a : Act} {s : Nat} {v : Value} (h : s < a.tmps.size) : (a.put (some s) v).tmps.getD s undef = v := by simp [Act.put, Array.getD, h]
theorem put_getD_other {a : Act} {d : Option Nat} {s : Nat} {v : Value} (h : d ≠ some s) : (a.put d v).tmps.getD s undef = a.tmps.getD s undef := by
  cases d with
  | none => rfl
  | some d =>
    have : d ≠ s := fun e => h (by rw [e])
    simp only [Act.put, Array.getD_eq_getD_getElem?, Array.getElem?_setIfInBounds, if_neg this]
theorem put_size {a : Act} {d : Option Nat} {v : Value} : (a.put d v).tmps.size = a.tmps.size := by cases d <;> simp [Act.put]
theorem put_defers {a : Act} {d : Option Nat} {v : Value} : (a.put d v).defers = a.defers := by cases d <;> rfl
theorem dst_of {o : Oper} {s : Nat} : dstOf o = s + 1 ↔ o.dst = some s := by
  unfold dstOf
  cases o.dst with
  | none => simp
  | some d => simp

/-- The first one in the order that has not come up. -/
theorem first_left {done : Nat} : ∀ {es : List Nat}, (∃ i ∈ es, done.testBit i = false) → ∃ A i r, es = A ++ i :: r ∧ done.testBit i = false ∧ ∀ j ∈ r, done.testBit j = true
  | [], h => by obtain ⟨_, h, _⟩ := h; simp at h
  | b :: es, h => by
    by_cases h' : ∃ i ∈ es, done.testBit i = false
    · obtain ⟨A, i, r, rfl, h1, h2⟩ := first_left h'
      exact ⟨b :: A, i, r, rfl, h1, h2⟩
    · obtain ⟨i, hi, hd⟩ := h
      rcases List.mem_cons.1 hi with rfl | q
      · exact ⟨[], i, es, rfl, hd, fun j hj => by
          cases hb : done.testBit j with
          | true => rfl
          | false => exact absurd ⟨j, hj, hb⟩ h'⟩
      · exact absurd ⟨i, q, hd⟩ h'
def left (done : Nat) (es : List Nat) : Nat := (es.filter fun i => !done.testBit i).length
theorem left_zero {done : Nat} {es : List Nat} (h : left done es = 0) : ∀ i ∈ es, done.testBit i = true := fun i hi => by
  cases hb : done.testBit i with
  | true => rfl
  | false =>
    have : i ∈ es.filter fun i => !done.testBit i := List.mem_filter.2 ⟨hi, by simp [hb]⟩
    rw [List.eq_nil_of_length_eq_zero h] at this
    simp at this
theorem left_pos {done k : Nat} {es : List Nat} (h : left done es = k + 1) : ∃ i ∈ es, done.testBit i = false := by
  cases hf : es.filter fun i => !done.testBit i with
  | nil => unfold left at h; rw [hf] at h; cases h
  | cons i r =>
    have : i ∈ es.filter fun i => !done.testBit i := by rw [hf]; simp
    obtain ⟨h1, h2⟩ := List.mem_filter.1 this
    exact ⟨i, h1, by simpa using h2⟩
theorem testBit_set (done i j : Nat) : (done ||| (1 <<< i)).testBit j = (done.testBit j || decide (i = j)) := by
  rw [Nat.testBit_or, Nat.one_shiftLeft, Nat.testBit_two_pow]
theorem left_step {done i : Nat} : ∀ {es : List Nat}, es.Nodup → i ∈ es → done.testBit i = false → left done es = left (done ||| (1 <<< i)) es + 1
  | [], _, h, _ => by simp at h
  | b :: es, hn, h, hd => by
    obtain ⟨h1, h2⟩ := List.nodup_cons.1 hn
    unfold left
    rw [List.filter_cons, List.filter_cons, testBit_set]
    rcases List.mem_cons.1 h with rfl | q
    · have : es.filter (fun j => !(done ||| (1 <<< i)).testBit j) = es.filter fun j => !done.testBit j := List.filter_congr fun j hj => by
        have : i ≠ j := fun e => h1 (e ▸ hj)
        rw [testBit_set]; simp [this]
      rw [this]; simp [hd]
    · have hib : i ≠ b := fun e => h1 (e ▸ q)
      have := left_step h2 q hd
      unfold left at this
      cases hb : done.testBit b <;> simp [hib, this]

theorem pre_done {D : List (Nat × Nat × Nat)} {pre : List Nat} (hp : preB D pre = true) {i : Nat} {x : Nat × Nat × Nat} (hi : D[i]? = some x) {done : Nat} (hdep : ∀ k, x.1.testBit k = true → done.testBit k = true)
    (h5 : ∀ i, i < D.length → done.testBit i = true → ∀ k, (pre.getD i 0).testBit k = true → k < D.length → done.testBit k = true) : ∀ k, k < D.length → (pre.getD i 0).testBit k = true → done.testBit k = true := fun k hk hb => by
  have hil : i < D.length := (List.getElem?_eq_some_iff.1 hi).1
  have h1 := List.all_eq_true.1 hp i (List.mem_range.2 hil)
  rw [hi] at h1
  have h2 := List.all_eq_true.1 h1 k (List.mem_range.2 hk)
  simp only [Bool.or_eq_true, Bool.not_eq_true'] at h2
  rcases h2 with (q | q) | q
  · rw [hb] at q; cases q
  · exact hdep k q
  · obtain ⟨d, hd, q2⟩ := List.any_eq_true.1 q
    rw [Bool.and_eq_true] at q2
    exact h5 d (List.mem_range.1 hd) (hdep d q2.1) k q2.2 hk

theorem free_main {R : World → World → Prop} (htr : ∀ a b c, R a b → R b c → R a c) {w0 : World} {a0 : Act} {D : List (Nat × Nat × Nat)} {pre : List Nat} {L : List Ent} {Z : List Nat}
    (hD : ops.toList.map (encOf ops) = D) (hsub : ∀ (j : Nat) o, ops[j]? = some o → ∀ e ∈ o.after, e.on < ops.size) (hc : Coll P ops Q R w0 a0 L) (hn : (L.map (·.i)).Nodup)
    (hp : preB D pre = true) (hok : okB D pre (L.map (·.i)) = true) (hz : zB D pre (L.map (·.i)) Z = true) (hb : ∀ e ∈ L, e.d ≤ a0.tmps.size) (hes : ∀ e ∈ L, e.i < ops.size)
    (hF : ∀ listed done a w, Inv ops R w0 a0 pre L done listed a w → left done (L.map (·.i)) = 0 → wpAny P .any ops Q Z.length listed a w) :
    ∀ (k : Nat) (listed : Array Bool) (done : Nat) (a : Act) (w : World), Inv ops R w0 a0 pre L done listed a w → left done (L.map (·.i)) = k → wpAny P .any ops Q (k + Z.length) listed a w
  | 0, listed, done, a, w, hi, hk => by rw [Nat.zero_add]; exact hF listed done a w hi hk
  | k + 1, listed, done, a, w, hi, hk => by
    have hlen : D.length = ops.size := by rw [← hD]; simp
    have hDi : ∀ (j : Nat) oj, ops[j]? = some oj → D[j]? = some (encOf ops oj) := fun j oj hj => by
      rw [← hD, List.getElem?_map, Array.getElem?_toList, hj]; rfl
    obtain ⟨A, i, r, hes', hdi, hr⟩ := first_left (left_pos hk)
    rw [show k + 1 + Z.length = (k + Z.length) + 1 by omega]
    refine ⟨fun h0 => ?_, fun j hj => ?_⟩
    · exfalso
      have hci := okB_at (hes' ▸ hok)
      have hil : i < ops.size := by
        have : i ∈ L.map (·.i) := by rw [hes']; simp
        obtain ⟨e, he, rfl⟩ := List.mem_map.1 this
        exact hes e he
      have ho : ops[i]? = some ops[i] := Array.getElem?_eq_getElem hil
      have : i ∈ Region.ready .any ops listed := mem_ready.2 ⟨(hi.hL.2 i hil).trans hdi, ops[i], ho, fun e he hbn => hi.hL.on (by
        have hd : (encOf ops ops[i]).1.testBit e.on = true := (dep_iff ops[i] e.on).2 ⟨e, he, hbn, rfl⟩
        unfold condB at hci
        rw [hDi i _ ho] at hci
        simp only [Bool.and_eq_true] at hci
        have := List.all_eq_true.1 hci.1 e.on (List.mem_range.2 (by rw [hlen]; exact hsub i _ ho e he))
        rw [hd] at this
        simp at this
        exact hr _ this) (hsub i _ ho e he)⟩
      rw [h0] at this
      cases this
    · obtain ⟨h0, oj, hoj, hall⟩ := mem_ready.1 hj
      have hjl := hi.hL.lt h0
      rw [hi.hL.2 j hjl] at h0
      have hdep : ∀ k, (encOf ops oj).1.testBit k = true → done.testBit k = true := fun k hk => by
        obtain ⟨e, he, hbn, rfl⟩ := (dep_iff oj k).1 hk
        exact hi.hL.off (hall e he hbn)
      have hpre := pre_done hp (hDi j oj hoj) hdep (fun i hi' hd k hk hkl => hi.h5 i (by omega) hd k (by omega) hk)
      have hjes : j ∈ L.map (·.i) := by
        have h1 := List.all_eq_true.1 hz j (List.mem_range.2 (by omega))
        rw [Bool.or_eq_true] at h1
        rcases h1 with q | q
        · simpa using q
        · exfalso
          rw [Bool.and_eq_true] at q
          have hi' : i ∈ L.map (·.i) := by rw [hes']; simp
          have h2 := List.all_eq_true.1 q.2 i hi'
          have hil : i < ops.size := by
            obtain ⟨e, he, rfl⟩ := List.mem_map.1 hi'
            exact hes e he
          rw [hpre i (by omega) h2] at hdi
          cases hdi
      obtain ⟨e, he, rfl⟩ := List.mem_map.1 hjes
      obtain ⟨L1, L2, rfl⟩ := List.append_of_mem he
      have hg := coll_at hc
      have hde := hg.1 oj hoj
      have cond_at : ∀ {A : List Ent} {x : Ent} {B : List Ent}, L1 ++ e :: L2 = A ++ x :: B → condB D pre x.i (B.map (·.i)) = true := fun {A x B} q => by
        rw [q, List.map_append, List.map_cons] at hok
        exact okB_at hok
      have hce := cond_at (A := L1) (x := e) (B := L2) rfl
      have spec2 : ∀ e' ∈ L2, ∃ o', ops[e'.i]? = some o' ∧ dstOf o' = e'.d := fun e' he' => by
        have hl := hes e' (by simp [he'])
        have ho' : ops[e'.i]? = some (ops[e'.i]'hl) := Array.getElem?_eq_getElem hl
        obtain ⟨A', B', rfl⟩ := List.append_of_mem he'
        have hg' : Good P ops Q R w0 a0 B' e' := coll_at (A := L1 ++ e :: A') (by rw [List.append_assoc, List.cons_append]; exact hc)
        exact ⟨_, ho', hg'.1 _ ho'⟩
      have hlook : ∀ s, (oj.looksAt ops).contains s = true → lookE a0 s L2 (a.tmps.getD s undef) w := fun s hs => by
        have hls : (encOf ops oj).2.2.testBit (s + 1) = true := (look_iff oj s).trans hs
        refine lookE_of (fun e' he' hd' => ?_) fun hno => ?_
        · obtain ⟨o', ho', hdy⟩ := spec2 e' he'
          have cs := cond_spec hce (hDi _ _ hoj) (List.mem_map.2 ⟨e', he', rfl⟩) (hDi _ _ ho')
          have hdd : done.testBit e'.i = true := hpre e'.i (by have := hes e' (by simp [he']); omega) (cs.1 s (by rw [← hd', ← hdy]; rfl) hls)
          obtain ⟨v, hv, hs'⟩ := hi.h2 e' (by simp [he']) hdd
          rw [hs' s hd']
          exact hv
        · refine hi.h3 s fun e' he' hd' => ?_
          rcases List.mem_append.1 he' with q | q
          · obtain ⟨A', B', rfl⟩ := List.append_of_mem q
            intro hds
            have hl := hes e' (by simp)
            have ho' : ops[e'.i]? = some (ops[e'.i]'hl) := Array.getElem?_eq_getElem hl
            have hg' : Good P ops Q R w0 a0 (B' ++ e :: L2) e' := coll_at (A := A') (by rw [← List.cons_append, ← List.append_assoc]; exact hc)
            have hce' := cond_at (A := A') (x := e') (B := B' ++ e :: L2) (by simp)
            have cs := cond_spec hce' (hDi _ _ ho') (j := e.i) (List.mem_map.2 ⟨e, by simp, rfl⟩) (hDi _ _ hoj)
            have hb' := cs.2.1 s (by rw [← hds, ← hg'.1 _ ho']; rfl) hls
            rw [hi.h5 e'.i hl hd' e.i hjl hb'] at h0
            cases h0
          · rcases List.mem_cons.1 q with rfl | q
            · rw [hd'] at h0; cases h0
            · exact hno e' q
      refine wpOp_mono (fun a' w' ⟨v, ha', hR', hΦ, hnew⟩ => ?_) (hg.2.2.1 oj hoj a w hi.hR hlook)
      subst ha'
      have hdst : ∀ s, oj.dst = some s ↔ e.d = s + 1 := fun s => by rw [← hde, dst_of]
      have hother : ∀ e' ∈ L1 ++ e :: L2, done.testBit e'.i = true → ∀ s, e'.d = s + 1 → oj.dst ≠ some s := fun e' he' hd' s hs hq => by
        have hq' := (hdst s).1 hq
        rcases List.mem_append.1 he' with q | q
        · obtain ⟨A', B', rfl⟩ := List.append_of_mem q
          have hl := hes e' (by simp)
          have ho' : ops[e'.i]? = some (ops[e'.i]'hl) := Array.getElem?_eq_getElem hl
          have hg' : Good P ops Q R w0 a0 (B' ++ e :: L2) e' := coll_at (A := A') (by rw [← List.cons_append, ← List.append_assoc]; exact hc)
          have hce' := cond_at (A := A') (x := e') (B := B' ++ e :: L2) (by simp)
          have cs := cond_spec hce' (hDi _ _ ho') (j := e.i) (List.mem_map.2 ⟨e, by simp, rfl⟩) (hDi _ _ hoj)
          exact cs.2.2.1 s (by rw [← hs, ← hg'.1 _ ho']; rfl) (by rw [← hq', ← hde]; rfl)
        · rcases List.mem_cons.1 q with rfl | q
          · rw [hd'] at h0; cases h0
          · obtain ⟨o', ho', hdy⟩ := spec2 e' q
            have cs := cond_spec hce (hDi _ _ hoj) (List.mem_map.2 ⟨e', q, rfl⟩) (hDi _ _ ho')
            exact cs.2.2.1 s (by rw [← hq', ← hde]; rfl) (by rw [← hs, ← hdy]; rfl)
      have hstab : ∀ e' ∈ L1 ++ e :: L2, ∀ u, e'.Φ u w → e'.Φ u w' := fun e' he' u hu => by
        obtain ⟨A', B', hq⟩ := List.append_of_mem he'
        have hg' : Good P ops Q R w0 a0 B' e' := coll_at (A := A') (hq ▸ hc)
        exact hg'.2.1 u w w' hu hR'
      refine free_main htr hD hsub hc hn hp hok hz hb hes hF k _ (done ||| (1 <<< e.i)) _ w' ⟨hi.hL.set hjl, htr _ _ _ hi.hR hR', fun e' he' hd' => ?_, fun s hs => ?_, ⟨put_size.trans hi.h4.1, put_defers.trans hi.h4.2⟩, fun i' hi' hd' k' hkl' hk' => ?_, fun i' hd' => ?_, fun x hx y hy hxy hdx hdy hnx hny => ?_⟩ ?_
      · rw [testBit_set, Bool.or_eq_true, decide_eq_true_eq] at hd'
        rcases hd' with q | q
        · obtain ⟨v', hv', hs'⟩ := hi.h2 e' he' q
          exact ⟨v', hstab e' he' v' hv', fun s hs => by rw [put_getD_other (hother e' he' q s hs)]; exact hs' s hs⟩
        · have : e' = e := by
            rw [List.map_append, List.map_cons] at hn
            have hn2 := List.nodup_append.1 hn
            rcases List.mem_append.1 he' with z | z
            · exact absurd rfl (hn2.2.2 e'.i (List.mem_map.2 ⟨e', z, rfl⟩) e'.i (by rw [← q]; simp))
            · rcases List.mem_cons.1 z with z | z
              · exact z
              · exfalso
                refine (List.nodup_cons.1 hn2.2.1).1 ?_
                rw [q]
                exact List.mem_map.2 ⟨e', z, rfl⟩
          subst this
          refine ⟨v, hΦ, fun s hs => ?_⟩
          rw [(hdst s).2 hs]
          exact put_getD_same (by rw [hi.h4.1]; have := hb e' he'; omega)
      · have he : oj.dst ≠ some s := fun q => hs e he (by rw [testBit_set]; simp) ((hdst s).1 q)
        rw [put_getD_other he]
        exact hi.h3 s fun e' he' hd' => hs e' he' (by rw [testBit_set, hd']; rfl)
      · rw [testBit_set, Bool.or_eq_true, decide_eq_true_eq] at hd' ⊢
        left
        rcases hd' with q | q
        · exact hi.h5 i' hi' q k' hkl' hk'
        · subst q
          exact hpre k' (by omega) hk'
      · rw [testBit_set, Bool.or_eq_true, decide_eq_true_eq] at hd'
        rcases hd' with q | q
        · exact hi.h6 i' q
        · rw [← q]; exact hjes
      · have dpos : ∀ z ∈ L1 ++ e :: L2, z.nw = true → z.d ≠ 0 ∧ ∀ u w, z.Φ u w → ∃ g, blk u = some g ∧ g < w.heap.size := fun z hz hnz => by
          obtain ⟨A', B', hq⟩ := List.append_of_mem hz
          have hg' : Good P ops Q R w0 a0 B' z := coll_at (A := A') (hq ▸ hc)
          exact hg'.2.2.2 hnz
        have same : ∀ z ∈ L1 ++ e :: L2, z.i = e.i → z = e := fun z hz q => by
          have hn' := hn
          rw [List.map_append, List.map_cons] at hn'
          have hn2 := List.nodup_append.1 hn'
          rcases List.mem_append.1 hz with t | t
          · exact absurd q (hn2.2.2 z.i (List.mem_map.2 ⟨z, t, rfl⟩) e.i (by simp))
          · rcases List.mem_cons.1 t with t | t
            · exact t
            · exfalso
              refine (List.nodup_cons.1 hn2.2.1).1 ?_
              rw [← q]
              exact List.mem_map.2 ⟨z, t, rfl⟩
        -- one that was done before, and its block
        have old : ∀ z ∈ L1 ++ e :: L2, done.testBit z.i = true → z.nw = true → (a.put oj.dst v).tmps.getD (z.d - 1) undef = a.tmps.getD (z.d - 1) undef ∧ ∃ g, blk (a.tmps.getD (z.d - 1) undef) = some g ∧ g < w.heap.size := fun z hz hdz hnz => by
          obtain ⟨d0, hb'⟩ := dpos z hz hnz
          have hs : z.d = (z.d - 1) + 1 := by omega
          obtain ⟨v', hv', hs'⟩ := hi.h2 z hz hdz
          refine ⟨put_getD_other (hother z hz hdz _ hs), ?_⟩
          rw [hs' _ hs]
          exact hb' v' w hv'
        have new : e.nw = true → (a.put oj.dst v).tmps.getD (e.d - 1) undef = v := fun hne => by
          have d0 := (dpos e he hne).1
          have hs : e.d = (e.d - 1) + 1 := by omega
          rw [(hdst (e.d - 1)).2 hs]
          exact put_getD_same (by rw [hi.h4.1]; have := hb e he; omega)
        rw [testBit_set, Bool.or_eq_true, decide_eq_true_eq] at hdx hdy
        rcases hdx with qx | qx
        · rcases hdy with qy | qy
          · rw [(old x hx qx hnx).1, (old y hy qy hny).1]
            exact hi.h7 x hx y hy hxy qx qy hnx hny
          · have := same y hy qy.symm
            subst this
            obtain ⟨o1, g, o2, o3⟩ := old x hx qx hnx
            rw [o1, o2, new hny]
            intro q
            have := hnew hny g q.symm
            omega
        · have := same x hx qx.symm
          subst this
          rcases hdy with qy | qy
          · obtain ⟨o1, g, o2, o3⟩ := old y hy qy hny
            rw [o1, o2, new hnx]
            intro q
            have := hnew hnx g q
            omega
          · exact absurd (congrArg Ent.i (same y hy qy.symm)).symm hxy
      · have := left_step hn hjes h0
        omega

theorem putE_size {a0 : Act} {v : Nat → Value} : ∀ {L : List Ent}, (putE a0 v L).tmps.size = a0.tmps.size
  | [] => rfl
  | e :: r => put_size.trans putE_size
theorem putE_defers {a0 : Act} {v : Nat → Value} : ∀ {L : List Ent}, (putE a0 v L).defers = a0.defers
  | [] => rfl
  | e :: r => put_defers.trans putE_defers
theorem dOpt_ne {d s : Nat} (h : d ≠ s + 1) : dOpt d ≠ some s := by
  cases d with
  | zero => simp [dOpt]
  | succ d => simp [dOpt]; omega
theorem putE_other {a0 : Act} {v : Nat → Value} {s : Nat} : ∀ {L : List Ent}, (∀ e ∈ L, e.d ≠ s + 1) → (putE a0 v L).tmps.getD s undef = a0.tmps.getD s undef
  | [], _ => rfl
  | e :: r, h => (put_getD_other (dOpt_ne (h e (List.mem_cons_self ..)))).trans (putE_other fun e' he' => h e' (List.mem_cons_of_mem _ he'))
theorem putE_at {a0 : Act} {v : Nat → Value} {s : Nat} {x : Value} : ∀ {L : List Ent}, (∀ e ∈ L, e.d ≤ a0.tmps.size) → (∃ e ∈ L, e.d = s + 1) → (∀ e ∈ L, e.d = s + 1 → v e.i = x) → (putE a0 v L).tmps.getD s undef = x
  | [], _, h, _ => by obtain ⟨_, h, _⟩ := h; simp at h
  | e :: r, hb, h, hx => by
    by_cases hd : e.d = s + 1
    · show ((putE a0 v r).put (dOpt e.d) (v e.i)).tmps.getD s undef = x
      rw [hd, hx e (List.mem_cons_self ..) hd]
      exact put_getD_same (by rw [putE_size]; have := hb e (List.mem_cons_self ..); omega)
    · show ((putE a0 v r).put (dOpt e.d) (v e.i)).tmps.getD s undef = x
      rw [put_getD_other (dOpt_ne hd)]
      refine putE_at (fun e' he' => hb e' (List.mem_cons_of_mem _ he')) ?_ fun e' he' => hx e' (List.mem_cons_of_mem _ he')
      obtain ⟨e', he', hd'⟩ := h
      rcases List.mem_cons.1 he' with rfl | q
      · exact absurd hd' hd
      · exact ⟨e', q, hd'⟩
theorem allE_of {v : Nat → Value} {w : World} : ∀ {L : List Ent}, (∀ e ∈ L, e.Φ (v e.i) w) → AllE v w L
  | [], _ => trivial
  | e :: r, h => ⟨h e (List.mem_cons_self ..), allE_of fun e' he' => h e' (List.mem_cons_of_mem _ he')⟩
theorem act_ext {a b : Act} (h1 : a.tmps.size = b.tmps.size) (h2 : ∀ s, a.tmps.getD s undef = b.tmps.getD s undef) (h3 : a.defers = b.defers) : a = b := by
  cases a with
  | mk ta da =>
    cases b with
    | mk tb db =>
      simp only at h1 h2 h3
      subst h3
      congr 1
      apply Array.ext h1
      intro i hi hi'
      have := h2 i
      simpa [Array.getD, hi, hi'] using this
/-- Behind all of L the values are those of some function. -/
theorem inv_end {R : World → World → Prop} {w0 : World} {a0 : Act} {pre : List Nat} {L : List Ent} {done : Nat} {listed : Array Bool} {a : Act} {w : World} (hi : Inv ops R w0 a0 pre L done listed a w) (hn : (L.map (·.i)).Nodup)
    (hdis : ∀ e ∈ L, ∀ e' ∈ L, ∀ s, e.d = s + 1 → e'.d = s + 1 → e.i = e'.i) (hb : ∀ e ∈ L, e.d ≤ a0.tmps.size) (hall : ∀ e ∈ L, done.testBit e.i = true) (hnz : ∀ e ∈ L, e.nw = true → e.d ≠ 0) : ∃ v : Nat → Value, a = putE a0 v L ∧ AllE v w L ∧ ∀ i j, newIdx L i = true → newIdx L j = true → i ≠ j → blk (v i) ≠ blk (v j) := by
  have uniq : ∀ e ∈ L, ∀ e' ∈ L, e.i = e'.i → e = e' := fun e he e' he' q => by
    obtain ⟨A, B, rfl⟩ := List.append_of_mem he
    rw [List.map_append, List.map_cons] at hn
    have hn2 := List.nodup_append.1 hn
    rcases List.mem_append.1 he' with z | z
    · exact absurd q.symm (hn2.2.2 e'.i (List.mem_map.2 ⟨e', z, rfl⟩) e.i (by simp))
    · rcases List.mem_cons.1 z with z | z
      · exact z.symm
      · exfalso
        refine (List.nodup_cons.1 hn2.2.1).1 ?_
        rw [q]
        exact List.mem_map.2 ⟨e', z, rfl⟩
  have ch : ∀ i, ∃ v : Value, ∀ e ∈ L, e.i = i → e.Φ v w ∧ ∀ s, e.d = s + 1 → a.tmps.getD s undef = v := fun i => by
    by_cases h : ∃ e ∈ L, e.i = i
    · obtain ⟨e, he, rfl⟩ := h
      obtain ⟨v, h1, h2⟩ := hi.h2 e he (hall e he)
      exact ⟨v, fun e' he' q => by rw [uniq e' he' e he q]; exact ⟨h1, h2⟩⟩
    · exact ⟨undef, fun e he q => absurd ⟨e, he, q⟩ h⟩
  refine ⟨fun i => (ch i).choose, act_ext (hi.h4.1.trans putE_size.symm) (fun s => ?_) (hi.h4.2.trans putE_defers.symm), allE_of fun e he => ((ch e.i).choose_spec e he rfl).1, fun i j hni hnj hij => ?_⟩
  rotate_left
  · obtain ⟨e, he, h1⟩ := List.any_eq_true.1 hni
    obtain ⟨e', he', h2⟩ := List.any_eq_true.1 hnj
    simp only [Bool.and_eq_true, beq_iff_eq] at h1 h2
    obtain ⟨rfl, n1⟩ := h1
    obtain ⟨rfl, n2⟩ := h2
    have c1 := ((ch e.i).choose_spec e he rfl).2 (e.d - 1) (by have := hnz e he n1; omega)
    have c2 := ((ch e'.i).choose_spec e' he' rfl).2 (e'.d - 1) (by have := hnz e' he' n2; omega)
    show blk (ch e.i).choose ≠ blk (ch e'.i).choose
    rw [← c1, ← c2]
    exact hi.h7 e he e' he' hij (hall e he) (hall e' he') n1 n2
  by_cases h : ∃ e ∈ L, e.d = s + 1
  · obtain ⟨e, he, hd⟩ := h
    refine (putE_at hb ⟨e, he, hd⟩ fun e' he' hd' => ?_).symm
    have hq := hdis e' he' e he s hd' hd
    show (ch e'.i).choose = _
    exact (((ch e'.i).choose_spec e' he' rfl).2 s hd').symm
  · rw [putE_other fun e he hd => h ⟨e, he, hd⟩]
    exact hi.h3 s fun e he _ hd => h ⟨e, he, hd⟩

def nodupB : List Nat → Bool
  | [] => true
  | i :: r => !r.contains i && nodupB r
theorem nodup_of : ∀ {l : List Nat}, nodupB l = true → l.Nodup
  | [], _ => List.nodup_nil
  | i :: r, h => by
    simp only [nodupB, Bool.and_eq_true, Bool.not_eq_true'] at h
    refine List.nodup_cons.2 ⟨fun hm => ?_, nodup_of h.2⟩
    have h1 := h.1
    rw [List.contains_iff_mem.2 hm] at h1
    cases h1
def disB (D : List (Nat × Nat × Nat)) (es : List Nat) : Bool := es.all fun i => es.all fun j => i == j || (D.getD i (0, 0, 0)).2.1 == 0 || (D.getD i (0, 0, 0)).2.1 != (D.getD j (0, 0, 0)).2.1
/-- All checks. lz: which ones have come up when all of es have. -/
def freeB (D : List (Nat × Nat × Nat)) (pre es Z : List Nat) (lz : List Bool) (n : Nat) : Bool :=
  nodupB es && preB D pre && okB D pre es && zB D pre es Z && disB D es && es.all (fun i => i < D.length && (D.getD i (0, 0, 0)).2.1 ≤ n) && lz == (List.range D.length).map (fun i => es.contains i) && es.length + Z.length == D.length
theorem wp_region_free {R : World → World → Prop} (hrf : ∀ w, R w w) (htr : ∀ a b c, R a b → R b c → R a c) {id : Nat} {a : Act} {w : World} (σ Z pre : List Nat) (lz : List Bool) (D : List (Nat × Nat × Nat)) (hm : P.follows .mixedOrders = true) (hin : edgesIn ops = true)
    (hD : ops.toList.map (encOf ops) = D) (hp : freeB D pre σ.reverse Z lz a.tmps.size = true)
    (h : freeE P ops Q R w.drew a (fun L => ∀ v w', R w.drew w' → AllE v w' L → (∀ i j, newIdx L i = true → newIdx L j = true → i ≠ j → blk (v i) ≠ blk (v j)) → wpAny P .any ops Q Z.length lz.toArray (putE a v L) w') [] σ) : (Code.region id ops true).wp P Q a w := by
  obtain ⟨L, hc, hLi, hF⟩ := coll_of σ [] h trivial
  simp only [List.map_nil, List.append_nil] at hLi
  simp only [freeB, Bool.and_eq_true, beq_iff_eq] at hp
  obtain ⟨⟨⟨⟨⟨⟨⟨h1, h2⟩, h3⟩, h4⟩, h5⟩, h6⟩, h7⟩, h8'⟩ := hp
  rw [← hLi] at h1 h3 h4 h5 h6 h7
  have hlen : D.length = ops.size := by rw [← hD]; simp
  have hsub : ∀ (j : Nat) o, ops[j]? = some o → ∀ e ∈ o.after, e.on < ops.size := fun j o ho e he => by
    have q := Array.all_eq_true_iff_forall_mem.1 hin o (Array.mem_of_getElem? ho)
    simpa using Array.all_eq_true_iff_forall_mem.1 q e he
  have hes : ∀ e ∈ L, e.i < ops.size ∧ (D.getD e.i (0, 0, 0)).2.1 ≤ a.tmps.size := fun e he => by
    have := List.all_eq_true.1 h6 e.i (List.mem_map.2 ⟨e, he, rfl⟩)
    simp only [Bool.and_eq_true, decide_eq_true_eq] at this
    exact ⟨by omega, this.2⟩
  have hd : ∀ e ∈ L, (D.getD e.i (0, 0, 0)).2.1 = e.d := fun e he => by
    have hl := (hes e he).1
    have ho : ops[e.i]? = some ops[e.i] := Array.getElem?_eq_getElem hl
    obtain ⟨A, B, rfl⟩ := List.append_of_mem he
    have hg := coll_at hc
    rw [← hg.1 _ ho, ← hD, List.getD_eq_getElem?_getD, List.getElem?_map, Array.getElem?_toList, ho]
    rfl
  have hb : ∀ e ∈ L, e.d ≤ a.tmps.size := fun e he => by rw [← hd e he]; exact (hes e he).2
  have hdis : ∀ e ∈ L, ∀ e' ∈ L, ∀ s, e.d = s + 1 → e'.d = s + 1 → e.i = e'.i := fun e he e' he' s q q' => by
    have := List.all_eq_true.1 (List.all_eq_true.1 h5 e.i (List.mem_map.2 ⟨e, he, rfl⟩)) e'.i (List.mem_map.2 ⟨e', he', rfl⟩)
    rw [hd e he, hd e' he', q, q'] at this
    simpa using this
  refine wp_region_any hm ?_
  have hleft : left 0 (L.map (·.i)) = σ.length := by
    unfold left
    rw [List.filter_eq_self.2 (fun i _ => by simp)]
    rw [hLi, List.length_reverse]
  have hsz : σ.length + Z.length = ops.size := by rw [← hlen, ← h8', List.length_reverse]
  have main := free_main (Q := Q) (Z := Z) htr hD hsub hc (nodup_of h1) h2 h3 h4 hb (fun e he => (hes e he).1) (fun listed done a' w' hi h0 => by
    have hall : ∀ e ∈ L, done.testBit e.i = true := fun e he => left_zero h0 e.i (List.mem_map.2 ⟨e, he, rfl⟩)
    obtain ⟨v, rfl, hv, hnw⟩ := inv_end hi (nodup_of h1) hdis hb hall fun e he hne => by
      obtain ⟨A, B, rfl⟩ := List.append_of_mem he
      exact ((coll_at hc).2.2.2 hne).1
    have hl : listed = lz.toArray := by
      apply Array.ext
      · rw [hi.hL.1, h7]; simp [hlen]
      · intro i q1 q2
        have hii : i < ops.size := by rw [← hi.hL.1]; exact q1
        have h8 := hi.hL.2 i hii
        have h9 : listed[i] = done.testBit i := by simpa [Array.getD, q1] using h8
        rw [h9]
        have : lz.toArray[i] = (L.map (·.i)).contains i := by simp [h7]
        rw [this, Bool.eq_iff_iff, List.contains_iff_mem]
        exact ⟨fun q => hi.h6 i q, fun q => left_zero h0 i q⟩
    rw [hl]
    exact hF v w' hi.hR hv hnw) σ.length (Array.replicate ops.size false) 0 a w.drew ⟨⟨by simp, fun j hj => by simp [Array.getD, hj]⟩, hrf _, fun e _ q => by simp at q, fun s _ => rfl, ⟨rfl, rfl⟩, fun i _ q => by simp at q, fun i q => by simp at q, fun e _ e' _ _ q => by simp at q⟩ hleft
  rw [hsz] at main
  exact main

/-! ### Steps -/
def EvOk (ev : Operand → Value) : Prop := (∀ c, ev (.const c) = c) ∧ (∀ f, ev (.func f) = .func (.func f) #[] #[]) ∧ ∀ g, ev (.global g) = .pointer (some ⟨g, 0, none⟩)
theorem evOk (a : Act) : EvOk a.eval := ⟨fun _ => rfl, fun _ => rfl, fun _ => rfl⟩
theorem ev_get {b : Act} {s : Nat} : b.tmps[s]?.getD undef = b.eval (.tmp s) := (Array.getD_eq_getD_getElem? ..).symm
theorem wanted_none {o : Oper} {y : Nat → Option Bool} (h : o.guard = none) : Region.wanted o y = true := by unfold Region.wanted; rw [h]
theorem yield_of {t : Array Value} {g s : Nat} {b : Bool} (hs : (ops[g]?).bind (·.dst) = some s) (hv : t.getD s undef = .bool b) : yielded ops t g = some b := by
  have hq : t[s]? = some (.bool b) := by
    rw [Array.getD_eq_getD_getElem?] at hv
    cases h : t[s]? with
    | none => rw [h] at hv; simp [undef] at hv
    | some u => rw [h] at hv; simpa using hv
  unfold yielded
  rw [hs]
  simp [hq]
theorem wanted_some {o : Oper} {y : Nat → Option Bool} {g : Nat} {b c : Bool} (h : o.guard = some (g, b)) (hy : y g = some c) : Region.wanted o y = (c == b) := by
  unfold Region.wanted
  rw [h]
  show (y g == some b) = _
  rw [hy]
  cases b <;> cases c <;> rfl
theorem guard_looks {o : Oper} {g s : Nat} {b : Bool} (h : o.guard = some (g, b)) (hs : (ops[g]?).bind (·.dst) = some s) : (o.looksAt ops).contains s = true := by
  rw [List.contains_iff_mem]
  unfold Oper.looksAt
  rw [h]
  simp [hs]
variable {R : World → World → Prop} {w0 : World} {a0 : Act} {F : List Ent → Prop} {L : List Ent} {i : Nat} {r : List Nat}
/-- An operation without a guard. -/
theorem free_step (o : Oper) (ho' : nthO ops.toList i = some o) (Φ : Value → World → Prop) {d : Nat} (hd : dstOf o = d) (hΦ : ∀ u w w', Φ u w → R w w' → Φ u w') (hg : o.guard = none)
    (h : ∀ (b : Act) w, EvOk b.eval → R w0 w → (∀ s, (o.looksAt ops).contains s = true → lookE a0 s L (b.eval (.tmp s)) w) → ∀ K' : Act → World → Prop, Shut (∀ v w', R w w' → Φ v w' → K' (b.put o.dst v) w') → o.wp P b w K' Q)
    (hr : freeE P ops Q R w0 a0 F (⟨i, d, Φ, false⟩ :: L) r) : freeE P ops Q R w0 a0 F L (i :: r) :=
  ⟨Φ, d, false, ⟨fun o' ho => by rw [of_nthO ho'] at ho; cases ho; exact hd, hΦ, fun o' ho a w hR hk => by
    have ho1 := of_nthO ho'
    rw [ho1] at ho
    cases ho
    refine wpOp_step ho1 fun K' hK => ?_
    rw [if_pos (wanted_none hg)]
    exact h a w (evOk a) hR hk K' fun v w' h1 h2 => hK _ _ ⟨v, rfl, h1, h2, fun q => by cases q⟩, fun q => by cases q⟩, hr⟩
/-- An operation without a guard that makes a block: it is another one than those of the others. -/
theorem free_new (o : Oper) (ho' : nthO ops.toList i = some o) (Φ : Value → World → Prop) {d : Nat} (hd : dstOf o = d) (hΦ : ∀ u w w', Φ u w → R w w' → Φ u w') (hg : o.guard = none) (d0 : d ≠ 0) (hb : ∀ u w, Φ u w → ∃ g, blk u = some g ∧ g < w.heap.size)
    (h : ∀ (b : Act) w, EvOk b.eval → R w0 w → (∀ s, (o.looksAt ops).contains s = true → lookE a0 s L (b.eval (.tmp s)) w) → ∀ K' : Act → World → Prop, Shut (∀ v w', R w w' → Φ v w' → (∀ g, blk v = some g → w.heap.size ≤ g) → K' (b.put o.dst v) w') → o.wp P b w K' Q)
    (hr : freeE P ops Q R w0 a0 F (⟨i, d, Φ, true⟩ :: L) r) : freeE P ops Q R w0 a0 F L (i :: r) :=
  ⟨Φ, d, true, ⟨fun o' ho => by rw [of_nthO ho'] at ho; cases ho; exact hd, hΦ, fun o' ho a w hR hk => by
    have ho1 := of_nthO ho'
    rw [ho1] at ho
    cases ho
    refine wpOp_step ho1 fun K' hK => ?_
    rw [if_pos (wanted_none hg)]
    exact h a w (evOk a) hR hk K' fun v w' h1 h2 h3 => hK _ _ ⟨v, rfl, h1, h2, fun _ => h3⟩, fun _ => ⟨d0, hb⟩⟩, hr⟩
/-- .. that yields one value, and leaves the world alone. -/
theorem free_det (hrf : ∀ w, R w w) (o : Oper) (ho' : nthO ops.toList i = some o) {v : Value} {d : Nat} (hd : dstOf o = d) (hg : o.guard = none)
    (h : ∀ (b : Act) w, EvOk b.eval → R w0 w → (∀ s, (o.looksAt ops).contains s = true → lookE a0 s L (b.eval (.tmp s)) w) → (execOp b.eval o).run P w = .ok (.value v) w)
    (hr : freeE P ops Q R w0 a0 F (⟨i, d, fun u _ => u = v, false⟩ :: L) r) : freeE P ops Q R w0 a0 F L (i :: r) :=
  free_step o ho' (fun u _ => u = v) hd (fun _ _ _ h _ => h) hg (fun b w he hR hk K' hK => by unfold Oper.wp; rw [h b w he hR hk]; exact hK v w (hrf w) rfl) hr
/-- An operation with a guard that is met. -/
theorem free_stepG (o : Oper) (ho' : nthO ops.toList i = some o) (Φ : Value → World → Prop) {d : Nat} (hd : dstOf o = d) (hΦ : ∀ u w w', Φ u w → R w w' → Φ u w') {g : Nat} (s : Nat) (b : Bool) (hg : o.guard = some (g, b)) (hs : (ops[g]?).bind (·.dst) = some s)
    (hgd : ∀ u w, lookE a0 s L u w → u = .bool b)
    (h : ∀ (b : Act) w, EvOk b.eval → R w0 w → (∀ s, (o.looksAt ops).contains s = true → lookE a0 s L (b.eval (.tmp s)) w) → ∀ K' : Act → World → Prop, Shut (∀ v w', R w w' → Φ v w' → K' (b.put o.dst v) w') → o.wp P b w K' Q)
    (hr : freeE P ops Q R w0 a0 F (⟨i, d, Φ, false⟩ :: L) r) : freeE P ops Q R w0 a0 F L (i :: r) :=
  ⟨Φ, d, false, ⟨fun o' ho => by rw [of_nthO ho'] at ho; cases ho; exact hd, hΦ, fun o' ho a w hR hk => by
    have ho1 := of_nthO ho'
    rw [ho1] at ho
    cases ho
    refine wpOp_step ho1 fun K' hK => ?_
    rw [if_pos ((wanted_some hg (yield_of hs (hgd _ _ (hk s (guard_looks hg hs))))).trans (by cases b <;> rfl))]
    exact h a w (evOk a) hR hk K' fun v w' h1 h2 => hK _ _ ⟨v, rfl, h1, h2, fun q => by cases q⟩, fun q => by cases q⟩, hr⟩
theorem free_detG (hrf : ∀ w, R w w) (o : Oper) (ho' : nthO ops.toList i = some o) {v : Value} {d : Nat} (hd : dstOf o = d) {g : Nat} (s : Nat) (b : Bool) (hg : o.guard = some (g, b)) (hs : (ops[g]?).bind (·.dst) = some s)
    (hgd : ∀ u w, lookE a0 s L u w → u = .bool b)
    (h : ∀ (b : Act) w, EvOk b.eval → R w0 w → (∀ s, (o.looksAt ops).contains s = true → lookE a0 s L (b.eval (.tmp s)) w) → (execOp b.eval o).run P w = .ok (.value v) w)
    (hr : freeE P ops Q R w0 a0 F (⟨i, d, fun u _ => u = v, false⟩ :: L) r) : freeE P ops Q R w0 a0 F L (i :: r) :=
  free_stepG o ho' (fun u _ => u = v) hd (fun _ _ _ h _ => h) s b hg hs hgd (fun b w he hR hk K' hK => by unfold Oper.wp; rw [h b w he hR hk]; exact hK v w (hrf w) rfl) hr
/-- .. that is not met. -/
theorem free_skip (hrf : ∀ w, R w w) (o : Oper) (ho' : nthO ops.toList i = some o) {d : Nat} (hd : dstOf o = d) {g : Nat} (s : Nat) (b : Bool) (hg : o.guard = some (g, b)) (hs : (ops[g]?).bind (·.dst) = some s)
    (hgd : ∀ u w, lookE a0 s L u w → u = .bool (!b))
    (hr : freeE P ops Q R w0 a0 F (⟨i, d, fun u _ => u = undef, false⟩ :: L) r) : freeE P ops Q R w0 a0 F L (i :: r) :=
  ⟨fun u _ => u = undef, d, false, ⟨fun o' ho => by rw [of_nthO ho'] at ho; cases ho; exact hd, fun _ _ _ h _ => h, fun o' ho a w hR hk => by
    have ho1 := of_nthO ho'
    rw [ho1] at ho
    cases ho
    refine wpOp_step ho1 fun K' hK => ?_
    rw [if_neg (by rw [wanted_some hg (yield_of hs (hgd _ _ (hk s (guard_looks hg hs))))]; cases b <;> decide)]
    exact hK _ _ ⟨undef, rfl, hrf w, rfl, fun q => by cases q⟩, fun q => by cases q⟩, hr⟩
/-- Nothing is left. -/
theorem any_nil {lz : Array Bool} {a : Act} {w : World} (h1 : Region.ready .any ops lz = []) (h : Q .normal a w) : wpAny P .any ops Q 0 lz a w := ⟨h1, h⟩
/-- The next one is known. -/
theorem any_more {lz : Array Bool} {z n : Nat} {a : Act} {w : World} (o : Oper) (ho' : nthO ops.toList z = some o) (hg : o.guard = none) (h1 : Region.ready .any ops lz = [z])
    (h : ∀ K' : Act → World → Prop, Shut (∀ a' w', wpAny P .any ops Q n (lz.setIfInBounds z true) a' w' → K' a' w') → o.wp P a w K' Q) : wpAny P .any ops Q (n + 1) lz a w := by
  refine ⟨fun q => absurd q (by rw [h1]; simp), fun i hi => ?_⟩
  rw [h1] at hi
  obtain rfl : i = z := by simpa using hi
  refine wpOp_step (of_nthO ho') fun K' hK => ?_
  rw [if_pos (wanted_none hg)]
  exact h K' hK
end
section
variable {P : Program} {ops : Array Oper} {Q : Exit → Act → World → Prop} {R : World → World → Prop} {id : Nat} {a : Act} {w : World}
theorem qgF (hrf : ∀ w, R w w) (htr : ∀ a b c, R a b → R b c → R a c) (σ Z pre : List Nat) (lz : List Bool)
    (h : freeE P ops Q R w.drew a (fun L => ∀ v w', R w.drew w' → AllE v w' L → (∀ i j, newIdx L i = true → newIdx L j = true → i ≠ j → blk (v i) ≠ blk (v j)) → wpAny P .any ops Q Z.length lz.toArray (putE a v L) w') [] σ) (hm : P.follows .mixedOrders = true := by kernel_rfl) (hin : edgesIn ops = true := by kernel_rfl)
    (hp : freeB (ops.toList.map (encOf ops)) pre σ.reverse Z lz a.tmps.size = true := by kernel_rfl) : (Code.region id ops true).wp P Q a w :=
  wp_region_free hrf htr σ Z pre lz _ hm hin rfl hp h
end
end Go.Proofs.Yteaoacinhdjkeaa
