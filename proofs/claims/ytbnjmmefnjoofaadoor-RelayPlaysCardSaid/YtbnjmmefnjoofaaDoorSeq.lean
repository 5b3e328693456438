/-
  A region that draws its order, walked in ONE order: what only reads is taken as soon as it may come up; what makes memory (calls, new blocks) comes one at a time and leaves all old memory as it was. No conditions.
-/
import Derived.Test.YtbnjmmefnjoofaaDoorBase
import Derived.Deep.RegionHeld3
namespace Go.Proofs.YtbnjmmefnjoofaaDoor

/-! ### Sets of numbers as one number -/
def maskOf : List Nat → Nat
  | [] => 0
  | d :: r => maskOf r ||| (1 <<< d)
theorem testBit_maskOf : ∀ (l : List Nat) (k : Nat), (maskOf l).testBit k = l.contains k
  | [], k => by simp [maskOf]
  | d :: r, k => by
    rw [maskOf, Nat.testBit_or, testBit_maskOf r k, List.contains_cons, Nat.one_shiftLeft, Nat.testBit_two_pow]
    by_cases h : d = k
    · subst h; simp
    · have h' : ¬ k = d := fun e => h e.symm
      simp [h, h']
theorem sub_mask {a b : Nat} (h : a &&& b = a) {k : Nat} (hk : a.testBit k = true) : b.testBit k = true := by
  have := congrArg (·.testBit k) h
  simp only [Nat.testBit_and, hk, Bool.true_and] at this
  exact this
theorem not_sub_mask {a b : Nat} (h : a &&& b ≠ a) : ∃ k, a.testBit k = true ∧ b.testBit k = false := by
  refine Classical.byContradiction fun hn => h ?_
  apply Nat.eq_of_testBit_eq
  intro k
  rw [Nat.testBit_and]
  cases ha : a.testBit k with
  | false => rfl
  | true =>
    cases hb : b.testBit k with
    | true => rfl
    | false => exact absurd ⟨k, ha, hb⟩ hn

section
variable {P : Program} {ops : Array Oper} {Q : Exit → Act → World → Prop} {md : Region.Mode}

/-- Of an operation: for whom it waits; where it writes (0: nowhere); at what it looks. -/
def depsOf (o : Oper) : List Nat := (o.after.toList.filter fun e => Region.binds .any e).map (·.on)
def dstOf (o : Oper) : Nat := match o.dst with | some d => d + 1 | none => 0
def encOf (ops : Array Oper) (o : Oper) : Nat × Nat × Nat := (maskOf (depsOf o), dstOf o, maskOf ((o.looksAt ops).map (· + 1)))
theorem dep_iff (o : Oper) (k : Nat) : (maskOf (depsOf o)).testBit k = true ↔ ∃ e ∈ o.after, Region.binds .any e = true ∧ e.on = k := by
  rw [testBit_maskOf, List.contains_iff_mem, depsOf, List.mem_map]
  constructor
  · rintro ⟨e, he, rfl⟩
    rw [List.mem_filter] at he
    exact ⟨e, by simpa using he.1, he.2, rfl⟩
  · rintro ⟨e, he, hb, rfl⟩
    exact ⟨e, List.mem_filter.2 ⟨by simpa using he, hb⟩, rfl⟩
theorem look_iff (o : Oper) (d : Nat) : (maskOf ((o.looksAt ops).map (· + 1))).testBit (d + 1) = (o.looksAt ops).contains d := by
  rw [testBit_maskOf, Bool.eq_iff_iff, List.contains_iff_mem, List.contains_iff_mem, List.mem_map]
  constructor
  · rintro ⟨a, ha, he⟩
    obtain rfl : a = d := by omega
    exact ha
  · intro h
    exact ⟨d, h, rfl⟩

def apartF (x y : Nat × Nat × Nat) : Bool := (x.2.1 == 0 || (!y.2.2.testBit x.2.1 && !(y.2.1 == x.2.1))) && (y.2.1 == 0 || !x.2.2.testBit y.2.1)
theorem apart_of {x y : Oper} (h : apartF (encOf ops x) (encOf ops y) = true) : x.apart ops y = true := by
  unfold apartF encOf dstOf at h
  unfold Oper.apart
  cases hx : x.dst <;> cases hy : y.dst <;> simp only [hx, hy] at h ⊢ <;> simp [look_iff] at h ⊢ <;> first | exact h | trivial

/-- Every other operation has come up, waits for number i, or is apart from it. -/
def allApart (i done : Nat) (x : Nat × Nat × Nat) : List (Nat × Nat × Nat) → Nat → Bool
  | [], _ => true
  | y :: r, j => (j == i || done.testBit j || y.1.testBit i || apartF x y) && allApart i done x r (j + 1)
theorem allApart_spec {i done : Nat} {x : Nat × Nat × Nat} : ∀ {D : List (Nat × Nat × Nat)} {k : Nat}, allApart i done x D k = true → ∀ j y, D[j]? = some y → k + j ≠ i → done.testBit (k + j) = false → y.1.testBit i = false → apartF x y = true
  | [], _, _, j, y, hy => by simp at hy
  | z :: r, k, h, 0, y, hy => by
    rw [allApart, Bool.and_eq_true] at h
    simp only [List.getElem?_cons_zero, Option.some.injEq] at hy
    subst hy
    intro h1 h2 h3
    rw [Nat.add_zero] at h1 h2
    simpa [h1, h2, h3] using h.1
  | z :: r, k, h, j + 1, y, hy => by
    rw [allApart, Bool.and_eq_true] at h
    intro h1 h2 h3
    exact allApart_spec h.2 j y (by simpa using hy) (by omega) (by rw [show k + 1 + j = k + (j + 1) by omega]; exact h2) h3
/-- Every other operation has come up, or waits for one that has not. -/
def allWait (i done : Nat) : List (Nat × Nat × Nat) → Nat → Bool
  | [], _ => true
  | y :: r, j => (j == i || done.testBit j || !(y.1 &&& done == y.1)) && allWait i done r (j + 1)
theorem allWait_spec {i done : Nat} : ∀ {D : List (Nat × Nat × Nat)} {k : Nat}, allWait i done D k = true → ∀ j y, D[j]? = some y → k + j ≠ i → done.testBit (k + j) = false → y.1 &&& done ≠ y.1
  | [], _, _, j, y, hy => by simp at hy
  | z :: r, k, h, 0, y, hy => by
    rw [allWait, Bool.and_eq_true] at h
    simp only [List.getElem?_cons_zero, Option.some.injEq] at hy
    subst hy
    intro h1 h2
    rw [Nat.add_zero] at h1 h2
    simpa [h1, h2] using h.1
  | z :: r, k, h, j + 1, y, hy => by
    rw [allWait, Bool.and_eq_true] at h
    intro h1 h2
    exact allWait_spec h.2 j y (by simpa using hy) (by omega) (by rw [show k + 1 + j = k + (j + 1) by omega]; exact h2)

def nthD : List (Nat × Nat × Nat) → Nat → Option (Nat × Nat × Nat)
  | [], _ => none
  | o :: _, 0 => some o
  | _ :: r, n + 1 => nthD r n
theorem nthD_eq : ∀ (l : List (Nat × Nat × Nat)) (n : Nat), nthD l n = l[n]?
  | [], _ => by simp [nthD]
  | _ :: _, 0 => by simp [nthD]
  | _ :: r, n + 1 => by simp [nthD, nthD_eq r n]

/-- Is it an order in which nobody is passed over? -/
def planOk (D : List (Nat × Nat × Nat)) (cs : List Nat) : List Nat → Nat → Bool
  | [], done => done + 1 == 1 <<< D.length
  | i :: rest, done =>
    (match nthD D i with
     | none => false
     | some x => !done.testBit i && x.1 &&& done == x.1 && if cs.contains i = true then allWait i done D 0 else allApart i done x D 0) &&
      planOk D cs rest (done ||| (1 <<< i))

/-- What has come up. -/
def Listed (n done : Nat) (listed : Array Bool) : Prop := listed.size = n ∧ ∀ j, j < n → listed.getD j true = done.testBit j
theorem Listed.set {n done i : Nat} {listed : Array Bool} (h : Listed n done listed) (hi : i < n) : Listed n (done ||| (1 <<< i)) (listed.setIfInBounds i true) := by
  refine ⟨by simpa using h.1, fun j hj => ?_⟩
  rw [Nat.testBit_or, Nat.one_shiftLeft, Nat.testBit_two_pow]
  have hl := h.1
  by_cases e : i = j
  · subst e
    simp [show i < listed.size by omega]
  · rw [getD_set_ne true e, h.2 j hj]
    simp [e]
theorem Listed.on {n done : Nat} {listed : Array Bool} (h : Listed n done listed) {j : Nat} (hj : done.testBit j = true) (hn : j < n) : listed.getD j false = true := by
  have h1 := h.2 j hn
  have hl := h.1
  rw [hj] at h1
  simpa [Array.getD, show j < listed.size by omega] using h1
theorem Listed.off {n done : Nat} {listed : Array Bool} (h : Listed n done listed) {j : Nat} (hj : listed.getD j false = true) : done.testBit j = true := by
  have hl := h.1
  rcases Nat.lt_or_ge j n with hn | hn
  · rw [← h.2 j hn]
    simpa [Array.getD, show j < listed.size by omega] using hj
  · simp [Array.getD, show ¬ j < listed.size by omega] at hj
theorem Listed.lt {n done : Nat} {listed : Array Bool} (h : Listed n done listed) {j : Nat} (hj : listed.getD j true = false) : j < n := by
  have hl := h.1
  rcases Nat.lt_or_ge j n with hn | hn
  · exact hn
  · simp [Array.getD, show ¬ j < listed.size by omega] at hj

theorem held_weaken {S S' : World → Prop} (h : ∀ w, S' w → S w) : ∀ (fuel : Nat) (listed : Array Bool) (a : Act) (w : World), wpAnyH P md ops Q S' fuel listed a w → wpAnyH P md ops Q S fuel listed a w
  | 0, _, _, _, hh => hh
  | fuel + 1, _, _, _, hh => ⟨hh.1, fun i hi => wpOp_mono (fun a' w' h' => ⟨h w' h'.1, held_weaken h fuel _ a' w' h'.2⟩) (hh.2 i hi)⟩

/-- The order that is walked: those of 'cs' make memory, all others only read. -/
def seqE (P : Program) (ops : Array Oper) (Q : Exit → Act → World → Prop) (R : World → World → Prop) (cs : List Nat) : List Nat → Act → World → Prop
  | [], a, w => Q .normal a w
  | i :: rest, a, w => ∃ o, ops[i]? = some o ∧
      if cs.contains i = true then wpOp P ops Q i (fun a' w' => R w w' ∧ seqE P ops Q R cs rest a' w') a w
      else ∃ v, YieldsIf P ops (R w) o v a ∧ seqE P ops Q R cs rest (a.put o.dst v) w

theorem held_of_seq {R : World → World → Prop} (hrf : ∀ w, R w w) (htr : ∀ a b c, R a b → R b c → R a c) {D : List (Nat × Nat × Nat)} (hs : Region.noSelect ops = true) (hQ : ∀ c a d v w, Q (.panic c) (Act.put a d v) w → Q (.panic c) a w) (cs : List Nat) (hD : ops.toList.map (encOf ops) = D)
    (hsub : ∀ (j : Nat) o, ops[j]? = some o → ∀ e ∈ o.after, e.on < ops.size) :
    ∀ (σ : List Nat) (listed : Array Bool) (done : Nat) (a : Act) (w : World), Listed ops.size done listed → planOk D cs σ done = true → seqE P ops Q R cs σ a w → wpAnyH P .any ops Q (R w) σ.length listed a w
  | [], listed, done, a, w, hL, hp, h => by
    refine ⟨?_, h⟩
    have hlen : D.length = ops.size := by rw [← hD]; simp
    have hd : done + 1 = 2 ^ ops.size := by
      have : done + 1 = 1 <<< D.length := by simpa [planOk] using hp
      rw [this, hlen, Nat.one_shiftLeft]
    cases hr : Region.ready .any ops listed with
    | nil => rfl
    | cons j r =>
      have hj : j ∈ Region.ready .any ops listed := by rw [hr]; simp
      obtain ⟨h0, _⟩ := mem_ready.1 hj
      have hlt := hL.lt h0
      rw [hL.2 j hlt] at h0
      have : done = 2 ^ ops.size - 1 := by omega
      rw [this, Nat.testBit_two_pow_sub_one] at h0
      simp [hlt] at h0
  | i :: rest, listed, done, a, w, hL, hp, h => by
    obtain ⟨o, ho, h⟩ := h
    have hi : i < ops.size := (Array.getElem?_eq_some_iff.1 ho).1
    rw [planOk, Bool.and_eq_true] at hp
    obtain ⟨hp1, hp2⟩ := hp
    have hDi : ∀ (j : Nat) oj, ops[j]? = some oj → D[j]? = some (encOf ops oj) := fun j oj hj => by
      rw [← hD, List.getElem?_map, Array.getElem?_toList, hj]; rfl
    rw [nthD_eq, hDi i o ho] at hp1
    simp only [Bool.and_eq_true, Bool.not_eq_true', beq_iff_eq] at hp1
    obtain ⟨⟨hnd, hdep⟩, hp1⟩ := hp1
    have hri : i ∈ Region.ready .any ops listed := mem_ready.2 ⟨(hL.2 i hi).trans hnd, o, ho, fun e he hb =>
      hL.on (sub_mask hdep ((dep_iff o e.on).2 ⟨e, he, hb, rfl⟩)) (hsub i o ho e he)⟩
    have hL' := hL.set hi
    by_cases hc : cs.contains i = true
    · rw [if_pos hc] at h hp1
      refine ⟨fun h0 => (by rw [h0] at hri; cases hri), fun j hj => ?_⟩
      obtain ⟨h0, oj, hoj, hall⟩ := mem_ready.1 hj
      have hjl := hL.lt h0
      rw [hL.2 j hjl] at h0
      by_cases hji : j = i
      · subst hji
        exact wpOp_mono (fun a' w' ⟨he, hh⟩ => ⟨he, held_weaken (fun _ e => htr _ _ _ he e) _ _ _ _ (held_of_seq hrf htr hs hQ cs hD hsub rest _ _ a' w' hL' hp2 hh)⟩) h
      · have hw := allWait_spec hp1 j _ (hDi j oj hoj) (by omega) (by rw [Nat.zero_add]; exact h0)
        obtain ⟨k, hk1, hk2⟩ := not_sub_mask hw
        obtain ⟨e, he, hb, rfl⟩ := (dep_iff oj k).1 hk1
        rw [hL.off (hall e he hb)] at hk2
        cases hk2
    · rw [if_neg hc] at h hp1
      obtain ⟨v, hy, hh⟩ := h
      refine wpAnyH_first ho (Region.noSelect_spec hs) (fun c a w => hQ c a _ _ w) _ listed a w (fun j oj hoj hji hun hno => ?_) hri hy (hrf w) (held_of_seq hrf htr hs hQ cs hD hsub rest _ _ _ w hL' hp2 hh)
      have hjl := hL.lt hun
      rw [hL.2 j hjl] at hun
      refine apart_of (allApart_spec hp1 j _ (hDi j oj hoj) (by omega) (by rw [Nat.zero_add]; exact hun) ?_)
      cases hb : (encOf ops oj).1.testBit i with
      | false => rfl
      | true =>
        obtain ⟨e, he, hb', he'⟩ := (dep_iff oj i).1 hb
        exact absurd he' (hno e he hb')

def edgesIn (ops : Array Oper) : Bool := ops.all fun o => o.after.all fun e => decide (e.on < ops.size)

/-- **A region that draws its order.** 'D': the region's operations as numbers. -/
theorem wp_region_seq {R : World → World → Prop} (hrf : ∀ w, R w w) (htr : ∀ a b c, R a b → R b c → R a c) {id : Nat} {a : Act} {w : World} (σ cs : List Nat) (D : List (Nat × Nat × Nat)) (hm : P.follows .mixedOrders = true) (hs : Region.noSelect ops = true) (hin : edgesIn ops = true) (hl : σ.length = ops.size)
    (hD : ops.toList.map (encOf ops) = D) (hp : planOk D cs σ 0 = true)
    (hQ : ∀ c a d v w, Q (.panic c) (Act.put a d v) w → Q (.panic c) a w) (h : seqE P ops Q R cs σ a w.drew) : (Code.region id ops true).wp P Q a w := by
  refine wp_region_held (S := R w.drew) hm ?_
  have := held_of_seq hrf htr hs hQ cs hD (fun j o ho e he => by
    have h1 := Array.all_eq_true_iff_forall_mem.1 hin o (Array.mem_of_getElem? ho)
    simpa using Array.all_eq_true_iff_forall_mem.1 h1 e he) σ (Array.replicate ops.size false) 0 a w.drew ⟨by simp, fun j hj => by simp [Array.getD, hj]⟩ hp h
  rw [hl] at this
  exact this

/-- The operation at a place, written out. -/
def nthO : List Oper → Nat → Option Oper
  | [], _ => none
  | o :: _, 0 => some o
  | _ :: r, n + 1 => nthO r n
theorem nthO_eq : ∀ (l : List Oper) (n : Nat), nthO l n = l[n]?
  | [], _ => by simp [nthO]
  | _ :: _, 0 => by simp [nthO]
  | _ :: r, n + 1 => by simp [nthO, nthO_eq r n]
theorem of_nthO {i : Nat} {o : Oper} (h : nthO ops.toList i = some o) : ops[i]? = some o := by rw [nthO_eq] at h; simpa using h

theorem seq_done {R : World → World → Prop} {cs : List Nat} {a : Act} {w : World} (h : Q .normal a w) : seqE P ops Q R cs [] a w := h

/-- What only reads: it yields its value in every world where the facts F hold, and these hold from now on. -/
theorem seq_read {R : World → World → Prop} {cs : List Nat} {i : Nat} {rest : List Nat} {a : Act} {w : World} (F : World → Prop) (hF : ∀ w', R w w' → F w') (o : Oper) {v : Value} (ho' : nthO ops.toList i = some o) (hc : cs.contains i = false)
    (hw : Region.wanted o (yielded ops a.tmps) = true) (hrun : ∀ w', F w' → (execOp a.eval o).run P w' = .ok (.value v) w') (h : seqE P ops Q R cs rest (a.put o.dst v) w) : seqE P ops Q R cs (i :: rest) a w :=
  ⟨o, of_nthO ho', by rw [if_neg (by rw [hc]; exact Bool.false_ne_true)]; exact ⟨v, .inl ⟨hw, fun w' e => hrun w' (hF w' e)⟩, h⟩⟩

/-- What is not wanted (its guard is false). -/
theorem seq_skip {R : World → World → Prop} {cs : List Nat} {i : Nat} {rest : List Nat} {a : Act} {w : World} (o : Oper) (ho' : nthO ops.toList i = some o) (hc : cs.contains i = false)
    (hw : Region.wanted o (yielded ops a.tmps) = false) (h : seqE P ops Q R cs rest (a.put o.dst undef) w) : seqE P ops Q R cs (i :: rest) a w :=
  ⟨o, of_nthO ho', by rw [if_neg (by rw [hc]; exact Bool.false_ne_true)]; exact ⟨_, .inr ⟨hw, rfl⟩, h⟩⟩

/-- What makes memory. -/
theorem seq_do {R : World → World → Prop} {cs : List Nat} {i : Nat} {rest : List Nat} {a : Act} {w : World} (o : Oper) (ho' : nthO ops.toList i = some o) (hc : cs.contains i = true) (hw : Region.wanted o (yielded ops a.tmps) = true)
    (h : ∀ K' : Act → World → Prop, Shut (∀ a' w', R w w' → seqE P ops Q R cs rest a' w' → K' a' w') → Oper.wp P o a w K' Q) : seqE P ops Q R cs (i :: rest) a w :=
  ⟨o, of_nthO ho', by
    rw [if_pos hc]
    refine wpOp_step (of_nthO ho') fun K' hK => ?_
    rw [if_pos hw]
    exact h K' fun a' w' he hh => hK a' w' ⟨he, hh⟩⟩

theorem seq_do_skip {R : World → World → Prop} (hrf : ∀ w, R w w) {cs : List Nat} {i : Nat} {rest : List Nat} {a : Act} {w : World} (o : Oper) (ho' : nthO ops.toList i = some o) (hc : cs.contains i = true) (hw : Region.wanted o (yielded ops a.tmps) = false)
    (h : seqE P ops Q R cs rest (a.put o.dst undef) w) : seqE P ops Q R cs (i :: rest) a w :=
  ⟨o, of_nthO ho', by
    rw [if_pos hc]
    refine wpOp_step (of_nthO ho') fun K' hK => ?_
    rw [if_neg (by rw [hw]; exact Bool.false_ne_true)]
    exact hK _ _ ⟨hrf w, h⟩⟩
end
/-! ### The same, short -/
section
open Go.ChangeShapes Go.WideShapes Go.ChangeAt Go.RowKit Go.Deep
variable {P : Program} {ops : Array Oper} {Q : Exit → Act → World → Prop} {R : World → World → Prop} {id i : Nat} {rest cs : List Nat} {a : Act} {w : World}
theorem qgR (hrf : ∀ w, R w w) (htr : ∀ a b c, R a b → R b c → R a c) (σ cs : List Nat) (h : seqE P ops Q R cs σ a w.drew) (hm : P.follows .mixedOrders = true := by kernel_rfl) (hs : Region.noSelect ops = true := by kernel_rfl) (hin : edgesIn ops = true := by kernel_rfl) (hl : σ.length = ops.size := by exact rfl)
    (hp : planOk (ops.toList.map (encOf ops)) cs σ 0 = true := by kernel_rfl) (hQ : ∀ c a d v w, Q (.panic c) (Act.put a d v) w → Q (.panic c) a w := by exact fun _ _ d _ _ h => by cases d <;> exact h) : (Code.region id ops true).wp P Q a w :=
  wp_region_seq hrf htr σ cs _ hm hs hin hl rfl hp hQ h
theorem qgE (σ cs : List Nat) (h : seqE P ops Q Ext cs σ a w.drew) (hm : P.follows .mixedOrders = true := by kernel_rfl) (hs : Region.noSelect ops = true := by kernel_rfl) (hin : edgesIn ops = true := by kernel_rfl) (hl : σ.length = ops.size := by exact rfl)
    (hp : planOk (ops.toList.map (encOf ops)) cs σ 0 = true := by kernel_rfl) (hQ : ∀ c a d v w, Q (.panic c) (Act.put a d v) w → Q (.panic c) a w := by exact fun _ _ d _ _ h => by cases d <;> exact h) : (Code.region id ops true).wp P Q a w :=
  wp_region_seq Ext.refl (fun _ _ _ => Ext.trans) σ cs _ hm hs hin hl rfl hp hQ h
theorem qgB (B : Nat) (σ cs : List Nat) (h : seqE P ops Q (Below B) cs σ a w.drew) (hm : P.follows .mixedOrders = true := by kernel_rfl) (hs : Region.noSelect ops = true := by kernel_rfl) (hin : edgesIn ops = true := by kernel_rfl) (hl : σ.length = ops.size := by exact rfl)
    (hp : planOk (ops.toList.map (encOf ops)) cs σ 0 = true := by kernel_rfl) (hQ : ∀ c a d v w, Q (.panic c) (Act.put a d v) w → Q (.panic c) a w := by exact fun _ _ d _ _ h => by cases d <;> exact h) : (Code.region id ops true).wp P Q a w :=
  wp_region_seq (Below.refl _) (fun _ _ _ => Below.trans) σ cs _ hm hs hin hl rfl hp hQ h
theorem qgW (g : Nat) (σ cs : List Nat) (h : seqE P ops Q (fun a b => a.grownBy b (some g)) cs σ a w.drew) (hm : P.follows .mixedOrders = true := by kernel_rfl) (hs : Region.noSelect ops = true := by kernel_rfl) (hin : edgesIn ops = true := by kernel_rfl) (hl : σ.length = ops.size := by exact rfl)
    (hp : planOk (ops.toList.map (encOf ops)) cs σ 0 = true := by kernel_rfl) (hQ : ∀ c a d v w, Q (.panic c) (Act.put a d v) w → Q (.panic c) a w := by exact fun _ _ d _ _ h => by cases d <;> exact h) : (Code.region id ops true).wp P Q a w :=
  wp_region_seq (R := fun a b => a.grownBy b (some g)) (fun w => World.grownBy.refl w _) (fun _ _ _ h k => ⟨k.os.trans h.os, k.tape.trans h.tape, k.output.trans h.output, Nat.le_trans h.size k.size, fun i hi hr => (k.block i (Nat.lt_of_lt_of_le hi h.size) hr).trans (h.block i hi hr)⟩) σ cs _ hm hs hin hl rfl hp hQ h
theorem qR (F : World → Prop) (h : ∀ w', R w w' → F w') {o : Oper} {v : Value} (hn : seqE P ops Q R cs rest (a.put o.dst v) w) (ho' : nthO ops.toList i = some o := by exact rfl) (hc : cs.contains i = false := by exact rfl)
    (hw : Region.wanted o (yielded ops a.tmps) = true := by rfl) (hrun : ∀ w', F w' → (execOp a.eval o).run P w' = .ok (.value v) w' := by intro w' hF; go_simp; (try with_reducible rfl)) : seqE P ops Q R cs (i :: rest) a w :=
  seq_read F h o ho' hc hw hrun hn
theorem qR0 {o : Oper} {v : Value} (hn : seqE P ops Q R cs rest (a.put o.dst v) w) (ho' : nthO ops.toList i = some o := by exact rfl) (hc : cs.contains i = false := by exact rfl)
    (hw : Region.wanted o (yielded ops a.tmps) = true := by rfl) (hrun : ∀ w', (execOp a.eval o).run P w' = .ok (.value v) w' := by intro w'; go_simp; (try with_reducible rfl)) : seqE P ops Q R cs (i :: rest) a w :=
  seq_read (fun _ => True) (fun _ _ => trivial) o ho' hc hw (fun w' _ => hrun w') hn
theorem qV {o : Oper} (ho' : nthO ops.toList i = some o) (F : World → Prop) (h : ∀ w', R w w' → F w') (v : Value) (hrun : ∀ w', F w' → (execOp a.eval o).run P w' = .ok (.value v) w') (hn : seqE P ops Q R cs rest (a.put o.dst v) w) (hc : cs.contains i = false := by exact rfl)
    (hw : Region.wanted o (yielded ops a.tmps) = true := by rfl) : seqE P ops Q R cs (i :: rest) a w :=
  seq_read F h o ho' hc hw hrun hn
theorem qS {o : Oper} (hn : seqE P ops Q R cs rest (a.put o.dst undef) w) (ho' : nthO ops.toList i = some o := by exact rfl) (hc : cs.contains i = false := by exact rfl) (hw : Region.wanted o (yielded ops a.tmps) = false := by rfl) : seqE P ops Q R cs (i :: rest) a w :=
  seq_skip o ho' hc hw hn
theorem qD {o : Oper} (h : ∀ K' : Act → World → Prop, Shut (∀ a' w', R w w' → seqE P ops Q R cs rest a' w' → K' a' w') → Oper.wp P o a w K' Q) (ho' : nthO ops.toList i = some o := by exact rfl) (hc : cs.contains i = true := by exact rfl) (hw : Region.wanted o (yielded ops a.tmps) = true := by rfl) : seqE P ops Q R cs (i :: rest) a w :=
  seq_do o ho' hc hw h
end
end Go.Proofs.YtbnjmmefnjoofaaDoor
