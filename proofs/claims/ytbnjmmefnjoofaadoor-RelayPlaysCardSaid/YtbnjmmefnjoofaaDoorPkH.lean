import Derived.Test.YtbnjmmefnjoofaaDoorSeq
import Derived.Test.YtbnjmmefnjoofaaDoorSeqZ
section
/-
  A region that draws its order, several operations of which make memory and may come in any order: every order that is possible is walked, as a tree; what only reads is taken as soon as it may come up. No conditions.
-/
namespace Go.Proofs.YtbnjmmefnjoofaaDoor

/-- The walk's plan: 'rd i p': number i reads, then p; 'alt i p q': number i makes memory and comes next, then p; or one of q does; 'stop': no other one is ready. -/
inductive Pl where
  | nil
  | rd (i : Nat) (p : Pl)
  | alt (i : Nat) (p q : Pl)
  | stop

/-- Every other operation has come up, is one of m, or waits for one that has not. -/
def allWaitM (m done : Nat) : List (Nat × Nat × Nat) → Nat → Bool
  | [], _ => true
  | y :: r, j => (m.testBit j || done.testBit j || !(y.1 &&& done == y.1)) && allWaitM m done r (j + 1)
theorem allWaitM_spec {m done : Nat} : ∀ {D : List (Nat × Nat × Nat)} {k : Nat}, allWaitM m done D k = true → ∀ j y, D[j]? = some y → m.testBit (k + j) = false → done.testBit (k + j) = false → y.1 &&& done ≠ y.1
  | [], _, _, j, y, hy => by simp at hy
  | z :: r, k, h, 0, y, hy => by
    rw [allWaitM, Bool.and_eq_true] at h
    simp only [List.getElem?_cons_zero, Option.some.injEq] at hy
    subst hy
    intro h1 h2
    rw [Nat.add_zero] at h1 h2
    simpa [h1, h2] using h.1
  | z :: r, k, h, j + 1, y, hy => by
    rw [allWaitM, Bool.and_eq_true] at h
    intro h1 h2
    exact allWaitM_spec h.2 j y (by simpa using hy) (by rw [show k + 1 + j = k + (j + 1) by omega]; exact h1) (by rw [show k + 1 + j = k + (j + 1) by omega]; exact h2)

def readyD (D : List (Nat × Nat × Nat)) (i done : Nat) : Bool := match nthD D i with
  | none => false
  | some x => !done.testBit i && x.1 &&& done == x.1
/-- Is it a plan in which nobody is passed over? -/
def planT (D : List (Nat × Nat × Nat)) : Pl → Nat → Nat → Bool → Nat → Bool
  | .nil, done, _, inC, fuel => !inC && fuel == 0 && done + 1 == 1 <<< D.length
  | .rd i p, done, _, inC, fuel => !inC && readyD D i done && (match nthD D i with
      | none => false
      | some x => allApart i done x D 0) && (match fuel with
      | 0 => false
      | f + 1 => planT D p (done ||| (1 <<< i)) 0 false f)
  | .alt i p q, done, m, _, fuel => readyD D i done && (match fuel with
      | 0 => false
      | f + 1 => planT D p (done ||| (1 <<< i)) 0 false f) && planT D q done (m ||| (1 <<< i)) true fuel
  | .stop, done, m, inC, fuel => inC && !(fuel == 0) && allWaitM m done D 0

section
variable {P : Program} {ops : Array Oper} {Q : Exit → Act → World → Prop}
def seqT (P : Program) (ops : Array Oper) (Q : Exit → Act → World → Prop) (R : World → World → Prop) : Pl → Act → World → Prop
  | .nil, a, w => Q .normal a w
  | .rd i p, a, w => ∃ o, ops[i]? = some o ∧ ∃ v, YieldsIf P ops (R w) o v a ∧ seqT P ops Q R p (a.put o.dst v) w
  | .alt i p q, a, w => (∃ o, ops[i]? = some o ∧ wpOp P ops Q i (fun a' w' => R w w' ∧ seqT P ops Q R p a' w') a w) ∧ seqT P ops Q R q a w
  | .stop, _, _ => True

theorem readyD_spec {D : List (Nat × Nat × Nat)} {i done : Nat} (h : readyD D i done = true) : ∃ x, D[i]? = some x ∧ done.testBit i = false ∧ x.1 &&& done = x.1 := by
  unfold readyD at h
  rw [nthD_eq] at h
  cases hx : D[i]? with
  | none => rw [hx] at h; cases h
  | some x =>
    rw [hx] at h
    simp only [Bool.and_eq_true, Bool.not_eq_true', beq_iff_eq] at h
    exact ⟨x, rfl, h.1, h.2⟩

/-- The numbers of a chain. -/
def chain : Pl → List Nat
  | .alt i _ q => i :: chain q
  | _ => []

theorem held_of_seqT {R : World → World → Prop} (hrf : ∀ w, R w w) (htr : ∀ a b c, R a b → R b c → R a c) {D : List (Nat × Nat × Nat)} (hs : Region.noSelect ops = true) (hQ : ∀ c a d v w, Q (.panic c) (Act.put a d v) w → Q (.panic c) a w) (hD : ops.toList.map (encOf ops) = D)
    (hsub : ∀ (j : Nat) o, ops[j]? = some o → ∀ e ∈ o.after, e.on < ops.size) :
    ∀ (p : Pl) (listed : Array Bool) (done m : Nat) (inC : Bool) (fuel : Nat) (a : Act) (w : World), Listed ops.size done listed → planT D p done m inC fuel = true → seqT P ops Q R p a w →
      (inC = false → m = 0 → wpAnyH P .any ops Q (R w) fuel listed a w) ∧
      (∀ f, fuel = f + 1 → ∀ j, j ∈ Region.ready .any ops listed → m.testBit j = true ∨ wpOp P ops Q j (fun a' w' => R w w' ∧ wpAnyH P .any ops Q (R w) f (listed.setIfInBounds j true) a' w') a w)
  | .nil, listed, done, m, inC, fuel, a, w, hL, hp, h => by
    simp only [planT, Bool.and_eq_true, Bool.not_eq_true', beq_iff_eq] at hp
    obtain ⟨⟨_, rfl⟩, hd⟩ := hp
    refine ⟨fun _ _ => ⟨?_, h⟩, fun f hf => absurd hf (by omega)⟩
    have hlen : D.length = ops.size := by rw [← hD]; simp
    rw [hlen, Nat.one_shiftLeft] at hd
    cases hr : Region.ready .any ops listed with
    | nil => rfl
    | cons j r =>
      have hj : j ∈ Region.ready .any ops listed := by rw [hr]; simp
      obtain ⟨h0, _⟩ := mem_ready.1 hj
      have hlt := hL.lt h0
      rw [hL.2 j hlt] at h0
      have : done = 2 ^ ops.size - 1 := by omega
      rw [this, Nat.testBit_two_pow_sub_one] at h0
      simp [hlt] at h0
  | .rd i p, listed, done, m, inC, fuel, a, w, hL, hp, h => by
    obtain ⟨o, ho, v, hy, hh⟩ := h
    have hi : i < ops.size := (Array.getElem?_eq_some_iff.1 ho).1
    have hDi : ∀ (j : Nat) oj, ops[j]? = some oj → D[j]? = some (encOf ops oj) := fun j oj hj => by
      rw [← hD, List.getElem?_map, Array.getElem?_toList, hj]; rfl
    simp only [planT, Bool.and_eq_true, Bool.not_eq_true'] at hp
    obtain ⟨⟨⟨hc, hr⟩, hp1⟩, hp2⟩ := hp
    obtain ⟨x, hx, hnd, hdep⟩ := readyD_spec hr
    rw [hDi i o ho] at hx
    obtain rfl := Option.some.inj hx
    rw [nthD_eq, hDi i o ho] at hp1
    have hri : i ∈ Region.ready .any ops listed := mem_ready.2 ⟨(hL.2 i hi).trans hnd, o, ho, fun e he hb =>
      hL.on (sub_mask hdep ((dep_iff o e.on).2 ⟨e, he, hb, rfl⟩)) (hsub i o ho e he)⟩
    have hL' := hL.set hi
    cases fuel with
    | zero => simp at hp2
    | succ f =>
      have main : wpAnyH P .any ops Q (R w) (f + 1) listed a w := by
        refine wpAnyH_first ho (Region.noSelect_spec hs) (fun c a w => hQ c a _ _ w) _ listed a w (fun j oj hoj hji hun hno => ?_) hri hy (hrf w) ((held_of_seqT hrf htr hs hQ hD hsub p _ _ 0 false f _ w hL' hp2 hh).1 rfl rfl)
        have hjl := hL.lt hun
        rw [hL.2 j hjl] at hun
        refine apart_of (allApart_spec hp1 j _ (hDi j oj hoj) (by omega) (by rw [Nat.zero_add]; exact hun) ?_)
        cases hb : (encOf ops oj).1.testBit i with
        | false => rfl
        | true =>
          obtain ⟨e, he, hb', he'⟩ := (dep_iff oj i).1 hb
          exact absurd he' (hno e he hb')
      refine ⟨fun _ _ => main, fun f' hf j hj => ?_⟩
      obtain rfl : f = f' := by omega
      exact .inr (wpOp_mono (fun a' w' ⟨he, hh⟩ => ⟨he, hh⟩) (main.2 j hj))
  | .alt i p q, listed, done, m, inC, fuel, a, w, hL, hp, h => by
    obtain ⟨⟨o, ho, hop⟩, hq⟩ := h
    have hi : i < ops.size := (Array.getElem?_eq_some_iff.1 ho).1
    have hDi : ∀ (j : Nat) oj, ops[j]? = some oj → D[j]? = some (encOf ops oj) := fun j oj hj => by
      rw [← hD, List.getElem?_map, Array.getElem?_toList, hj]; rfl
    simp only [planT, Bool.and_eq_true] at hp
    obtain ⟨⟨hr, hp1⟩, hp2⟩ := hp
    obtain ⟨x, hx, hnd, hdep⟩ := readyD_spec hr
    rw [hDi i o ho] at hx
    obtain rfl := Option.some.inj hx
    have hri : i ∈ Region.ready .any ops listed := mem_ready.2 ⟨(hL.2 i hi).trans hnd, o, ho, fun e he hb =>
      hL.on (sub_mask hdep ((dep_iff o e.on).2 ⟨e, he, hb, rfl⟩)) (hsub i o ho e he)⟩
    have hL' := hL.set hi
    cases fuel with
    | zero => simp at hp1
    | succ f =>
      have IQ := (held_of_seqT hrf htr hs hQ hD hsub q listed done (m ||| (1 <<< i)) true (f + 1) a w hL hp2 hq).2 f rfl
      have HI : wpOp P ops Q i (fun a' w' => R w w' ∧ wpAnyH P .any ops Q (R w) f (listed.setIfInBounds i true) a' w') a w :=
        wpOp_mono (fun a' w' ⟨he, hh⟩ => ⟨he, held_weaken (fun _ e => htr _ _ _ he e) _ _ _ _ ((held_of_seqT hrf htr hs hQ hD hsub p _ _ 0 false f a' w' hL' hp1 hh).1 rfl rfl)⟩) hop
      have all : ∀ j, j ∈ Region.ready .any ops listed → m.testBit j = true ∨ wpOp P ops Q j (fun a' w' => R w w' ∧ wpAnyH P .any ops Q (R w) f (listed.setIfInBounds j true) a' w') a w := fun j hj => by
        by_cases hji : j = i
        · subst hji
          exact .inr HI
        · rcases IQ j hj with hm | hw
          · rw [Nat.testBit_or, Nat.one_shiftLeft, Nat.testBit_two_pow] at hm
            simp only [show ¬ i = j from fun e => hji e.symm, decide_false, Bool.or_false] at hm
            exact .inl hm
          · exact .inr hw
      refine ⟨fun _ hm => ?_, fun f' hf j hj => ?_⟩
      · subst hm
        refine ⟨fun h0 => (by rw [h0] at hri; cases hri), fun j hj => ?_⟩
        rcases all j hj with h9 | h9
        · simp at h9
        · exact h9
      · obtain rfl : f = f' := by omega
        exact all j hj
  | .stop, listed, done, m, inC, fuel, a, w, hL, hp, _ => by
    simp only [planT, Bool.and_eq_true, Bool.not_eq_true', beq_eq_false_iff_ne] at hp
    obtain ⟨⟨hc, hf⟩, hw⟩ := hp
    refine ⟨fun h _ => (by rw [hc] at h; cases h), fun f hf j hj => ?_⟩
    have hDi : ∀ (j : Nat) oj, ops[j]? = some oj → D[j]? = some (encOf ops oj) := fun j oj hj => by
      rw [← hD, List.getElem?_map, Array.getElem?_toList, hj]; rfl
    obtain ⟨h0, oj, hoj, hall⟩ := mem_ready.1 hj
    have hjl := hL.lt h0
    rw [hL.2 j hjl] at h0
    cases hm : m.testBit j with
    | true => exact .inl rfl
    | false =>
      have hne := allWaitM_spec hw j _ (hDi j oj hoj) (by rw [Nat.zero_add]; exact hm) (by rw [Nat.zero_add]; exact h0)
      obtain ⟨k, hk1, hk2⟩ := not_sub_mask hne
      obtain ⟨e, he, hb, rfl⟩ := (dep_iff oj k).1 hk1
      rw [hL.off (hall e he hb)] at hk2
      cases hk2

/-- **A region that draws its order.** 'D': the region's operations as numbers. -/
theorem wp_region_tree {R : World → World → Prop} (hrf : ∀ w, R w w) (htr : ∀ a b c, R a b → R b c → R a c) {id : Nat} {a : Act} {w : World} (p : Pl) (D : List (Nat × Nat × Nat)) (n : Nat) (hm : P.follows .mixedOrders = true) (hs : Region.noSelect ops = true) (hin : edgesIn ops = true) (hl : ops.size = n)
    (hD : ops.toList.map (encOf ops) = D) (hp : planT D p 0 0 false n = true)
    (hQ : ∀ c a d v w, Q (.panic c) (Act.put a d v) w → Q (.panic c) a w) (h : seqT P ops Q R p a w.drew) : (Code.region id ops true).wp P Q a w := by
  refine wp_region_held (S := R w.drew) hm ?_
  have := (held_of_seqT hrf htr hs hQ hD (fun j o ho e he => by
    have h1 := Array.all_eq_true_iff_forall_mem.1 hin o (Array.mem_of_getElem? ho)
    simpa using Array.all_eq_true_iff_forall_mem.1 h1 e he) p (Array.replicate ops.size false) 0 0 false n a w.drew ⟨by simp, fun j hj => by simp [Array.getD, hj]⟩ hp h).1 rfl rfl
  rw [← hl] at this
  exact this

theorem seqT_done {R : World → World → Prop} {a : Act} {w : World} (h : Q .normal a w) : seqT P ops Q R .nil a w := h
/-- What only reads: it yields its value in every world where the facts F hold, and these hold from now on. -/
theorem seqT_read {R : World → World → Prop} {i : Nat} {p : Pl} {a : Act} {w : World} (F : World → Prop) (hF : ∀ w', R w w' → F w') (o : Oper) {v : Value} (ho' : nthO ops.toList i = some o)
    (hw : Region.wanted o (yielded ops a.tmps) = true) (hrun : ∀ w', F w' → (execOp a.eval o).run P w' = .ok (.value v) w') (h : seqT P ops Q R p (a.put o.dst v) w) : seqT P ops Q R (.rd i p) a w :=
  ⟨o, of_nthO ho', v, .inl ⟨hw, fun w' e => hrun w' (hF w' e)⟩, h⟩
/-- What is not wanted (its guard is false). -/
theorem seqT_skip {R : World → World → Prop} {i : Nat} {p : Pl} {a : Act} {w : World} (o : Oper) (ho' : nthO ops.toList i = some o)
    (hw : Region.wanted o (yielded ops a.tmps) = false) (h : seqT P ops Q R p (a.put o.dst undef) w) : seqT P ops Q R (.rd i p) a w :=
  ⟨o, of_nthO ho', _, .inr ⟨hw, rfl⟩, h⟩
/-- What makes memory, one of several or alone. -/
theorem seqT_do {R : World → World → Prop} {i : Nat} {p q : Pl} {a : Act} {w : World} (o : Oper) (ho' : nthO ops.toList i = some o) (hw : Region.wanted o (yielded ops a.tmps) = true) (hq : seqT P ops Q R q a w)
    (h : ∀ K' : Act → World → Prop, Shut (∀ a' w', R w w' → seqT P ops Q R p a' w' → K' a' w') → Oper.wp P o a w K' Q) : seqT P ops Q R (.alt i p q) a w :=
  ⟨⟨o, of_nthO ho', by
    refine wpOp_step (of_nthO ho') fun K' hK => ?_
    rw [if_pos hw]
    exact h K' fun a' w' he hh => hK a' w' ⟨he, hh⟩⟩, hq⟩
theorem seqT_stop {R : World → World → Prop} {a : Act} {w : World} : seqT P ops Q R .stop a w := trivial
end
section
open Go.ChangeShapes Go.WideShapes Go.ChangeAt Go.RowKit Go.Deep
variable {P : Program} {ops : Array Oper} {Q : Exit → Act → World → Prop} {R : World → World → Prop} {id i : Nat} {p q : Pl} {a : Act} {w : World}
theorem qgT (hrf : ∀ w, R w w) (htr : ∀ a b c, R a b → R b c → R a c) (p : Pl) (n : Nat) (h : seqT P ops Q R p a w.drew) (hm : P.follows .mixedOrders = true := by kernel_rfl) (hs : Region.noSelect ops = true := by kernel_rfl) (hin : edgesIn ops = true := by kernel_rfl) (hl : ops.size = n := by exact rfl)
    (hp : planT (ops.toList.map (encOf ops)) p 0 0 false n = true := by kernel_rfl) (hQ : ∀ c a d v w, Q (.panic c) (Act.put a d v) w → Q (.panic c) a w := by exact fun _ _ d _ _ h => by first | (cases d <;> exact h) | exact absurd h.1 (fun q => by cases q)) : (Code.region id ops true).wp P Q a w :=
  wp_region_tree hrf htr p _ n hm hs hin hl rfl hp hQ h
theorem qgTB (B : Nat) (p : Pl) (n : Nat) (h : seqT P ops Q (Below B) p a w.drew) (hm : P.follows .mixedOrders = true := by kernel_rfl) (hs : Region.noSelect ops = true := by kernel_rfl) (hin : edgesIn ops = true := by kernel_rfl) (hl : ops.size = n := by exact rfl)
    (hp : planT (ops.toList.map (encOf ops)) p 0 0 false n = true := by kernel_rfl) (hQ : ∀ c a d v w, Q (.panic c) (Act.put a d v) w → Q (.panic c) a w := by exact fun _ _ d _ _ h => by first | (cases d <;> exact h) | exact absurd h.1 (fun q => by cases q)) : (Code.region id ops true).wp P Q a w :=
  wp_region_tree (Below.refl _) (fun _ _ _ => Below.trans) p _ n hm hs hin hl rfl hp hQ h
theorem qtR (F : World → Prop) (h : ∀ w', R w w' → F w') {o : Oper} {v : Value} (hn : seqT P ops Q R p (a.put o.dst v) w) (ho' : nthO ops.toList i = some o := by exact rfl)
    (hw : Region.wanted o (yielded ops a.tmps) = true := by rfl) (hrun : ∀ w', F w' → (execOp a.eval o).run P w' = .ok (.value v) w' := by intro w' hF; go_simp; (try with_reducible rfl)) : seqT P ops Q R (.rd i p) a w :=
  seqT_read F h o ho' hw hrun hn
theorem qtR0 {o : Oper} {v : Value} (hn : seqT P ops Q R p (a.put o.dst v) w) (ho' : nthO ops.toList i = some o := by exact rfl)
    (hw : Region.wanted o (yielded ops a.tmps) = true := by rfl) (hrun : ∀ w', (execOp a.eval o).run P w' = .ok (.value v) w' := by intro w'; go_simp; (try with_reducible rfl)) : seqT P ops Q R (.rd i p) a w :=
  seqT_read (fun _ => True) (fun _ _ => trivial) o ho' hw (fun w' _ => hrun w') hn
theorem qtV {o : Oper} (ho' : nthO ops.toList i = some o) (F : World → Prop) (h : ∀ w', R w w' → F w') (v : Value) (hrun : ∀ w', F w' → (execOp a.eval o).run P w' = .ok (.value v) w') (hn : seqT P ops Q R p (a.put o.dst v) w)
    (hw : Region.wanted o (yielded ops a.tmps) = true := by rfl) : seqT P ops Q R (.rd i p) a w :=
  seqT_read F h o ho' hw hrun hn
theorem qtS {o : Oper} (hn : seqT P ops Q R p (a.put o.dst undef) w) (ho' : nthO ops.toList i = some o := by exact rfl) (hw : Region.wanted o (yielded ops a.tmps) = false := by rfl) : seqT P ops Q R (.rd i p) a w :=
  seqT_skip o ho' hw hn
theorem qtD {o : Oper} (hq : seqT P ops Q R q a w) (h : ∀ K' : Act → World → Prop, Shut (∀ a' w', R w w' → seqT P ops Q R p a' w' → K' a' w') → Oper.wp P o a w K' Q) (ho' : nthO ops.toList i = some o := by exact rfl) (hw : Region.wanted o (yielded ops a.tmps) = true := by rfl) : seqT P ops Q R (.alt i p q) a w :=
  seqT_do o ho' hw hq h
end
end Go.Proofs.YtbnjmmefnjoofaaDoor
end

section
/-
  As the text on trees of orders, for a region whose last operation (a store) waits for all others and may write old memory. No conditions.
-/
namespace Go.Proofs.YtbnjmmefnjoofaaDoor

section
variable {P : Program} {ops : Array Oper} {Q : Exit → Act → World → Prop}
def seqTZ (P : Program) (ops : Array Oper) (Q : Exit → Act → World → Prop) (R : World → World → Prop) (z : Nat) : Pl → Act → World → Prop
  | .nil, a, w => Q .normal a w
  | .rd i p, a, w => i ≠ z ∧ ∃ o, ops[i]? = some o ∧ ∃ v, YieldsIf P ops (R w) o v a ∧ seqTZ P ops Q R z p (a.put o.dst v) w
  | .alt i p q, a, w => (∃ o, ops[i]? = some o ∧ wpOp P ops Q i (fun a' w' => (i = z ∨ R w w') ∧ seqTZ P ops Q R z p a' w') a w) ∧ seqTZ P ops Q R z q a w
  | .stop, _, _ => True
theorem waits_of {D : List (Nat × Nat × Nat)} {z i : Nat} (hD : ops.toList.map (encOf ops) = D) (hzok : zOk D [z] z = true) (hi : i < ops.size) (hiz : i ≠ z) : ∃ oz, ops[z]? = some oz ∧ Waits ops oz i := by
  have hDi : ∀ (j : Nat) oj, ops[j]? = some oj → D[j]? = some (encOf ops oj) := fun j oj hj => by
    rw [← hD, List.getElem?_map, Array.getElem?_toList, hj]; rfl
  have hzz := hzok
  unfold zOk at hzz
  rw [Bool.and_eq_true] at hzz
  obtain ⟨hzc, hzz⟩ := hzz
  have hlen : D.length = ops.size := by rw [← hD]; simp
  cases hnz : nthD D z with
  | none => rw [hnz] at hzz; cases hzz
  | some x =>
    rw [hnz] at hzz
    rw [nthD_eq, ← hD, List.getElem?_map, Array.getElem?_toList] at hnz
    cases hoz : ops[z]? with
    | none => rw [hoz] at hnz; cases hnz
    | some oz =>
      rw [hoz] at hnz
      simp only [Option.map_some, Option.some.injEq] at hnz
      refine ⟨oz, rfl, ?_⟩
      have hx1 : x.1 = maskOf (depsOf oz) := by rw [← hnz]; rfl
      simp only [hx1] at hzz
      have h1 := List.all_eq_true.1 hzz i (List.mem_range.2 (by omega))
      simp only [Bool.or_eq_true, beq_iff_eq] at h1
      rcases h1 with h1 | h1 | h1
      · exact absurd h1 hiz
      · exact .inl ((dep_iff oz i).1 h1)
      · obtain ⟨m, hm, h2⟩ := List.any_eq_true.1 h1
        rw [Bool.and_eq_true] at h2
        obtain ⟨h2, h3⟩ := h2
        cases hom : ops[m]? with
        | none => rw [nthD_eq, ← hD, List.getElem?_map, Array.getElem?_toList, hom] at h3; cases h3
        | some om =>
          rw [nthD_eq, hDi m om hom] at h3
          exact .inr ⟨m, om, hom, (dep_iff oz m).1 h2, (dep_iff om i).1 h3⟩
theorem any_of_seqTZ {R : World → World → Prop} (hrf : ∀ w, R w w) (htr : ∀ a b c, R a b → R b c → R a c) {D : List (Nat × Nat × Nat)} {z : Nat} (hs : Region.noSelect ops = true) (hQ : ∀ c a d v w, Q (.panic c) (Act.put a d v) w → Q (.panic c) a w) (hD : ops.toList.map (encOf ops) = D)
    (hsub : ∀ (j : Nat) o, ops[j]? = some o → ∀ e ∈ o.after, e.on < ops.size) (hzok : zOk D [z] z = true) :
    ∀ (p : Pl) (listed : Array Bool) (done m : Nat) (inC : Bool) (fuel : Nat) (a : Act) (w : World), Listed ops.size done listed → Closed ops listed → planT D p done m inC fuel = true → seqTZ P ops Q R z p a w →
      (inC = false → m = 0 → wpAnyZ P ops Q R z fuel listed a w) ∧
      (∀ f, fuel = f + 1 → ∀ j, j ∈ Region.ready .any ops listed → m.testBit j = true ∨ wpOp P ops Q j (fun a' w' => (j = z ∨ R w w') ∧ wpAnyZ P ops Q R z f (listed.setIfInBounds j true) a' w') a w)
  | .nil, listed, done, m, inC, fuel, a, w, hL, _, hp, h => by
    simp only [planT, Bool.and_eq_true, Bool.not_eq_true', beq_iff_eq] at hp
    obtain ⟨⟨_, rfl⟩, hd⟩ := hp
    refine ⟨fun _ _ => ⟨?_, h⟩, fun f hf => absurd hf (by omega)⟩
    have hlen : D.length = ops.size := by rw [← hD]; simp
    rw [hlen, Nat.one_shiftLeft] at hd
    cases hr : Region.ready .any ops listed with
    | nil => rfl
    | cons j r =>
      have hj : j ∈ Region.ready .any ops listed := by rw [hr]; simp
      obtain ⟨h0, _⟩ := mem_ready.1 hj
      have hlt := hL.lt h0
      rw [hL.2 j hlt] at h0
      have : done = 2 ^ ops.size - 1 := by omega
      rw [this, Nat.testBit_two_pow_sub_one] at h0
      simp [hlt] at h0
  | .rd i p, listed, done, m, inC, fuel, a, w, hL, hcl, hp, h => by
    obtain ⟨hiz, o, ho, v, hy, hh⟩ := h
    have hi : i < ops.size := (Array.getElem?_eq_some_iff.1 ho).1
    have hDi : ∀ (j : Nat) oj, ops[j]? = some oj → D[j]? = some (encOf ops oj) := fun j oj hj => by
      rw [← hD, List.getElem?_map, Array.getElem?_toList, hj]; rfl
    simp only [planT, Bool.and_eq_true, Bool.not_eq_true'] at hp
    obtain ⟨⟨⟨hc, hr⟩, hp1⟩, hp2⟩ := hp
    obtain ⟨x, hx, hnd, hdep⟩ := readyD_spec hr
    rw [hDi i o ho] at hx
    obtain rfl := Option.some.inj hx
    rw [nthD_eq, hDi i o ho] at hp1
    have hri : i ∈ Region.ready .any ops listed := mem_ready.2 ⟨(hL.2 i hi).trans hnd, o, ho, fun e he hb =>
      hL.on (sub_mask hdep ((dep_iff o e.on).2 ⟨e, he, hb, rfl⟩)) (hsub i o ho e he)⟩
    have hL' := hL.set hi
    obtain ⟨oz, hoz, hwt⟩ := waits_of hD hzok hi hiz
    cases fuel with
    | zero => simp at hp2
    | succ f =>
      have main : wpAnyZ P ops Q R z (f + 1) listed a w := by
        refine wpAnyZ_first hrf htr ho hoz hiz hwt (Region.noSelect_spec hs) (fun c a w => hQ c a _ _ w) _ listed a w hcl (fun j oj hoj hji hun hno => ?_) hri hy ((any_of_seqTZ hrf htr hs hQ hD hsub hzok p _ _ 0 false f _ w hL' (hcl.set hri) hp2 hh).1 rfl rfl)
        have hjl := hL.lt hun
        rw [hL.2 j hjl] at hun
        refine apart_of (allApart_spec hp1 j _ (hDi j oj hoj) (by omega) (by rw [Nat.zero_add]; exact hun) ?_)
        cases hb : (encOf ops oj).1.testBit i with
        | false => rfl
        | true =>
          obtain ⟨e, he, hb', he'⟩ := (dep_iff oj i).1 hb
          exact absurd he' (hno e he hb')
      refine ⟨fun _ _ => main, fun f' hf j hj => ?_⟩
      obtain rfl : f = f' := by omega
      exact .inr (wpOp_mono (fun a' w' ⟨he, hh⟩ => ⟨he, hh⟩) (main.2 j hj))
  | .alt i p q, listed, done, m, inC, fuel, a, w, hL, hcl, hp, h => by
    obtain ⟨⟨o, ho, hop⟩, hq⟩ := h
    have hi : i < ops.size := (Array.getElem?_eq_some_iff.1 ho).1
    have hDi : ∀ (j : Nat) oj, ops[j]? = some oj → D[j]? = some (encOf ops oj) := fun j oj hj => by
      rw [← hD, List.getElem?_map, Array.getElem?_toList, hj]; rfl
    simp only [planT, Bool.and_eq_true] at hp
    obtain ⟨⟨hr, hp1⟩, hp2⟩ := hp
    obtain ⟨x, hx, hnd, hdep⟩ := readyD_spec hr
    rw [hDi i o ho] at hx
    obtain rfl := Option.some.inj hx
    have hri : i ∈ Region.ready .any ops listed := mem_ready.2 ⟨(hL.2 i hi).trans hnd, o, ho, fun e he hb =>
      hL.on (sub_mask hdep ((dep_iff o e.on).2 ⟨e, he, hb, rfl⟩)) (hsub i o ho e he)⟩
    have hL' := hL.set hi
    cases fuel with
    | zero => simp at hp1
    | succ f =>
      have IQ := (any_of_seqTZ hrf htr hs hQ hD hsub hzok q listed done (m ||| (1 <<< i)) true (f + 1) a w hL hcl hp2 hq).2 f rfl
      have HI : wpOp P ops Q i (fun a' w' => (i = z ∨ R w w') ∧ wpAnyZ P ops Q R z f (listed.setIfInBounds i true) a' w') a w :=
        wpOp_mono (fun a' w' ⟨he, hh⟩ => ⟨he, (any_of_seqTZ hrf htr hs hQ hD hsub hzok p _ _ 0 false f a' w' hL' (hcl.set hri) hp1 hh).1 rfl rfl⟩) hop
      have all : ∀ j, j ∈ Region.ready .any ops listed → m.testBit j = true ∨ wpOp P ops Q j (fun a' w' => (j = z ∨ R w w') ∧ wpAnyZ P ops Q R z f (listed.setIfInBounds j true) a' w') a w := fun j hj => by
        by_cases hji : j = i
        · subst hji
          exact .inr HI
        · rcases IQ j hj with hm | hw
          · rw [Nat.testBit_or, Nat.one_shiftLeft, Nat.testBit_two_pow] at hm
            simp only [show ¬ i = j from fun e => hji e.symm, decide_false, Bool.or_false] at hm
            exact .inl hm
          · exact .inr hw
      refine ⟨fun _ hm => ?_, fun f' hf j hj => ?_⟩
      · subst hm
        refine ⟨fun h0 => (by rw [h0] at hri; cases hri), fun j hj => ?_⟩
        rcases all j hj with h9 | h9
        · simp at h9
        · exact h9
      · obtain rfl : f = f' := by omega
        exact all j hj
  | .stop, listed, done, m, inC, fuel, a, w, hL, _, hp, _ => by
    simp only [planT, Bool.and_eq_true, Bool.not_eq_true', beq_eq_false_iff_ne] at hp
    obtain ⟨⟨hc, hf⟩, hw⟩ := hp
    refine ⟨fun h _ => (by rw [hc] at h; cases h), fun f hf j hj => ?_⟩
    have hDi : ∀ (j : Nat) oj, ops[j]? = some oj → D[j]? = some (encOf ops oj) := fun j oj hj => by
      rw [← hD, List.getElem?_map, Array.getElem?_toList, hj]; rfl
    obtain ⟨h0, oj, hoj, hall⟩ := mem_ready.1 hj
    have hjl := hL.lt h0
    rw [hL.2 j hjl] at h0
    cases hm : m.testBit j with
    | true => exact .inl rfl
    | false =>
      have hne := allWaitM_spec hw j _ (hDi j oj hoj) (by rw [Nat.zero_add]; exact hm) (by rw [Nat.zero_add]; exact h0)
      obtain ⟨k, hk1, hk2⟩ := not_sub_mask hne
      obtain ⟨e, he, hb, rfl⟩ := (dep_iff oj k).1 hk1
      rw [hL.off (hall e he hb)] at hk2
      cases hk2
/-- **A region that draws its order, its last operation z a store.** -/
theorem wp_region_treeZ {R : World → World → Prop} (hrf : ∀ w, R w w) (htr : ∀ a b c, R a b → R b c → R a c) {id : Nat} {a : Act} {w : World} (z : Nat) (p : Pl) (D : List (Nat × Nat × Nat)) (n : Nat) (hm : P.follows .mixedOrders = true) (hs : Region.noSelect ops = true) (hin : edgesIn ops = true) (hl : ops.size = n)
    (hD : ops.toList.map (encOf ops) = D) (hp : planT D p 0 0 false n = true) (hz : zOk D [z] z = true)
    (hQ : ∀ c a d v w, Q (.panic c) (Act.put a d v) w → Q (.panic c) a w) (h : seqTZ P ops Q R z p a w.drew) : (Code.region id ops true).wp P Q a w := by
  refine wp_region_any hm (wpAny_of_Z (R := R) (z := z) _ _ _ _ ?_)
  have := (any_of_seqTZ hrf htr hs hQ hD (fun j o ho e he => by
    have h1 := Array.all_eq_true_iff_forall_mem.1 hin o (Array.mem_of_getElem? ho)
    simpa using Array.all_eq_true_iff_forall_mem.1 h1 e he) hz p (Array.replicate ops.size false) 0 0 false n a w.drew ⟨by simp, fun j hj => by simp [Array.getD, hj]⟩ (fun k ok _ hl => by
      exfalso
      rcases Nat.lt_or_ge k ops.size with h' | h'
      · simp [Array.getD, h'] at hl
      · simp [Array.getD, Nat.not_lt.2 h'] at hl) hp h).1 rfl rfl
  rw [← hl] at this
  exact this
theorem seqTZ_done {R : World → World → Prop} {z : Nat} {a : Act} {w : World} (h : Q .normal a w) : seqTZ P ops Q R z .nil a w := h
theorem seqTZ_read {R : World → World → Prop} {z i : Nat} {p : Pl} {a : Act} {w : World} (hz : i ≠ z) (F : World → Prop) (hF : ∀ w', R w w' → F w') (o : Oper) {v : Value} (ho' : nthO ops.toList i = some o)
    (hw : Region.wanted o (yielded ops a.tmps) = true) (hrun : ∀ w', F w' → (execOp a.eval o).run P w' = .ok (.value v) w') (h : seqTZ P ops Q R z p (a.put o.dst v) w) : seqTZ P ops Q R z (.rd i p) a w :=
  ⟨hz, o, of_nthO ho', v, .inl ⟨hw, fun w' e => hrun w' (hF w' e)⟩, h⟩
theorem seqTZ_do {R : World → World → Prop} {z i : Nat} {p q : Pl} {a : Act} {w : World} (o : Oper) (ho' : nthO ops.toList i = some o) (hw : Region.wanted o (yielded ops a.tmps) = true) (hq : seqTZ P ops Q R z q a w)
    (h : ∀ K' : Act → World → Prop, Shut (∀ a' w', (i = z ∨ R w w') → seqTZ P ops Q R z p a' w' → K' a' w') → Oper.wp P o a w K' Q) : seqTZ P ops Q R z (.alt i p q) a w :=
  ⟨⟨o, of_nthO ho', by
    refine wpOp_step (of_nthO ho') fun K' hK => ?_
    rw [if_pos hw]
    exact h K' fun a' w' he hh => hK a' w' ⟨he, hh⟩⟩, hq⟩
theorem seqTZ_stop {R : World → World → Prop} {z : Nat} {a : Act} {w : World} : seqTZ P ops Q R z .stop a w := trivial
end
end Go.Proofs.YtbnjmmefnjoofaaDoor
end
