/-
  As the text on regions walked in one order, for a region whose last operation (a store) waits for all others and may write old memory. No conditions.
-/
import Derived.Test.YtbnjmmefnjoofaaDoorSeq
namespace Go.Proofs.YtbnjmmefnjoofaaDoor
open Go.ChangeShapes Go.WideShapes Go.ChangeAt Go.RowKit Go.Deep

section
variable {P : Program} {ops : Array Oper} {Q : Exit → Act → World → Prop}

/-- Whatever order is picked; behind each operation but number z the world stands in the relation R to the one before. -/
def wpAnyZ (P : Program) (ops : Array Oper) (Q : Exit → Act → World → Prop) (R : World → World → Prop) (z : Nat) : Nat → Array Bool → Act → World → Prop
  | 0, listed, a, w => Region.ready .any ops listed = [] ∧ Q .normal a w
  | fuel + 1, listed, a, w =>
    (Region.ready .any ops listed = [] → Q .normal a w) ∧
    ∀ i ∈ Region.ready .any ops listed, wpOp P ops Q i (fun a' w' => (i = z ∨ R w w') ∧ wpAnyZ P ops Q R z fuel (listed.setIfInBounds i true) a' w') a w

theorem wpAny_of_Z {R : World → World → Prop} {z : Nat} : ∀ (fuel : Nat) (listed : Array Bool) (a : Act) (w : World), wpAnyZ P ops Q R z fuel listed a w → wpAny P .any ops Q fuel listed a w
  | 0, _, _, _, h => h
  | fuel + 1, _, _, _, h => ⟨h.1, fun i hi => wpOp_mono (fun a' w' h' => wpAny_of_Z fuel _ a' w' h'.2) (h.2 i hi)⟩

theorem yields_weaken {S S' : World → Prop} {o : Oper} {v : Value} {a : Act} (hs : ∀ w, S' w → S w) (h : YieldsIf P ops S o v a) : YieldsIf P ops S' o v a :=
  h.imp (fun ⟨hw, hv⟩ => ⟨hw, fun w hS => hv w (hs w hS)⟩) id

/-- What is listed has all listed that it waits for. -/
def Closed (ops : Array Oper) (listed : Array Bool) : Prop := ∀ (k : Nat) (ok : Oper), ops[k]? = some ok → listed.getD k false = true → ∀ e ∈ ok.after, Region.binds .any e = true → listed.getD e.on false = true
theorem getD_set_keep {listed : Array Bool} {i j : Nat} (h : listed.getD i false = true) : (listed.setIfInBounds j true).getD i false = true := by
  by_cases e : j = i
  · subst e
    rcases Nat.lt_or_ge j listed.size with h' | h'
    · simp [h']
    · simp [Array.getElem?_eq_none h'] at h
  · rw [getD_set_ne false e]; exact h
theorem Closed.set {listed : Array Bool} {j : Nat} (h : Closed ops listed) (hj : j ∈ Region.ready .any ops listed) : Closed ops (listed.setIfInBounds j true) := by
  intro k ok hk hl e he hb
  by_cases hkj : j = k
  · subst hkj
    obtain ⟨_, o, ho, hall⟩ := mem_ready.1 hj
    rw [hk] at ho
    injection ho with ho
    subst ho
    exact getD_set_keep (hall e he hb)
  · rw [getD_set_ne false hkj] at hl
    exact getD_set_keep (h k ok hk hl e he hb)
/-- Operation oz waits for number i, or for one that waits for it. -/
def Waits (ops : Array Oper) (oz : Oper) (i : Nat) : Prop := (∃ e ∈ oz.after, Region.binds .any e = true ∧ e.on = i) ∨ ∃ (m : Nat) (om : Oper), ops[m]? = some om ∧ (∃ e ∈ oz.after, Region.binds .any e = true ∧ e.on = m) ∧ ∃ e ∈ om.after, Region.binds .any e = true ∧ e.on = i

theorem wpAnyZ_first {R : World → World → Prop} (hrf : ∀ w, R w w) (htr : ∀ a b c, R a b → R b c → R a c) {z i : Nat} {oi oz : Oper} {v : Value} (hi : ops[i]? = some oi) (hz : ops[z]? = some oz) (hiz : i ≠ z)
    (hwait : Waits ops oz i) (hsel : ∀ (j : Nat) (o : Oper) cs b, ops[j]? = some o → o.op ≠ .select cs b)
    (hQ : ∀ c a w, Q (.panic c) (a.put oi.dst v) w → Q (.panic c) a w) :
    ∀ (fuel : Nat) (listed : Array Bool) (a : Act) (w : World), Closed ops listed →
      (∀ j oj, ops[j]? = some oj → j ≠ i → listed.getD j true = false → (∀ e ∈ oj.after, Region.binds .any e = true → e.on ≠ i) → oi.apart ops oj = true) →
      i ∈ Region.ready .any ops listed → YieldsIf P ops (R w) oi v a →
      wpAnyZ P ops Q R z fuel (listed.setIfInBounds i true) (a.put oi.dst v) w → wpAnyZ P ops Q R z (fuel + 1) listed a w := by
  intro fuel
  induction fuel with
  | zero =>
    intro listed a w _ _ hr hy H
    refine ⟨fun h => (by rw [h] at hr; cases hr), fun j hj => ?_⟩
    by_cases hji : j = i
    · subst hji; exact hy.wpOp hi (hrf w) ⟨.inr (hrf w), H⟩
    · have := ready_mono hj hji
      rw [H.1] at this
      cases this
  | succ fuel ih =>
    intro listed a w hcl hfree hr hy H
    refine ⟨fun h => (by rw [h] at hr; cases hr), fun j hj => ?_⟩
    by_cases hji : j = i
    · subst hji; exact hy.wpOp hi (hrf w) ⟨.inr (hrf w), H⟩
    · have h1 := H.2 j (ready_mono hj hji)
      obtain ⟨hjun, oj, hoj, hall⟩ := mem_ready.1 hj
      have hnot : ∀ e ∈ oj.after, Region.binds .any e = true → e.on ≠ i := fun e he hb heq => by
        have h1 := hall e he hb
        have h0 := (mem_ready.1 hr).1
        rw [heq] at h1
        rcases Nat.lt_or_ge i listed.size with h' | h'
        · simp [h'] at h0 h1; rw [h0] at h1; cases h1
        · simp [Array.getElem?_eq_none h'] at h1
      have hjz : j ≠ z := fun e => by
        subst e
        rw [hz] at hoj
        injection hoj with hoj
        subst hoj
        rcases hwait with ⟨e, he, hb, heq⟩ | ⟨m, om, hom, ⟨e, he, hb, heq⟩, e', he', hb', heq'⟩
        · exact hnot e he hb heq
        · have h1 := hall e he hb
          rw [heq] at h1
          have h2 := hcl m om hom h1 e' he' hb'
          rw [heq'] at h2
          have h0 := (mem_ready.1 hr).1
          rcases Nat.lt_or_ge i listed.size with h' | h'
          · simp [h'] at h0 h2; rw [h0] at h2; cases h2
          · simp [Array.getElem?_eq_none h'] at h2
      have h2 := wpOp_putIf hoj (hfree j oj hoj hji hjun hnot) (fun cs b => hsel i oi cs b hi) (fun cs b => hsel j oj cs b hoj) hQ hy h1
      have hfree' : ∀ k ok, ops[k]? = some ok → k ≠ i → (listed.setIfInBounds j true).getD k true = false →
          (∀ e ∈ ok.after, Region.binds .any e = true → e.on ≠ i) → oi.apart ops ok = true := fun k ok hk hki hun hno => by
        refine hfree k ok hk hki ?_ hno
        by_cases hjk : j = k
        · subst hjk; exact hjun
        · rw [getD_set_ne true hjk] at hun; exact hun
      refine wpOp_mono (fun a' w' h3 => ?_) h2
      obtain ⟨hy', hR, hrest⟩ := h3
      have hR' : R w w' := hR.resolve_left hjz
      refine ⟨.inr hR', ih (listed.setIfInBounds j true) a' w' (hcl.set hj) hfree' (ready_mono hr (Ne.symm hji)) (yields_weaken (fun _ e => htr _ _ _ hR' e) hy') ?_⟩
      rw [Array.setIfInBounds_comm _ _ hji]
      exact hrest

/-- The order that is walked: those of 'cs' make memory, all others only read; number z, the last one, may write. -/
def seqZ (P : Program) (ops : Array Oper) (Q : Exit → Act → World → Prop) (R : World → World → Prop) (z : Nat) (cs : List Nat) : List Nat → Act → World → Prop
  | [], a, w => Q .normal a w
  | i :: rest, a, w => ∃ o, ops[i]? = some o ∧
      if cs.contains i = true then wpOp P ops Q i (fun a' w' => (i = z ∨ R w w') ∧ seqZ P ops Q R z cs rest a' w') a w
      else ∃ v, YieldsIf P ops (R w) o v a ∧ seqZ P ops Q R z cs rest (a.put o.dst v) w

def zOk (D : List (Nat × Nat × Nat)) (cs : List Nat) (z : Nat) : Bool := cs.contains z && match nthD D z with
  | some x => (List.range D.length).all fun i => i == z || (x.1.testBit i || (List.range D.length).any fun m => x.1.testBit m && match nthD D m with | some y => y.1.testBit i | none => false)
  | none => false

theorem any_of_seqZ {R : World → World → Prop} (hrf : ∀ w, R w w) (htr : ∀ a b c, R a b → R b c → R a c) {D : List (Nat × Nat × Nat)} {z : Nat} (hs : Region.noSelect ops = true) (hQ : ∀ c a d v w, Q (.panic c) (Act.put a d v) w → Q (.panic c) a w) (cs : List Nat) (hD : ops.toList.map (encOf ops) = D)
    (hsub : ∀ (j : Nat) o, ops[j]? = some o → ∀ e ∈ o.after, e.on < ops.size) (hzok : zOk D cs z = true) :
    ∀ (σ : List Nat) (listed : Array Bool) (done : Nat) (a : Act) (w : World), Listed ops.size done listed → Closed ops listed → planOk D cs σ done = true → seqZ P ops Q R z cs σ a w → wpAnyZ P ops Q R z σ.length listed a w
  | [], listed, done, a, w, hL, _, hp, h => by
    refine ⟨?_, h⟩
    have hlen : D.length = ops.size := by rw [← hD]; simp
    have hd : done + 1 = 2 ^ ops.size := by
      have : done + 1 = 1 <<< D.length := by simpa [planOk] using hp
      rw [this, hlen, Nat.one_shiftLeft]
    cases hr : Region.ready .any ops listed with
    | nil => rfl
    | cons j r =>
      have hj : j ∈ Region.ready .any ops listed := by rw [hr]; simp
      obtain ⟨h0, _⟩ := mem_ready.1 hj
      have hlt := hL.lt h0
      rw [hL.2 j hlt] at h0
      have : done = 2 ^ ops.size - 1 := by omega
      rw [this, Nat.testBit_two_pow_sub_one] at h0
      simp [hlt] at h0
  | i :: rest, listed, done, a, w, hL, hcl, hp, h => by
    obtain ⟨o, ho, h⟩ := h
    have hi : i < ops.size := (Array.getElem?_eq_some_iff.1 ho).1
    rw [planOk, Bool.and_eq_true] at hp
    obtain ⟨hp1, hp2⟩ := hp
    have hDi : ∀ (j : Nat) oj, ops[j]? = some oj → D[j]? = some (encOf ops oj) := fun j oj hj => by
      rw [← hD, List.getElem?_map, Array.getElem?_toList, hj]; rfl
    rw [nthD_eq, hDi i o ho] at hp1
    simp only [Bool.and_eq_true, Bool.not_eq_true', beq_iff_eq] at hp1
    obtain ⟨⟨hnd, hdep⟩, hp1⟩ := hp1
    have hri : i ∈ Region.ready .any ops listed := mem_ready.2 ⟨(hL.2 i hi).trans hnd, o, ho, fun e he hb =>
      hL.on (sub_mask hdep ((dep_iff o e.on).2 ⟨e, he, hb, rfl⟩)) (hsub i o ho e he)⟩
    have hL' := hL.set hi
    by_cases hc : cs.contains i = true
    · rw [if_pos hc] at h hp1
      refine ⟨fun h0 => (by rw [h0] at hri; cases hri), fun j hj => ?_⟩
      obtain ⟨h0, oj, hoj, hall⟩ := mem_ready.1 hj
      have hjl := hL.lt h0
      rw [hL.2 j hjl] at h0
      by_cases hji : j = i
      · subst hji
        exact wpOp_mono (fun a' w' ⟨he, hh⟩ => ⟨he, any_of_seqZ hrf htr hs hQ cs hD hsub hzok rest _ _ a' w' hL' (hcl.set hri) hp2 hh⟩) h
      · have hw := allWait_spec hp1 j _ (hDi j oj hoj) (by omega) (by rw [Nat.zero_add]; exact h0)
        obtain ⟨k, hk1, hk2⟩ := not_sub_mask hw
        obtain ⟨e, he, hb, rfl⟩ := (dep_iff oj k).1 hk1
        rw [hL.off (hall e he hb)] at hk2
        cases hk2
    · have hc' := hc
      rw [if_neg hc] at h hp1
      obtain ⟨v, hy, hh⟩ := h
      have hzz := hzok
      unfold zOk at hzz
      rw [Bool.and_eq_true] at hzz
      obtain ⟨hzc, hzz⟩ := hzz
      have hiz : i ≠ z := fun e => by subst e; exact hc' hzc
      have hlen : D.length = ops.size := by rw [← hD]; simp
      cases hnz : nthD D z with
      | none => rw [hnz] at hzz; cases hzz
      | some x =>
        rw [hnz] at hzz
        rw [nthD_eq, ← hD, List.getElem?_map, Array.getElem?_toList] at hnz
        cases hoz : ops[z]? with
        | none => rw [hoz] at hnz; cases hnz
        | some oz =>
          rw [hoz] at hnz
          simp only [Option.map_some, Option.some.injEq] at hnz
          have hwt : Waits ops oz i := by
            have hx1 : x.1 = maskOf (depsOf oz) := by rw [← hnz]; rfl
            simp only [hx1] at hzz
            have h1 := List.all_eq_true.1 hzz i (List.mem_range.2 (by omega))
            simp only [Bool.or_eq_true, beq_iff_eq] at h1
            rcases h1 with h1 | h1 | h1
            · exact absurd h1 hiz
            · exact .inl ((dep_iff oz i).1 h1)
            · obtain ⟨m, hm, h2⟩ := List.any_eq_true.1 h1
              rw [Bool.and_eq_true] at h2
              obtain ⟨h2, h3⟩ := h2
              cases hom : ops[m]? with
              | none => rw [nthD_eq, ← hD, List.getElem?_map, Array.getElem?_toList, hom] at h3; cases h3
              | some om =>
                rw [nthD_eq, hDi m om hom] at h3
                exact .inr ⟨m, om, hom, (dep_iff oz m).1 h2, (dep_iff om i).1 h3⟩
          refine wpAnyZ_first hrf htr ho hoz hiz hwt (Region.noSelect_spec hs) (fun c a w => hQ c a _ _ w) _ listed a w hcl (fun j oj hoj hji hun hno => ?_) hri hy (any_of_seqZ hrf htr hs hQ cs hD hsub hzok rest _ _ _ w hL' (hcl.set hri) hp2 hh)
          have hjl := hL.lt hun
          rw [hL.2 j hjl] at hun
          refine apart_of (allApart_spec hp1 j _ (hDi j oj hoj) (by omega) (by rw [Nat.zero_add]; exact hun) ?_)
          cases hb : (encOf ops oj).1.testBit i with
          | false => rfl
          | true =>
            obtain ⟨e, he, hb', he'⟩ := (dep_iff oj i).1 hb
            exact absurd he' (hno e he hb')

/-- **A region that draws its order, its last operation z a store.** -/
theorem wp_region_seqZ {R : World → World → Prop} (hrf : ∀ w, R w w) (htr : ∀ a b c, R a b → R b c → R a c) {id : Nat} {a : Act} {w : World} (z : Nat) (σ cs : List Nat) (D : List (Nat × Nat × Nat)) (hm : P.follows .mixedOrders = true) (hs : Region.noSelect ops = true) (hin : edgesIn ops = true) (hl : σ.length = ops.size)
    (hD : ops.toList.map (encOf ops) = D) (hp : planOk D cs σ 0 = true) (hz : zOk D cs z = true)
    (hQ : ∀ c a d v w, Q (.panic c) (Act.put a d v) w → Q (.panic c) a w) (h : seqZ P ops Q R z cs σ a w.drew) : (Code.region id ops true).wp P Q a w := by
  refine wp_region_any hm (wpAny_of_Z (R := R) (z := z) _ _ _ _ ?_)
  have := any_of_seqZ hrf htr hs hQ cs hD (fun j o ho e he => by
    have h1 := Array.all_eq_true_iff_forall_mem.1 hin o (Array.mem_of_getElem? ho)
    simpa using Array.all_eq_true_iff_forall_mem.1 h1 e he) hz σ (Array.replicate ops.size false) 0 a w.drew ⟨by simp, fun j hj => by simp [Array.getD, hj]⟩ (fun k ok _ hl => by
      exfalso
      rcases Nat.lt_or_ge k ops.size with h' | h'
      · simp [Array.getD, h'] at hl
      · simp [Array.getD, Nat.not_lt.2 h'] at hl) hp h
  rw [hl] at this
  exact this

theorem seqZ_done {R : World → World → Prop} {z : Nat} {cs : List Nat} {a : Act} {w : World} (h : Q .normal a w) : seqZ P ops Q R z cs [] a w := h
theorem seqZ_read {R : World → World → Prop} {z : Nat} {cs : List Nat} {i : Nat} {rest : List Nat} {a : Act} {w : World} (F : World → Prop) (hF : ∀ w', R w w' → F w') (o : Oper) {v : Value} (ho' : nthO ops.toList i = some o) (hc : cs.contains i = false)
    (hw : Region.wanted o (yielded ops a.tmps) = true) (hrun : ∀ w', F w' → (execOp a.eval o).run P w' = .ok (.value v) w') (h : seqZ P ops Q R z cs rest (a.put o.dst v) w) : seqZ P ops Q R z cs (i :: rest) a w :=
  ⟨o, of_nthO ho', by rw [if_neg (by rw [hc]; exact Bool.false_ne_true)]; exact ⟨v, .inl ⟨hw, fun w' e => hrun w' (hF w' e)⟩, h⟩⟩
theorem seqZ_do {R : World → World → Prop} {z : Nat} {cs : List Nat} {i : Nat} {rest : List Nat} {a : Act} {w : World} (o : Oper) (ho' : nthO ops.toList i = some o) (hc : cs.contains i = true) (hw : Region.wanted o (yielded ops a.tmps) = true)
    (h : ∀ K' : Act → World → Prop, Shut (∀ a' w', (i = z ∨ R w w') → seqZ P ops Q R z cs rest a' w' → K' a' w') → Oper.wp P o a w K' Q) : seqZ P ops Q R z cs (i :: rest) a w :=
  ⟨o, of_nthO ho', by
    rw [if_pos hc]
    refine wpOp_step (of_nthO ho') fun K' hK => ?_
    rw [if_pos hw]
    exact h K' fun a' w' he hh => hK a' w' ⟨he, hh⟩⟩
end
section
variable {P : Program} {ops : Array Oper} {Q : Exit → Act → World → Prop} {R : World → World → Prop} {id i z : Nat} {rest cs : List Nat} {a : Act} {w : World}
theorem qgZ (hrf : ∀ w, R w w) (htr : ∀ a b c, R a b → R b c → R a c) (z : Nat) (σ cs : List Nat) (h : seqZ P ops Q R z cs σ a w.drew) (hm : P.follows .mixedOrders = true := by kernel_rfl) (hs : Region.noSelect ops = true := by kernel_rfl) (hin : edgesIn ops = true := by kernel_rfl) (hl : σ.length = ops.size := by exact rfl)
    (hp : planOk (ops.toList.map (encOf ops)) cs σ 0 = true := by kernel_rfl) (hz : zOk (ops.toList.map (encOf ops)) cs z = true := by kernel_rfl) (hQ : ∀ c a d v w, Q (.panic c) (Act.put a d v) w → Q (.panic c) a w := by exact fun _ _ d _ _ h => by cases d <;> exact h) : (Code.region id ops true).wp P Q a w :=
  wp_region_seqZ hrf htr z σ cs _ hm hs hin hl rfl hp hz hQ h
theorem qgZE (z : Nat) (σ cs : List Nat) (h : seqZ P ops Q Ext z cs σ a w.drew) (hm : P.follows .mixedOrders = true := by kernel_rfl) (hs : Region.noSelect ops = true := by kernel_rfl) (hin : edgesIn ops = true := by kernel_rfl) (hl : σ.length = ops.size := by exact rfl)
    (hp : planOk (ops.toList.map (encOf ops)) cs σ 0 = true := by kernel_rfl) (hz : zOk (ops.toList.map (encOf ops)) cs z = true := by kernel_rfl) (hQ : ∀ c a d v w, Q (.panic c) (Act.put a d v) w → Q (.panic c) a w := by exact fun _ _ d _ _ h => by cases d <;> exact h) : (Code.region id ops true).wp P Q a w :=
  wp_region_seqZ Ext.refl (fun _ _ _ => Ext.trans) z σ cs _ hm hs hin hl rfl hp hz hQ h
theorem qgZB (B : Nat) (z : Nat) (σ cs : List Nat) (h : seqZ P ops Q (Below B) z cs σ a w.drew) (hm : P.follows .mixedOrders = true := by kernel_rfl) (hs : Region.noSelect ops = true := by kernel_rfl) (hin : edgesIn ops = true := by kernel_rfl) (hl : σ.length = ops.size := by exact rfl)
    (hp : planOk (ops.toList.map (encOf ops)) cs σ 0 = true := by kernel_rfl) (hz : zOk (ops.toList.map (encOf ops)) cs z = true := by kernel_rfl) (hQ : ∀ c a d v w, Q (.panic c) (Act.put a d v) w → Q (.panic c) a w := by exact fun _ _ d _ _ h => by cases d <;> exact h) : (Code.region id ops true).wp P Q a w :=
  wp_region_seqZ (Below.refl _) (fun _ _ _ => Below.trans) z σ cs _ hm hs hin hl rfl hp hz hQ h
theorem qzR (F : World → Prop) (h : ∀ w', R w w' → F w') {o : Oper} {v : Value} (hn : seqZ P ops Q R z cs rest (a.put o.dst v) w) (ho' : nthO ops.toList i = some o := by exact rfl) (hc : cs.contains i = false := by exact rfl)
    (hw : Region.wanted o (yielded ops a.tmps) = true := by rfl) (hrun : ∀ w', F w' → (execOp a.eval o).run P w' = .ok (.value v) w' := by intro w' hF; go_simp; (try with_reducible rfl)) : seqZ P ops Q R z cs (i :: rest) a w :=
  seqZ_read F h o ho' hc hw hrun hn
theorem qzR0 {o : Oper} {v : Value} (hn : seqZ P ops Q R z cs rest (a.put o.dst v) w) (ho' : nthO ops.toList i = some o := by exact rfl) (hc : cs.contains i = false := by exact rfl)
    (hw : Region.wanted o (yielded ops a.tmps) = true := by rfl) (hrun : ∀ w', (execOp a.eval o).run P w' = .ok (.value v) w' := by intro w'; go_simp; (try with_reducible rfl)) : seqZ P ops Q R z cs (i :: rest) a w :=
  seqZ_read (fun _ => True) (fun _ _ => trivial) o ho' hc hw (fun w' _ => hrun w') hn
theorem qzV {o : Oper} (ho' : nthO ops.toList i = some o) (F : World → Prop) (h : ∀ w', R w w' → F w') (v : Value) (hrun : ∀ w', F w' → (execOp a.eval o).run P w' = .ok (.value v) w') (hn : seqZ P ops Q R z cs rest (a.put o.dst v) w) (hc : cs.contains i = false := by exact rfl)
    (hw : Region.wanted o (yielded ops a.tmps) = true := by rfl) : seqZ P ops Q R z cs (i :: rest) a w :=
  seqZ_read F h o ho' hc hw hrun hn
theorem qzD {o : Oper} (h : ∀ K' : Act → World → Prop, Shut (∀ a' w', (i = z ∨ R w w') → seqZ P ops Q R z cs rest a' w' → K' a' w') → Oper.wp P o a w K' Q) (ho' : nthO ops.toList i = some o := by exact rfl) (hc : cs.contains i = true := by exact rfl) (hw : Region.wanted o (yielded ops a.tmps) = true := by rfl) : seqZ P ops Q R z cs (i :: rest) a w :=
  seqZ_do o ho' hc hw h
end
end Go.Proofs.YtbnjmmefnjoofaaDoor
