import Derived.Test.YteaoacinhdjkeaaSeqT
import Derived.Test.YteaoacinhdjkeaaSeqZ
import Derived.Test.YteaoacinhdjkeaaPkG
import Derived.Test.YteaoacinhdjkeaaPkK
import Derived.Test.YteaoacinhdjkeaaPkM
import Derived.Deep.DeepCutAuto
section
/-
  As the text on trees of orders, for a region whose last operation (a store) waits for all others and may write old memory. No conditions.
-/
namespace Go.Proofs.Yteaoacinhdjkeaa

section
variable {P : Program} {ops : Array Oper} {Q : Exit → Act → World → Prop}
def seqTZ (P : Program) (ops : Array Oper) (Q : Exit → Act → World → Prop) (R : World → World → Prop) (z : Nat) : Pl → Act → World → Prop
  | .nil, a, w => Q .normal a w
  | .rd i p, a, w => i ≠ z ∧ ∃ o, ops[i]? = some o ∧ ∃ v, YieldsIf P ops (R w) o v a ∧ seqTZ P ops Q R z p (a.put o.dst v) w
  | .alt i p q, a, w => (∃ o, ops[i]? = some o ∧ wpOp P ops Q i (fun a' w' => (i = z ∨ R w w') ∧ seqTZ P ops Q R z p a' w') a w) ∧ seqTZ P ops Q R z q a w
  | .stop, _, _ => True
theorem waits_of {D : List (Nat × Nat × Nat)} {z i : Nat} (hD : ops.toList.map (encOf ops) = D) (hzok : zOk D [z] z = true) (hi : i < ops.size) (hiz : i ≠ z) : ∃ oz, ops[z]? = some oz ∧ Waits ops oz i := by
  have hDi : ∀ (j : Nat) oj, ops[j]? = some oj → D[j]? = some (encOf ops oj) := fun j oj hj => by
    rw [← hD, List.getElem?_map, Array.getElem?_toList, hj]; rfl
  have hzz := hzok
  unfold zOk at hzz
  rw [Bool.and_eq_true] at hzz
  obtain ⟨hzc, hzz⟩ := hzz
  have hlen : D.length = ops.size := by rw [← hD]; simp
  cases hnz : nthD D z with
  | none => rw [hnz] at hzz; cases hzz
  | some x =>
    rw [hnz] at hzz
    rw [nthD_eq, ← hD, List.getElem?_map, Array.getElem?_toList] at hnz
    cases hoz : ops[z]? with
    | none => rw [hoz] at hnz; cases hnz
    | some oz =>
      rw [hoz] at hnz
      simp only [Option.map_some, Option.some.injEq] at hnz
      refine ⟨oz, rfl, ?_⟩
      have hx1 : x.1 = maskOf (depsOf oz) := by rw [← hnz]; rfl
      simp only [hx1] at hzz
      have h1 := List.all_eq_true.1 hzz i (List.mem_range.2 (by omega))
      simp only [Bool.or_eq_true, beq_iff_eq] at h1
      rcases h1 with h1 | h1 | h1
      · exact absurd h1 hiz
      · exact .inl ((dep_iff oz i).1 h1)
      · obtain ⟨m, hm, h2⟩ := List.any_eq_true.1 h1
        rw [Bool.and_eq_true] at h2
        obtain ⟨h2, h3⟩ := h2
        cases hom : ops[m]? with
        | none => rw [nthD_eq, ← hD, List.getElem?_map, Array.getElem?_toList, hom] at h3; cases h3
        | some om =>
          rw [nthD_eq, hDi m om hom] at h3
          exact .inr ⟨m, om, hom, (dep_iff oz m).1 h2, (dep_iff om i).1 h3⟩
theorem any_of_seqTZ {R : World → World → Prop} (hrf : ∀ w, R w w) (htr : ∀ a b c, R a b → R b c → R a c) {D : List (Nat × Nat × Nat)} {z : Nat} (hs : Region.noSelect ops = true) (hQ : ∀ c a d v w, Q (.panic c) (Act.put a d v) w → Q (.panic c) a w) (hD : ops.toList.map (encOf ops) = D)
    (hsub : ∀ (j : Nat) o, ops[j]? = some o → ∀ e ∈ o.after, e.on < ops.size) (hzok : zOk D [z] z = true) :
    ∀ (p : Pl) (listed : Array Bool) (done m : Nat) (inC : Bool) (fuel : Nat) (a : Act) (w : World), Listed ops.size done listed → Closed ops listed → planT D p done m inC fuel = true → seqTZ P ops Q R z p a w →
      (inC = false → m = 0 → wpAnyZ P ops Q R z fuel listed a w) ∧
      (∀ f, fuel = f + 1 → ∀ j, j ∈ Region.ready .any ops listed → m.testBit j = true ∨ wpOp P ops Q j (fun a' w' => (j = z ∨ R w w') ∧ wpAnyZ P ops Q R z f (listed.setIfInBounds j true) a' w') a w)
  | .nil, listed, done, m, inC, fuel, a, w, hL, _, hp, h => by
    simp only [planT, Bool.and_eq_true, Bool.not_eq_true', beq_iff_eq] at hp
    obtain ⟨⟨_, rfl⟩, hd⟩ := hp
    refine ⟨fun _ _ => ⟨?_, h⟩, fun f hf => absurd hf (by omega)⟩
    have hlen : D.length = ops.size := by rw [← hD]; simp
    rw [hlen, Nat.one_shiftLeft] at hd
    cases hr : Region.ready .any ops listed with
    | nil => rfl
    | cons j r =>
      have hj : j ∈ Region.ready .any ops listed := by rw [hr]; simp
      obtain ⟨h0, _⟩ := mem_ready.1 hj
      have hlt := hL.lt h0
      rw [hL.2 j hlt] at h0
      have : done = 2 ^ ops.size - 1 := by omega
      rw [this, Nat.testBit_two_pow_sub_one] at h0
      simp [hlt] at h0
  | .rd i p, listed, done, m, inC, fuel, a, w, hL, hcl, hp, h => by
    obtain ⟨hiz, o, ho, v, hy, hh⟩ := h
    have hi : i < ops.size := (Array.getElem?_eq_some_iff.1 ho).1
    have hDi : ∀ (j : Nat) oj, ops[j]? = some oj → D[j]? = some (encOf ops oj) := fun j oj hj => by
      rw [← hD, List.getElem?_map, Array.getElem?_toList, hj]; rfl
    simp only [planT, Bool.and_eq_true, Bool.not_eq_true'] at hp
    obtain ⟨⟨⟨hc, hr⟩, hp1⟩, hp2⟩ := hp
    obtain ⟨x, hx, hnd, hdep⟩ := readyD_spec hr
    rw [hDi i o ho] at hx
    obtain rfl := Option.some.inj hx
    rw [nthD_eq, hDi i o ho] at hp1
    have hri : i ∈ Region.ready .any ops listed := mem_ready.2 ⟨(hL.2 i hi).trans hnd, o, ho, fun e he hb =>
      hL.on (sub_mask hdep ((dep_iff o e.on).2 ⟨e, he, hb, rfl⟩)) (hsub i o ho e he)⟩
    have hL' := hL.set hi
    obtain ⟨oz, hoz, hwt⟩ := waits_of hD hzok hi hiz
    cases fuel with
    | zero => simp at hp2
    | succ f =>
      have main : wpAnyZ P ops Q R z (f + 1) listed a w := by
        refine wpAnyZ_first hrf htr ho hoz hiz hwt (Region.noSelect_spec hs) (fun c a w => hQ c a _ _ w) _ listed a w hcl (fun j oj hoj hji hun hno => ?_) hri hy ((any_of_seqTZ hrf htr hs hQ hD hsub hzok p _ _ 0 false f _ w hL' (hcl.set hri) hp2 hh).1 rfl rfl)
        have hjl := hL.lt hun
        rw [hL.2 j hjl] at hun
        refine apart_of (allApart_spec hp1 j _ (hDi j oj hoj) (by omega) (by rw [Nat.zero_add]; exact hun) ?_)
        cases hb : (encOf ops oj).1.testBit i with
        | false => rfl
        | true =>
          obtain ⟨e, he, hb', he'⟩ := (dep_iff oj i).1 hb
          exact absurd he' (hno e he hb')
      refine ⟨fun _ _ => main, fun f' hf j hj => ?_⟩
      obtain rfl : f = f' := by omega
      exact .inr (wpOp_mono (fun a' w' ⟨he, hh⟩ => ⟨he, hh⟩) (main.2 j hj))
  | .alt i p q, listed, done, m, inC, fuel, a, w, hL, hcl, hp, h => by
    obtain ⟨⟨o, ho, hop⟩, hq⟩ := h
    have hi : i < ops.size := (Array.getElem?_eq_some_iff.1 ho).1
    have hDi : ∀ (j : Nat) oj, ops[j]? = some oj → D[j]? = some (encOf ops oj) := fun j oj hj => by
      rw [← hD, List.getElem?_map, Array.getElem?_toList, hj]; rfl
    simp only [planT, Bool.and_eq_true] at hp
    obtain ⟨⟨hr, hp1⟩, hp2⟩ := hp
    obtain ⟨x, hx, hnd, hdep⟩ := readyD_spec hr
    rw [hDi i o ho] at hx
    obtain rfl := Option.some.inj hx
    have hri : i ∈ Region.ready .any ops listed := mem_ready.2 ⟨(hL.2 i hi).trans hnd, o, ho, fun e he hb =>
      hL.on (sub_mask hdep ((dep_iff o e.on).2 ⟨e, he, hb, rfl⟩)) (hsub i o ho e he)⟩
    have hL' := hL.set hi
    cases fuel with
    | zero => simp at hp1
    | succ f =>
      have IQ := (any_of_seqTZ hrf htr hs hQ hD hsub hzok q listed done (m ||| (1 <<< i)) true (f + 1) a w hL hcl hp2 hq).2 f rfl
      have HI : wpOp P ops Q i (fun a' w' => (i = z ∨ R w w') ∧ wpAnyZ P ops Q R z f (listed.setIfInBounds i true) a' w') a w :=
        wpOp_mono (fun a' w' ⟨he, hh⟩ => ⟨he, (any_of_seqTZ hrf htr hs hQ hD hsub hzok p _ _ 0 false f a' w' hL' (hcl.set hri) hp1 hh).1 rfl rfl⟩) hop
      have all : ∀ j, j ∈ Region.ready .any ops listed → m.testBit j = true ∨ wpOp P ops Q j (fun a' w' => (j = z ∨ R w w') ∧ wpAnyZ P ops Q R z f (listed.setIfInBounds j true) a' w') a w := fun j hj => by
        by_cases hji : j = i
        · subst hji
          exact .inr HI
        · rcases IQ j hj with hm | hw
          · rw [Nat.testBit_or, Nat.one_shiftLeft, Nat.testBit_two_pow] at hm
            simp only [show ¬ i = j from fun e => hji e.symm, decide_false, Bool.or_false] at hm
            exact .inl hm
          · exact .inr hw
      refine ⟨fun _ hm => ?_, fun f' hf j hj => ?_⟩
      · subst hm
        refine ⟨fun h0 => (by rw [h0] at hri; cases hri), fun j hj => ?_⟩
        rcases all j hj with h9 | h9
        · simp at h9
        · exact h9
      · obtain rfl : f = f' := by omega
        exact all j hj
  | .stop, listed, done, m, inC, fuel, a, w, hL, _, hp, _ => by
    simp only [planT, Bool.and_eq_true, Bool.not_eq_true', beq_eq_false_iff_ne] at hp
    obtain ⟨⟨hc, hf⟩, hw⟩ := hp
    refine ⟨fun h _ => (by rw [hc] at h; cases h), fun f hf j hj => ?_⟩
    have hDi : ∀ (j : Nat) oj, ops[j]? = some oj → D[j]? = some (encOf ops oj) := fun j oj hj => by
      rw [← hD, List.getElem?_map, Array.getElem?_toList, hj]; rfl
    obtain ⟨h0, oj, hoj, hall⟩ := mem_ready.1 hj
    have hjl := hL.lt h0
    rw [hL.2 j hjl] at h0
    cases hm : m.testBit j with
    | true => exact .inl rfl
    | false =>
      have hne := allWaitM_spec hw j _ (hDi j oj hoj) (by rw [Nat.zero_add]; exact hm) (by rw [Nat.zero_add]; exact h0)
      obtain ⟨k, hk1, hk2⟩ := not_sub_mask hne
      obtain ⟨e, he, hb, rfl⟩ := (dep_iff oj k).1 hk1
      rw [hL.off (hall e he hb)] at hk2
      cases hk2
/-- **A region that draws its order, its last operation z a store.** -/
theorem wp_region_treeZ {R : World → World → Prop} (hrf : ∀ w, R w w) (htr : ∀ a b c, R a b → R b c → R a c) {id : Nat} {a : Act} {w : World} (z : Nat) (p : Pl) (D : List (Nat × Nat × Nat)) (n : Nat) (hm : P.follows .mixedOrders = true) (hs : Region.noSelect ops = true) (hin : edgesIn ops = true) (hl : ops.size = n)
    (hD : ops.toList.map (encOf ops) = D) (hp : planT D p 0 0 false n = true) (hz : zOk D [z] z = true)
    (hQ : ∀ c a d v w, Q (.panic c) (Act.put a d v) w → Q (.panic c) a w) (h : seqTZ P ops Q R z p a w.drew) : (Code.region id ops true).wp P Q a w := by
  refine wp_region_any hm (wpAny_of_Z (R := R) (z := z) _ _ _ _ ?_)
  have := (any_of_seqTZ hrf htr hs hQ hD (fun j o ho e he => by
    have h1 := Array.all_eq_true_iff_forall_mem.1 hin o (Array.mem_of_getElem? ho)
    simpa using Array.all_eq_true_iff_forall_mem.1 h1 e he) hz p (Array.replicate ops.size false) 0 0 false n a w.drew ⟨by simp, fun j hj => by simp [Array.getD, hj]⟩ (fun k ok _ hl => by
      exfalso
      rcases Nat.lt_or_ge k ops.size with h' | h'
      · simp [Array.getD, h'] at hl
      · simp [Array.getD, Nat.not_lt.2 h'] at hl) hp h).1 rfl rfl
  rw [← hl] at this
  exact this
theorem seqTZ_done {R : World → World → Prop} {z : Nat} {a : Act} {w : World} (h : Q .normal a w) : seqTZ P ops Q R z .nil a w := h
theorem seqTZ_read {R : World → World → Prop} {z i : Nat} {p : Pl} {a : Act} {w : World} (hz : i ≠ z) (F : World → Prop) (hF : ∀ w', R w w' → F w') (o : Oper) {v : Value} (ho' : nthO ops.toList i = some o)
    (hw : Region.wanted o (yielded ops a.tmps) = true) (hrun : ∀ w', F w' → (execOp a.eval o).run P w' = .ok (.value v) w') (h : seqTZ P ops Q R z p (a.put o.dst v) w) : seqTZ P ops Q R z (.rd i p) a w :=
  ⟨hz, o, of_nthO ho', v, .inl ⟨hw, fun w' e => hrun w' (hF w' e)⟩, h⟩
theorem seqTZ_do {R : World → World → Prop} {z i : Nat} {p q : Pl} {a : Act} {w : World} (o : Oper) (ho' : nthO ops.toList i = some o) (hw : Region.wanted o (yielded ops a.tmps) = true) (hq : seqTZ P ops Q R z q a w)
    (h : ∀ K' : Act → World → Prop, Shut (∀ a' w', (i = z ∨ R w w') → seqTZ P ops Q R z p a' w' → K' a' w') → Oper.wp P o a w K' Q) : seqTZ P ops Q R z (.alt i p q) a w :=
  ⟨⟨o, of_nthO ho', by
    refine wpOp_step (of_nthO ho') fun K' hK => ?_
    rw [if_pos hw]
    exact h K' fun a' w' he hh => hK a' w' ⟨he, hh⟩⟩, hq⟩
theorem seqTZ_stop {R : World → World → Prop} {z : Nat} {a : Act} {w : World} : seqTZ P ops Q R z .stop a w := trivial
end
end Go.Proofs.Yteaoacinhdjkeaa
end

section
/-
  palfreyref23: take.
-/
namespace Go.Proofs.Yteaoacinhdjkeaa
open Go.ChangeShapes Go.WideShapes Go.ChangeAt Go.RowKit Go.Deep Go.Maps
set_option maxRecDepth 100000

/-- What take turns. -/
def Tk23 (lo : Nat → Prop) (w : World) (rg i : Nat) : Prop := i = rg ∨ lo i ∧ ∃ cs, w.heap[i]? = some (.cells cs 128 (0, 0))
theorem rsk_built (a b c : Int) : Try.prog.built 128 [(0, .int .i64 a), (1, .int .i64 b), (2, .int .i64 c)] = some #[.int .i64 a, .int .i64 b, .int .i64 c, .bool false] := by kernel_rfl
theorem infoR23 : (Try.prog.info? 128).map (fun i => (i.zero, i.size, i.bytes)) = some (some (.agg (⟨0, 0, 0, false⟩ : Sk).R.toArray), 4, (Try.prog.info? 128).elim 0 (·.bytes)) := by kernel_rfl
theorem bytesR23 : (Try.prog.info? 128).elim 0 (·.bytes) ≤ 1000000 := by decide +kernel
theorem zR23_cells : (Value.agg (⟨0, 0, 0, false⟩ : Sk).R.toArray).cells.size = 4 := rfl
theorem revS_set {K : List Sk} {k : Nat} {s : Sk} (ok : OkS K) (hk : K[k]? = some s) : revS K s.id = K.set k { s with rev := true } := by
  apply List.ext_getElem?
  intro j
  unfold revS
  rw [List.getElem?_map]
  have hkl := (List.getElem?_eq_some_iff.1 hk).1
  by_cases q : j = k
  · subst q
    rw [hk, List.getElem?_set_self hkl]
    simp
  · rw [List.getElem?_set_ne (fun z => q z.symm)]
    cases e : K[j]? with
    | none => rfl
    | some t =>
      have ht := List.mem_of_getElem? e
      have hs := List.mem_of_getElem? hk
      have hne : t.id ≠ s.id := fun z => by
        have h1 := List.pairwise_iff_getElem.1 ok.ap
        have hjl := (List.getElem?_eq_some_iff.1 e).1
        have ej : K[j] = t := by rw [List.getElem?_eq_getElem hjl] at e; exact Option.some.inj e
        have ek : K[k] = s := by rw [List.getElem?_eq_getElem hkl] at hk; exact Option.some.inj hk
        rcases Nat.lt_or_ge j k with l | l
        · exact h1 j k hjl hkl l (by rw [ej, ek]; exact z)
        · exact h1 k j hkl hjl (by omega) (by rw [ej, ek]; exact z.symm)
      simp [hne]
section
variable {w w' : World} {lo : Nat → Prop} {rg g : Nat} {K : List Sk}
theorem RL.ty_ne (h : RL lo w rg g K) {i : Nat} {cs : Array Value} (hi : w.heap[i]? = some (.cells cs 128 (0, 0))) : i ≠ rg := fun q => by
  obtain ⟨A, n, c, h1, _⟩ := h
  unfold Cb at h1
  rw [q, h1] at hi
  injection hi with hi
  injection hi with _ hi
  exact absurd hi (by decide)
/-- One strike is taken back, in its place. -/
theorem RL.revoke (h : RL lo w rg g K) (ok : OkS K) {k : Nat} {s : Sk} (hk : K[k]? = some s) : ∃ (b off n c : Nat), (k < n ∧ w.cell? ⟨rg, 1, none⟩ = some (.slice (some ⟨b, off, none⟩) n c) ∧ (∃ v, w.cell? ⟨b, off + k * 4 + 3, none⟩ = some v) ∧ w.frozen? ⟨b, off + k * 4 + 3, none⟩ = false) ∧ RL lo (w.setCell ⟨b, off + k * 4 + 3, none⟩ (.bool true)) rg g (revS K s.id) ∧ w.grownBy (w.setCell ⟨b, off + k * 4 + 3, none⟩ (.bool true)) (some b) ∧ lo b ∧ ∃ cs, w.heap[b]? = some (.cells cs 128 (0, 0)) := by
  have h0 := h
  obtain ⟨A, n, c, h1, h2, h3⟩ := h
  have lm : K.length = n := by have := h2.1.1; rwa [List.length_map] at this
  have hkl := (List.getElem?_eq_some_iff.1 hk).1
  have hkn : k < n := by omega
  obtain ⟨b, off, rfl, hb, hc⟩ := h2.2.2 (by omega)
  obtain ⟨lq, cs, hcs⟩ := h3 (by omega) _ rfl
  have hcs : w.heap[b]? = some (.cells cs 128 (0, 0)) := hcs
  have hbr := h0.ty_ne hcs
  have gr := gr_cell22 w b (off + k * 4 + 3) (.bool true)
  have lenR : ∀ x ∈ K.map Sk.R, x.length = 4 := fun x hx => by obtain ⟨t, _, rfl⟩ := List.mem_map.1 hx; rfl
  have cellK : ∀ j q v, j < n → (((K.map Sk.R).getD j [])[q]? = some v) → w.cell? ⟨b, off + j * 4 + q, none⟩ = some v := fun j q v hj hv => by
    obtain ⟨b', off', e, _, hc'⟩ := h2.at hj
    injection e with e
    injection e with e1 e2
    subst e1 e2
    exact hc' q v hv
  have c3 : w.cell? ⟨b, off + k * 4 + 3, none⟩ = some (.bool s.rev) := cellK k 3 _ hkn (by rw [List.getD_eq_getElem?_getD, List.getElem?_map, hk]; rfl)
  have hsz : off + k * 4 + 3 < cs.size := by
    simp only [World.cell?, hcs] at c3
    have c3 : cs[off + k * 4 + 3]? = some (.bool s.rev) := by simpa using c3
    exact (Array.getElem?_eq_some_iff.1 c3).1
  have newH : (w.setCell ⟨b, off + k * 4 + 3, none⟩ (.bool true)).heap[b]? = some (.cells (cs.set (off + k * 4 + 3) (.bool true) hsz) 128 (0, 0)) := by
    have hC : Cb w b 128 cs.toList := by unfold Cb; rw [Array.toArray_toList]; exact hcs
    have := hC.setCell (o := off + k * 4 + 3) (v := .bool true)
    unfold Cb at this
    rw [this]
    congr 2
  refine ⟨b, off, n, c, ⟨hkn, h1.cell rfl, ⟨_, c3⟩, ?_⟩, ⟨some ⟨b, off, none⟩, n, c, (gr.block _ h1.lt (fun q => hbr (Option.some.inj q).symm)).trans h1, ?_, fun _ q hq => ?_⟩, gr, lq, cs, hcs⟩
  · have hC : Cb w b 128 cs.toList := by unfold Cb; rw [Array.toArray_toList]; exact hcs
    exact hC.frozen _
  · rw [revS_set ok hk]
    refine ⟨⟨by rw [List.length_map, List.length_set]; exact lm, fun x hx => by obtain ⟨t, _, rfl⟩ := List.mem_map.1 hx; rfl⟩, h2.2.1, fun _ => ⟨b, off, rfl, by simpa [World.setCell] using hb, fun q v hv => ?_⟩⟩
    have LL : ((K.set k { s with rev := true }).map Sk.R).flatten.length = n * 4 := by rw [flatten_len64 (s := 4) (fun x hx => by obtain ⟨t, _, rfl⟩ := List.mem_map.1 hx; rfl), List.length_map, List.length_set, lm]
    have hq := (List.getElem?_eq_some_iff.1 hv).1
    rw [LL] at hq
    have hj : q / 4 < n := by omega
    have e : q / 4 * 4 + q % 4 = q := by omega
    have fa := flat_at (L := (K.set k { s with rev := true }).map Sk.R) (s := 4) (fun x hx => by obtain ⟨t, _, rfl⟩ := List.mem_map.1 hx; rfl) (j := q / 4) (i := q % 4) (by rw [List.length_map, List.length_set]; omega) (by omega)
    rw [e, hv] at fa
    rw [List.getD_eq_getElem?_getD, List.getElem?_map] at fa
    by_cases qk : q / 4 = k
    · rw [qk, List.getElem?_set_self hkl] at fa
      by_cases q3 : q % 4 = 3
      · rw [q3] at fa
        have ev : v = .bool true := (Option.some.inj fa)
        have eq : off + q = off + k * 4 + 3 := by omega
        rw [ev, eq]
        simp only [World.cell?, newH]
        simp
      · have hne : off + q ≠ off + k * 4 + 3 := by omega
        have ov : (s.R)[q % 4]? = some v := by
          rw [fa]
          have : q % 4 = 0 ∨ q % 4 = 1 ∨ q % 4 = 2 := by omega
          rcases this with z | z | z <;> rw [z] <;> rfl
        have old := cellK k (q % 4) v hkn (by rw [List.getD_eq_getElem?_getD, List.getElem?_map, hk]; exact ov)
        rw [show off + k * 4 + q % 4 = off + q by omega] at old
        simp only [World.cell?, hcs] at old
        simp only [World.cell?, newH]
        simpa [Array.getElem?_set, Ne.symm hne] using old
    · have hne : off + q ≠ off + k * 4 + 3 := by omega
      rw [List.getElem?_set_ne (fun z => qk z.symm)] at fa
      have old := cellK (q / 4) (q % 4) v hj (by rw [List.getD_eq_getElem?_getD, List.getElem?_map]; exact fa.symm)
      rw [show off + q / 4 * 4 + q % 4 = off + q by omega] at old
      simp only [World.cell?, hcs] at old
      simp only [World.cell?, newH]
      simpa [Array.getElem?_set, Ne.symm hne] using old
  · injection hq with hq
    subst hq
    exact ⟨lq, _, newH⟩
end
end Go.Proofs.Yteaoacinhdjkeaa
end

section
/-
  The document's disk: its state; New, burn, Fuse.
-/
namespace Go.Proofs.Yteaoacinhdjkeaa
open Go.ChangeShapes Go.WideShapes Go.ChangeAt Go.RowKit Go.Deep Go.Maps
set_option maxRecDepth 100000

def Ds.lit (d : Ds) : Int := if d.hf then d.f else -1
def Ds.isC (d : Ds) : List Value := (List.range d.S.length).map fun i => Value.bool (d.N i).isSome
theorem isC_len (d : Ds) : d.isC.length = d.S.length := by simp [Ds.isC]
theorem isC_at {d : Ds} {i : Nat} (h : i < d.S.length) : d.isC[i]? = some (.bool (d.N i).isSome) := by simp [Ds.isC, h]
def Ds.rcells (d : Ds) (r n i : Nat) : List Value := [.slice (some ⟨r, 0, none⟩) d.S.length d.S.length, .slice (some ⟨n, 0, none⟩) d.S.length d.S.length, .slice (some ⟨i, 0, none⟩) d.S.length d.S.length, .int .i64 d.lit, .bool d.dd]
/-- The document's disk at block g, with its three rows. -/
structure RD (w : World) (g r n i : Nat) (d : Ds) (X : List (List UInt8)) : Prop where
  cb : Cb w g 89 (d.rcells r n i)
  sr : Cb w r 48 (d.S.map cellsOf).flatten
  nr : Cb w n 48 (X.map cellsOf).flatten
  ir : Cb w i 4 d.isC
  ne : r ≠ n
  ok : d.ok
  xl : X.length = d.S.length
  xs : ∀ x ∈ X, x.length = 64
  xn : ∀ j s, d.N j = some s → X.getD j [] = s
section
variable {w w' : World} {g r n i : Nat} {d : Ds} {X : List (List UInt8)}
theorem RD.stay (h : RD w g r n i d X) (hg : w'.heap[g]? = w.heap[g]?) (hr : w'.heap[r]? = w.heap[r]?) (hn : w'.heap[n]? = w.heap[n]?) (hi : w'.heap[i]? = w.heap[i]?) : RD w' g r n i d X := ⟨hg.trans h.cb, hr.trans h.sr, hn.trans h.nr, hi.trans h.ir, h.ne, h.ok, h.xl, h.xs, h.xn⟩
theorem RD.ext (h : RD w g r n i d X) (x : Ext w w') : RD w' g r n i d X := h.stay (x.block _ h.cb.lt) (x.block _ h.sr.lt) (x.block _ h.nr.lt) (x.block _ h.ir.lt)
theorem RD.gr (h : RD w g r n i d X) : g ≠ r := cb_differ h.cb h.sr (by decide)
theorem RD.gn (h : RD w g r n i d X) : g ≠ n := cb_differ h.cb h.nr (by decide)
theorem RD.gi (h : RD w g r n i d X) : g ≠ i := cb_differ h.cb h.ir (by decide)
theorem RD.ri (h : RD w g r n i d X) : r ≠ i := cb_differ h.sr h.ir (by decide)
theorem RD.ni (h : RD w g r n i d X) : n ≠ i := cb_differ h.nr h.ir (by decide)
/-- The disk and the document's are apart. -/
theorem DK.apart {g' r' b : Nat} {d' : Ds} (k : DK w g' r' b d') (h : RD w g r n i d X) : (g ≠ g' ∧ g ≠ r' ∧ g ≠ b) ∧ (r ≠ g' ∧ r ≠ r' ∧ r ≠ b) ∧ (n ≠ g' ∧ n ≠ r' ∧ n ≠ b) ∧ (i ≠ g' ∧ i ≠ r' ∧ i ≠ b) := by
  obtain ⟨es, c, q⟩ := k.mp.obj
  have nb : ∀ {j : Nat} {t : TypeId} {C : List Value}, Cb w j t C → j ≠ b := fun {j t C} z e => by
    subst e
    unfold Cb at z
    rw [q] at z
    cases z
  exact ⟨⟨cb_differ h.cb k.cb (by decide), cb_differ h.cb k.row (by decide), nb h.cb⟩, ⟨cb_differ h.sr k.cb (by decide), cb_differ h.sr k.row (by decide), nb h.sr⟩, ⟨cb_differ h.nr k.cb (by decide), cb_differ h.nr k.row (by decide), nb h.nr⟩, ⟨cb_differ h.ir k.cb (by decide), cb_differ h.ir k.row (by decide), nb h.ir⟩⟩
/-- A cell of its own block turns. -/
theorem RD.cell {d' : Ds} (h : RD w g r n i d X) {o : Nat} {v : Value} (hc : (d.rcells r n i).set o v = d'.rcells r n i) (hS : d'.S = d.S) (hN : d'.N = d.N) (ok : d'.ok) : RD (w.setCell ⟨g, o, none⟩ v) g r n i d' X := by
  have e : d'.isC = d.isC := by unfold Ds.isC; rw [hS, hN]
  refine ⟨by rw [← hc]; exact h.cb.setCell, ?_, ?_, ?_, h.ne, ok, by rw [hS]; exact h.xl, h.xs, by rw [hN]; exact h.xn⟩
  · rw [hS]; exact (Below.heap_setCell _ _ _ _ (fun q => h.gr q.symm)).trans h.sr
  · exact (Below.heap_setCell _ _ _ _ (fun q => h.gn q.symm)).trans h.nr
  · rw [e]; exact (Below.heap_setCell _ _ _ _ (fun q => h.gi q.symm)).trans h.ir
end
theorem infoRS : (Try.prog.info? 48).map (fun i => (i.zero, i.size, i.bytes)) = some (some (.agg zS64.toArray), 64, (Try.prog.info? 48).elim 0 (·.bytes)) := by kernel_rfl
theorem bytesRS : (Try.prog.info? 48).elim 0 (·.bytes) ≤ 1000000 := by decide +kernel
theorem makeRS (n : Nat) (hn : n ≤ 1000) (w : World) :
    (Instr.makeSlice 87 (.int .i64 (n : Int)) (.int .i64 (n : Int))).run Try.prog w = .ok (.slice (some ⟨w.heap.size, 0, none⟩) n n) (w.alloc (.cells (List.replicate n zS64).flatten.toArray 48)) := by
  obtain ⟨i, hi, h0, h1, h2⟩ := info_parts infoRS
  have hb := bytesRS
  have hle : n * i.bytes ≤ 1000 * 1000000 := Nat.mul_le_mul hn (by rw [h2]; exact hb)
  have h4 : (i.bytes : Int) * (n : Int) ≤ 281474976710656 := by
    have h3 : ((n * i.bytes : Nat) : Int) ≤ 1000000000 := by omega
    rw [Int.natCast_mul, Int.mul_comm] at h3
    omega
  have := run_make (P := Try.prog) w 87 48 i (.agg zS64.toArray) Try.underlying87 hi h0 .i64 .i64 (n : Int) (n : Int) (by omega) (by omega) (by first | exact h4 | omega) (by omega)
  rw [this]
  simp only [Int.toNat_natCast]
  rw [h1, show (Value.agg zS64.toArray).cells = zS64.toArray from rfl, madeCells_flat64 zS64_len (by omega)]
theorem infoB21 : (Try.prog.info? 4).map (fun i => (i.zero, i.size, i.bytes)) = some (some (.bool false), 1, 1) := by kernel_rfl
theorem makeB21 (n : Nat) (hn : n ≤ 1000) (w : World) :
    (Instr.makeSlice 76 (.int .i64 (n : Int)) (.int .i64 (n : Int))).run Try.prog w = .ok (.slice (some ⟨w.heap.size, 0, none⟩) n n) (w.alloc (.cells (List.replicate n (Value.bool false)).toArray 4)) := by
  rw [run_make_row' _ _ _ 1 Try.underlying76 infoB21 rfl .i64 .i64 n (by omega) (by omega) w]
  congr 3
  apply Array.ext'
  rw [toList_madeCells_one]
theorem rnew_bad {w : World} {z : Int} (h : z < 1 ∨ 64 < z) : Calls Try.prog 13 #[.int .i64 z] w fun e w' => e = .returned (.tuple #[.pointer none, .int .i64 1]) ∧ Ext w w' := by
  by_cases h1 : z < 1
  · have u1 : decide (z < 1) = true := decide_eq_true h1
    clear h
    go_enter Try.func13, Try.ntmps13
    go_wp2_with fail
    go_ret2
    exact ⟨rfl, Ext.refl w⟩
  · have u1 : decide (z < 1) = false := decide_eq_false h1
    have h2 : 64 < z := h.resolve_left h1
    have u2 : decide (64 < z) = true := decide_eq_true h2
    clear h
    go_enter Try.func13, Try.ntmps13
    go_wp2_with fail
    go_ret2
    exact ⟨rfl, Ext.refl w⟩
end Go.Proofs.Yteaoacinhdjkeaa
end

section
/-
  palfreyref21: New of a disk that may be, burn, Fuse.
-/
namespace Go.Proofs.Yteaoacinhdjkeaa
open Go.ChangeShapes Go.WideShapes Go.ChangeAt Go.RowKit Go.Deep Go.Maps
set_option maxRecDepth 100000

theorem newD_isC (n : Nat) : (newD n).isC = List.replicate n (Value.bool false) := by
  unfold Ds.isC newD
  simp only [List.length_replicate, Option.isSome_none]
  apply List.ext_getElem?
  intro i
  rw [List.getElem?_map, List.getElem?_replicate]
  by_cases h : i < n
  · rw [List.getElem?_range h, if_pos h]; rfl
  · rw [List.getElem?_eq_none (by rw [List.length_range]; omega), if_neg h]; rfl
set_option maxHeartbeats 2000000 in
theorem rnew_ok {w : World} {n : Nat} (n1 : 1 ≤ n) (n64 : n ≤ 64) :
    Calls Try.prog 13 #[.int .i64 (n : Int)] w fun e w' => ∃ (g r m i : Nat) (X : List (List UInt8)), e = .returned (.tuple #[.pointer (some ⟨g, 0, none⟩), .int .i64 0]) ∧ (w.heap.size ≤ g ∧ w.heap.size ≤ r ∧ w.heap.size ≤ m ∧ w.heap.size ≤ i) ∧ RD w' g r m i (newD n) X ∧ Ext w w' := by
  have u1 : decide ((n : Int) < 1) = false := decide_eq_false (by omega)
  have u2 : decide (64 < (n : Int)) = false := decide_eq_false (by omega)
  have hmS := fun w => makeRS n (by omega) w
  have hmB := fun w => makeB21 n (by omega) w
  obtain ⟨C, hC⟩ : ∃ C, C = (List.replicate n zS64).flatten := ⟨_, rfl⟩
  obtain ⟨D, hD⟩ : ∃ D, D = List.replicate n (Value.bool false) := ⟨_, rfl⟩
  simp only [← hC] at hmS
  simp only [← hD] at hmB
  have BL : Hid (∀ a b c : Nat, Try.prog.built 89 [(0, .slice (some ⟨a, 0, none⟩) n n), (1, .slice (some ⟨b, 0, none⟩) n n), (2, .slice (some ⟨c, 0, none⟩) n n), (3, .int .i64 (-1))] = some #[.slice (some ⟨a, 0, none⟩) n n, .slice (some ⟨b, 0, none⟩) n n, .slice (some ⟨c, 0, none⟩) n n, .int .i64 (-1), .bool false]) := fun a b c => by kernel_rfl
  have FIN : Hid (∀ (W : World) (a b c : Nat), Cb W a 48 C → Cb W b 48 C → Cb W c 4 D → a ≠ b → RD (W.alloc (.cells #[.slice (some ⟨a, 0, none⟩) n n, .slice (some ⟨b, 0, none⟩) n n, .slice (some ⟨c, 0, none⟩) n n, .int .i64 (-1), .bool false] 89)) W.heap.size a b c (newD n) (newD n).S) := fun W a b c h1 h2 h3 hne => by
    have eS : ((newD n).S.map cellsOf).flatten = C := by rw [hC]; simp [newD, zS64]
    have c1 := Cb.new W 89 ((newD n).rcells a b c)
    have ec : (newD n).rcells a b c = [.slice (some ⟨a, 0, none⟩) n n, .slice (some ⟨b, 0, none⟩) n n, .slice (some ⟨c, 0, none⟩) n n, .int .i64 (-1), .bool false] := by simp [Ds.rcells, newD, Ds.lit]
    have x := (Ext.refl W).alloc (.cells #[.slice (some ⟨a, 0, none⟩) n n, .slice (some ⟨b, 0, none⟩) n n, .slice (some ⟨c, 0, none⟩) n n, .int .i64 (-1), .bool false] 89)
    refine ⟨?_, by rw [eS]; exact h1.ext x, by rw [eS]; exact h2.ext x, by rw [newD_isC, ← hD]; exact h3.ext x, hne, newD_ok n1 n64, rfl, (newD_ok n1 n64).sl, fun j s q => by cases q⟩
    rw [ec] at c1 ⊢
    exact c1
  replace hC := Lib.hid (fun _ : Unit => hC)
  replace hD := Lib.hid (fun _ : Unit => hD)
  go_enter Try.func13, Try.ntmps13
  go_upto_region 3 with fail
  go_cut [2, 3] from 4 to 17 (fun s2 s3 wx => s3 = .int .i64 0 ∧ ∃ (g r m i : Nat) (X : List (List UInt8)), s2 = .pointer (some ⟨g, 0, none⟩) ∧ (w.heap.size ≤ g ∧ w.heap.size ≤ r ∧ w.heap.size ≤ m ∧ w.heap.size ≤ i) ∧ RD wx g r m i (newD n) X ∧ Ext w wx)
  case first =>
    refine qgT (R := Ext) Ext.refl (fun _ _ _ => Ext.trans) (.rd 0 (.rd 2 (.rd 4 (.alt 1 (.alt 3 (.alt 5 (.rd 6 (.alt 7 (.rd 8 (.rd 9 .nil)) .stop)) .stop) (.alt 5 (.alt 3 (.rd 6 (.alt 7 (.rd 8 (.rd 9 .nil)) .stop)) .stop) .stop)) (.alt 3 (.alt 1 (.alt 5 (.rd 6 (.alt 7 (.rd 8 (.rd 9 .nil)) .stop)) .stop) (.alt 5 (.alt 1 (.rd 6 (.alt 7 (.rd 8 (.rd 9 .nil)) .stop)) .stop) .stop)) (.alt 5 (.alt 1 (.alt 3 (.rd 6 (.alt 7 (.rd 8 (.rd 9 .nil)) .stop)) .stop) (.alt 3 (.alt 1 (.rd 6 (.alt 7 (.rd 8 (.rd 9 .nil)) .stop)) .stop) .stop)) .stop)))))) 10 ?_
    repeat ((first | refine qtR0 ?_ | refine qtS ?_); go_frame)
    have SE : Hid (Ext w w.drew) := (Ext.refl w).drew
    generalize w.drew = WC at *
    repeat' (first
      | exact seqT_stop
      | (refine seqT_do (i := 1) _ rfl ?_ ?_ (fun K1 hK1 => ?_)
         (· rfl)
         rotate_left
         go_simp
         have hA := Lib.hid (And.intro (Cb.new WC 48 C) SE.out.size)
         have e := (Ext.refl WC).alloc (Obj.cells C.toArray 48)
         obtain ⟨aA, haA⟩ : ∃ g, g = WC.heap.size := ⟨_, rfl⟩
         (try have NE : Hid (aA ≠ aB) := Lib.hid (by rw [haA]; exact Nat.ne_of_gt (Cb.lt hB.out.1)))
         rw [← haA] at hA ⊢
         refine hK1.out _ _ e ?_
         clear hK1 K1
         replace haA := Lib.hid haA
         (try replace hB := Lib.hid (And.intro (Cb.ext hB.out.1 e) hB.out.2))
         (try replace hI := Lib.hid (And.intro (Cb.ext hI.out.1 e) hI.out.2))
         replace SE := Lib.hid (SE.out.trans e)
         clear e
         generalize WC.alloc (Obj.cells C.toArray 48) = WC at *
         (try go_frame)
         skip)
      | (refine seqT_do (i := 3) _ rfl ?_ ?_ (fun K1 hK1 => ?_)
         (· rfl)
         rotate_left
         go_simp
         have hB := Lib.hid (And.intro (Cb.new WC 48 C) SE.out.size)
         have e := (Ext.refl WC).alloc (Obj.cells C.toArray 48)
         obtain ⟨aB, haB⟩ : ∃ g, g = WC.heap.size := ⟨_, rfl⟩
         (try have NE : Hid (aA ≠ aB) := Lib.hid (by rw [haB]; exact Nat.ne_of_lt (Cb.lt hA.out.1)))
         rw [← haB] at hB ⊢
         refine hK1.out _ _ e ?_
         clear hK1 K1
         replace haB := Lib.hid haB
         (try replace hA := Lib.hid (And.intro (Cb.ext hA.out.1 e) hA.out.2))
         (try replace hI := Lib.hid (And.intro (Cb.ext hI.out.1 e) hI.out.2))
         replace SE := Lib.hid (SE.out.trans e)
         clear e
         generalize WC.alloc (Obj.cells C.toArray 48) = WC at *
         (try go_frame)
         skip)
      | (refine seqT_do (i := 5) _ rfl ?_ ?_ (fun K1 hK1 => ?_)
         (· rfl)
         rotate_left
         go_simp
         have hI := Lib.hid (And.intro (Cb.new WC 4 D) SE.out.size)
         have e := (Ext.refl WC).alloc (Obj.cells D.toArray 4)
         obtain ⟨aI, haI⟩ : ∃ g, g = WC.heap.size := ⟨_, rfl⟩
         rw [← haI] at hI ⊢
         refine hK1.out _ _ e ?_
         clear hK1 K1
         replace haI := Lib.hid haI
         (try replace hA := Lib.hid (And.intro (Cb.ext hA.out.1 e) hA.out.2))
         (try replace hB := Lib.hid (And.intro (Cb.ext hB.out.1 e) hB.out.2))
         replace SE := Lib.hid (SE.out.trans e)
         clear e
         generalize WC.alloc (Obj.cells D.toArray 4) = WC at *
         (try go_frame)
         skip)
      | (refine seqT_read (i := 6) (fun _ => True) (fun _ _ => trivial) _ (v := .agg #[.slice (some ⟨aA, 0, none⟩) n n, .slice (some ⟨aB, 0, none⟩) n n, .slice (some ⟨aI, 0, none⟩) n n, .int .i64 (-1), .bool false]) rfl (by rfl) (fun w' _ => exec_build_as rfl (by simp only [List.map_toArray, List.map_cons, List.map_nil]; exact BL.out _ _ _)) ?_
         go_frame)
      | (refine seqT_do (i := 7) _ rfl ?_ ?_ (fun K1 hK1 => ?_)
         (· rfl)
         rotate_left
         go_simp
         have F := Lib.hid (And.intro (FIN.out WC aA aB aI hA.out.1 hB.out.1 hI.out.1 NE.out) (And.intro SE.out.size (SE.out.alloc (Obj.cells #[.slice (some ⟨aA, 0, none⟩) n n, .slice (some ⟨aB, 0, none⟩) n n, .slice (some ⟨aI, 0, none⟩) n n, .int .i64 (-1), .bool false] 89))))
         refine hK1.out _ _ ((Ext.refl WC).alloc _) ?_
         clear hK1 K1
         (try go_frame)
         repeat ((first | refine qtR0 ?_ | refine qtS ?_); go_frame)
         refine seqT_done ?_
         go_wp2_with fail
         go_meet
         exact ⟨rfl, _, aA, aB, aI, _, rfl, ⟨F.out.2.1, hA.out.2, hB.out.2, hI.out.2⟩, F.out.1, F.out.2.2⟩)
      )
  case rest =>
    obtain ⟨rfl, g, r, m, i, X, rfl, hs, rd, x⟩ := hcut
    replace hs := Lib.hid hs
    replace rd := Lib.hid rd
    replace x := Lib.hid x
    go_wp2_with fail
    go_ret2
    exact ⟨g, r, m, i, X, rfl, hs.out, rd.out, x.out⟩
theorem rburn_calls {w : World} {g r m i : Nat} {d : Ds} {X : List (List UInt8)} (h : RD w g r m i d X) : Calls Try.prog 53 #[.pointer (some ⟨g, 0, none⟩)] w fun e w' => e = .returned (.bool (!d.fails)) ∧ RD w' g r m i d.burn X ∧ w.grownBy w' (some g) := by
  have c3 : w.cell? ⟨g, 3, none⟩ = some (.int .i64 d.lit) := h.cb.cell rfl
  have c4 : w.cell? ⟨g, 4, none⟩ = some (.bool d.dd) := h.cb.cell rfl
  have f3 := h.cb.frozen 3
  have f4 := h.cb.frozen 4
  have fl := h.ok.fl
  have D1 : Hid (d.fails = true → RD (w.setCell ⟨g, 4, none⟩ (.bool true)) g r m i d.burn X) := fun q => by
    unfold Ds.burn; rw [if_pos q]
    exact h.cell (d' := { d with dd := true }) rfl rfl rfl ⟨h.ok.low, h.ok.most, h.ok.sl, h.ok.nl, h.ok.fl⟩
  have D2 : Hid (d.fails = false → d.hf = true → d.f ≠ 0 → RD (w.setCell ⟨g, 3, none⟩ (.int .i64 (d.f - 1))) g r m i d.burn X) := fun q q2 q3 => by
    unfold Ds.burn; rw [q, if_neg (by decide), if_pos q2]
    exact h.cell (d' := { d with f := d.f - 1 }) (by simp [Ds.rcells, Ds.lit, q2]) rfl rfl ⟨h.ok.low, h.ok.most, h.ok.sl, h.ok.nl, by have := h.ok.fl; dsimp only; omega⟩
  have D3 : Hid (d.fails = false → d.hf = false → RD w g r m i d.burn X) := fun q q2 => by
    unfold Ds.burn; rw [q, if_neg (by decide), q2, if_neg (by decide)]
    exact h
  have HF : d.fails = (d.dd || (d.hf && d.f == 0)) := rfl
  have HL : d.lit = if d.hf then d.f else -1 := rfl
  clear h
  generalize d.lit = lt at *
  generalize d.burn = d2 at *
  generalize d.fails = fa at *
  generalize d.hf = hf at *
  generalize d.f = f at *
  generalize d.dd = dd at *
  rcases dd with _ | _
  · rcases hf with _ | _
    · obtain rfl : fa = false := HF
      obtain rfl : lt = -1 := HL
      have K := Lib.hid (D3.out rfl rfl)
      clear D1 D2 D3
      go_enter Try.func53, Try.ntmps53
      go_wp2_with fail
      go_ret
      exact ⟨rfl, K.out, World.grownBy.refl w _⟩
    · obtain rfl : lt = f := HL
      by_cases hz : lt = 0
      · obtain rfl : fa = true := by rw [HF, hz]; rfl
        have K := Lib.hid (D1.out rfl)
        subst hz
        clear D1 D2 D3 HF
        go_enter Try.func53, Try.ntmps53
        go_wp2_with fail
        go_ret
        exact ⟨rfl, K.out, gr_cell21 _ _ _ _⟩
      · have u1 : (lt == 0) = false := by simpa using hz
        obtain rfl : fa = false := by rw [HF, u1]; rfl
        have K := Lib.hid (D2.out rfl rfl hz)
        have u2 : decide (0 < lt) = true := decide_eq_true (by omega)
        have hw : IntKind.i64.wrap (lt - 1) = lt - 1 := IntWalk.i64_in _ (by omega)
        replace hz := Lib.hid hz
        clear D1 D2 D3 HF
        go_enter Try.func53, Try.ntmps53
        go_wp2_with fail
        go_ret
        exact ⟨rfl, K.out, gr_cell21 _ _ _ _⟩
  · obtain rfl : fa = true := HF
    have K := Lib.hid (D1.out rfl)
    clear D1 D2 D3
    go_enter Try.func53, Try.ntmps53
    go_wp2_with fail
    go_ret
    exact ⟨rfl, K.out, gr_cell21 _ _ _ _⟩
theorem rfuse_calls {w : World} {g r m i : Nat} {d : Ds} {X : List (List UInt8)} (h : RD w g r m i d X) {n : Int} (hn : -9223372036854775808 ≤ n ∧ n ≤ 9223372036854775807) : Calls Try.prog 19 #[.pointer (some ⟨g, 0, none⟩), .int .i64 n] w fun e w' => e = .returned (.tuple #[]) ∧ RD w' g r m i (d.fuse n) X ∧ w.grownBy w' (some g) := by
  have f3 := h.cb.frozen 3
  have c3 : w.cell? ⟨g, 3, none⟩ = some (.int .i64 d.lit) := h.cb.cell rfl
  obtain ⟨lv, hlv⟩ : ∃ q : Int, q = (if n < -1 then -1 else n) := ⟨_, rfl⟩
  have K : Hid (RD (w.setCell ⟨g, 3, none⟩ (.int .i64 lv)) g r m i (d.fuse n) X) := by
    refine h.cell (d' := d.fuse n) ?_ rfl rfl ⟨h.ok.low, h.ok.most, h.ok.sl, h.ok.nl, by dsimp only [Ds.fuse]; split <;> omega⟩
    have : (d.fuse n).lit = lv := by
      unfold Ds.lit Ds.fuse
      rw [hlv]
      by_cases q : 0 ≤ n
      · simp only [q, decide_true, if_true]
        split <;> split <;> omega
      · simp only [q, decide_false, Bool.false_eq_true, if_false]
        split <;> omega
    unfold Ds.rcells
    rw [this]
    rfl
  have u2 : (if (-1 : Int) > n then (-1 : Int) else n) = lv := by rw [hlv]
  have u3 : (if n < (-1 : Int) then (-1 : Int) else n) = lv := hlv.symm
  clear h
  replace hlv := Lib.hid hlv
  go_enter Try.func19, Try.ntmps19
  go_wp2_with fail
  go_end0
  exact ⟨rfl, K.out, gr_cell21 _ _ _ _⟩
end Go.Proofs.Yteaoacinhdjkeaa
end
