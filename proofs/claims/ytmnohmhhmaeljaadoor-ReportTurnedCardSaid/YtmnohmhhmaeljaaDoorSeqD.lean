/-
  A region that draws its order, in a function with deferred calls: what a panic leaves behind hangs on the results' slots alone. No conditions.
-/
import Derived.Test.YtmnohmhhmaeljaaDoorSeq
import Derived.Recover
namespace Go.Proofs.YtmnohmhhmaeljaaDoor
section
variable {P : Program} {ops : Array Oper} {Q : Exit → Act → World → Prop} {md : Region.Mode}
theorem held_of_seqD {R : World → World → Prop} (hrf : ∀ w, R w w) (htr : ∀ a b c, R a b → R b c → R a c) {D : List (Nat × Nat × Nat)} (hs : Region.noSelect ops = true) (hQ : ∀ (i : Nat) (o : Oper), ops[i]? = some o → ∀ c a v w, Q (.panic c) (Act.put a o.dst v) w → Q (.panic c) a w) (cs : List Nat) (hD : ops.toList.map (encOf ops) = D)
    (hsub : ∀ (j : Nat) o, ops[j]? = some o → ∀ e ∈ o.after, e.on < ops.size) :
    ∀ (σ : List Nat) (listed : Array Bool) (done : Nat) (a : Act) (w : World), Listed ops.size done listed → planOk D cs σ done = true → seqE P ops Q R cs σ a w → wpAnyH P .any ops Q (R w) σ.length listed a w
  | [], listed, done, a, w, hL, hp, h => by
    refine ⟨?_, h⟩
    have hlen : D.length = ops.size := by rw [← hD]; simp
    have hd : done + 1 = 2 ^ ops.size := by
      have : done + 1 = 1 <<< D.length := by simpa [planOk] using hp
      rw [this, hlen, Nat.one_shiftLeft]
    cases hr : Region.ready .any ops listed with
    | nil => rfl
    | cons j r =>
      have hj : j ∈ Region.ready .any ops listed := by rw [hr]; simp
      obtain ⟨h0, _⟩ := mem_ready.1 hj
      have hlt := hL.lt h0
      rw [hL.2 j hlt] at h0
      have : done = 2 ^ ops.size - 1 := by omega
      rw [this, Nat.testBit_two_pow_sub_one] at h0
      simp [hlt] at h0
  | i :: rest, listed, done, a, w, hL, hp, h => by
    obtain ⟨o, ho, h⟩ := h
    have hi : i < ops.size := (Array.getElem?_eq_some_iff.1 ho).1
    rw [planOk, Bool.and_eq_true] at hp
    obtain ⟨hp1, hp2⟩ := hp
    have hDi : ∀ (j : Nat) oj, ops[j]? = some oj → D[j]? = some (encOf ops oj) := fun j oj hj => by
      rw [← hD, List.getElem?_map, Array.getElem?_toList, hj]; rfl
    rw [nthD_eq, hDi i o ho] at hp1
    simp only [Bool.and_eq_true, Bool.not_eq_true', beq_iff_eq] at hp1
    obtain ⟨⟨hnd, hdep⟩, hp1⟩ := hp1
    have hri : i ∈ Region.ready .any ops listed := mem_ready.2 ⟨(hL.2 i hi).trans hnd, o, ho, fun e he hb =>
      hL.on (sub_mask hdep ((dep_iff o e.on).2 ⟨e, he, hb, rfl⟩)) (hsub i o ho e he)⟩
    have hL' := hL.set hi
    by_cases hc : cs.contains i = true
    · rw [if_pos hc] at h hp1
      refine ⟨fun h0 => (by rw [h0] at hri; cases hri), fun j hj => ?_⟩
      obtain ⟨h0, oj, hoj, hall⟩ := mem_ready.1 hj
      have hjl := hL.lt h0
      rw [hL.2 j hjl] at h0
      by_cases hji : j = i
      · subst hji
        exact wpOp_mono (fun a' w' ⟨he, hh⟩ => ⟨he, held_weaken (fun _ e => htr _ _ _ he e) _ _ _ _ (held_of_seqD hrf htr hs hQ cs hD hsub rest _ _ a' w' hL' hp2 hh)⟩) h
      · have hw := allWait_spec hp1 j _ (hDi j oj hoj) (by omega) (by rw [Nat.zero_add]; exact h0)
        obtain ⟨k, hk1, hk2⟩ := not_sub_mask hw
        obtain ⟨e, he, hb, rfl⟩ := (dep_iff oj k).1 hk1
        rw [hL.off (hall e he hb)] at hk2
        cases hk2
    · rw [if_neg hc] at h hp1
      obtain ⟨v, hy, hh⟩ := h
      refine wpAnyH_first ho (Region.noSelect_spec hs) (fun c a w => hQ i o ho c a _ w) _ listed a w (fun j oj hoj hji hun hno => ?_) hri hy (hrf w) (held_of_seqD hrf htr hs hQ cs hD hsub rest _ _ _ w hL' hp2 hh)
      have hjl := hL.lt hun
      rw [hL.2 j hjl] at hun
      refine apart_of (allApart_spec hp1 j _ (hDi j oj hoj) (by omega) (by rw [Nat.zero_add]; exact hun) ?_)
      cases hb : (encOf ops oj).1.testBit i with
      | false => rfl
      | true =>
        obtain ⟨e, he, hb', he'⟩ := (dep_iff oj i).1 hb
        exact absurd he' (hno e he hb')
/-- Every operation's slot is from number lo on. -/
def dstFrom (lo : Nat) (ops : Array Oper) : Bool := ops.all fun o => match o.dst with | some d => decide (lo ≤ d) | none => true
theorem qgRD (lo : Nat) {R : World → World → Prop} {id : Nat} {a : Act} {w : World} (hrf : ∀ w, R w w) (htr : ∀ a b c, R a b → R b c → R a c) (σ cs : List Nat) (hQ : ∀ c a d v w, lo ≤ d → Q (.panic c) (Act.put a (some d) v) w → Q (.panic c) a w) (h : seqE P ops Q R cs σ a w.drew) (hm : P.follows .mixedOrders = true := by kernel_rfl) (hs : Region.noSelect ops = true := by kernel_rfl) (hin : edgesIn ops = true := by kernel_rfl) (hl : σ.length = ops.size := by exact rfl)
    (hp : planOk (ops.toList.map (encOf ops)) cs σ 0 = true := by kernel_rfl) (hd : dstFrom lo ops = true := by kernel_rfl) : (Code.region id ops true).wp P Q a w := by
  refine wp_region_held (S := R w.drew) hm ?_
  have := held_of_seqD hrf htr hs (fun i o ho c a v w h => by
    have h1 := Array.all_eq_true_iff_forall_mem.1 hd o (Array.mem_of_getElem? ho)
    cases hdst : o.dst with
    | none => rw [hdst] at h; exact h
    | some d =>
      rw [hdst] at h h1
      exact hQ c a d v w (by simpa using h1) h) cs rfl (fun j o ho e he => by
    have h1 := Array.all_eq_true_iff_forall_mem.1 hin o (Array.mem_of_getElem? ho)
    simpa using Array.all_eq_true_iff_forall_mem.1 h1 e he) σ (Array.replicate ops.size false) 0 a w.drew ⟨by simp, fun j hj => by simp [Array.getD, hj]⟩ hp h
  rw [hl] at this
  exact this
theorem leaves_put {fn : Func} {R : Ending → World → Prop} {tm tm' : Array Value} (h : results fn tm = results fn tm') : ∀ (ds : List Deferred) (u : FrameMode) (w : World), Leaves P fn tm R ds u w → Leaves P fn tm' R ds u w
  | [], .returning, w, hh => by
    obtain ⟨v, h1, h2⟩ := hh
    exact ⟨v, by rw [← h]; exact h1, h2⟩
  | [], .panicking c, w, hh => hh
  | [], .run, _, hh => hh.elim
  | d :: ds, u, w, hh => by
    obtain ⟨h1, fv, cap, f, args, h2, h3, h4⟩ := hh
    refine ⟨h1, fv, cap, f, args, h2, h3, h4.mono fun e u' w' q => ?_⟩
    cases e with
    | returned v => exact leaves_put h ds _ _ q
    | panicked c => exact leaves_put h ds _ _ q
    | outgrown => exact q
end
end Go.Proofs.YtmnohmhhmaeljaaDoor
