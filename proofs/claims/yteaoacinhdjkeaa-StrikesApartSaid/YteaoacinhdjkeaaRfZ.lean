/-
  A region whose last operation is a store, in a round; a row of slices of bytes grows: just its block turns. No conditions.
-/
import Derived.Test.YteaoacinhdjkeaaRfB
import Derived.Test.YteaoacinhdjkeaaSeqZ
import Derived.Test.YteaoacinhdjkeaaOwnG
namespace Go.Proofs.Yteaoacinhdjkeaa
open Go.ChangeShapes Go.WideShapes Go.ChangeAt Go.RowKit Go.Deep

section
variable {P : Program} {ops : Array Oper} {Q : Exit → Act → World → Prop} {R : World → World → Prop} {id l n : Nat} {a : Act} {w : World}
theorem qgZ_in (hrf : ∀ w, R w w) (htr : ∀ a b c, R a b → R b c → R a c) (z : Nat) (σ cs : List Nat) (hout : ¬ LetsOut Q) (h : seqZ P ops Q R z cs σ a w.drew) (hm : P.follows .mixedOrders = true := by kernel_rfl) (hs : Region.noSelect ops = true := by kernel_rfl) (hin : edgesIn ops = true := by kernel_rfl) (hl : σ.length = ops.size := by exact rfl)
    (hp : planOk (ops.toList.map (encOf ops)) cs σ 0 = true := by kernel_rfl) (hz : zOk (ops.toList.map (encOf ops)) cs z = true := by kernel_rfl) (hd : noDefer ops = true := by kernel_rfl) (hQ : ∀ c a d v w, Q (.panic c) (Act.put a d v) w → Q (.panic c) a w := by exact fun _ _ d _ _ h => by cases d <;> exact h) : (Code.region id ops true).wpIn (rnd l) n P Q a w := by
  refine wpIn_region_draw fun t => ?_
  simp only [Region.schedule, hm, Bool.true_or, if_true]
  refine wpOps_in (noDefer_spec hd) hout _ _ _ (wpAny_sound ops.size t _ a _ (wpAny_of_Z (R := R) (z := z) _ _ _ _ ?_))
  have := any_of_seqZ hrf htr hs hQ cs rfl (fun j o ho e he => by
    have h1 := Array.all_eq_true_iff_forall_mem.1 hin o (Array.mem_of_getElem? ho)
    simpa using Array.all_eq_true_iff_forall_mem.1 h1 e he) hz σ (Array.replicate ops.size false) 0 a w.drew ⟨by simp, fun j hj => by simp [Array.getD, hj]⟩ (fun k ok _ hl => by
      exfalso
      rcases Nat.lt_or_ge k ops.size with h' | h'
      · simp [Array.getD, h'] at hl
      · simp [Array.getD, Nat.not_lt.2 h'] at hl) hp h
  rw [hl] at this
  exact this
end

/-- 'append(rows, x)' on a row of the call's own: just its block turns. -/
theorem wp_append_rg2 {w : World} {o : Oper} {a : Act} {K : Act → World → Prop} {Q : Exit → Act → World → Prop} {B : Nat} {D A' : Option Addr} {n c n' c' b : Nat} {l : List (List UInt8)} {xs : List UInt8} {s x : Operand}
    (ho : o.op = .call { callee := .builtin .append, args := #[s, x], argTypes := #[50, 50] }) (hs : a.eval s = .slice D n c) (hx : a.eval x = .slice (some ⟨b, 0, none⟩) 1 1)
    (h : OwnG B w D n c l) (hc : w.cell? ⟨b, 0, none⟩ = some (.slice A' n' c')) (hr : Bs w A' n' c' xs) (hne : 0 < n' → ∀ a, A' = some a → some a.block ≠ Value.ownBlock (.slice D n c) ∧ B ≤ a.block) (hm : n ≤ 1000000) (hB : B ≤ w.heap.size)
    (hK : ∀ D'' c'' w', OwnG B w' D'' (n + 1) c'' (l ++ [xs]) → w.grownBy w' (Value.ownBlock (.slice D n c)) → (Value.ownBlock (.slice D'' (n + 1) c'') = Value.ownBlock (.slice D n c) ∨ Value.ownBlock (.slice D'' (n + 1) c'') = some w.heap.size) → K (a.put o.dst (.slice D'' (n + 1) c'')) w') : o.wp Try.prog a w K Q := by
  have hge := h.ge
  obtain ⟨vs, h1, h2, h3⟩ := h
  obtain ⟨i, hi, hz0, hz1, hz2⟩ := info_parts info22G
  obtain ⟨v', w', hrun, ho', hg, _, hown⟩ := run_append_own_at (P := Try.prog) w B 50 o.type 37 i (.slice none 0 0) 1 24 Try.underlying50 hi hz0 hz1 hz2 rfl (by decide) (.slice D n c) n vs h1 ⟨b, 0, none⟩ 1 1 [.slice A' n' c']
    rfl (fun j u hu => by
      have : j = 0 := by
        rcases Nat.eq_zero_or_pos j with h | h
        · exact h
        · simp [show ¬ j < 1 by omega] at hu
      subst this
      simp at hu
      subst hu
      simpa [Addr.add] using hc) (fun u hu => by simp at hu; subst hu; rfl) (by unfold maxLen; omega) (by omega) hB
  have fin : ∃ D'' c'', v' = .slice D'' (n + 1) c'' ∧ OwnG B w' D'' (n + 1) c'' (l ++ [xs]) := by
    rcases ho'.2 with ⟨hv, hn⟩ | ⟨g, cap, cur, hv, _⟩
    · omega
    · refine ⟨_, _, hv, vs ++ [.slice A' n' c'], by rw [← hv]; exact ho', by simp [h2], fun j hj => ?_⟩
      have hvl : vs.length = n := by simpa using h1.1
      have far : ∀ (A2 : Option Addr) (n2 c2 : Nat) (ys : List UInt8), Bs w A2 n2 c2 ys → (0 < n2 → ∀ a, A2 = some a → some a.block ≠ Value.ownBlock (.slice D n c)) → (0 < n2 → ∀ a, A2 = some a → some a.block ≠ Value.ownBlock (.slice (some ⟨g, 0, none⟩) (n + 1) cap)) := by
        intro A2 n2 c2 ys hb2 hn2 h0 a ha
        rw [← hv]
        rcases hown with e | e
        · rw [e]; exact hn2 h0 a ha
        · rw [e]
          obtain ⟨b2, off2, e2, hlt, _⟩ := hb2.pos h0
          rw [e2] at ha
          injection ha with ha
          subst ha
          intro q
          injection q with q
          simp only at q
          omega
      by_cases hjn : j < n
      · obtain ⟨A2, n2, c2, e1, e2, e3⟩ := h3 j hjn
        refine ⟨A2, n2, c2, by rw [List.getElem?_append_left (by omega)]; exact e1, ?_, fun h0 a ha => ⟨far A2 n2 c2 _ e2 (fun h a q => (e3 h a q).1) h0 a ha, (e3 h0 a ha).2⟩⟩
        have : (l ++ [xs]).getD j [] = l.getD j [] := by simp [List.getD, List.getElem?_append_left (show j < l.length by omega)]
        rw [this]
        exact e2.grownG hg (fun h a q => (e3 h a q).1)
      · obtain rfl : j = n := by omega
        refine ⟨A', n', c', by rw [List.getElem?_append_right (by omega), hvl]; simp, ?_, fun h0 a ha => ⟨far A' n' c' xs hr (fun h a q => (hne h a q).1) h0 a ha, (hne h0 a ha).2⟩⟩
        have : (l ++ [xs]).getD j [] = xs := by simp [List.getD, List.getElem?_append_right (show l.length ≤ j by omega), h2]
        rw [this]
        exact hr.grownG hg (fun h a q => (hne h a q).1)
  obtain ⟨D'', c'', rfl, hfin⟩ := fin
  unfold Oper.wp execOp
  simp only [ho, resolve, invoke, builtin, Sem.run_bind, Sem.run_pure, Result.andThen_ok, List.map_toArray, List.map_cons, List.map_nil, hs, hx, hrun]
  exact hK D'' c'' w' hfin hg hown

/-- Its block holds slices of bytes: no block of another type is it. -/
theorem OwnG.ne_of {B : Nat} {w : World} {D : Option Addr} {n c : Nat} {l : List (List UInt8)} (h : OwnG B w D n c l) {g : Nat} {t : TypeId} {cs : Array Value} {fr : Nat × Nat} (hg : w.heap[g]? = some (.cells cs t fr)) (ht : t ≠ 37) : Value.ownBlock (.slice D n c) ≠ some g := by
  obtain ⟨vs, h1, _⟩ := h
  rcases h1.2 with ⟨hv, hn⟩ | ⟨g', cap, cur, hv, _, hg', _⟩
  · rw [hv]; intro q; cases q
  · rw [hv]
    intro q
    have e : g' = g := by
      have := Option.some.inj q
      simpa using this
    rw [e, hg] at hg'
    injection hg' with q1
    injection q1 with _ q2
    exact ht q2
/-- A block that holds no bytes and is none of its own turns. -/
theorem OwnG.turn2 {B : Nat} {w w' : World} {D : Option Addr} {n c g : Nat} {l : List (List UInt8)} (h : OwnG B w D n c l) (h1 : Value.ownBlock (.slice D n c) ≠ some g) (h2 : ∀ (i : Nat) (x : Int), w.cell? ⟨g, i, none⟩ ≠ some (.int .u8 x)) (k : w.grownBy w' (some g)) : OwnG B w' D n c l := by
  obtain ⟨vs, o1, o2, o3⟩ := h
  refine ⟨vs, World.ownsRow.kept o1 k (.inr h1), o2, fun j hj => ?_⟩
  obtain ⟨A', n', c', e1, e2, e3⟩ := o3 j hj
  refine ⟨A', n', c', e1, e2.grownG k (fun h0 a ha q => ?_), e3⟩
  obtain ⟨b, off, e4, hb, hc⟩ := e2.pos h0
  rw [e4] at ha
  injection ha with ha
  subst ha
  obtain rfl : b = g := Option.some.inj q
  exact h2 _ _ (hc 0 h0)
theorem OwnG.ne_obj {B : Nat} {w : World} {D : Option Addr} {n c : Nat} {l : List (List UInt8)} (h : OwnG B w D n c l) {g : Nat} {o : Obj} (hg : w.heap[g]? = some o) (ho : ∀ cs t f, o ≠ .cells cs t f) : Value.ownBlock (.slice D n c) ≠ some g := by
  obtain ⟨vs, h1, _⟩ := h
  rcases h1.2 with ⟨hv, hn⟩ | ⟨g', cap, cur, hv, _, hg', _⟩
  · rw [hv]; intro q; cases q
  · rw [hv]
    intro q
    have e : g' = g := by
      have := Option.some.inj q
      simpa using this
    rw [e, hg] at hg'
    exact ho _ _ _ (Option.some.inj hg')
theorem no_cell {w : World} {g : Nat} {o : Obj} (hg : w.heap[g]? = some o) (ho : ∀ cs t f, o ≠ .cells cs t f) (i : Nat) (v : Value) : w.cell? ⟨g, i, none⟩ ≠ some v := by
  unfold World.cell?
  rw [hg]
  cases o with
  | cells cs t f => exact absurd rfl (ho cs t f)
  | _ => intro q; simp at q
theorem rec_no (r : Rec) (s : LoopState) (p : Option Code) : ∀ cs t f, r.at s p ≠ .cells cs t f := fun _ _ _ q => by cases q
theorem grown_obj (w : World) (l : Nat) (o : Obj) : w.grownBy (w.putObj l o) (some l) := grownBy_putObj' w l o
/-- A block that is none of its own turns. -/
theorem OwnG.turn {B : Nat} {w w' : World} {D : Option Addr} {n c g : Nat} {l : List (List UInt8)} {t : TypeId} {cs : Array Value} (h : OwnG B w D n c l) (hg : w.heap[g]? = some (.cells cs t (0, 0))) (h1 : t ≠ 37) (h2 : ∀ v ∈ cs, ∀ i : Int, v ≠ .int .u8 i) (k : w.grownBy w' (some g)) : OwnG B w' D n c l := by
  have hne := h.ne_of hg h1
  obtain ⟨vs, o1, o2, o3⟩ := h
  refine ⟨vs, World.ownsRow.kept o1 k (.inr hne), o2, fun j hj => ?_⟩
  obtain ⟨A', n', c', e1, e2, e3⟩ := o3 j hj
  refine ⟨A', n', c', e1, e2.grownG k (fun h0 a ha q => ?_), e3⟩
  obtain ⟨b, off, e4, hb, hc⟩ := e2.pos h0
  rw [e4] at ha
  injection ha with ha
  subst ha
  obtain rfl : b = g := Option.some.inj q
  have := hc 0 h0
  simp only [World.cell?, hg, Option.bind_some] at this
  have hm := Array.mem_of_getElem? (a := .int .u8 (bt (l.getD j []) 0 : Int)) (xs := cs) (i := off + 0) (by simpa using this)
  exact h2 _ hm _ rfl
end Go.Proofs.Yteaoacinhdjkeaa
