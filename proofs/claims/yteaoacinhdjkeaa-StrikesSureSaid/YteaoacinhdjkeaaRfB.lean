/-
  Inside a round of a range over a function: what serves everywhere serves there too, where nothing is deferred; the loop over a function, from a contract on the call of the function and one on each round. No conditions.
-/
import Derived.Test.YteaoacinhdjkeaaSeq
import Derived.RangeFuncNested
import Derived.RangeFuncCalls
import Derived.OwnWalkIn
import Derived.OrdersIn
import Derived.OrdersHeld
namespace Go.Proofs.Yteaoacinhdjkeaa
open Go.RowKit

abbrev rnd (l : Nat) : Fence := Fence.wide.inRound l

section
variable {P : Program} {ops : Array Oper} {Q : Exit → Act → World → Prop} {l n : Nat}
theorem rows_in {row : String} {args : Array Value} {w : World} {R : Value → World → Prop} (h : Rows P row args w R) : RowsIn (rnd l) n P row args w R := fun c cs _ => by
  obtain ⟨v, w', r, s⟩ := h c cs
  exact ⟨v, w', r, stepsIn_wide.2 s⟩
theorem calls_in {f : FuncId} {args : Array Value} {w : World} {R : Ending → World → Prop} (h : Calls P f args w R) : CallsIn (rnd l) n P f args w R := CallsIn.inRound l (callsIn_wide.2 h)
theorem op_in {o : Oper} {a : Act} {w : World} {K : Act → World → Prop} (hd : ∀ c, o.op ≠ Op.defer c) (h : o.wp P a w K Q) : o.wpIn (rnd l) n P a w K Q := by
  refine ⟨fun _ _ => trivial, ?_⟩
  rw [Oper.semAt_eq _ _ _ hd]
  unfold Oper.wp at h
  generalize (execOp a.eval o).run P w = r at h ⊢
  cases r with
  | ok x w' =>
    cases x with
    | enter f args => exact ⟨fun q => (by cases q), (calls_in h).mono fun e w'' he => by cases e <;> exact he⟩
    | row r args => exact ⟨fun q => (by cases q), rows_in h⟩
    | value v => exact h
    | skip => exact h
    | defer d => exact h
    | _ => exact (h : False).elim
  | halt x w' => cases x <;> exact h
theorem op_wide {o : Oper} {a : Act} {w : World} {K : Act → World → Prop} (h : o.wp P a w K Q) : o.wpIn Fence.wide n P a w K Q := by
  refine ⟨fun _ _ => trivial, ?_⟩
  change o.uponIn Fence.wide n P a K Q ((execOp a.eval o).run P w)
  unfold Oper.wp at h
  generalize (execOp a.eval o).run P w = r at h ⊢
  cases r with
  | ok x w' =>
    cases x with
    | enter f args => exact ⟨fun q => (by cases q), (callsIn_wide.2 h).mono fun e w'' he => by cases e <;> exact he⟩
    | row r args => exact ⟨fun q => (by cases q), fun c cs _ => by
        obtain ⟨v, w', r, s⟩ := h c cs
        exact ⟨v, w', r, stepsIn_wide.2 s⟩⟩
    | value v => exact h
    | skip => exact h
    | defer d => exact h
    | _ => exact (h : False).elim
  | halt x w' => cases x <;> exact h
theorem in_of_wp {rest : List Oper} {o : Oper} {a : Act} {w : World} (hg : o.guard = none) (h : ∀ K : Act → World → Prop, (∀ a w, wpListIn Fence.wide n P ops Q rest a w → K a w) → o.wp P a w K Q) : wpListIn Fence.wide n P ops Q (o :: rest) a w := wpListIn_plain hg fun K hK => op_wide (h K hK)
theorem in_of_wpR {rest : List Oper} {o : Oper} {a : Act} {w : World} (hg : o.guard = none) (hd : ∀ c, o.op ≠ Op.defer c) (h : ∀ K : Act → World → Prop, (∀ a w, wpListIn (rnd l) n P ops Q rest a w → K a w) → o.wp P a w K Q) : wpListIn (rnd l) n P ops Q (o :: rest) a w := wpListIn_plain hg fun K hK => op_in hd (h K hK)
theorem wpIn_gen {F : Fence} {c : Code} {a : Act} {W : World} (ψ : World → Prop) (h1 : ψ W) (h2 : ∀ w1, ψ w1 → c.wpIn F n P Q a w1) : c.wpIn F n P Q a W := h2 W h1
theorem wp_exec22 {o : Oper} {a : Act} {w : World} {K : Act → World → Prop} {v : Value} (hr : (execOp a.eval o).run P w = .ok (.value v) w) (h : K (a.put o.dst v) w) : o.wp P a w K Q := by
  unfold Oper.wp
  rw [hr]
  exact h
theorem wpOp_in {i : Nat} {a : Act} {w : World} {K : Act → World → Prop} (hd : ∀ (o : Oper), ops[i]? = some o → ∀ c, o.op ≠ Op.defer c) (hout : ¬ LetsOut Q) (h : wpOp P ops Q i K a w) : wpOpIn (rnd l) n P ops Q i K a w := by
  unfold wpOp at h
  unfold wpOpIn
  cases ho : ops[i]? with
  | none => rw [ho] at h; exact h
  | some o =>
    rw [ho] at h
    dsimp only at h ⊢
    by_cases hw : Region.wanted o (yielded ops a.tmps) = true
    · rw [if_pos hw] at h ⊢
      rcases h with h | h
      · exact op_in (hd o ho) h
      · exact absurd h.2 hout
    · rw [if_neg hw] at h ⊢
      exact ⟨fun _ _ => trivial, h⟩
theorem wpOps_in (hd : ∀ (i : Nat) (o : Oper), ops[i]? = some o → ∀ c, o.op ≠ Op.defer c) (hout : ¬ LetsOut Q) : ∀ (L : List Nat) (a : Act) (w : World), wpOps P ops Q L a w → wpOpsIn (rnd l) n P ops Q L a w
  | [], _, _, h => h
  | i :: rest, a, w, h => by
    rw [wpOps_cons] at h
    rw [wpOpsIn_cons]
    exact wpOpIn_mono (fun a w h => wpOps_in hd hout rest a w h) (wpOp_in (hd i) hout h)
def noDefer (ops : Array Oper) : Bool := ops.toList.all fun o => match o.op with | .defer _ => false | _ => true
theorem noDefer_spec (h : noDefer ops = true) : ∀ (i : Nat) (o : Oper), ops[i]? = some o → ∀ c, o.op ≠ Op.defer c := fun i o ho c e => by
  have h1 := List.all_eq_true.1 h o (Array.mem_toList_iff.2 (Array.mem_of_getElem? ho))
  rw [e] at h1
  cases h1
/-- A region that draws its order, in a round. -/
theorem qgE_in {id : Nat} {a : Act} {w : World} (σ cs : List Nat) (hout : ¬ LetsOut Q) (h : seqE P ops Q Ext cs σ a w.drew) (hm : P.follows .mixedOrders = true := by kernel_rfl) (hs : Region.noSelect ops = true := by kernel_rfl) (hin : edgesIn ops = true := by kernel_rfl) (hl : σ.length = ops.size := by exact rfl)
    (hp : planOk (ops.toList.map (encOf ops)) cs σ 0 = true := by kernel_rfl) (hd : noDefer ops = true := by kernel_rfl) (hQ : ∀ c a d v w, Q (.panic c) (Act.put a d v) w → Q (.panic c) a w := by exact fun _ _ d _ _ h => by cases d <;> exact h) : (Code.region id ops true).wpIn (rnd l) n P Q a w := by
  refine wpIn_region_draw fun t => ?_
  simp only [Region.schedule, hm, Bool.true_or, if_true]
  refine wpOps_in (noDefer_spec hd) hout _ _ _ (wpAny_sound ops.size t _ a _ (wpAny_of_held _ _ _ _ (S := Ext w.drew) ?_))
  have := held_of_seq Ext.refl (fun _ _ _ => Ext.trans) hs hQ cs rfl (fun j o ho e he => by
    have h1 := Array.all_eq_true_iff_forall_mem.1 hin o (Array.mem_of_getElem? ho)
    simpa using Array.all_eq_true_iff_forall_mem.1 h1 e he) σ (Array.replicate ops.size false) 0 a w.drew ⟨by simp, fun j hj => by simp [Array.getD, hj]⟩ hp h
  rw [hl] at this
  exact this
theorem qgW_in {id : Nat} {a : Act} {w : World} (g : Nat) (σ cs : List Nat) (hout : ¬ LetsOut Q) (h : seqE P ops Q (fun a b => a.grownBy b (some g)) cs σ a w.drew) (hm : P.follows .mixedOrders = true := by kernel_rfl) (hs : Region.noSelect ops = true := by kernel_rfl) (hin : edgesIn ops = true := by kernel_rfl) (hl : σ.length = ops.size := by exact rfl)
    (hp : planOk (ops.toList.map (encOf ops)) cs σ 0 = true := by kernel_rfl) (hd : noDefer ops = true := by kernel_rfl) (hQ : ∀ c a d v w, Q (.panic c) (Act.put a d v) w → Q (.panic c) a w := by exact fun _ _ d _ _ h => by cases d <;> exact h) : (Code.region id ops true).wpIn (rnd l) n P Q a w := by
  refine wpIn_region_draw fun t => ?_
  simp only [Region.schedule, hm, Bool.true_or, if_true]
  refine wpOps_in (noDefer_spec hd) hout _ _ _ (wpAny_sound ops.size t _ a _ (wpAny_of_held _ _ _ _ (S := fun b => w.drew.grownBy b (some g)) ?_))
  have := held_of_seq (R := fun a b => a.grownBy b (some g)) (fun w => World.grownBy.refl w _) (fun _ _ _ h k => ⟨k.os.trans h.os, k.tape.trans h.tape, k.output.trans h.output, Nat.le_trans h.size k.size, fun i hi hr => (k.block i (Nat.lt_of_lt_of_le hi h.size) hr).trans (h.block i hi hr)⟩) hs hQ cs rfl (fun j o ho e he => by
    have h1 := Array.all_eq_true_iff_forall_mem.1 hin o (Array.mem_of_getElem? ho)
    simpa using Array.all_eq_true_iff_forall_mem.1 h1 e he) σ (Array.replicate ops.size false) 0 a w.drew ⟨by simp, fun j hj => by simp [Array.getD, hj]⟩ hp h
  rw [hl] at this
  exact this
theorem qgB_in {id : Nat} {a : Act} {w : World} (B : Nat) (σ cs : List Nat) (hout : ¬ LetsOut Q) (h : seqE P ops Q (Below B) cs σ a w.drew) (hm : P.follows .mixedOrders = true := by kernel_rfl) (hs : Region.noSelect ops = true := by kernel_rfl) (hin : edgesIn ops = true := by kernel_rfl) (hl : σ.length = ops.size := by exact rfl)
    (hp : planOk (ops.toList.map (encOf ops)) cs σ 0 = true := by kernel_rfl) (hd : noDefer ops = true := by kernel_rfl) (hQ : ∀ c a d v w, Q (.panic c) (Act.put a d v) w → Q (.panic c) a w := by exact fun _ _ d _ _ h => by cases d <;> exact h) : (Code.region id ops true).wpIn (rnd l) n P Q a w := by
  refine wpIn_region_draw fun t => ?_
  simp only [Region.schedule, hm, Bool.true_or, if_true]
  refine wpOps_in (noDefer_spec hd) hout _ _ _ (wpAny_sound ops.size t _ a _ (wpAny_of_held _ _ _ _ (S := Below B w.drew) ?_))
  have := held_of_seq (R := Below B) (Below.refl _) (fun _ _ _ => Below.trans) hs hQ cs rfl (fun j o ho e he => by
    have h1 := Array.all_eq_true_iff_forall_mem.1 hin o (Array.mem_of_getElem? ho)
    simpa using Array.all_eq_true_iff_forall_mem.1 h1 e he) σ (Array.replicate ops.size false) 0 a w.drew ⟨by simp, fun j hj => by simp [Array.getD, hj]⟩ hp h
  rw [hl] at this
  exact this
end

/-! ### The loop over a function -/
/-- What the loop's record says, but for its state and what is pending. -/
structure Rec where
  fn : FuncId
  tmps : Array Value
  ps : Array Tmp
  assign : Code
  body : Code
  D : Nat
def Rec.at (r : Rec) (s : LoopState) (p : Option Code) : Obj := .loop { state := s, pending := p, fn := r.fn, tmps := r.tmps, params := r.ps, assign := r.assign, body := r.body, defers := r.D }

/-- How a round ends: its record lies busy; what is said behind it. -/
def roundEnd (l : Nat) (r : Rec) (R : Ending → World → Prop) : Exit → Act → World → Prop
  | .normal, _, w => w.heap[l]? = some (r.at .busy none) ∧ R (.returned (.bool true)) (w.putObj l (r.at .ready none))
  | .ret, _, w => w.heap[l]? = some (r.at .busy none) ∧ R (.returned (.bool false)) (w.putObj l (r.at .done (some .ret)))
  | .exit id, _, w => w.heap[l]? = some (r.at .busy none) ∧ R (.returned (.bool false)) (w.putObj l (r.at .done (some (.exit id))))
  | _, _, _ => False
theorem yield_round {P : Program} {l m : Nat} {r : Rec} {W : World} {args : Array Value} {R : Ending → World → Prop} (hl : W.heap[l]? = some (r.at .ready none)) (hs : args.size = r.ps.size)
    (h : r.assign.wpIn (rnd l) m P (Exit.then (fun a1 w1 => w1 = W ∧ r.body.wpIn (rnd l) m P (roundEnd l r R) a1 (W.putObj l (r.at .busy none))) (fun _ _ _ => False)) { tmps := (r.ps.zip args).foldl (fun t (p, v) => t.setIfInBounds p v) r.tmps, defers := [] } W) :
    YieldAt Fence.wide m P l args W R := by
  refine ⟨_, _, _, _, run_yield hl hs, roundIn_of_wpIn (F := Fence.wide) trivial (wpIn_mono h ?_)⟩
  intro e a w1 he
  cases e with
  | normal =>
    obtain ⟨rfl, hb⟩ := he
    refine ⟨_, run_beginRound hl rfl, wpIn_mono hb ?_⟩
    intro e2 a2 w2 h2
    cases e2 with
    | normal => exact ⟨_, _, run_endRound none h2.1, h2.2⟩
    | ret => exact ⟨_, _, run_endRound (some .ret) h2.1, h2.2⟩
    | exit id => exact ⟨_, _, run_endRound (some (.exit id)) h2.1, h2.2⟩
    | _ => exact h2.elim
  | _ => exact he.elim

/-- What is asked behind the function's return. -/
def rangeEnd (n : Nat) (P : Program) (l : Nat) (r : Rec) (Q : Exit → Act → World → Prop) (a : Act) (e : Ending) (w : World) : Prop :=
  (∃ v, e = .returned v) ∧ ∃ s p, s ≠ LoopState.busy ∧ w.heap[l]? = some (r.at s p) ∧
    (match p with | none => Q .normal a (w.putObj l (r.at .exhausted none)) | some c => c.wpIn Fence.wide n P Q a (w.putObj l (r.at .exhausted (some c))))
theorem range_fn {P : Program} {n : Nat} {g : Operand} {ps : Array Tmp} {assign body : Code} {Q : Exit → Act → World → Prop} {a : Act} {w : World} {gf : Nat} {lb : Array Value} (hg : a.eval g = .func (.func gf) #[] lb) (eg : ∀ args w, (callFunc gf args).run P w = .ok (.enter gf args) w)
    (h : ∀ (fn : FuncId) (r : Rec), r = ⟨fn, a.tmps, ps, assign, body, w.heap.size⟩ → CallsIn Fence.wide (n - 1) P gf (#[.func (.yield (w.heap.size + 1)) #[] #[]] ++ lb) ((w.alloc (.deferred (some []))).alloc (r.at .ready none))
      (rangeEnd n P (w.heap.size + 1) r Q { a with defers := { target := .collected w.heap.size, args := #[] } :: a.defers })) :
    (Code.rangeFunc g ps assign body).wpIn Fence.wide n P Q a w := by
  refine wpIn_rangeFunc ?_
  intro fn _
  obtain ⟨r, hr⟩ : ∃ r : Rec, r = ⟨fn, a.tmps, ps, assign, body, w.heap.size⟩ := ⟨_, rfl⟩
  have hh := h fn r hr
  clear h
  obtain ⟨W1, hW1⟩ : ∃ W1, (w.alloc (.deferred (some []))).alloc (r.at .ready none) = W1 := ⟨_, rfl⟩
  rw [hW1] at hh
  have he : (Instr.enterLoop fn a.tmps ps assign body none).run P w = .ok (w.heap.size + 1, [{ target := .collected w.heap.size, args := #[] }]) W1 := by rw [← hW1, hr]; exact run_enterLoop_outer _ _ _ _ _
  have hres : (resolve a.eval (rangeCall g (w.heap.size + 1)) 0).run P W1 = .ok { target := .fn (.func gf) lb, args := #[.func (.yield (w.heap.size + 1)) #[] #[]] } W1 := by
    simp only [resolve, hg]
    simp [go_sem]
  have hinv : (invoke (.fn (.func gf) lb) #[.func (.yield (w.heap.size + 1)) #[] #[]]).run P W1 = .ok (.enter gf (#[.func (.yield (w.heap.size + 1)) #[] #[]] ++ lb)) W1 := by simp [invoke, go_sem, eg]
  clear hW1 hr
  have hl : ∀ f' : FuncId, Target.leads P W1 (.fn (.func gf) lb) #[.func (.yield (w.heap.size + 1)) #[] #[]] = some f' → Fence.wide.fn f' := fun _ _ => trivial
  have hc : CallsIn Fence.wide (n - 1) P gf (#[.func (.yield (w.heap.size + 1)) #[] #[]] ++ lb) W1 (rangePost Fence.wide n P (w.heap.size + 1) Q { a with defers := [{ target := .collected w.heap.size, args := #[] }] ++ a.defers }) := by
    refine hh.mono ?_
    rintro e w2 ⟨⟨v, rfl⟩, s, p, hb, hl, hq⟩
    refine ⟨p, w2.putObj (w.heap.size + 1) (r.at .exhausted p), run_endLoop hl hb, ?_⟩
    cases p <;> exact hq
  have hd : Fence.wide.depth.isSome = true → 1 ≤ n := fun q => (by cases q)
  exact ⟨_, _, _, _, _, _, _, _, he, hres, hl, hinv, hd, hc⟩

end Go.Proofs.Yteaoacinhdjkeaa
