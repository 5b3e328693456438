import Derived.Test.YtfhafednnnfmbaaDoorSeq
import Derived.Test.YtfhafednnnfmbaaDoorPkL
import Derived.Test.YtfhafednnnfmbaaDoorPkC
import Derived.Test.YtfhafednnnfmbaaDoorPkK
import Derived.Test.YtfhafednnnfmbaaDoorRefMac
import Derived.Test.YtfhafednnnfmbaaDoorPkT
import Derived.Deep.AppendSrc
import Derived.Deep.Upon
section
/-
  A region that draws its order, several operations of which make memory and may come in any order: every order that is possible is walked, as a tree; what only reads is taken as soon as it may come up. No conditions.
-/
namespace Go.Proofs.YtfhafednnnfmbaaDoor

/-- The walk's plan: 'rd i p': number i reads, then p; 'alt i p q': number i makes memory and comes next, then p; or one of q does; 'stop': no other one is ready. -/
inductive Pl where
  | nil
  | rd (i : Nat) (p : Pl)
  | alt (i : Nat) (p q : Pl)
  | stop

/-- Every other operation has come up, is one of m, or waits for one that has not. -/
def allWaitM (m done : Nat) : List (Nat × Nat × Nat) → Nat → Bool
  | [], _ => true
  | y :: r, j => (m.testBit j || done.testBit j || !(y.1 &&& done == y.1)) && allWaitM m done r (j + 1)
theorem allWaitM_spec {m done : Nat} : ∀ {D : List (Nat × Nat × Nat)} {k : Nat}, allWaitM m done D k = true → ∀ j y, D[j]? = some y → m.testBit (k + j) = false → done.testBit (k + j) = false → y.1 &&& done ≠ y.1
  | [], _, _, j, y, hy => by simp at hy
  | z :: r, k, h, 0, y, hy => by
    rw [allWaitM, Bool.and_eq_true] at h
    simp only [List.getElem?_cons_zero, Option.some.injEq] at hy
    subst hy
    intro h1 h2
    rw [Nat.add_zero] at h1 h2
    simpa [h1, h2] using h.1
  | z :: r, k, h, j + 1, y, hy => by
    rw [allWaitM, Bool.and_eq_true] at h
    intro h1 h2
    exact allWaitM_spec h.2 j y (by simpa using hy) (by rw [show k + 1 + j = k + (j + 1) by omega]; exact h1) (by rw [show k + 1 + j = k + (j + 1) by omega]; exact h2)

def readyD (D : List (Nat × Nat × Nat)) (i done : Nat) : Bool := match nthD D i with
  | none => false
  | some x => !done.testBit i && x.1 &&& done == x.1
/-- Is it a plan in which nobody is passed over? -/
def planT (D : List (Nat × Nat × Nat)) : Pl → Nat → Nat → Bool → Nat → Bool
  | .nil, done, _, inC, fuel => !inC && fuel == 0 && done + 1 == 1 <<< D.length
  | .rd i p, done, _, inC, fuel => !inC && readyD D i done && (match nthD D i with
      | none => false
      | some x => allApart i done x D 0) && (match fuel with
      | 0 => false
      | f + 1 => planT D p (done ||| (1 <<< i)) 0 false f)
  | .alt i p q, done, m, _, fuel => readyD D i done && (match fuel with
      | 0 => false
      | f + 1 => planT D p (done ||| (1 <<< i)) 0 false f) && planT D q done (m ||| (1 <<< i)) true fuel
  | .stop, done, m, inC, fuel => inC && !(fuel == 0) && allWaitM m done D 0

section
variable {P : Program} {ops : Array Oper} {Q : Exit → Act → World → Prop}
def seqT (P : Program) (ops : Array Oper) (Q : Exit → Act → World → Prop) (R : World → World → Prop) : Pl → Act → World → Prop
  | .nil, a, w => Q .normal a w
  | .rd i p, a, w => ∃ o, ops[i]? = some o ∧ ∃ v, YieldsIf P ops (R w) o v a ∧ seqT P ops Q R p (a.put o.dst v) w
  | .alt i p q, a, w => (∃ o, ops[i]? = some o ∧ wpOp P ops Q i (fun a' w' => R w w' ∧ seqT P ops Q R p a' w') a w) ∧ seqT P ops Q R q a w
  | .stop, _, _ => True

theorem readyD_spec {D : List (Nat × Nat × Nat)} {i done : Nat} (h : readyD D i done = true) : ∃ x, D[i]? = some x ∧ done.testBit i = false ∧ x.1 &&& done = x.1 := by
  unfold readyD at h
  rw [nthD_eq] at h
  cases hx : D[i]? with
  | none => rw [hx] at h; cases h
  | some x =>
    rw [hx] at h
    simp only [Bool.and_eq_true, Bool.not_eq_true', beq_iff_eq] at h
    exact ⟨x, rfl, h.1, h.2⟩

/-- The numbers of a chain. -/
def chain : Pl → List Nat
  | .alt i _ q => i :: chain q
  | _ => []

theorem held_of_seqT {R : World → World → Prop} (hrf : ∀ w, R w w) (htr : ∀ a b c, R a b → R b c → R a c) {D : List (Nat × Nat × Nat)} (hs : Region.noSelect ops = true) (hQ : ∀ c a d v w, Q (.panic c) (Act.put a d v) w → Q (.panic c) a w) (hD : ops.toList.map (encOf ops) = D)
    (hsub : ∀ (j : Nat) o, ops[j]? = some o → ∀ e ∈ o.after, e.on < ops.size) :
    ∀ (p : Pl) (listed : Array Bool) (done m : Nat) (inC : Bool) (fuel : Nat) (a : Act) (w : World), Listed ops.size done listed → planT D p done m inC fuel = true → seqT P ops Q R p a w →
      (inC = false → m = 0 → wpAnyH P .any ops Q (R w) fuel listed a w) ∧
      (∀ f, fuel = f + 1 → ∀ j, j ∈ Region.ready .any ops listed → m.testBit j = true ∨ wpOp P ops Q j (fun a' w' => R w w' ∧ wpAnyH P .any ops Q (R w) f (listed.setIfInBounds j true) a' w') a w)
  | .nil, listed, done, m, inC, fuel, a, w, hL, hp, h => by
    simp only [planT, Bool.and_eq_true, Bool.not_eq_true', beq_iff_eq] at hp
    obtain ⟨⟨_, rfl⟩, hd⟩ := hp
    refine ⟨fun _ _ => ⟨?_, h⟩, fun f hf => absurd hf (by omega)⟩
    have hlen : D.length = ops.size := by rw [← hD]; simp
    rw [hlen, Nat.one_shiftLeft] at hd
    cases hr : Region.ready .any ops listed with
    | nil => rfl
    | cons j r =>
      have hj : j ∈ Region.ready .any ops listed := by rw [hr]; simp
      obtain ⟨h0, _⟩ := mem_ready.1 hj
      have hlt := hL.lt h0
      rw [hL.2 j hlt] at h0
      have : done = 2 ^ ops.size - 1 := by omega
      rw [this, Nat.testBit_two_pow_sub_one] at h0
      simp [hlt] at h0
  | .rd i p, listed, done, m, inC, fuel, a, w, hL, hp, h => by
    obtain ⟨o, ho, v, hy, hh⟩ := h
    have hi : i < ops.size := (Array.getElem?_eq_some_iff.1 ho).1
    have hDi : ∀ (j : Nat) oj, ops[j]? = some oj → D[j]? = some (encOf ops oj) := fun j oj hj => by
      rw [← hD, List.getElem?_map, Array.getElem?_toList, hj]; rfl
    simp only [planT, Bool.and_eq_true, Bool.not_eq_true'] at hp
    obtain ⟨⟨⟨hc, hr⟩, hp1⟩, hp2⟩ := hp
    obtain ⟨x, hx, hnd, hdep⟩ := readyD_spec hr
    rw [hDi i o ho] at hx
    obtain rfl := Option.some.inj hx
    rw [nthD_eq, hDi i o ho] at hp1
    have hri : i ∈ Region.ready .any ops listed := mem_ready.2 ⟨(hL.2 i hi).trans hnd, o, ho, fun e he hb =>
      hL.on (sub_mask hdep ((dep_iff o e.on).2 ⟨e, he, hb, rfl⟩)) (hsub i o ho e he)⟩
    have hL' := hL.set hi
    cases fuel with
    | zero => simp at hp2
    | succ f =>
      have main : wpAnyH P .any ops Q (R w) (f + 1) listed a w := by
        refine wpAnyH_first ho (Region.noSelect_spec hs) (fun c a w => hQ c a _ _ w) _ listed a w (fun j oj hoj hji hun hno => ?_) hri hy (hrf w) ((held_of_seqT hrf htr hs hQ hD hsub p _ _ 0 false f _ w hL' hp2 hh).1 rfl rfl)
        have hjl := hL.lt hun
        rw [hL.2 j hjl] at hun
        refine apart_of (allApart_spec hp1 j _ (hDi j oj hoj) (by omega) (by rw [Nat.zero_add]; exact hun) ?_)
        cases hb : (encOf ops oj).1.testBit i with
        | false => rfl
        | true =>
          obtain ⟨e, he, hb', he'⟩ := (dep_iff oj i).1 hb
          exact absurd he' (hno e he hb')
      refine ⟨fun _ _ => main, fun f' hf j hj => ?_⟩
      obtain rfl : f = f' := by omega
      exact .inr (wpOp_mono (fun a' w' ⟨he, hh⟩ => ⟨he, hh⟩) (main.2 j hj))
  | .alt i p q, listed, done, m, inC, fuel, a, w, hL, hp, h => by
    obtain ⟨⟨o, ho, hop⟩, hq⟩ := h
    have hi : i < ops.size := (Array.getElem?_eq_some_iff.1 ho).1
    have hDi : ∀ (j : Nat) oj, ops[j]? = some oj → D[j]? = some (encOf ops oj) := fun j oj hj => by
      rw [← hD, List.getElem?_map, Array.getElem?_toList, hj]; rfl
    simp only [planT, Bool.and_eq_true] at hp
    obtain ⟨⟨hr, hp1⟩, hp2⟩ := hp
    obtain ⟨x, hx, hnd, hdep⟩ := readyD_spec hr
    rw [hDi i o ho] at hx
    obtain rfl := Option.some.inj hx
    have hri : i ∈ Region.ready .any ops listed := mem_ready.2 ⟨(hL.2 i hi).trans hnd, o, ho, fun e he hb =>
      hL.on (sub_mask hdep ((dep_iff o e.on).2 ⟨e, he, hb, rfl⟩)) (hsub i o ho e he)⟩
    have hL' := hL.set hi
    cases fuel with
    | zero => simp at hp1
    | succ f =>
      have IQ := (held_of_seqT hrf htr hs hQ hD hsub q listed done (m ||| (1 <<< i)) true (f + 1) a w hL hp2 hq).2 f rfl
      have HI : wpOp P ops Q i (fun a' w' => R w w' ∧ wpAnyH P .any ops Q (R w) f (listed.setIfInBounds i true) a' w') a w :=
        wpOp_mono (fun a' w' ⟨he, hh⟩ => ⟨he, held_weaken (fun _ e => htr _ _ _ he e) _ _ _ _ ((held_of_seqT hrf htr hs hQ hD hsub p _ _ 0 false f a' w' hL' hp1 hh).1 rfl rfl)⟩) hop
      have all : ∀ j, j ∈ Region.ready .any ops listed → m.testBit j = true ∨ wpOp P ops Q j (fun a' w' => R w w' ∧ wpAnyH P .any ops Q (R w) f (listed.setIfInBounds j true) a' w') a w := fun j hj => by
        by_cases hji : j = i
        · subst hji
          exact .inr HI
        · rcases IQ j hj with hm | hw
          · rw [Nat.testBit_or, Nat.one_shiftLeft, Nat.testBit_two_pow] at hm
            simp only [show ¬ i = j from fun e => hji e.symm, decide_false, Bool.or_false] at hm
            exact .inl hm
          · exact .inr hw
      refine ⟨fun _ hm => ?_, fun f' hf j hj => ?_⟩
      · subst hm
        refine ⟨fun h0 => (by rw [h0] at hri; cases hri), fun j hj => ?_⟩
        rcases all j hj with h9 | h9
        · simp at h9
        · exact h9
      · obtain rfl : f = f' := by omega
        exact all j hj
  | .stop, listed, done, m, inC, fuel, a, w, hL, hp, _ => by
    simp only [planT, Bool.and_eq_true, Bool.not_eq_true', beq_eq_false_iff_ne] at hp
    obtain ⟨⟨hc, hf⟩, hw⟩ := hp
    refine ⟨fun h _ => (by rw [hc] at h; cases h), fun f hf j hj => ?_⟩
    have hDi : ∀ (j : Nat) oj, ops[j]? = some oj → D[j]? = some (encOf ops oj) := fun j oj hj => by
      rw [← hD, List.getElem?_map, Array.getElem?_toList, hj]; rfl
    obtain ⟨h0, oj, hoj, hall⟩ := mem_ready.1 hj
    have hjl := hL.lt h0
    rw [hL.2 j hjl] at h0
    cases hm : m.testBit j with
    | true => exact .inl rfl
    | false =>
      have hne := allWaitM_spec hw j _ (hDi j oj hoj) (by rw [Nat.zero_add]; exact hm) (by rw [Nat.zero_add]; exact h0)
      obtain ⟨k, hk1, hk2⟩ := not_sub_mask hne
      obtain ⟨e, he, hb, rfl⟩ := (dep_iff oj k).1 hk1
      rw [hL.off (hall e he hb)] at hk2
      cases hk2

/-- **A region that draws its order.** 'D': the region's operations as numbers. -/
theorem wp_region_tree {R : World → World → Prop} (hrf : ∀ w, R w w) (htr : ∀ a b c, R a b → R b c → R a c) {id : Nat} {a : Act} {w : World} (p : Pl) (D : List (Nat × Nat × Nat)) (n : Nat) (hm : P.follows .mixedOrders = true) (hs : Region.noSelect ops = true) (hin : edgesIn ops = true) (hl : ops.size = n)
    (hD : ops.toList.map (encOf ops) = D) (hp : planT D p 0 0 false n = true)
    (hQ : ∀ c a d v w, Q (.panic c) (Act.put a d v) w → Q (.panic c) a w) (h : seqT P ops Q R p a w.drew) : (Code.region id ops true).wp P Q a w := by
  refine wp_region_held (S := R w.drew) hm ?_
  have := (held_of_seqT hrf htr hs hQ hD (fun j o ho e he => by
    have h1 := Array.all_eq_true_iff_forall_mem.1 hin o (Array.mem_of_getElem? ho)
    simpa using Array.all_eq_true_iff_forall_mem.1 h1 e he) p (Array.replicate ops.size false) 0 0 false n a w.drew ⟨by simp, fun j hj => by simp [Array.getD, hj]⟩ hp h).1 rfl rfl
  rw [← hl] at this
  exact this

theorem seqT_done {R : World → World → Prop} {a : Act} {w : World} (h : Q .normal a w) : seqT P ops Q R .nil a w := h
/-- What only reads: it yields its value in every world where the facts F hold, and these hold from now on. -/
theorem seqT_read {R : World → World → Prop} {i : Nat} {p : Pl} {a : Act} {w : World} (F : World → Prop) (hF : ∀ w', R w w' → F w') (o : Oper) {v : Value} (ho' : nthO ops.toList i = some o)
    (hw : Region.wanted o (yielded ops a.tmps) = true) (hrun : ∀ w', F w' → (execOp a.eval o).run P w' = .ok (.value v) w') (h : seqT P ops Q R p (a.put o.dst v) w) : seqT P ops Q R (.rd i p) a w :=
  ⟨o, of_nthO ho', v, .inl ⟨hw, fun w' e => hrun w' (hF w' e)⟩, h⟩
/-- What is not wanted (its guard is false). -/
theorem seqT_skip {R : World → World → Prop} {i : Nat} {p : Pl} {a : Act} {w : World} (o : Oper) (ho' : nthO ops.toList i = some o)
    (hw : Region.wanted o (yielded ops a.tmps) = false) (h : seqT P ops Q R p (a.put o.dst undef) w) : seqT P ops Q R (.rd i p) a w :=
  ⟨o, of_nthO ho', _, .inr ⟨hw, rfl⟩, h⟩
/-- What makes memory, one of several or alone. -/
theorem seqT_do {R : World → World → Prop} {i : Nat} {p q : Pl} {a : Act} {w : World} (o : Oper) (ho' : nthO ops.toList i = some o) (hw : Region.wanted o (yielded ops a.tmps) = true) (hq : seqT P ops Q R q a w)
    (h : ∀ K' : Act → World → Prop, Shut (∀ a' w', R w w' → seqT P ops Q R p a' w' → K' a' w') → Oper.wp P o a w K' Q) : seqT P ops Q R (.alt i p q) a w :=
  ⟨⟨o, of_nthO ho', by
    refine wpOp_step (of_nthO ho') fun K' hK => ?_
    rw [if_pos hw]
    exact h K' fun a' w' he hh => hK a' w' ⟨he, hh⟩⟩, hq⟩
theorem seqT_stop {R : World → World → Prop} {a : Act} {w : World} : seqT P ops Q R .stop a w := trivial
end
end Go.Proofs.YtfhafednnnfmbaaDoor
end

section
/-
  palfreyref08.Common.
-/
namespace Go.Proofs.YtfhafednnnfmbaaDoor
open Go.ChangeShapes Go.WideShapes Go.ChangeAt Go.RowKit Go.Deep
set_option maxRecDepth 100000

set_option maxHeartbeats 4000000 in
theorem rcommon_calls {w : World} {s q p : List UInt8} (hs : s.length = 32) (hq : q.length = 32) (hp : p.length = 32)  :
    Calls Tryd.prog 16 #[.agg (cellsOf (s ++ q)).toArray, .agg (cellsOf p).toArray] w fun e w' => e = .returned (.tuple #[.agg (cellsOf (comL s p)).toArray, .int .i64 (comE (comL s p))]) ∧ Ext w w' := by
  have MU : Hid (∀ W, Ext w W → Calls Tryd.prog 25 #[.agg (cellsOf s).toArray, .agg (cellsOf p).toArray] W fun e w' => e = .returned (.agg (cellsOf (comL s p)).toArray) ∧ Ext W w') := fun W e => rmult_calls hs hp
  have L_rk := comL_len s p
  have hE : Hid (comE (comL s p) = if comL s p = List.replicate 32 0 then 12 else 0) := rfl
  skip
  generalize comL s p = rk at *
  generalize hce : comE rk = ce at *
  replace hce := Lib.hid hce
  have S_rk : (cellsOf rk).toArray.size = 32 := by simp [cellsOf_len, L_rk]
  have O_rk := cellsOf_one rk
  have S_s : (cellsOf s).length = 32 := by simp [cellsOf_len, hs]
  have S_p : (cellsOf p).toArray.size = 32 := by simp [cellsOf_len, hp]
  have S_o : (cellsOf (s ++ q)).toArray.size = 64 := by simp [cellsOf_len, hs, hq]
  have hal : ∀ w, (zeroValue 23).run Tryd.prog w = .ok (.agg (cellsOf (List.replicate 32 0)).toArray) w := fun w => by rw [zeros32_cells]; exact key_alloc w
  have hbz := Lib.hid zero_built
  have L_zk : (List.replicate 32 (0 : UInt8)).length = 32 := rfl
  generalize List.replicate 32 (0 : UInt8) = zk at *
  have S_zk : (cellsOf zk).toArray.size = 32 := by simp [cellsOf_len, L_zk]
  have O_zk := cellsOf_one zk
  have B0 : Hid (∀ s', Ext (((w.alloc (Obj.cells (cellsOf (s ++ q)).toArray 25)).alloc (Obj.cells (cellsOf p).toArray 23)).alloc (Obj.cells (cellsOf zk).toArray 23)) s' → Kp s' w.heap.size (s ++ q) ∧ Ky s' (w.heap.size + 1) p ∧ Ky s' (w.heap.size + 1 + 1) zk ∧ Ext w s') := fun s' e => ⟨Kp.ext ⟨heap_alloc30 _ _ _ _, by rw [List.length_append, hs, hq]⟩ e, Ky.ext ⟨heap_alloc31 _ _ _ _, hp⟩ e, Ky.ext ⟨heap_alloc32 _ _ _ _, L_zk⟩ e, ((((Ext.refl w).alloc _).alloc _).alloc _).trans e⟩
  go_enter Tryd.func16, Tryd.ntmps16
  go_upto_region 1 with fail
  refine wp_gen (fun W => ∀ s', Ext W s' → Kp s' w.heap.size (s ++ q) ∧ Ky s' (w.heap.size + 1) p ∧ Ky s' (w.heap.size + 1 + 1) zk ∧ Ext w s') B0.out ?_
  clear B0
  rintro w0 P0
  replace P0 := Lib.hid P0
  have q0 := Lib.hid (P0.out _ (Ext.refl _)).1
  have q1 := Lib.hid (P0.out _ (Ext.refl _)).2.1
  go_wp2_with (first
    | (refine wpList_load_mid rfl (g := w.heap.size) (off := 0) (ys := cellsOf s) rfl rfl q0.out.at0 rfl rfl (by rw [S_s]; rfl) ?_; simp only [Act.put, List.setIfInBounds_toArray, List.set_cons_zero, List.set_cons_succ])
    | (refine wpList_load_row rfl 23 _ rfl (w.heap.size + 1) rfl 23 (cellsOf p).toArray (0, 0) _ q1.out.1 rfl rfl (by rw [S_p]; rfl) ?_; simp only [Act.put, List.setIfInBounds_toArray, List.set_cons_zero, List.set_cons_succ]))
  refine (MU.out _ (P0.out _ (Ext.refl _)).2.2.2).mono ?_
  rintro e u_ ⟨rfl, e1⟩
  have a1 : Hid ((u_.alloc (Obj.cells (cellsOf zk).toArray 23)).heap[u_.heap.size]? = some (.cells (cellsOf zk).toArray 23 (0, 0))) := heap_alloc_new _ _
  have E_ : Ext w0 ((u_.alloc (Obj.cells (cellsOf zk).toArray 23)).setRow u_.heap.size (cellsOf rk).toArray) := e1.trans (below_setRow ((Ext.refl u_).alloc _) (Nat.le_refl _) _)
  go_upto_region 2 with (refine wpList_store_row rfl 23 _ _ rfl u_.heap.size (cellsOf rk).toArray rfl rfl 23 _ a1.out (by rw [S_rk]; rfl) (by rw [S_rk, S_zk]) O_rk ?_; simp only [Act.put])
  obtain ⟨g6, hg_⟩ : ∃ g, g = u_.heap.size := ⟨_, rfl⟩
  refine wp_gen (fun W => Ky W g6 rk ∧ Ky W (w.heap.size + 1 + 1) zk ∧ Ext w W) ⟨⟨by rw [hg_]; exact setRow_heap _ _ _ _ _ _ a1.out, L_rk⟩, (P0.out _ E_).2.2⟩ ?_
  rw [← hg_]
  clear hg_ a1 E_ e1 q0 q1 P0 MU
  rintro w1 ⟨k1, z1, x1⟩
  have k2 := Lib.hid k1
  have z2 := Lib.hid z1
  have x2 := Lib.hid x1
  clear k1 z1 x1
  by_cases hz : rk = zk
  · have hbd : Hid (decide (rk = zk) = true) := decide_eq_true hz
    have hE2 : Hid (ce = 12) := by unfold Hid; rw [hE.out, if_pos hz]
    clear hE hce hz
    go_wp2_with (first
      | (refine wpList_load_row rfl 23 _ rfl g6 rfl 23 (cellsOf rk).toArray (0, 0) _ k2.out.1 rfl rfl (by rw [S_rk]; rfl) ?_; simp only [Act.put, List.setIfInBounds_toArray, List.set_cons_zero, List.set_cons_succ])
      | (refine wpList_build_as rfl _ _ rfl (cellsOf zk).toArray (by simp only [List.map_toArray, List.map_nil]; exact hbz.out) ?_; simp only [Act.put, List.setIfInBounds_toArray, List.set_cons_zero, List.set_cons_succ])
      | (refine wpList_eql_keyB rfl _ _ _ rfl rk zk true hbd.out rfl rfl L_rk L_zk ?_; simp only [Act.put, List.setIfInBounds_toArray, List.set_cons_zero, List.set_cons_succ])
      | (refine wpList_store_row rfl 23 _ _ rfl (w.heap.size + 1 + 1) (cellsOf rk).toArray rfl rfl 23 _ z2.out.1 (by rw [S_rk]; rfl) (by rw [S_rk, S_zk]) O_rk ?_; simp only [Act.put]))
    (try simp only [Exit.inBlock, Exit.then])
    refine bodyPost_ret (v := .tuple #[.agg (cellsOf rk).toArray, .int .i64 12]) ?_ rfl ?_
    · exact results_row_tmp rfl _ _ (w.heap.size + 1 + 1) 23 (cellsOf rk).toArray (0, 0) _ _ rfl rfl (setRow_heap _ _ _ _ _ _ z2.out.1) rfl rfl (by rw [S_rk]; rfl)
    exact ⟨by rw [hE2.out], below_setRow x2.out (by omega) _⟩
  · have hbd : Hid (decide (rk = zk) = false) := decide_eq_false hz
    have hE2 : Hid (ce = 0) := by unfold Hid; rw [hE.out, if_neg hz]
    clear hE hce hz
    go_wp2_with (first
      | (refine wpList_load_row rfl 23 _ rfl g6 rfl 23 (cellsOf rk).toArray (0, 0) _ k2.out.1 rfl rfl (by rw [S_rk]; rfl) ?_; simp only [Act.put, List.setIfInBounds_toArray, List.set_cons_zero, List.set_cons_succ])
      | (refine wpList_build_as rfl _ _ rfl (cellsOf zk).toArray (by simp only [List.map_toArray, List.map_nil]; exact hbz.out) ?_; simp only [Act.put, List.setIfInBounds_toArray, List.set_cons_zero, List.set_cons_succ])
      | (refine wpList_eql_keyB rfl _ _ _ rfl rk zk false hbd.out rfl rfl L_rk L_zk ?_; simp only [Act.put, List.setIfInBounds_toArray, List.set_cons_zero, List.set_cons_succ])
      | (refine wpList_store_row rfl 23 _ _ rfl (w.heap.size + 1 + 1) (cellsOf rk).toArray rfl rfl 23 _ z2.out.1 (by rw [S_rk]; rfl) (by rw [S_rk, S_zk]) O_rk ?_; simp only [Act.put]))
    (try simp only [Exit.inBlock, Exit.then])
    refine bodyPost_ret (v := .tuple #[.agg (cellsOf rk).toArray, .int .i64 0]) ?_ rfl ?_
    · exact results_row_tmp rfl _ _ (w.heap.size + 1 + 1) 23 (cellsOf rk).toArray (0, 0) _ _ rfl rfl (setRow_heap _ _ _ _ _ _ z2.out.1) rfl rfl (by rw [S_rk]; rfl)
    exact ⟨by rw [hE2.out], below_setRow x2.out (by omega) _⟩
end Go.Proofs.YtfhafednnnfmbaaDoor
end

section
/-
  A literal of one byte. No conditions.
-/
namespace Go.Proofs.YtfhafednnnfmbaaDoor
open Go.ChangeShapes Go.WideShapes Go.ChangeAt Go.RowKit Go.Deep

theorem Bs.lit8 (w : World) (t : TypeId) (xs : List UInt8) (cs : Array Value) (hcs : cs = (xs.map fun x => Value.int .u8 (x.toNat : Int)).toArray) (n : Nat) (hn : xs.length = n) (hm : n ≤ 1000000) :
    Bs (w.alloc (.cells cs t)) (some ⟨w.heap.size, 0, none⟩) n n xs := by
  subst hcs
  have hr := World.rowIs_alloc w (xs.map fun x => Value.int .u8 (x.toNat : Int)).toArray t (fun i => .int .u8 (bt xs i : Int)) (fun i hi => by
    have hi' : i < xs.length := by simpa using hi
    simp [bt, List.getD, hi'])
  refine ⟨hn, Nat.le_refl _, by unfold maxLen; omega, fun _ => ⟨w.heap.size, 0, rfl, by simp, fun j hj => ?_⟩⟩
  rw [Nat.zero_add]
  exact hr.cell (by simp; omega)
theorem Bs.one8 (w : World) (t : TypeId) (x : UInt8) (v : Int) (hv : v = (x.toNat : Int)) : Bs (w.alloc (.cells #[.int .u8 v] t)) (some ⟨w.heap.size, 0, none⟩) 1 1 [x] :=
  Bs.lit8 w t [x] _ (by rw [hv]; rfl) 1 rfl (by omega)
end Go.Proofs.YtfhafednnnfmbaaDoor
end

section
/-
  The document's High.
-/
namespace Go.Proofs.YtfhafednnnfmbaaDoor
open Go.ChangeShapes Go.WideShapes Go.ChangeAt Go.RowKit Go.Deep

theorem lowL_snoc (n k : Nat) : lowL n (k + 1) = lowL n k ++ [UInt8.ofNat (n / 256 ^ k)] := by
  unfold lowL
  rw [List.range_succ, List.map_append]
  rfl
theorem lowAt_u8 (n k : Nat) : (lowAt n k : Int) % 256 = ((UInt8.ofNat (n / 256 ^ k)).toNat : Int) := by
  rw [lowAt_byte, UInt8.toNat_ofNat']

theorem Own.one8 (w : World) (B : Nat) (hB : B ≤ w.heap.size) (x : UInt8) (v : Int) (hv : v = (x.toNat : Int)) : Own B (w.alloc (.cells #[.int .u8 v] 5)) (some ⟨w.heap.size, 0, none⟩) 1 1 [x] := by
  subst hv
  exact World.ownsRow_lit (e := 5) (size := 1) w #[.int .u8 (x.toNat : Int)] 1 hB (by unfold maxLen; omega) rfl

set_option maxHeartbeats 1000000 in
theorem refHigh_calls {n m : Nat} {many : Int} {w : World} (hn : n < 18446744073709551616) (h1 : 0 ≤ many) (h2 : many ≤ 9223372036854775807) (hm8 : m ≤ 8) (hM : (if (8 : Int) < many then 8 else many) = (m : Int)) :
    Calls Tryd.prog 27 #[.int .u64 (n : Int), .int .i64 many] w (RetBs (lowL n m).reverse w) := by
  have hz : lowAt n 0 = n := by simp [lowAt]
  have hM' : m = many ∨ (m = 8 ∧ 8 < many) := by
    by_cases q : (8 : Int) < many
    · rw [if_pos q] at hM; right; omega
    · rw [if_neg q] at hM; left; omega
  clear hM
  go_enter Tryd.func27, Tryd.ntmps27
  go_wp2
  go_loopw [0, 5, 6] (fun x v i wr => ∃ (k cc : Nat) (D : Option Addr), k ≤ m ∧ i = .int .i64 k ∧ x = .int .u64 (lowAt n k : Int) ∧ v = .slice D k cc ∧ Bs wr D k cc (lowL n k).reverse ∧ Ext w wr) (fun _ _ i _ => m - (intOf i).toNat)
  case atStart => exact ⟨0, 0, none, Nat.zero_le _, rfl, by rw [hz], rfl, Bs.nil _, Ext.refl _⟩
  case round =>
    obtain ⟨k, cc, D, hk, rfl, rfl, rfl, ho, hE⟩ := hrel
    clear hz
    by_cases hlt : k < m
    · have t1 : (k : Int) < 8 := by omega
      have t2 : (k : Int) < many := by omega
      have hle := Nat.lt_of_le_of_lt (lowAt_le n k) hn
      have hsz := hE.size
      have hv := Lib.hid (lowAt_u8 n k)
      clear hM'
      go_wp2_with (at_builtin; refine wpList_append_bs rfl (B := w.heap.size) rfl rfl rfl (Own.one8 wr w.heap.size hsz (UInt8.ofNat (n / 256 ^ k)) _ hv.out) (ho.ext ((Ext.refl _).alloc _)) (by omega) (by simp; omega) ?_; intro D' cc' w2 ho2 hg2 hbl)
      go_roundw
      case rel => exact ⟨k + 1, cc', D', by omega, by go_num, congrArg (Value.int .u64) (lowAt_int n k), by rw [Nat.add_comm], by rw [lowL_snoc, List.reverse_append, Nat.add_comm k 1]; exact ho2.bs, (hE.alloc _).trans' hbl⟩
      case measure => simp [intOf]; omega
    · obtain rfl : k = m := by omega
      rcases hM' with hM' | ⟨rfl, hM'⟩
      · subst hM'
        go_wp2
        go_ret
        exact ⟨_, _, _, rfl, ho, hE⟩
      · go_wp2
        go_ret
        exact ⟨_, _, _, rfl, ho, hE⟩
end Go.Proofs.YtfhafednnnfmbaaDoor
end

section
/-
  The document's Join.
-/
namespace Go.Proofs.YtfhafednnnfmbaaDoor
open Go.ChangeShapes Go.WideShapes Go.ChangeAt Go.RowKit Go.Deep

set_option maxHeartbeats 1000000 in
theorem refJoin_calls {A : Option Addr} {n c : Nat} {l : List (List UInt8)} {w : World} (h : Rw w A n c l) (hm : (joinL l).length ≤ 100000000) :
    Calls Tryd.prog 18 #[.slice A n c] w (RetBs (joinL l) w) := by
  have h1 := h.le
  have h2 := h.cap
  go_enter Tryd.func18, Tryd.ntmps18
  go_wp2
  go_loopw [3, 4] (fun v i wr => ∃ (j cc : Nat) (D : Option Addr), j ≤ n ∧ i = .int .i64 j ∧ v = .slice D (sizeAt l j) cc ∧ Own w.heap.size wr D (sizeAt l j) cc (joinL (l.take j)) ∧ Ext w wr) (fun _ i _ => n - (intOf i).toNat)
  case atStart => exact ⟨0, _, _, Nat.zero_le _, rfl, rfl, Own.nil _ _, Ext.refl w⟩
  case round =>
    obtain ⟨j, cc, D, hj, rfl, rfl, ho, hE⟩ := hrel
    by_cases hlj : j < n
    · obtain ⟨b, off, rfl, hb, hc⟩ := h.pos (by omega)
      obtain ⟨A', n', c', g1', g2⟩ := hc j (by omega)
      have t3 := g2.le
      have t4 := g2.cap
      have hszj := hE.size
      have hb1 : sizeAt l (j + 1) ≤ 100000000 := Nat.le_trans (joinL_le l (j + 1)) hm
      have hs : Hid (sizeAt l (j + 1) = sizeAt l j + 4 + n') := by
        unfold Hid sizeAt
        rw [joinL_len_snoc (by rw [h.len]; omega), g2.len]
        omega
      have hb2 : n' + 4 + sizeAt l j ≤ 100000000 := by have := hs.out; omega
      have hjn : Hid (joinL (l.take (j + 1)) = joinL (l.take j) ++ (lowL n' 4).reverse ++ l.getD j []) := by
        unfold Hid
        rw [joinL_snoc (by rw [h.len]; omega), row4, g2.len, List.append_assoc]
      have q1 : (0 : Int) ≤ (j : Int) := by omega
      have q2 : (j : Int) < (n : Int) := by omega
      have q3 : (n' : Int).toNat = n' := by omega
      have q4 : IntKind.u64.wrap (n' : Int) = (n' : Int) := IntWalk.u64_in _ (by omega)
      have KEEP : Hid (∀ w', Ext w w' → w'.cell? ⟨b, off + j, none⟩ = some (.slice A' n' c')) := fun w' e => (e.cell hb).trans g1'
      clear hc g1'
      go_wp2
      refine wp_region_seq (R := Below w.heap.size) (Below.refl _) (fun _ _ _ => Below.trans) [0, 1, 2, 3, 4, 5, 6, 9, 10, 11, 12, 7, 8, 13, 14] [7, 8, 13] [(0, 12, 16), (0, 13, 2), (0, 14, 32), (6, 15, 24576), (8, 16, 32768), (16, 17, 65536), (32, 18, 131072), (64, 19, 262144), (129, 20, 528384), (0, 21, 2), (0, 22, 32), (1536, 23, 6291456), (2048, 24, 8388608), (4352, 25, 17825792), (16383, 4, 33554432)] (by kernel_rfl) (by kernel_rfl) (by kernel_rfl) rfl (by kernel_rfl) (by kernel_rfl) (fun _ _ d _ _ h => by cases d <;> exact h) ?_
      repeat (first | (refine seq_read _ (fun w' e => KEEP.out w' (hE.drew.trans' e)) _ (v := ?_) rfl rfl (by rfl) ?_ ?_; rotate_left; (· intro w' hF; go_simp; (try with_reducible rfl)); simp only [Act.put, List.setIfInBounds_toArray, List.set_cons_zero, List.set_cons_succ]) | (refine seq_skip _ rfl rfl (by rfl) ?_; simp only [Act.put, List.setIfInBounds_toArray, List.set_cons_zero, List.set_cons_succ]))
      refine seq_do _ rfl rfl (by rfl) (fun K hK => ?_)
      go_simp
      refine (refHigh_calls (m := 4) (by omega) (by omega) (by omega) (by omega) (by omega)).mono ?_
      rintro e w1 ⟨A1, n1, c1, rfl, b1, e1⟩
      obtain rfl : n1 = 4 := by rw [← b1.len, List.length_reverse, lowL_len]
      refine hK.out _ _ (e1.mono hE.drew.size) ?_
      clear hK K
      try simp only [Act.put, List.setIfInBounds_toArray, List.set_cons_zero, List.set_cons_succ]
      have hE1 := hE.drew.trans e1
      repeat (first | (refine seq_read _ (fun w' e => KEEP.out w' (hE1.trans' e)) _ (v := ?_) rfl rfl (by rfl) ?_ ?_; rotate_left; (· intro w' hF; go_simp; (try with_reducible rfl)); simp only [Act.put, List.setIfInBounds_toArray, List.set_cons_zero, List.set_cons_succ]) | (refine seq_skip _ rfl rfl (by rfl) ?_; simp only [Act.put, List.setIfInBounds_toArray, List.set_cons_zero, List.set_cons_succ]))
      refine seq_do _ rfl rfl (by rfl) (fun K hK => ?_)
      refine wp_append_bs rfl rfl rfl (ho.drew.ext e1) b1 (by omega) hE1.size ?_
      intro D' cc' w2 ho2 hg2 hbl
      refine hK.out _ _ hbl ?_
      clear hK K
      try simp only [Act.put, List.setIfInBounds_toArray, List.set_cons_zero, List.set_cons_succ]
      repeat (first | (refine seq_read _ (fun w' e => KEEP.out w' ((hE1.trans' hbl).trans' e)) _ (v := ?_) rfl rfl (by rfl) ?_ ?_; rotate_left; (· intro w' hF; go_simp; (try with_reducible rfl)); simp only [Act.put, List.setIfInBounds_toArray, List.set_cons_zero, List.set_cons_succ]) | (refine seq_skip _ rfl rfl (by rfl) ?_; simp only [Act.put, List.setIfInBounds_toArray, List.set_cons_zero, List.set_cons_succ]))
      refine seq_do _ rfl rfl (by rfl) (fun K hK => ?_)
      refine wp_append_bs rfl rfl rfl ho2 (g2.ext (hE1.trans' hbl)) (by omega) (hE1.trans' hbl).size ?_
      intro D3 cc3 w3 ho3 hg3 hbl3
      refine hK.out _ _ hbl3 ?_
      clear hK K
      try simp only [Act.put, List.setIfInBounds_toArray, List.set_cons_zero, List.set_cons_succ]
      repeat (first | (refine seq_read _ (fun w' e => KEEP.out w' (((hE1.trans' hbl).trans' hbl3).trans' e)) _ (v := ?_) rfl rfl (by rfl) ?_ ?_; rotate_left; (· intro w' hF; go_simp; (try with_reducible rfl)); simp only [Act.put, List.setIfInBounds_toArray, List.set_cons_zero, List.set_cons_succ]) | (refine seq_skip _ rfl rfl (by rfl) ?_; simp only [Act.put, List.setIfInBounds_toArray, List.set_cons_zero, List.set_cons_succ]))
      refine seq_done ?_
      go_wp2
      go_roundw
      case rel => exact ⟨j + 1, cc3, D3, by omega, by go_num, by rw [hs.out], by rw [hs.out, hjn.out]; exact ho3, (hE1.trans' hbl).trans' hbl3⟩
      case measure => simp [intOf]; omega
    · obtain rfl : j = n := by omega
      go_wp2
      go_ret
      exact ⟨_, _, _, rfl, by have := ho.bs; rwa [List.take_of_length_le (by rw [h.len]; omega)] at this, hE⟩
end Go.Proofs.YtfhafednnnfmbaaDoor
end

section
/-
  The document's Tag.
-/
namespace Go.Proofs.YtfhafednnnfmbaaDoor
open Go.ChangeShapes Go.WideShapes Go.ChangeAt Go.RowKit Go.Deep

set_option maxRecDepth 100000 in
set_option maxHeartbeats 1000000 in
theorem refTag_calls {A : Option Addr} {m d : Nat} {ks bs : List UInt8} {w : World} (hk : ks.length = 32) (h : Bs w A m d bs) (hm : m ≤ 1000000) :
    Calls Tryd.prog 26 #[.agg (cellsOf ks).toArray, .slice A m d] w fun e w' => e = .returned (.agg (cellsOf (macL ks bs)).toArray) ∧ Ext w w' := by
  have hal : ∀ w, (zeroValue 23).run Tryd.prog w = .ok (.agg zeros32) w := fun _ => by kernel_rfl
  have HL : (cellsOf (macL ks bs)).toArray.size = 32 := by simp [cellsOf_len, macL_len]
  have H1 := cellsOf_one (macL ks bs)
  have KB : Hid (∀ o, Bs ((w.alloc (Obj.cells (cellsOf ks).toArray 23)).alloc o) (some ⟨w.heap.size, 0, none⟩) 32 32 ks) := fun o => (Ky.bs (Ky.boxed w hk)).ext ((Ext.refl _).alloc _)
  have CALL : Hid (∀ W, Ext w W → Bs W (some ⟨w.heap.size, 0, none⟩) 32 32 ks → Calls Tryd.prog 28 #[.slice (some ⟨w.heap.size, 0, none⟩) 32 32, .slice A m d] W fun e w' => e = .returned (.tuple #[.agg (cellsOf (macL ks bs)).toArray, .int .i64 0]) ∧ Ext W w') :=
    fun W e b => refMac_calls b (h.ext e) (by omega) hm
  have hz0 := zeros32_size
  generalize zeros32 = Z at *
  generalize (cellsOf (macL ks bs)).toArray = D at *
  generalize (cellsOf ks).toArray = KS at *
  go_enter Tryd.func26, Tryd.ntmps26
  go_wp2_with fail
  refine (CALL.out _ (((Ext.refl w).alloc _).alloc _) (KB.out _)).mono ?_
  rintro e w1 ⟨rfl, e1⟩
  have r0 := Lib.hid ((e1.block (w.heap.size + 1) (by rw [size_alloc, size_alloc]; omega)).trans (heap_alloc2 w (Obj.cells KS 23) (Obj.cells Z 23)))
  have r1 : Hid (((w1.alloc (Obj.cells Z 23)).setRow w1.heap.size D).heap[w.heap.size + 1]? = some (Obj.cells Z 23)) := (setRow_other _ _ _ _ (Nat.ne_of_lt (heap_lt r0.out))).trans (((Ext.refl w1).alloc _ |>.block _ (heap_lt r0.out)).trans r0.out)
  clear CALL KB
  go_wp2_with (first
    | refine wpList_store_row rfl 23 _ _ rfl w1.heap.size D rfl rfl 23 _ (by with_reducible exact heap_alloc_new _ _) (by rw [HL]; rfl) (by rw [HL]; exact hz0) H1 ?_
    | refine wpList_load_row rfl 23 _ rfl w1.heap.size rfl 23 D (0, 0) _ (by with_reducible exact setRow_heap _ _ _ _ _ _ (heap_alloc_new _ _)) rfl rfl (by rw [HL]; rfl) ?_
    | refine wpList_store_row rfl 23 _ _ rfl (w.heap.size + 1) D rfl rfl 23 Z (by with_reducible exact r1.out) (by rw [HL]; rfl) (by rw [HL]; exact hz0) H1 ?_)
  (try simp only [Exit.inBlock, Exit.then])
  refine bodyPost_ret (results_cell_row rfl _ _ (w.heap.size + 1) 23 D (0, 0) _ rfl (setRow_heap _ _ _ _ _ _ r1.out) rfl rfl (by rw [HL]; rfl)) rfl ?_
  exact ⟨rfl, below_setRow (below_setRow (((((Ext.refl w).alloc _).alloc _).trans e1).alloc _) (Nat.le_trans (Nat.le_succ _) (Nat.le_of_lt (heap_lt r0.out))) _) (Nat.le_succ _) _⟩
end Go.Proofs.YtfhafednnnfmbaaDoor
end

section
/-
  The document's Draw (layer 3).
-/
namespace Go.Proofs.YtfhafednnnfmbaaDoor
open Go.ChangeShapes Go.WideShapes Go.ChangeAt Go.RowKit Go.Deep

set_option maxRecDepth 100000 in
set_option maxHeartbeats 1000000 in
theorem refDraw_calls {A : Option Addr} {m d : Nat} {ks bs : List UInt8} {w : World} (hk : ks.length = 32) (h : Bs w A m d bs) (hm : m ≤ 1000000) :
    Calls Tryd.prog 17 #[.agg (cellsOf ks).toArray, .slice A m d] w fun e w' => e = .returned (.agg (cellsOf (macL ks bs)).toArray) ∧ Ext w w' := by
  have hal : ∀ w, (zeroValue 23).run Tryd.prog w = .ok (.agg zeros32) w := fun _ => by kernel_rfl
  have HL : (cellsOf (macL ks bs)).toArray.size = 32 := by simp [cellsOf_len, macL_len]
  have H1 := cellsOf_one (macL ks bs)
  have KS : (cellsOf ks).toArray.size = 32 := by simp [cellsOf_len, hk]
  have CALL : Hid (∀ W, Ext w W → Calls Tryd.prog 26 #[.agg (cellsOf ks).toArray, .slice A m d] W fun e w' => e = .returned (.agg (cellsOf (macL ks bs)).toArray) ∧ Ext W w') := fun W e => refTag_calls hk (h.ext e) hm
  have hz0 := zeros32_size
  have kk : Hid (Ky ((w.alloc (Obj.cells (cellsOf ks).toArray 23)).alloc (Obj.cells zeros32 23)) w.heap.size ks) := ⟨heap_alloc1 _ _ _, hk⟩
  generalize zeros32 = Z at *
  generalize (cellsOf (macL ks bs)).toArray = D at *
  clear h
  go_enter Tryd.func17, Tryd.ntmps17
  go_wp2_with (refine wpList_load_row rfl 23 _ rfl w.heap.size rfl 23 (cellsOf ks).toArray (0, 0) _ kk.out.1 rfl rfl (by rw [KS]; rfl) ?_; simp only [Act.put, List.setIfInBounds_toArray, List.set_cons_zero, List.set_cons_succ])
  refine (CALL.out _ (((Ext.refl w).alloc _).alloc _)).mono ?_
  rintro e w1 ⟨rfl, e1⟩
  have r0 := Lib.hid ((e1.block (w.heap.size + 1) (by rw [size_alloc, size_alloc]; omega)).trans (heap_alloc2 w (Obj.cells (cellsOf ks).toArray 23) (Obj.cells Z 23)))
  have E1 : Hid (Ext w w1) := (((Ext.refl w).alloc _).alloc _).trans e1
  clear CALL kk e1
  go_wp2_with (refine wpList_store_row rfl 23 _ _ rfl (w.heap.size + 1) D rfl rfl 23 Z r0.out (by rw [HL]; rfl) (by rw [HL]; exact hz0) H1 ?_)
  (try simp only [Exit.inBlock, Exit.then])
  refine bodyPost_ret (results_cell_row rfl _ _ (w.heap.size + 1) 23 D (0, 0) _ rfl (setRow_heap _ _ _ _ _ _ r0.out) rfl rfl (by rw [HL]; rfl)) rfl ?_
  exact ⟨rfl, below_setRow E1.out (Nat.le_succ _) _⟩
end Go.Proofs.YtfhafednnnfmbaaDoor
end

section
/-
  append onto an empty literal: nothing old turns.
-/
namespace Go.Proofs.YtfhafednnnfmbaaDoor
open Go.ChangeShapes Go.WideShapes Go.ChangeAt Go.RowKit Go.Deep
set_option maxRecDepth 100000

theorem append_empty {w : World} {a : Addr} {A' : Option Addr} {m c' : Nat} {ys : List UInt8} (ty : TypeId) (hr : Bs w A' m c' ys) (hm : m ≤ 100000000) :
    ∃ A'' c'' w', (Builtin.append_ #[45, 45] ty #[.slice (some a) 0 0, .slice A' m c']).run Tryd.prog w = .ok (.slice A'' m c'') w' ∧ Bs w' A'' m c'' ys ∧ Ext w w' ∧ (0 < m → ∀ q, A'' = some q → q.block = w.heap.size) := by
  obtain ⟨i, hi, hz0, hz1, hz2⟩ := info_parts info8
  rcases Nat.eq_zero_or_pos m with h0 | h0
  · subst h0
    have hy := hr.zero
    subst hy
    have hsrc : Src Tryd.prog i.size 45 (.slice A' 0 c') 0 [] w := by
      rcases A' with _ | a'
      · exact Src.ofNil w Tryd.underlying45 c'
      · exact Src.ofSlice w Tryd.underlying45 a' 0 c' [] (by simp) (fun j u hu => by simp at hu) (fun u hu => by simp at hu)
    exact ⟨some a, 0, w, run_append_nothing w 45 45 ty 5 i Tryd.underlying45 hi (some a) 0 0 (Nat.le_refl _) _ hsrc, ⟨rfl, Nat.le_refl _, Nat.zero_le _, fun h => absurd h (by omega)⟩, Ext.refl w, fun h => absurd h (by omega)⟩
  · obtain ⟨b, off, rfl, hb, hc⟩ := hr.pos h0
    have hl := hr.len
    have hrun := run_append_grow (P := Tryd.prog) w 45 ty 5 i (.int .u8 0) Tryd.underlying45 hi hz0 a 0 0 [] (by simp) (fun j v hv => by simp at hv) ⟨b, off, none⟩ m c' (ys.map u8v) (by rw [List.length_map, hl, hz1, Nat.mul_one]) (fun j u hu => by
        have hj : j < ys.length := by
          rcases Nat.lt_or_ge j ys.length with h | h
          · exact h
          · simp [h] at hu
        have hplain : (⟨b, off, none⟩ : Addr).add j = ⟨b, off + j, none⟩ := by unfold Addr.add; split <;> simp_all
        rw [hplain, hc j (by omega), ← u8v_bt hj, hu]) (by omega) (by omega) (by rw [hz2]; simp [Builtin.nextslicecap]; split <;> omega)
    rw [Nat.zero_add] at hrun
    refine ⟨_, _, _, hrun, ⟨hl, grownCap_ge w m 0 5, grownCap_le_maxLen w m 0 5 (by unfold maxLen; omega), fun _ => ⟨w.heap.size, 0, rfl, by simp [World.alloc], fun j hj => ?_⟩⟩, ((Ext.refl w).drew).alloc _, fun _ q hq => by cases hq; rfl⟩
    have hn := heap_alloc_new w.drew (.cells (([] : List Value).toArray ++ (ys.map u8v).toArray ++ Builtin.zeroCells (Value.int .u8 0).cells (grownCap w m 0 5 - m)) 5)
    refine (cell_of_row _ _ (0 + j) _ _ (0, 0) hn).trans ?_
    rw [Nat.zero_add]
    rw [Array.getElem?_append_left (by simp; omega)]
    simp only [List.append_toArray, List.nil_append, List.getElem?_toArray]
    exact u8v_bt (by omega)

theorem wp_append_empty {w : World} {o : Oper} {a : Act} {K : Act → World → Prop} {Q : Exit → Act → World → Prop} {p : Addr} {A' : Option Addr} {m c' : Nat} {ys : List UInt8} {s x : Operand}
    (ho : o.op = .call { callee := .builtin .append, args := #[s, x], argTypes := #[45, 45] }) (hs : a.eval s = .slice (some p) 0 0) (hx : a.eval x = .slice A' m c')
    (hr : Bs w A' m c' ys) (hm : m ≤ 100000000)
    (hK : ∀ A'' c'' w', Bs w' A'' m c'' ys → Ext w w' → K (a.put o.dst (.slice A'' m c'')) w') : o.wp Tryd.prog a w K Q := by
  obtain ⟨A'', c'', w', hrun, h2, h3, _⟩ := append_empty (a := p) o.type hr hm
  unfold Oper.wp execOp
  simp only [ho, resolve, invoke, builtin, Sem.run_bind, Sem.run_pure, Result.andThen_ok, List.map_toArray, List.map_cons, List.map_nil, hs, hx, hrun]
  exact hK A'' c'' w' h2 h3
theorem wpList_append_emptyN {w : World} {ops : Array Oper} {rest : List Oper} {o : Oper} {a : Act} {Q : Exit → Act → World → Prop} (hgd : o.guard = none) {p : Addr} {A' : Option Addr} {m c' : Nat} {ys : List UInt8} {s x : Operand}
    (ho : o.op = .call { callee := .builtin .append, args := #[s, x], argTypes := #[45, 45] }) (hs : a.eval s = .slice (some p) 0 0) (hx : a.eval x = .slice A' m c')
    (hr : Bs w A' m c' ys) (hm : m ≤ 100000000)
    (hK : ∀ A'' c'' w', Bs w' A'' m c'' ys → Ext w w' → (0 < m → ∀ q, A'' = some q → q.block = w.heap.size) → wpList Tryd.prog ops Q rest (a.put o.dst (.slice A'' m c'')) w') : wpList Tryd.prog ops Q (o :: rest) a w :=
  wpList_plain hgd fun K hK' => by
    obtain ⟨A'', c'', w', hrun, h2, h3, h4⟩ := append_empty (a := p) o.type hr hm
    unfold Oper.wp execOp
    simp only [ho, resolve, invoke, builtin, Sem.run_bind, Sem.run_pure, Result.andThen_ok, List.map_toArray, List.map_cons, List.map_nil, hs, hx, hrun]
    exact hK' _ _ (hK A'' c'' w' h2 h3 h4)
end Go.Proofs.YtfhafednnnfmbaaDoor
end
