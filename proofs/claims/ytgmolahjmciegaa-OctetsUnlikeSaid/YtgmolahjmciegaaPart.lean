/-
  octets.Part, and the document's: the rows of bytes that were joined.
-/
import Derived.Test.YtgmolahjmciegaaJoin
namespace Go.Proofs.Ytgmolahjmciegaa
open Go.ChangeShapes Go.WideShapes Go.ChangeAt Go.RowKit Go.Deep

/-- The rows of bytes, if they are whole. -/
def partF : Nat → List UInt8 → Option (List (List UInt8))
  | 0, _ => none
  | f + 1, b => if b.length = 0 then some [] else if b.length < 4 then none else
      if (b.drop 4).length < ofLowL (b.take 4).reverse then none else (partF f ((b.drop 4).drop (ofLowL (b.take 4).reverse))).map ((b.drop 4).take (ofLowL (b.take 4).reverse) :: ·)
theorem partF_enough : ∀ (f g : Nat) (b : List UInt8), b.length < f → b.length < g → partF f b = partF g b
  | 0, _, _, h, _ => absurd h (by omega)
  | _, 0, _, _, h => absurd h (by omega)
  | f + 1, g + 1, b, hf, hg => by
    rw [partF, partF]
    by_cases h0 : b.length = 0
    · rw [if_pos h0, if_pos h0]
    · rw [if_neg h0, if_neg h0]
      by_cases h4 : b.length < 4
      · rw [if_pos h4, if_pos h4]
      · rw [if_neg h4, if_neg h4]
        rw [partF_enough f g _ (by simp only [List.length_drop]; omega) (by simp only [List.length_drop]; omega)]
def partL (b : List UInt8) : Option (List (List UInt8)) := partF (b.length + 1) b
theorem partL_nil : partL [] = some [] := rfl
theorem partL_short {b : List UInt8} (h0 : 0 < b.length) (h : b.length < 4) : partL b = none := by
  rw [partL, partF, if_neg (by omega), if_pos h]
theorem partL_long {b : List UInt8} (h4 : 4 ≤ b.length) (h : (b.drop 4).length < ofLowL (b.take 4).reverse) : partL b = none := by
  rw [partL, partF, if_neg (by omega), if_neg (by omega), if_pos h]
theorem partL_step {b : List UInt8} (h4 : 4 ≤ b.length) (h : ofLowL (b.take 4).reverse ≤ (b.drop 4).length) :
    partL b = (partL ((b.drop 4).drop (ofLowL (b.take 4).reverse))).map ((b.drop 4).take (ofLowL (b.take 4).reverse) :: ·) := by
  rw [partL, partF, if_neg (by omega), if_neg (by omega), if_neg (by omega)]
  rw [partL, partF_enough b.length ((List.drop (ofLowL (List.take 4 b).reverse) (List.drop 4 b)).length + 1) _ (by simp only [List.length_drop]; omega) (by omega)]

theorem Bs.cut {w : World} {A : Option Addr} {n c k : Nat} {xs : List UInt8} (h : Bs w A n c xs) (hk : k ≤ n) : Bs w (if c = k then A else A.map (·.add k)) (n - k) (c - k) (xs.drop k) := by
  have h1 := h.le
  have h2 := h.2.2.1
  refine ⟨by rw [List.length_drop, h.len], by omega, by omega, fun h0 => ?_⟩
  obtain ⟨b, off, rfl, hb, hc⟩ := h.pos (by omega)
  rw [if_neg (by omega)]
  refine ⟨b, off + k, ?_, hb, fun j hj => ?_⟩
  · by_cases hk0 : k = 0
    · subst hk0; simp [Addr.add]
    · simp [Addr.add, hk0]
  · rw [bt_drop, Nat.add_assoc]
    exact hc (k + j) (by omega)

theorem size8 : (Try.prog.info? 5).map (·.size) = some 1 := by kernel_rfl
/-- 's[k:]'. -/
theorem wpList_cut {w : World} {ops : Array Oper} {rest : List Oper} {o : Oper} {a : Act} {Q : Exit → Act → World → Prop} (hgd : o.guard = none) {x lo : Operand} {A : Option Addr} {n c k : Nat} {kd : IntKind} {z : Int}
    (ho : o.op = .slice 22 x (some lo) none none) (hx : a.eval x = .slice A n c) (hl : a.eval lo = .int kd z) (hz : z = (k : Int)) (hk : k ≤ n) (hnc : n ≤ c)
    (hK : ∀ A', (∀ w0 xs, Bs w0 A n c xs → Bs w0 A' (n - k) (c - k) (xs.drop k)) → wpList Try.prog ops Q rest (a.put o.dst (.slice A' (n - k) (c - k))) w) : wpList Try.prog ops Q (o :: rest) a w := by
  subst hz
  refine wpList_plain hgd fun K hK' => ?_
  have hr : (Instr.slice 22 (.slice A n c) (some (.int kd (k : Int))) none none).run Try.prog w = .ok (.slice (if c = k then A else A.map (·.add k)) (n - k) (c - k)) w := by
    obtain ⟨i, hi, hsz⟩ := Option.map_eq_some_iff.1 size8
    simp [Instr.slice, run_underlying Try.underlying22, Instr.sliceBounds, Instr.sliceBound, asIntOf, sizeOf, typeInfo, hi, hsz]
    intro hlt
    omega
  have hop : (execOp a.eval o).run Try.prog w = .ok (.value (.slice (if c = k then A else A.map (·.add k)) (n - k) (c - k))) w := by
    obtain ⟨dst, op, ty, pos, af, gd⟩ := o
    simp only at ho
    subst ho
    simp only [execOp, hx, hl, Option.map, Instr.sliceAt]
    go_simp
    cases A <;> rfl
  unfold Oper.wp
  rw [hop]
  exact hK' _ _ (hK _ (fun w0 xs h => h.cut hk))

theorem info22 : (Try.prog.info? 22).map (fun i => (i.zero, i.size, i.bytes)) = some (some (.slice none 0 0), 1, 24) := by kernel_rfl

/-- The slice '.slice D n c' is the call's own row of slices of bytes, and reads as l. -/
def OwnR (B : Nat) (w : World) (D : Option Addr) (n c : Nat) (l : List (List UInt8)) : Prop :=
  ∃ vs : List Value, w.ownsRow B 22 1 (.slice D n c) n vs ∧ l.length = n ∧
    ∀ j, j < n → ∃ A' n' c', vs[j]? = some (.slice A' n' c') ∧ Bs w A' n' c' (l.getD j []) ∧ (0 < n' → ∀ a, A' = some a → some a.block ≠ Value.ownBlock (.slice D n c))

section
variable {w w' : World} {B : Nat} {D : Option Addr} {n c : Nat} {l : List (List UInt8)}
theorem OwnR.nil (B : Nat) (w : World) : OwnR B w none 0 0 [] := ⟨[], World.ownsRow_nil w B _ 1, rfl, fun j hj => absurd hj (by omega)⟩
theorem OwnR.len (h : OwnR B w D n c l) : l.length = n := by obtain ⟨_, _, h, _⟩ := h; exact h
theorem owns_ext {e : TypeId} {size : Nat} {v : Value} {xs : List Value} (h : w.ownsRow B e size v n xs) (he : Ext w w') : w'.ownsRow B e size v n xs := by
  refine ⟨h.1, ?_⟩
  rcases h.2 with h | ⟨g, cap, cur, hv, hb, hg, r⟩
  · exact .inl h
  · exact .inr ⟨g, cap, cur, hv, hb, (he.block g (by
      rcases Nat.lt_or_ge g w.heap.size with h | h
      · exact h
      · rw [Array.getElem?_eq_none h] at hg; cases hg)).trans hg, r⟩
theorem OwnR.ext (h : OwnR B w D n c l) (he : Ext w w') : OwnR B w' D n c l := by
  obtain ⟨vs, h1, h2, h3⟩ := h
  refine ⟨vs, owns_ext h1 he, h2, fun j hj => ?_⟩
  obtain ⟨A', n', c', e1, e2, e3⟩ := h3 j hj
  exact ⟨A', n', c', e1, e2.ext he, e3⟩
theorem OwnR.ge (h : OwnR B w D n c l) : ∀ g, Value.ownBlock (.slice D n c) = some g → B ≤ g := fun g hg => by
  obtain ⟨vs, h1, _⟩ := h
  exact (World.ownsRow.lt h1 g hg).1
theorem Bs.grown {A : Option Addr} {m k : Nat} {xs : List UInt8} {row : Option Nat} (h : Bs w A m k xs) (hg : w.grownBy w' row) (hne : 0 < m → ∀ a, A = some a → some a.block ≠ row) : Bs w' A m k xs :=
  ⟨h.1, h.2.1, h.2.2.1, fun h0 => by
    obtain ⟨b, off, rfl, hb, hc⟩ := h.2.2.2 h0
    exact ⟨b, off, rfl, Nat.lt_of_lt_of_le hb hg.size, fun j hj => (World.cell?_of_block (hg.block b hb (hne h0 _ rfl))).trans (hc j hj)⟩⟩
theorem OwnR.rw (h : OwnR B w D n c l) : Rw w D n c l := by
  obtain ⟨vs, h1, h2, h3⟩ := h
  rcases h1.2 with ⟨hv, hn⟩ | ⟨g, cap, cur, hv, hb, hg, hnc, hcm, hcs, htk⟩
  · injection hv with q1 q2 q3
    subst q1 q2 q3
    exact ⟨h2, Nat.le_refl _, Nat.zero_le _, fun h => absurd h (by omega)⟩
  · injection hv with q1 q2 q3
    subst q1 q3
    refine ⟨h2, hnc, hcm, fun h0 => ⟨g, 0, rfl, ?_, fun j hj => ?_⟩⟩
    · rcases Nat.lt_or_ge g w.heap.size with h | h
      · exact h
      · rw [Array.getElem?_eq_none h] at hg; cases hg
    · rw [Nat.zero_add]
      obtain ⟨A', n', c', e1, e2, _⟩ := h3 j hj
      refine ⟨A', n', c', ?_, e2⟩
      have e : vs[j]? = cur[j]? := by rw [← htk, List.getElem?_take, if_pos (by omega), Array.getElem?_toList]
      rw [e1] at e
      simp [World.cell?, hg, ← e]
end

/-- 'append(rows, x)' on a row of the call's own: x lies in a new block of one cell. -/
theorem wp_append_rw {w : World} {o : Oper} {a : Act} {K : Act → World → Prop} {Q : Exit → Act → World → Prop} {B : Nat} {D A' : Option Addr} {n c n' c' b : Nat} {l : List (List UInt8)} {xs : List UInt8} {s x : Operand}
    (ho : o.op = .call { callee := .builtin .append, args := #[s, x], argTypes := #[32, 32] }) (hs : a.eval s = .slice D n c) (hx : a.eval x = .slice (some ⟨b, 0, none⟩) 1 1)
    (h : OwnR B w D n c l) (hc : w.cell? ⟨b, 0, none⟩ = some (.slice A' n' c')) (hr : Bs w A' n' c' xs) (hne : 0 < n' → ∀ a, A' = some a → some a.block ≠ Value.ownBlock (.slice D n c)) (hm : n ≤ 1000000) (hB : B ≤ w.heap.size)
    (hK : ∀ D'' c'' w', OwnR B w' D'' (n + 1) c'' (l ++ [xs]) → Below B w w' → K (a.put o.dst (.slice D'' (n + 1) c'')) w') : o.wp Try.prog a w K Q := by
  have hge := h.ge
  obtain ⟨vs, h1, h2, h3⟩ := h
  obtain ⟨i, hi, hz0, hz1, hz2⟩ := info_parts info22
  obtain ⟨v', w', hrun, ho', hg, _, hown⟩ := run_append_own_at (P := Try.prog) w B 32 o.type 22 i (.slice none 0 0) 1 24 Try.underlying32 hi hz0 hz1 hz2 rfl (by decide) (.slice D n c) n vs h1 ⟨b, 0, none⟩ 1 1 [.slice A' n' c']
    rfl (fun j u hu => by
      have : j = 0 := by
        rcases Nat.eq_zero_or_pos j with h | h
        · exact h
        · simp [show ¬ j < 1 by omega] at hu
      subst this
      simp at hu
      subst hu
      simpa [Addr.add] using hc) (fun u hu => by simp at hu; subst hu; rfl) (by unfold maxLen; omega) (by omega) hB
  have hb' : Below B w w' := (Below.refl B w).grown hg hB hge
  have fin : ∃ D'' c'', v' = .slice D'' (n + 1) c'' ∧ OwnR B w' D'' (n + 1) c'' (l ++ [xs]) := by
    rcases ho'.2 with ⟨hv, hn⟩ | ⟨g, cap, cur, hv, _⟩
    · omega
    · refine ⟨_, _, hv, vs ++ [.slice A' n' c'], by rw [← hv]; exact ho', by simp [h2], fun j hj => ?_⟩
      have hvl : vs.length = n := by simpa using h1.1
      have far : ∀ (A2 : Option Addr) (n2 c2 : Nat) (ys : List UInt8), Bs w A2 n2 c2 ys → (0 < n2 → ∀ a, A2 = some a → some a.block ≠ Value.ownBlock (.slice D n c)) → (0 < n2 → ∀ a, A2 = some a → some a.block ≠ Value.ownBlock (.slice (some ⟨g, 0, none⟩) (n + 1) cap)) := by
        intro A2 n2 c2 ys hb2 hn2 h0 a ha
        rw [← hv]
        rcases hown with e | e
        · rw [e]; exact hn2 h0 a ha
        · rw [e]
          obtain ⟨b2, off2, e2, hlt, _⟩ := hb2.pos h0
          rw [e2] at ha
          injection ha with ha
          subst ha
          intro q
          injection q with q
          simp only at q
          omega
      by_cases hjn : j < n
      · obtain ⟨A2, n2, c2, e1, e2, e3⟩ := h3 j hjn
        refine ⟨A2, n2, c2, by rw [List.getElem?_append_left (by omega)]; exact e1, ?_, far A2 n2 c2 _ e2 e3⟩
        have : (l ++ [xs]).getD j [] = l.getD j [] := by simp [List.getD, List.getElem?_append_left (show j < l.length by omega)]
        rw [this]
        exact e2.grown hg e3
      · obtain rfl : j = n := by omega
        refine ⟨A', n', c', by rw [List.getElem?_append_right (by omega), hvl]; simp, ?_, far A' n' c' xs hr hne⟩
        have : (l ++ [xs]).getD j [] = xs := by simp [List.getD, List.getElem?_append_right (show l.length ≤ j by omega), h2]
        rw [this]
        exact hr.grown hg hne
  obtain ⟨D'', c'', rfl, hfin⟩ := fin
  unfold Oper.wp execOp
  simp only [ho, resolve, invoke, builtin, Sem.run_bind, Sem.run_pure, Result.andThen_ok, List.map_toArray, List.map_cons, List.map_nil, hs, hx, hrun]
  exact hK D'' c'' w' hfin hb'

theorem wpList_append_rw {w : World} {ops : Array Oper} {rest : List Oper} {o : Oper} {a : Act} {Q : Exit → Act → World → Prop} (hgd : o.guard = none) {B : Nat} {D A' : Option Addr} {n c n' c' b : Nat} {l : List (List UInt8)} {xs : List UInt8} {s x : Operand}
    (ho : o.op = .call { callee := .builtin .append, args := #[s, x], argTypes := #[32, 32] }) (hs : a.eval s = .slice D n c) (hx : a.eval x = .slice (some ⟨b, 0, none⟩) 1 1)
    (h : OwnR B w D n c l) (hc : w.cell? ⟨b, 0, none⟩ = some (.slice A' n' c')) (hr : Bs w A' n' c' xs) (hne : 0 < n' → ∀ a, A' = some a → some a.block ≠ Value.ownBlock (.slice D n c)) (hm : n ≤ 1000000) (hB : B ≤ w.heap.size)
    (hK : ∀ D'' c'' w', OwnR B w' D'' (n + 1) c'' (l ++ [xs]) → Below B w w' → wpList Try.prog ops Q rest (a.put o.dst (.slice D'' (n + 1) c'')) w') : wpList Try.prog ops Q (o :: rest) a w :=
  wpList_plain hgd fun _ hK' => wp_append_rw ho hs hx h hc hr hne hm hB fun D'' c'' w' h2 h3 => hK' _ _ (hK D'' c'' w' h2 h3)

/-- What 'append(nil, s...)' made lies in a new block. -/
theorem far_of_new {w w1 : World} {B : Nat} {A D : Option Addr} {n c k cc : Nat} {xs : List UInt8} {l : List (List UInt8)} (h : Own w.heap.size w1 A n c xs) (hD : OwnR B w D k cc l) :
    0 < n → ∀ a, A = some a → some a.block ≠ Value.ownBlock (.slice D k cc) := by
  intro h0 a ha
  subst ha
  intro q
  obtain ⟨vs, h1, _⟩ := hD
  have hlt := (World.ownsRow.lt h1 a.block q.symm).2
  have hge := h.ge a.block rfl
  omega

/-- The call hands back rows and an error's number. -/
def RetRwE (l : List (List UInt8)) (er : Int) (w : World) (e : Ending) (w' : World) : Prop := ∃ A n c, e = .returned (.tuple #[.slice A n c, .int .i64 er]) ∧ Rw w' A n c l ∧ Ext w w'
/-- What Part hands back for what the rows are. -/
def RetPart (r : Option (List (List UInt8))) (w : World) (e : Ending) (w' : World) : Prop := RetRwE (r.getD []) (if r.isSome then 0 else 3) w e w'
theorem RetPart.bad {r : Option (List (List UInt8))} {w w' : World} (h : r = none) (he : Ext w w') : RetPart r w (.returned (.tuple #[.slice none 0 0, .int .i64 3])) w' := by
  subst h
  exact ⟨none, 0, 0, rfl, Rw.nil _, he⟩
theorem RetPart.good {r : Option (List (List UInt8))} {w w' : World} {A : Option Addr} {n c : Nat} {l : List (List UInt8)} (h : r = some l) (hl : Rw w' A n c l) (he : Ext w w') : RetPart r w (.returned (.tuple #[.slice A n c, .int .i64 0])) w' := by
  subst h
  exact ⟨A, n, c, rfl, hl, he⟩
def lenOf : Value → Nat | .slice _ n _ => n | _ => 0
end Go.Proofs.Ytgmolahjmciegaa
