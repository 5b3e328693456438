/-
  A row of bytes of the call's own that is appended to ('Own'); what append does with it. No conditions.
-/
import Derived.Test.YtbnjmmefnjoofaaDoorBase
import Derived.Maps.AppendAt
import Derived.Deep.RegionHeld3
import Derived.OwnWalk
import Derived.Deep.DeepMust
namespace Go.Proofs.YtbnjmmefnjoofaaDoor
open Go.ChangeShapes Go.WideShapes Go.ChangeAt Go.RowKit Go.Deep
set_option maxRecDepth 100000

def u8v (x : UInt8) : Value := .int .u8 (x.toNat : Int)
theorem u8v_bt {xs : List UInt8} {j : Nat} (h : j < xs.length) : (xs.map u8v)[j]? = some (.int .u8 (bt xs j : Int)) := by simp [u8v, bt, List.getD, h]

/-- The slice '.slice A n c' is the call's own row (in a block from B on), and holds xs. -/
def Own (B : Nat) (w : World) (A : Option Addr) (n c : Nat) (xs : List UInt8) : Prop := w.ownsRow B 5 1 (.slice A n c) n (xs.map u8v)

section
variable {w w' : World} {B : Nat} {A : Option Addr} {n c : Nat} {xs : List UInt8}
theorem Own.nil (B : Nat) (w : World) : Own B w none 0 0 [] := World.ownsRow_nil w B _ 1
theorem Own.made (w : World) (B cap : Nat) (hB : B ≤ w.heap.size) (hm : cap ≤ 281474976710656) : Own B (w.alloc (.cells (madeCells #[.int .u8 0] cap) 5)) (some ⟨w.heap.size, 0, none⟩) 0 cap [] :=
  World.ownsRow_made w _ cap hB (by unfold maxLen; omega) (by rw [size_madeCells, Nat.mul_one])
theorem Own.alloc (h : Own B w A n c xs) (o : Obj) : Own B (w.alloc o) A n c xs := World.ownsRow.alloc h o
theorem Own.drew (h : Own B w A n c xs) : Own B w.drew A n c xs := h
theorem Own.len (h : Own B w A n c xs) : xs.length = n := by simpa using h.1
theorem Own.bs (h : Own B w A n c xs) : Bs w A n c xs := by
  have hl := h.len
  rcases h.2 with ⟨hv, hn⟩ | ⟨g, cap, cur, hv, hb, hg, hnc, hcm, hcs, htk⟩
  · injection hv with h1 h2 h3
    subst h1 h2 h3
    exact ⟨hl, Nat.le_refl _, Nat.zero_le _, fun h => absurd h (by omega)⟩
  · injection hv with h1 h2 h3
    subst h1 h3
    refine ⟨hl, hnc, hcm, fun h0 => ⟨g, 0, rfl, ?_, fun j hj => ?_⟩⟩
    · rcases Nat.lt_or_ge g w.heap.size with h | h
      · exact h
      · rw [Array.getElem?_eq_none h] at hg; cases hg
    · rw [Nat.zero_add]
      have e : (xs.map u8v)[j]? = cur[j]? := by
        rw [← htk, List.getElem?_take, if_pos (by omega), Array.getElem?_toList]
      rw [u8v_bt (by omega)] at e
      simp [World.cell?, hg, ← e]
theorem Own.ext (h : Own B w A n c xs) (he : Ext w w') : Own B w' A n c xs := by
  refine ⟨h.1, ?_⟩
  rcases h.2 with h | ⟨g, cap, cur, hv, hb, hg, r⟩
  · exact .inl h
  · exact .inr ⟨g, cap, cur, hv, hb, (he.block g (by
      rcases Nat.lt_or_ge g w.heap.size with h | h
      · exact h
      · rw [Array.getElem?_eq_none h] at hg; cases hg)).trans hg, r⟩
theorem Own.ge (h : Own B w A n c xs) : ∀ g, Value.ownBlock (.slice A n c) = some g → B ≤ g := fun g hg => (World.ownsRow.lt h g hg).1
theorem Own.kept {row : Option Nat} (h : Own B w A n c xs) (hg : w.grownBy w' row) (hne : Value.ownBlock (.slice A n c) = none ∨ Value.ownBlock (.slice A n c) ≠ row) : Own B w' A n c xs := World.ownsRow.kept h hg hne
end

theorem Own.empty (w : World) (B : Nat) (hB : B ≤ w.heap.size) : Own B (w.alloc (.cells #[] 5)) (some ⟨w.heap.size, 0, none⟩) 0 0 [] :=
  World.ownsRow_lit (e := 5) (size := 1) w #[] 0 hB (Nat.zero_le _) rfl

theorem make0 (n : Nat) (hn : n ≤ 281474976710656) (w : World) :
    (Instr.makeSlice 35 (.int .i64 0) (.int .i64 (n : Int))).run Tryd.prog w = .ok (.slice (some ⟨w.heap.size, 0, none⟩) 0 n) (w.alloc (.cells (madeCells #[.int .u8 0] n) 5)) := by
  obtain ⟨i, hi, hz0, hz1, hz2⟩ := info_parts info8
  have h := run_make (P := Tryd.prog) w 35 5 i (.int .u8 0) Tryd.underlying35 hi hz0 .i64 .i64 0 (n : Int) (by omega) (by omega) (by rw [hz2]; omega) (by omega)
  simpa [hz1, Value.cells] using h

/-- 'append(v, s...)' on a row of the call's own. -/
theorem append_bs {w : World} {B : Nat} {A A' : Option Addr} {n c m c' : Nat} {xs ys : List UInt8} (ty : TypeId) (h : Own B w A n c xs) (hr : Bs w A' m c' ys) (hm : n + m ≤ 140737488355328) (hB : B ≤ w.heap.size) :
    ∃ A'' c'' w', (Builtin.append_ #[35, 35] ty #[.slice A n c, .slice A' m c']).run Tryd.prog w = .ok (.slice A'' (n + m) c'') w' ∧ Own B w' A'' (n + m) c'' (xs ++ ys) ∧ w.grownBy w' (Value.ownBlock (.slice A n c)) ∧
      (Value.ownBlock (.slice A'' (n + m) c'') = Value.ownBlock (.slice A n c) ∨ Value.ownBlock (.slice A'' (n + m) c'') = some w.heap.size) := by
  obtain ⟨i, hi, hz0, hz1, hz2⟩ := info_parts info8
  have form : ∀ (v' : Value) (w' : World), w'.ownsRow B 5 1 v' (n + m) (xs.map u8v ++ ys.map u8v) → ∃ A'' c'', v' = .slice A'' (n + m) c'' ∧ Own B w' A'' (n + m) c'' (xs ++ ys) := by
    intro v' w' ho
    rcases ho.2 with ⟨hv, hn⟩ | ⟨g, cap, cur, hv, _⟩
    · refine ⟨none, 0, by rw [hv, hn], ?_⟩
      rw [hv] at ho
      unfold Own
      rw [List.map_append]
      rw [show (Value.slice none (n + m) 0) = .slice none 0 0 by rw [hn]]
      exact ho
    · refine ⟨_, _, hv, ?_⟩
      rw [hv] at ho
      unfold Own
      rw [List.map_append]
      exact ho
  rcases A' with _ | a
  · have hm0 : m = 0 := by
      rcases Nat.eq_zero_or_pos m with h0 | h0
      · exact h0
      · obtain ⟨b, off, e, _⟩ := hr.pos h0
        cases e
    subst hm0
    have hy := hr.zero
    subst hy
    refine ⟨A, c, w, ?_, by simpa using h, ⟨rfl, rfl, rfl, Nat.le_refl _, fun _ _ _ => rfl⟩, .inl rfl⟩
    rcases h.2 with ⟨hv, hn⟩ | ⟨g, cap, cur, hv, _, _, hnc, _⟩
    · rw [hv]
      subst hn
      injection hv with _ _ h3
      subst h3
      simp [Builtin.append_, run_underlying Tryd.underlying35, sizeOf, typeInfo, hi, Builtin.lenOf, Builtin.firstCells]
      exact Eq.symm ‹A = none›
    · rw [hv]
      injection hv with _ _ h3
      subst h3
      simp [Builtin.append_, run_underlying Tryd.underlying35, sizeOf, typeInfo, hi, Builtin.lenOf, Builtin.firstCells, hnc, storeCells]
      exact Eq.symm ‹A = some _›
  · obtain ⟨v', w', hrun, ho, hg, _, hown⟩ := run_append_own_at (P := Tryd.prog) w B 35 ty 5 i (.int .u8 0) 1 1 Tryd.underlying35 hi hz0 hz1 hz2 rfl (by decide) (.slice A n c) n (xs.map u8v) h a m c' (ys.map u8v)
      (by rw [List.length_map, hr.len, Nat.mul_one]) (fun j u hu => by
        have hj : j < ys.length := by
          rcases Nat.lt_or_ge j ys.length with h | h
          · exact h
          · simp [h] at hu
        obtain ⟨b, off, e, hb, hc⟩ := hr.pos (by have := hr.len; omega)
        injection e with e
        subst e
        have hplain : (⟨b, off, none⟩ : Addr).add j = ⟨b, off + j, none⟩ := by unfold Addr.add; split <;> simp_all
        rw [hplain, hc j (by rw [← hr.len]; exact hj), ← u8v_bt hj, hu])
      (fun u hu => by
        obtain ⟨x, _, rfl⟩ := List.mem_map.1 hu
        rfl) (by unfold maxLen; omega) (by omega) hB
    obtain ⟨A'', c'', rfl, ho'⟩ := form v' w' ho
    exact ⟨A'', c'', w', hrun, ho', hg, hown⟩

/-- The same as a law for a region's step. -/
theorem wp_append_bs {w : World} {o : Oper} {a : Act} {K : Act → World → Prop} {Q : Exit → Act → World → Prop} {B : Nat} {A A' : Option Addr} {n c m c' : Nat} {xs ys : List UInt8} {s x : Operand}
    (ho : o.op = .call { callee := .builtin .append, args := #[s, x], argTypes := #[35, 35] }) (hs : a.eval s = .slice A n c) (hx : a.eval x = .slice A' m c')
    (h : Own B w A n c xs) (hr : Bs w A' m c' ys) (hm : n + m ≤ 140737488355328) (hB : B ≤ w.heap.size)
    (hK : ∀ A'' c'' w', Own B w' A'' (n + m) c'' (xs ++ ys) → w.grownBy w' (Value.ownBlock (.slice A n c)) → Below B w w' → K (a.put o.dst (.slice A'' (n + m) c'')) w') : o.wp Tryd.prog a w K Q := by
  obtain ⟨A'', c'', w', hrun, h2, h3, h4⟩ := append_bs o.type h hr hm hB
  unfold Oper.wp execOp
  simp only [ho, resolve, invoke, builtin, Sem.run_bind, Sem.run_pure, Result.andThen_ok, List.map_toArray, List.map_cons, List.map_nil, hs, hx, hrun]
  exact hK A'' c'' w' h2 h3 ((Below.refl B w).grown h3 hB h.ge)

/-- .. and for a plain list of operations. -/
theorem wpList_append_bs {w : World} {ops : Array Oper} {rest : List Oper} {o : Oper} {a : Act} {Q : Exit → Act → World → Prop} (hgd : o.guard = none) {B : Nat} {A A' : Option Addr} {n c m c' : Nat} {xs ys : List UInt8} {s x : Operand}
    (ho : o.op = .call { callee := .builtin .append, args := #[s, x], argTypes := #[35, 35] }) (hs : a.eval s = .slice A n c) (hx : a.eval x = .slice A' m c')
    (h : Own B w A n c xs) (hr : Bs w A' m c' ys) (hm : n + m ≤ 140737488355328) (hB : B ≤ w.heap.size)
    (hK : ∀ A'' c'' w', Own B w' A'' (n + m) c'' (xs ++ ys) → w.grownBy w' (Value.ownBlock (.slice A n c)) → Below B w w' → wpList Tryd.prog ops Q rest (a.put o.dst (.slice A'' (n + m) c'')) w') : wpList Tryd.prog ops Q (o :: rest) a w :=
  wpList_plain hgd fun _ hK' => wp_append_bs ho hs hx h hr hm hB fun A'' c'' w' h2 h3 h4 => hK' _ _ (hK A'' c'' w' h2 h3 h4)
end Go.Proofs.YtbnjmmefnjoofaaDoor
