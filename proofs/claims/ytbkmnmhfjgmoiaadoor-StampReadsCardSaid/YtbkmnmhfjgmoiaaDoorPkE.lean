import Derived.Test.YtbkmnmhfjgmoiaaDoorPkO
import Derived.Test.YtbkmnmhfjgmoiaaDoorPkM
import Derived.Test.YtbkmnmhfjgmoiaaDoorWords
import Derived.Test.YtbkmnmhfjgmoiaaDoorMix
import Derived.Test.YtbkmnmhfjgmoiaaDoorLowB
section
/-
  The document's I: the first words.
-/
namespace Go.Proofs.YtbkmnmhfjgmoiaaDoor
open Go.ChangeShapes Go.WideShapes Go.ChangeAt Go.RowKit Go.Deep

set_option maxHeartbeats 1000000 in
theorem refFirst_calls {w : World} :
    Calls Tryd.prog 51 #[] w fun e w' => e = .returned (.slice (some ⟨w.heap.size, 0, none⟩) 8 8) ∧ Wr w' w.heap.size 71 initL ∧ Ext w w' := by
  go_enter Tryd.func51, Tryd.ntmps51
  go_wp2_with fail
  go_ret
  exact ⟨rfl, heap_alloc_new _ _, (Ext.refl _).alloc _⟩
end Go.Proofs.YtbkmnmhfjgmoiaaDoor
end

section
/-
  append on a row of the call's own, elements of one cell.
-/
namespace Go.Proofs.YtbkmnmhfjgmoiaaDoor
open Go.ChangeShapes Go.WideShapes Go.ChangeAt Go.RowKit Go.Deep

/-- 'append(v, s...)' on a row of the call's own, elements of one cell, the source nil or not. -/
theorem append_any {P : Program} {w : World} {B : Nat} {t e : TypeId} {z : Value} {bytes : Nat} (ht : P.underlying t = some (.slice e)) (hinfo : (P.info? e).map (fun i => (i.zero, i.size, i.bytes)) = some (some z, 1, bytes)) (hzs : z.cells.size = 1)
    {A A' : Option Addr} {n c m c' : Nat} {xs news : List Value} (ty : TypeId) (h : w.ownsRow B e 1 (.slice A n c) n xs) (hl : news.length = m) (hsrc : 0 < m → ∃ ad, A' = some ad ∧ ∀ j u, news[j]? = some u → w.cell? (ad.add j) = some u)
    (h1 : ∀ u ∈ news, u.oneCell' = true) (hm : (n + m) * bytes ≤ 140737488355328) (hn : n + m ≤ 140737488355328) (hB : B ≤ w.heap.size) :
    ∃ A'' c'' w', (Builtin.append_ #[t, t] ty #[.slice A n c, .slice A' m c']).run P w = .ok (.slice A'' (n + m) c'') w' ∧ w'.ownsRow B e 1 (.slice A'' (n + m) c'') (n + m) (xs ++ news) ∧ w.grownBy w' (Value.ownBlock (.slice A n c)) ∧
      (Value.ownBlock (.slice A'' (n + m) c'') = Value.ownBlock (.slice A n c) ∨ Value.ownBlock (.slice A'' (n + m) c'') = some w.heap.size) := by
  obtain ⟨i, hi, hz0, hz1, hz2⟩ := info_parts hinfo
  rcases A' with _ | a
  · have hm0 : m = 0 := by
      rcases Nat.eq_zero_or_pos m with h0 | h0
      · exact h0
      · obtain ⟨ad, e, _⟩ := hsrc h0
        cases e
    subst hm0
    have hy := List.eq_nil_of_length_eq_zero hl
    subst hy
    refine ⟨A, c, w, ?_, by simpa using h, ⟨rfl, rfl, rfl, Nat.le_refl _, fun _ _ _ => rfl⟩, .inl rfl⟩
    rcases h.2 with ⟨hv, hn⟩ | ⟨g, cap, cur, hv, _, _, hnc, _⟩
    · rw [hv]
      subst hn
      injection hv with q1 _ q3
      subst q1 q3
      simp [Builtin.append_, run_underlying ht, sizeOf, typeInfo, hi, Builtin.lenOf, Builtin.firstCells]
    · rw [hv]
      injection hv with q1 _ q3
      subst q1 q3
      simp [Builtin.append_, run_underlying ht, sizeOf, typeInfo, hi, Builtin.lenOf, Builtin.firstCells, hnc, storeCells]
  · have hsrc' : ∀ j u, news[j]? = some u → w.cell? (a.add j) = some u := fun j u hu => by
      have hj : j < news.length := (List.getElem?_eq_some_iff.1 hu).1
      obtain ⟨ad, e, hc⟩ := hsrc (by omega)
      injection e with e
      subst e
      exact hc j u hu
    obtain ⟨v', w', hrun, ho, hg, _, hown⟩ := run_append_own_at (P := P) w B t ty e i z 1 bytes ht hi hz0 hz1 hz2 hzs (by decide) (.slice A n c) n xs h a m c' news (by rw [hl, Nat.mul_one]) hsrc' h1 (by unfold maxLen; omega) hm hB
    rcases ho.2 with ⟨hv, hn0⟩ | ⟨g, cap, cur, hv, _⟩
    · subst hv
      refine ⟨none, 0, w', by rw [hrun, hn0], by rw [hn0] at ho ⊢; exact ho, hg, ?_⟩
      rcases hown with q | q
      · exact .inl q
      · exact .inr q
    · subst hv
      exact ⟨_, _, w', hrun, ho, hg, hown⟩
end Go.Proofs.YtbkmnmhfjgmoiaaDoor
end

section
/-
  A row of words of the call's own that is appended to.
-/
namespace Go.Proofs.YtbkmnmhfjgmoiaaDoor
open Go.ChangeShapes Go.WideShapes Go.ChangeAt Go.RowKit Go.Deep

theorem info32 : (Tryd.prog.info? 71).map (fun i => (i.zero, i.size, i.bytes)) = some (some (.int .u32 0), 1, 4) := by kernel_rfl
/-- The slice '.slice A n c' reads as the words vs (each cell; nil let in). -/
def Ws (w : World) (A : Option Addr) (n : Nat) (vs : List Nat) : Prop := vs.length = n ∧ (0 < n → ∃ b off, A = some ⟨b, off, none⟩ ∧ b < w.heap.size ∧ ∀ j, j < n → w.cell? ⟨b, off + j, none⟩ = some (.int .u32 (wd vs j : Int)))
theorem Ws.ext {w w' : World} {A : Option Addr} {n : Nat} {vs : List Nat} (h : Ws w A n vs) (e : Ext w w') : Ws w' A n vs := ⟨h.1, fun h0 => by
  obtain ⟨b, off, q, hb, hc⟩ := h.2 h0
  exact ⟨b, off, q, Nat.lt_of_lt_of_le hb e.size, fun j hj => (e.cell hb).trans (hc j hj)⟩⟩
/-- The slice is the call's own row of words. -/
def OwnW (B : Nat) (w : World) (A : Option Addr) (n c : Nat) (vs : List Nat) : Prop := w.ownsRow B 71 1 (.slice A n c) n (wcells vs)
section
variable {w w' : World} {B : Nat} {A : Option Addr} {n c : Nat} {vs : List Nat}
theorem OwnW.nil (B : Nat) (w : World) : OwnW B w none 0 0 [] := World.ownsRow_nil w B _ 1
theorem OwnW.empty (w : World) (B : Nat) (hB : B ≤ w.heap.size) : OwnW B (w.alloc (.cells #[] 71)) (some ⟨w.heap.size, 0, none⟩) 0 0 [] := World.ownsRow_lit (e := 71) (size := 1) w #[] 0 hB (Nat.zero_le _) rfl
theorem OwnW.len (h : OwnW B w A n c vs) : vs.length = n := by simpa [wcells] using h.1
theorem OwnW.ge (h : OwnW B w A n c vs) : ∀ g, Value.ownBlock (.slice A n c) = some g → B ≤ g := fun g hg => (World.ownsRow.lt h g hg).1
theorem OwnW.ext (h : OwnW B w A n c vs) (he : Ext w w') : OwnW B w' A n c vs := by
  refine ⟨h.1, ?_⟩
  rcases h.2 with h | ⟨g, cap, cur, hv, hb, hg, r⟩
  · exact .inl h
  · exact .inr ⟨g, cap, cur, hv, hb, (he.block g (heap_lt hg)).trans hg, r⟩
theorem OwnW.ws (h : OwnW B w A n c vs) : Ws w A n vs := by
  have hl := h.len
  refine ⟨hl, fun h0 => ?_⟩
  rcases h.2 with ⟨hv, hn⟩ | ⟨g, cap, cur, hv, hb, hg, hnc, hcm, hcs, htk⟩
  · omega
  · injection hv with h1 h2 h3
    subst h1 h3
    refine ⟨g, 0, rfl, heap_lt hg, fun j hj => ?_⟩
    rw [Nat.zero_add]
    have e : (wcells vs)[j]? = cur[j]? := by
      rw [← htk, List.getElem?_take, if_pos (by omega), Array.getElem?_toList]
    have e2 : (wcells vs)[j]? = some (.int .u32 (wd vs j : Int)) := by simp [wcells, wd, List.getD, show j < vs.length by omega]
    rw [e2] at e
    simp [World.cell?, hg, ← e]
end
theorem wp_append_ws {w : World} {o : Oper} {a : Act} {K : Act → World → Prop} {Q : Exit → Act → World → Prop} {B : Nat} {A A' : Option Addr} {n c m c' : Nat} {us vs : List Nat} {s x : Operand}
    (ho : o.op = .call { callee := .builtin .append, args := #[s, x], argTypes := #[80, 80] }) (hs : a.eval s = .slice A n c) (hx : a.eval x = .slice A' m c')
    (h : OwnW B w A n c us) (hr : Ws w A' m vs) (hm : n + m ≤ 1000000) (hB : B ≤ w.heap.size)
    (hK : ∀ A'' c'' w', OwnW B w' A'' (n + m) c'' (us ++ vs) → w.grownBy w' (Value.ownBlock (.slice A n c)) → Below B w w' → K (a.put o.dst (.slice A'' (n + m) c'')) w') : o.wp Tryd.prog a w K Q := by
  obtain ⟨A'', c'', w', hrun, h2, h3, h4⟩ := append_any (c' := c') Tryd.underlying80 info32 rfl o.type h (news := wcells vs) (m := m) (A' := A') (by rw [← hr.1]; simp [wcells]) (fun h0 => by
    obtain ⟨b, off, q, hb, hc⟩ := hr.2 h0
    refine ⟨⟨b, off, none⟩, q, fun j u hu => ?_⟩
    have hj : j < vs.length := by
      have := (List.getElem?_eq_some_iff.1 hu).1
      simpa [wcells] using this
    have e2 : (wcells vs)[j]? = some (.int .u32 (wd vs j : Int)) := by simp [wcells, wd, List.getD, hj]
    have hplain : (⟨b, off, none⟩ : Addr).add j = ⟨b, off + j, none⟩ := by unfold Addr.add; split <;> simp_all
    rw [hplain, hc j (by rw [← hr.1]; exact hj), ← e2, hu]) (fun u hu => by
    obtain ⟨x, _, rfl⟩ := List.mem_map.1 hu
    rfl) (by omega) (by omega) hB
  unfold Oper.wp execOp
  simp only [ho, resolve, invoke, builtin, Sem.run_bind, Sem.run_pure, Result.andThen_ok, List.map_toArray, List.map_cons, List.map_nil, hs, hx, hrun]
  refine hK A'' c'' w' ?_ h3 ((Below.refl B w).grown h3 hB h.ge)
  unfold OwnW
  have : wcells (us ++ vs) = wcells us ++ wcells vs := by simp [wcells]
  rw [this]
  exact h2
theorem wpList_append_ws {w : World} {ops : Array Oper} {rest : List Oper} {o : Oper} {a : Act} {Q : Exit → Act → World → Prop} (hgd : o.guard = none) {B : Nat} {A A' : Option Addr} {n c m c' : Nat} {us vs : List Nat} {s x : Operand}
    (ho : o.op = .call { callee := .builtin .append, args := #[s, x], argTypes := #[80, 80] }) (hs : a.eval s = .slice A n c) (hx : a.eval x = .slice A' m c')
    (h : OwnW B w A n c us) (hr : Ws w A' m vs) (hm : n + m ≤ 1000000) (hB : B ≤ w.heap.size)
    (hK : ∀ A'' c'' w', OwnW B w' A'' (n + m) c'' (us ++ vs) → w.grownBy w' (Value.ownBlock (.slice A n c)) → Below B w w' → wpList Tryd.prog ops Q rest (a.put o.dst (.slice A'' (n + m) c'')) w') : wpList Tryd.prog ops Q (o :: rest) a w :=
  wpList_plain hgd fun _ hK' => wp_append_ws ho hs hx h hr hm hB fun A'' c'' w' h2 h3 h4 => hK' _ _ (hK A'' c'' w' h2 h3 h4)
end Go.Proofs.YtbkmnmhfjgmoiaaDoor
end

section
/-
  More on rows of words of the call's own.
-/
namespace Go.Proofs.YtbkmnmhfjgmoiaaDoor
open Go.ChangeShapes Go.WideShapes Go.ChangeAt Go.RowKit Go.Deep

theorem Ws.one (w : World) (t : TypeId) (x : Nat) : Ws (w.alloc (.cells #[.int .u32 (x : Int)] t)) (some ⟨w.heap.size, 0, none⟩) 1 [x] := by
  refine ⟨rfl, fun _ => ⟨w.heap.size, 0, rfl, by rw [size_alloc]; omega, fun j hj => ?_⟩⟩
  obtain rfl : j = 0 := by omega
  rw [cell_of_row _ _ _ _ _ (0, 0) (heap_alloc_new _ _)]
  rfl
theorem OwnW.arr {B : Nat} {w : World} {A : Option Addr} {n c : Nat} {vs : List Nat} (h : OwnW B w A n c vs) (h0 : 0 < n) (hlt : ∀ i, i < n → wd vs i < 4294967296) : ∃ g, A = some ⟨g, 0, none⟩ ∧ B ≤ g ∧ Arr w g vs := by
  have hl := h.len
  rcases h.2 with ⟨hv, hn⟩ | ⟨g, cap, cur, hv, hb, hg, hnc, hcm, hcs, htk⟩
  · omega
  · injection hv with h1 h2 h3
    subst h1 h3
    refine ⟨g, rfl, hb, heap_lt hg, fun j hj => ⟨?_, frozen_of_row w g j cur _ hg, hlt j (by omega)⟩⟩
    have e : (wcells vs)[j]? = cur[j]? := by
      rw [← htk, List.getElem?_take, if_pos (by omega), Array.getElem?_toList]
    have e2 : (wcells vs)[j]? = some (.int .u32 (wd vs j : Int)) := by simp [wcells, wd, List.getD, hj]
    rw [e2] at e
    simp [World.cell?, hg, ← e]
theorem take_wd {vs : List Nat} {k : Nat} (h : k < vs.length) : vs.take k ++ [wd vs k] = vs.take (k + 1) := by
  rw [List.take_succ_eq_append_getElem h]
  simp [wd, List.getD, h]
theorem Ws.of_wr {w : World} {g n : Nat} {t : TypeId} {vs : List Nat} (h : Wr w g t vs) (hn : vs.length = n) : Ws w (some ⟨g, 0, none⟩) n vs :=
  ⟨hn, fun _ => ⟨g, 0, rfl, h.lt, fun j hj => by rw [Nat.zero_add]; exact h.cell (by omega)⟩⟩
end Go.Proofs.YtbkmnmhfjgmoiaaDoor
end

section
/-
  The document's OfLow.
-/
namespace Go.Proofs.YtbkmnmhfjgmoiaaDoor
open Go.ChangeShapes Go.WideShapes Go.ChangeAt Go.RowKit Go.Deep

theorem ofLowL_drop {xs : List UInt8} {k : Nat} (h : k < xs.length) : ofLowL (xs.drop k) = bt xs k + 256 * ofLowL (xs.drop (k + 1)) := by
  rw [List.drop_eq_getElem_cons h, ofLowL]
  simp [bt, List.getD, h]
def ofLowFrom (xs : List UInt8) (m k : Nat) : Nat := ofLowL ((xs.take m).drop k)
theorem ofLowFrom_step {xs : List UInt8} {m k : Nat} (hk : k < m) (hm : m ≤ xs.length) : ofLowFrom xs m k = bt xs k + 256 * ofLowFrom xs m (k + 1) := by
  unfold ofLowFrom
  rw [ofLowL_drop (by rw [List.length_take]; omega), bt_take hk]
theorem ofLowFrom_lt {xs : List UInt8} {m k : Nat} (hm : m ≤ xs.length) (h8 : m ≤ 8) (hk : 1 ≤ k) : ofLowFrom xs m k < 72057594037927936 := by
  unfold ofLowFrom
  refine Nat.lt_of_lt_of_le (ofLowL_lt _) (Nat.pow_le_pow_right (by omega) (show _ ≤ 7 from ?_))
  rw [List.length_drop, List.length_take]
  omega

set_option maxHeartbeats 400000 in
theorem refOfLow_calls {A : Option Addr} {n c : Nat} {m : Nat} {xs : List UInt8} {w : World} (h : Bs w A n c xs) (hm8 : m ≤ 8) (hmn : m ≤ n) (hM : (if (8 : Int) < (n : Int) then 8 else (n : Int)) = (m : Int)) :
    Calls Tryd.prog 54 #[.slice A n c] w fun e w' => e = .returned (.int .u64 (ofLowL (xs.take m) : Int)) ∧ w' = w := by
  have h1 := h.le
  have h2 := h.cap
  have hz : ofLowFrom xs m m = 0 := by unfold ofLowFrom; rw [List.drop_of_length_le (by rw [List.length_take]; omega)]; rfl
  have hz' := Lib.hid hz
  clear hz
  go_enter Tryd.func54, Tryd.ntmps54
  go_wp2
  clear hM
  go_loop [3, 4] (fun x i => ∃ k : Nat, k ≤ m ∧ i = .int .i64 ((k : Int) - 1) ∧ x = .int .u64 (ofLowFrom xs m k : Int)) (fun _ i => (intOf i + 1).toNat)
  case atStart => exact ⟨m, Nat.le_refl _, rfl, by rw [hz'.out]; rfl⟩
  case round =>
    obtain ⟨k, hk, rfl, rfl⟩ := hrel
    rcases Nat.eq_zero_or_pos k with rfl | hpos
    · go_wp2
      go_ret
      exact ⟨ret_int (by unfold ofLowFrom; rw [List.drop_zero]), rfl⟩
    · obtain ⟨j, rfl⟩ : ∃ j, k = j + 1 := ⟨k - 1, by omega⟩
      obtain ⟨b, off, rfl, hb, hc⟩ := h.pos (by omega)
      have g1 := hc j (by omega)
      have hbt := bt_lt xs j
      have hlt2 := ofLowFrom_lt (xs := xs) (m := m) (k := j + 1) (by rw [h.len]; omega) hm8 (by omega)
      have hst : Hid ((ofLowFrom xs m (j + 1) : Int) * 256 + (bt xs j : Int) = (ofLowFrom xs m j : Int)) := by
        unfold Hid
        rw [ofLowFrom_step (show j < m by omega) (by rw [h.len]; omega)]
        omega
      clear hc
      go_wp2
      exact ⟨⟨j, by omega, rfl, congrArg (Value.int .u64) hst.out⟩, by simp [intOf]⟩
end Go.Proofs.YtbkmnmhfjgmoiaaDoor
end
