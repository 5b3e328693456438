/-
  A row of keys of the call's own that is appended to.
-/
import Derived.Test.YthdjojindijmnaaDoorKeysK
import Derived.Test.YthdjojindijmnaaDoorMid
import Derived.Great.BuildSlice
namespace Go.Proofs.YthdjojindijmnaaDoor
open Go.ChangeShapes Go.WideShapes Go.ChangeAt Go.RowKit Go.Deep

/-- The slice reads as these keys. -/
def Kl (w : World) (A : Option Addr) (n : Nat) (l : List (List UInt8)) : Prop :=
  l.length = n ∧ (∀ x ∈ l, x.length = 32) ∧ (0 < n → ∃ b, A = some ⟨b, 0, none⟩ ∧ b < w.heap.size ∧ ∀ j, j < n → ∀ i v, (cellsOf (l.getD j []))[i]? = some v → w.cell? ⟨b, 32 * j + i, none⟩ = some v)
theorem Kl.ext {w w' : World} {A : Option Addr} {n : Nat} {l : List (List UInt8)} (h : Kl w A n l) (e : Ext w w') : Kl w' A n l :=
  ⟨h.1, h.2.1, fun h0 => by
    obtain ⟨b, q, hb, hc⟩ := h.2.2 h0
    exact ⟨b, q, Nat.lt_of_lt_of_le hb e.size, fun j hj i v hv => (e.cell hb).trans (hc j hj i v hv)⟩⟩
def OwnK (B : Nat) (w : World) (A : Option Addr) (n c : Nat) (l : List (List UInt8)) : Prop := w.ownsRow B 23 32 (.slice A n c) n (cellsOf l.flatten) ∧ (∀ x ∈ l, x.length = 32) ∧ l.length = n
theorem OwnK.nil (B : Nat) (w : World) : OwnK B w none 0 0 [] := ⟨World.ownsRow_nil w B _ 32, fun x hx => by simp at hx, rfl⟩
theorem OwnK.kept {B : Nat} {w w' : World} {A : Option Addr} {n c : Nat} {l : List (List UInt8)} {row : Option Nat} (h : OwnK B w A n c l) (hg : w.grownBy w' row) (hne : Value.ownBlock (.slice A n c) = none ∨ Value.ownBlock (.slice A n c) ≠ row) : OwnK B w' A n c l := ⟨World.ownsRow.kept h.1 hg hne, h.2⟩
theorem OwnK.ge {B : Nat} {w : World} {A : Option Addr} {n c : Nat} {l : List (List UInt8)} (h : OwnK B w A n c l) : ∀ g, Value.ownBlock (.slice A n c) = some g → B ≤ g := fun g hg => (World.ownsRow.lt h.1 g hg).1
theorem OwnK.ext {B : Nat} {w w' : World} {A : Option Addr} {n c : Nat} {l : List (List UInt8)} (h : OwnK B w A n c l) (e : Ext w w') : OwnK B w' A n c l := by
  refine ⟨⟨h.1.1, ?_⟩, h.2⟩
  rcases h.1.2 with h | ⟨g, cap, cur, hv, hb, hg, r⟩
  · exact .inl h
  · exact .inr ⟨g, cap, cur, hv, hb, (e.block g (heap_lt hg)).trans hg, r⟩
theorem OwnK.cap {B : Nat} {w : World} {A : Option Addr} {n c : Nat} {l : List (List UInt8)} (h : OwnK B w A n c l) : n ≤ c ∧ c ≤ 9223372036854775807 := by
  rcases h.1.2 with ⟨hv, hn⟩ | ⟨g, cap, cur, hv, hb, hg, hnc, hcm, _⟩
  · injection hv with _ _ q
    omega
  · injection hv with _ _ q
    subst q
    exact ⟨hnc, hcm⟩
theorem OwnK.kl {B : Nat} {w : World} {A : Option Addr} {n c : Nat} {l : List (List UInt8)} (h : OwnK B w A n c l) : Kl w A n l := by
  refine ⟨h.2.2, h.2.1, fun h0 => ?_⟩
  rcases h.1.2 with ⟨hv, hn⟩ | ⟨g, cap, cur, hv, hb, hg, hnc, hcm, hcs, htk⟩
  · omega
  · injection hv with h1 h2 h3
    subst h1
    refine ⟨g, rfl, heap_lt hg, fun j hj i v hv => ?_⟩
    have hlen : (l.getD j []).length = 32 := h.2.1 _ (by have := h.2.2; simp [List.getD, show j < l.length by omega])
    have hi : i < 32 := by
      have := (List.getElem?_eq_some_iff.1 hv).1
      rw [cellsOf_len] at this
      omega
    rw [cellsOf_get (by omega)] at hv
    have hf := flat_len h.2.1
    have hc := cellsOf_get (xs := l.flatten) (j := 32 * j + i) (by have := h.2.2; omega)
    rw [flat_bt h.2.1 (by have := h.2.2; omega) hi, hv, ← htk, List.getElem?_take, if_pos (by omega), Array.getElem?_toList] at hc
    rw [cell_of_row w g _ _ _ _ hg]
    exact hc
theorem OwnK.fresh {B : Nat} {w : World} {A : Option Addr} {n c : Nat} {l : List (List UInt8)} (h : OwnK B w A n c l) {b : Nat} (hA : A = some ⟨b, 0, none⟩) : B ≤ b := by
  rcases h.1.2 with ⟨hv, hn⟩ | ⟨g, cap, cur, hv, hb, _⟩
  · injection hv with h1 h2 h3
    rw [hA] at h1
    cases h1
  · injection hv with h1 h2 h3
    rw [hA] at h1
    injection h1 with h1
    injection h1 with h1
    omega
theorem Kl.setRow {w : World} {A : Option Addr} {n g : Nat} {l : List (List UInt8)} (h : Kl w A n l) (hne : ∀ b, A = some ⟨b, 0, none⟩ → g < b) (C : Array Value) : Kl (w.setRow g C) A n l :=
  ⟨h.1, h.2.1, fun h0 => by
    obtain ⟨b, q, hb, hc⟩ := h.2.2 h0
    have hgr : w.grownBy (w.setRow g C) (some g) := ⟨rfl, rfl, rfl, by simp, fun i hi hn => setRow_other _ _ _ _ (fun q => hn (by rw [q]))⟩
    exact ⟨b, q, by simpa using hb, fun j hj i v hv => hgr.cell (hc j hj i v hv) (fun e => by injection e with e; have := hne b q; simp only at e; omega)⟩⟩
theorem wpList_append_k {w : World} {ops : Array Oper} {rest : List Oper} {o : Oper} {a : Act} {Q : Exit → Act → World → Prop} (hgd : o.guard = none) {B : Nat} {A : Option Addr} {n c g : Nat} {l : List (List UInt8)} {k : List UInt8} {fr : Nat × Nat} {s x : Operand}
    (ho : o.op = .call { callee := .builtin .append, args := #[s, x], argTypes := #[45, 45] }) (hs : a.eval s = .slice A n c) (hx : a.eval x = .slice (some ⟨g, 0, none⟩) 1 1)
    (h : OwnK B w A n c l) (hg : w.heap[g]? = some (.cells (cellsOf k).toArray 23 fr)) (hk : k.length = 32) (hm : n ≤ 1000) (hB : B ≤ w.heap.size)
    (hK : ∀ A'' c'' w', OwnK B w' A'' (n + 1) c'' (l ++ [k]) → w.grownBy w' (Value.ownBlock (.slice A n c)) → Below B w w' → wpList Tryd.prog ops Q rest (a.put o.dst (.slice A'' (n + 1) c'')) w') : wpList Tryd.prog ops Q (o :: rest) a w := by
  refine wpList_plain hgd fun K hK' => ?_
  obtain ⟨i, hi, hz0, hz1, hz2⟩ := info_parts infoK
  obtain ⟨v', w', hr, hown, hgr, _, _⟩ := run_append_own_at (P := Tryd.prog) w B 45 o.type 23 i (.agg zeros32) 32 32 Tryd.underlying45 hi hz0 hz1 hz2 (show (Value.agg zeros32).cells.size = 32 from zeros32_size) (by decide) (.slice A n c) n (cellsOf l.flatten) h.1 ⟨g, 0, none⟩ 1 1 (cellsOf k) (by rw [cellsOf_len, hk]) (fun j u hu => by
    have hadd : (⟨g, 0, none⟩ : Addr).add j = ⟨g, j, none⟩ := by unfold Addr.add; split <;> simp_all
    rw [hadd, cell_of_row w g j _ _ _ hg]
    simpa using hu) (fun u hu => by
    obtain ⟨_, _, rfl⟩ := List.mem_map.1 hu
    rfl) (by unfold maxLen; omega) (by omega) hB
  have e : cellsOf l.flatten ++ cellsOf k = cellsOf (l ++ [k]).flatten := by
    rw [cellsOf_map, cellsOf_map, cellsOf_map, List.flatten_append]
    simp
  rw [e] at hown
  have hl1 : ∀ x ∈ l ++ [k], x.length = 32 := fun x hx => by
    rcases List.mem_append.1 hx with q | q
    · exact h.2.1 x q
    · simp at q; subst q; exact hk
  have hl2 : (l ++ [k]).length = n + 1 := by rw [List.length_append, h.2.2]; rfl
  have hform : ∃ A'' c'', v' = .slice A'' (n + 1) c'' := by
    rcases hown.2 with ⟨hv, hn⟩ | ⟨g', cap, cur, hv, _⟩
    · omega
    · exact ⟨_, _, hv⟩
  obtain ⟨A'', c'', rfl⟩ := hform
  unfold Oper.wp execOp
  simp only [ho, resolve, invoke, builtin, Sem.run_bind, Sem.run_pure, Result.andThen_ok, List.map_toArray, List.map_cons, List.map_nil, hs, hx, hr]
  exact hK' _ _ (hK A'' c'' w' ⟨hown, hl1, hl2⟩ hgr ((Below.refl B w).grown hgr hB h.ge))
theorem wpList_slice_k {w : World} {ops : Array Oper} {rest : List Oper} {o : Oper} {a : Act} {Q : Exit → Act → World → Prop} (hgd : o.guard = none) {k : List UInt8} {x : Operand} {g : Nat} (hk : k.length = 32) (hg : w.heap.size = g)
    (ho : o.op = .buildSlice 45 1 #[(0, x)]) (hx : a.eval x = .agg (cellsOf k).toArray)
    (h : wpList Tryd.prog ops Q rest (a.put o.dst (.slice (some ⟨g, 0, none⟩) 1 1)) (w.alloc (.cells (cellsOf k).toArray 23))) : wpList Tryd.prog ops Q (o :: rest) a w := by
  subst hg
  obtain ⟨i, hi, hz0, hz1, hz2⟩ := info_parts infoK
  refine wpList_buildSlice hgd 45 23 1 _ ho (cellsOf k).toArray i _ Tryd.underlying45 hi hz0 (by rw [hz1]; omega) (by rw [hz1]; omega) ?_ h
  rw [hz1]
  simp only [List.map_toArray, List.map_cons, List.map_nil, hx]
  have := Great.fill_whole (s := 32) (by omega) [Value.agg (cellsOf k).toArray] ((Array.range (1 * 32)).map ((Value.agg zeros32).cells[· % (Value.agg zeros32).cells.size]!)) (fun v hv => by
    simp only [List.mem_singleton] at hv
    subst hv
    show (cellsOf k).toArray.size = 32
    simp [cellsOf_len, hk]) (by simp)
  simp only [List.zipIdx_cons, List.zipIdx_nil, List.map_cons, List.map_nil, List.flatMap_cons, List.flatMap_nil, List.append_nil] at this
  exact this
end Go.Proofs.YthdjojindijmnaaDoor
