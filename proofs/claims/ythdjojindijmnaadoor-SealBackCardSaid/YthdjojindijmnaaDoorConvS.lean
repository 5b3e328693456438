/-
  []byte(s), and one byte appended to it.
-/
import Derived.Test.YthdjojindijmnaaDoorAppStr
import Derived.Lib.ConvBytes
import Derived.Deep.AppendSrc
namespace Go.Proofs.YthdjojindijmnaaDoor
open Go.ChangeShapes Go.WideShapes Go.ChangeAt Go.RowKit Go.Deep
set_option maxRecDepth 100000

/-- Block g holds the bytes of a string, and room; nothing of it is frozen. -/
def Cv (w : World) (g n c : Nat) (xs : List UInt8) : Prop :=
  xs.length = n ∧ n ≤ c ∧ c ≤ maxLen ∧ ∃ cur : Array Value, w.heap[g]? = some (.cells cur 5 (c, c + 1)) ∧ cur.size = c ∧ ∀ j, j < n → cur[j]? = some (.int .u8 (bt xs j : Int))
theorem Cv.ext {w w' : World} {g n c : Nat} {xs : List UInt8} (h : Cv w g n c xs) (e : Ext w w') : Cv w' g n c xs := by
  obtain ⟨h1, h2, h3, cur, h4, h5⟩ := h
  exact ⟨h1, h2, h3, cur, (e.block g (heap_lt h4)).trans h4, h5⟩
theorem Cv.bs {w : World} {g n c : Nat} {xs : List UInt8} (h : Cv w g n c xs) : Bs w (some ⟨g, 0, none⟩) n c xs := by
  obtain ⟨h1, h2, h3, cur, h4, h5, h6⟩ := h
  refine ⟨h1, h2, h3, fun _ => ⟨g, 0, rfl, heap_lt h4, fun j hj => ?_⟩⟩
  rw [Nat.zero_add, cell_of_row w g j _ _ _ h4, h6 j hj]
/-- []byte(s), in every world. -/
theorem conv_str (xs : List UInt8) (hx : xs.length ≤ 1000000) : ∃ (cp : World → Nat) (cw : World → World),
    (∀ w, (convert 9 34 (.string (strL xs))).run Tryd.prog w = .ok (.slice (some ⟨w.heap.size, 0, none⟩) xs.length (cp w)) (cw w)) ∧
    ∀ w, Ext w (cw w) ∧ Cv (cw w) w.heap.size xs.length (cp w) xs := by
  refine ⟨fun w => grownCap w (strL xs).size 0 5, fun w => Lib.bytesWorld w 5 (strL xs), fun w => ?_, fun w => ⟨⟨rfl, rfl, rfl, by rw [Lib.bytesWorld_size]; omega, fun i hi => Lib.bytesWorld_at_old w _ _ i hi⟩, rfl, ?_, ?_, ?_⟩⟩
  · have := Lib.run_convert_string_bytes (P := Tryd.prog) w 9 34 5 (strL xs) Tryd.underlying9 Tryd.underlying34 Tryd.underlying5
    rw [this, strL_size]
  · have := grownCap_ge w (strL xs).size 0 5
    rw [strL_size] at this ⊢
    exact this
  · exact grownCap_le_maxLen w _ _ _ (by rw [strL_size]; unfold maxLen; omega)
  · have hge := grownCap_ge w (strL xs).size 0 5
    have hs : (Lib.bytesCells w 5 (strL xs)).size = grownCap w (strL xs).size 0 5 := by
      simp only [Lib.bytesCells, Array.size_append, Array.size_map, Array.size_replicate]
      have : (strL xs).data.size = (strL xs).size := rfl
      omega
    refine ⟨Lib.bytesCells w 5 (strL xs), ?_, hs, fun j hj => ?_⟩
    · have := Lib.bytesWorld_at_new w 5 (strL xs)
      rw [hs] at this
      exact this
    · have h1 := Lib.bytesWorld_cell w 5 (strL xs) j (by rw [strL_size]; exact hj)
      rw [cell_of_row _ _ _ _ _ _ (Lib.bytesWorld_at_new w 5 (strL xs))] at h1
      rw [h1]
      simp [strL, bt]
theorem append_conv {w : World} {g n c : Nat} {xs : List UInt8} {y : UInt8} {A' : Option Addr} {c' : Nat} (ty : TypeId) (h : Cv w g n c xs) (hn : n ≤ 1000000) (hr : Bs w A' 1 c' [y]) :
    ∃ A'' c'' w', (Builtin.append_ #[34, 34] ty #[.slice (some ⟨g, 0, none⟩) n c, .slice A' 1 c']).run Tryd.prog w = .ok (.slice A'' (n + 1) c'') w' ∧ Bs w' A'' (n + 1) c'' (xs ++ [y]) ∧ w.grownBy w' (some g) := by
  have HB := h.bs
  obtain ⟨h1, h2, h3, cur, h4, h5, h6⟩ := h
  obtain ⟨i, hi, hz0, hz1, hz2⟩ := info_parts info8
  obtain ⟨b, o, rfl, hb, hcb⟩ := hr.pos (by omega)
  have src : Src Tryd.prog i.size 34 (.slice (some ⟨b, o, none⟩) 1 c') 1 [u8v y] w := Src.ofSlice w (e' := 5) Tryd.underlying34 _ _ _ _ (by rw [hz1]; rfl) (fun j u hu => by
    match j, hu with
    | 0, hu =>
      simp at hu
      subst hu
      have := hcb 0 (by omega)
      have hadd : (⟨b, o, none⟩ : Addr).add 0 = ⟨b, o + 0, none⟩ := by unfold Addr.add; split <;> simp_all
      rw [hadd, this]
      simp [u8v, bt]) (fun u hu => by simp at hu; subst hu; rfl)
  by_cases hroom : n + 1 ≤ c
  · have hr2 := run_append_room_src (P := Tryd.prog) w 34 34 ty 5 i Tryd.underlying34 hi g 0 n c _ 1 [u8v y] src hroom (fun j hj => by
      obtain rfl : j = 0 := by simpa using hj
      rw [hz1, cell_of_row w g _ _ _ _ h4, Nat.zero_add, Nat.mul_one, Nat.add_zero]
      simp; omega) (fun j hj => by
      obtain rfl : j = 0 := by simpa using hj
      simp only [World.frozen?, h4, hz1]
      simp
      omega)
    refine ⟨_, _, _, hr2, ?_, ?_⟩
    · simp only [World.setCells, hz1, Nat.mul_one, Nat.zero_add]
      refine ⟨by simp [h1], hroom, h3, fun _ => ⟨g, 0, rfl, by simpa [World.setCell] using heap_lt h4, fun j hj => ?_⟩⟩
      rw [Nat.zero_add, setCell_eq_setRow w g n cur _ _ _ h4, cell_of_row _ g j _ _ _ (setRow_heap w g cur _ _ _ h4)]
      by_cases q : j = n
      · have hjl : j < cur.size := by omega
        have hb' : bt (xs ++ [y]) j = y.toNat := by
          unfold bt
          simp only [List.getD]
          rw [List.getElem?_append_right (by omega), show j - xs.length = 0 by omega]
          rfl
        rw [hb', ← q, Array.getElem?_setIfInBounds_self_of_lt hjl]
        rfl
      · rw [Array.getElem?_setIfInBounds_ne (Ne.symm q), h6 j (by omega)]
        congr 2
        unfold bt
        simp only [List.getD]
        rw [List.getElem?_append_left (by omega)]
    · simp only [World.setCells, hz1, Nat.mul_one, Nat.zero_add]
      exact gr_set (gr_ext (Ext.refl w) _) _ _
  · have holds : ∀ j u, (xs.map u8v)[j]? = some u → w.drew.cell? ((⟨g, 0, none⟩ : Addr).add j) = some u := fun j u hu => by
      have hj : j < n := by
        have := (List.getElem?_eq_some_iff.1 hu).1
        rw [List.length_map] at this
        omega
      have hadd : (⟨g, 0, none⟩ : Addr).add j = ⟨g, j, none⟩ := by unfold Addr.add; split <;> simp_all
      rw [hadd, cell_of_row w.drew g j _ _ _ h4, h6 j hj, ← u8v_bt (by omega), hu]
    have hr2 := run_append_grow_src (P := Tryd.prog) w 34 34 ty 5 i (.int .u8 0) Tryd.underlying34 hi hz0 (some ⟨g, 0, none⟩) n c (xs.map u8v) (run_firstCells_some w.drew i.size n ⟨g, 0, none⟩ n c (xs.map u8v) (by rw [hz1]; simp [h1]) holds) _ 1 [u8v y] src (by omega) (by omega) (growslice_fits (by omega) (by rw [hz2]; omega))
    refine ⟨_, _, _, hr2, ?_, ⟨rfl, rfl, rfl, by simp, fun k hk _ => heap_alloc_old w.drew _ hk⟩⟩
    have hge := grownCap_ge w (n + 1) c 5
    have hcm : grownCap w (n + 1) c 5 ≤ maxLen := grownCap_le_maxLen w (n + 1) c 5 (by unfold maxLen; omega)
    have ho : Own 0 (w.drew.alloc (.cells ((xs.map u8v ++ [u8v y]).toArray ++ Builtin.zeroCells (Value.int .u8 0).cells (grownCap w (n + 1) c 5 - (n + 1))) 5)) (some ⟨w.heap.size, 0, none⟩) (n + 1) (grownCap w (n + 1) c 5) (xs ++ [y]) := by
      refine ⟨by simp [h1], .inr ⟨w.heap.size, _, _, rfl, Nat.zero_le _, heap_alloc_new w.drew _, hge, hcm, ?_, ?_⟩⟩
      · have hz1 : (Value.int IntKind.u8 0).cells.size = 1 := rfl
        simp only [Array.size_append, List.size_toArray, size_zeroCells, hz1, List.length_append, List.length_map, List.length_cons, List.length_nil, h1]
        omega
      · simp only [Array.toList_append, List.map_append, List.map_cons, List.map_nil]
        exact List.take_left' (by simp [h1])
    exact ho.bs
theorem wp_append_conv {w : World} {o : Oper} {a : Act} {K : Act → World → Prop} {Q : Exit → Act → World → Prop} {g n c : Nat} {xs : List UInt8} {y : UInt8} {A' : Option Addr} {c' : Nat} {s x : Operand}
    (ho : o.op = .call { callee := .builtin .append, args := #[s, x], argTypes := #[34, 34] }) (hs : a.eval s = .slice (some ⟨g, 0, none⟩) n c) (hx : a.eval x = .slice A' 1 c')
    (h : Cv w g n c xs) (hn : n ≤ 1000000) (hr : Bs w A' 1 c' [y])
    (hK : ∀ A'' c'' w', Bs w' A'' (n + 1) c'' (xs ++ [y]) → w.grownBy w' (some g) → K (a.put o.dst (.slice A'' (n + 1) c'')) w') : o.wp Tryd.prog a w K Q := by
  obtain ⟨A'', c'', w', hrun, h2, h3⟩ := append_conv o.type h hn hr
  unfold Oper.wp execOp
  simp only [ho, resolve, invoke, builtin, Sem.run_bind, Sem.run_pure, Result.andThen_ok, List.map_toArray, List.map_cons, List.map_nil, hs, hx, hrun]
  exact hK A'' c'' w' h2 h3
end Go.Proofs.YthdjojindijmnaaDoor
