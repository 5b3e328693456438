import Derived.Test.YthdjojindijmnaaDoorPkK
import Derived.Lib.ConvBytes
import Derived.Deep.AppendSrc
import Derived.Test.YthdjojindijmnaaDoorKeysK
import Derived.Test.YthdjojindijmnaaDoorPkM
import Derived.Great.FillDense
import Derived.Test.YthdjojindijmnaaDoorPkL
section
/-
  []byte(s), and one byte appended to it.
-/
namespace Go.Proofs.YthdjojindijmnaaDoor
open Go.ChangeShapes Go.WideShapes Go.ChangeAt Go.RowKit Go.Deep
set_option maxRecDepth 100000

/-- Block g holds the bytes of a string, and room; nothing of it is frozen. -/
def Cv (w : World) (g n c : Nat) (xs : List UInt8) : Prop :=
  xs.length = n ∧ n ≤ c ∧ c ≤ maxLen ∧ ∃ cur : Array Value, w.heap[g]? = some (.cells cur 5 (c, c + 1)) ∧ cur.size = c ∧ ∀ j, j < n → cur[j]? = some (.int .u8 (bt xs j : Int))
theorem Cv.ext {w w' : World} {g n c : Nat} {xs : List UInt8} (h : Cv w g n c xs) (e : Ext w w') : Cv w' g n c xs := by
  obtain ⟨h1, h2, h3, cur, h4, h5⟩ := h
  exact ⟨h1, h2, h3, cur, (e.block g (heap_lt h4)).trans h4, h5⟩
theorem Cv.bs {w : World} {g n c : Nat} {xs : List UInt8} (h : Cv w g n c xs) : Bs w (some ⟨g, 0, none⟩) n c xs := by
  obtain ⟨h1, h2, h3, cur, h4, h5, h6⟩ := h
  refine ⟨h1, h2, h3, fun _ => ⟨g, 0, rfl, heap_lt h4, fun j hj => ?_⟩⟩
  rw [Nat.zero_add, cell_of_row w g j _ _ _ h4, h6 j hj]
/-- []byte(s), in every world. -/
theorem conv_str (xs : List UInt8) (hx : xs.length ≤ 1000000) : ∃ (cp : World → Nat) (cw : World → World),
    (∀ w, (convert 9 34 (.string (strL xs))).run Tryd.prog w = .ok (.slice (some ⟨w.heap.size, 0, none⟩) xs.length (cp w)) (cw w)) ∧
    ∀ w, Ext w (cw w) ∧ Cv (cw w) w.heap.size xs.length (cp w) xs := by
  refine ⟨fun w => grownCap w (strL xs).size 0 5, fun w => Lib.bytesWorld w 5 (strL xs), fun w => ?_, fun w => ⟨⟨rfl, rfl, rfl, by rw [Lib.bytesWorld_size]; omega, fun i hi => Lib.bytesWorld_at_old w _ _ i hi⟩, rfl, ?_, ?_, ?_⟩⟩
  · have := Lib.run_convert_string_bytes (P := Tryd.prog) w 9 34 5 (strL xs) Tryd.underlying9 Tryd.underlying34 Tryd.underlying5
    rw [this, strL_size]
  · have := grownCap_ge w (strL xs).size 0 5
    rw [strL_size] at this ⊢
    exact this
  · exact grownCap_le_maxLen w _ _ _ (by rw [strL_size]; unfold maxLen; omega)
  · have hge := grownCap_ge w (strL xs).size 0 5
    have hs : (Lib.bytesCells w 5 (strL xs)).size = grownCap w (strL xs).size 0 5 := by
      simp only [Lib.bytesCells, Array.size_append, Array.size_map, Array.size_replicate]
      have : (strL xs).data.size = (strL xs).size := rfl
      omega
    refine ⟨Lib.bytesCells w 5 (strL xs), ?_, hs, fun j hj => ?_⟩
    · have := Lib.bytesWorld_at_new w 5 (strL xs)
      rw [hs] at this
      exact this
    · have h1 := Lib.bytesWorld_cell w 5 (strL xs) j (by rw [strL_size]; exact hj)
      rw [cell_of_row _ _ _ _ _ _ (Lib.bytesWorld_at_new w 5 (strL xs))] at h1
      rw [h1]
      simp [strL, bt]
theorem append_conv {w : World} {g n c : Nat} {xs : List UInt8} {y : UInt8} {A' : Option Addr} {c' : Nat} (ty : TypeId) (h : Cv w g n c xs) (hn : n ≤ 1000000) (hr : Bs w A' 1 c' [y]) :
    ∃ A'' c'' w', (Builtin.append_ #[34, 34] ty #[.slice (some ⟨g, 0, none⟩) n c, .slice A' 1 c']).run Tryd.prog w = .ok (.slice A'' (n + 1) c'') w' ∧ Bs w' A'' (n + 1) c'' (xs ++ [y]) ∧ w.grownBy w' (some g) := by
  have HB := h.bs
  obtain ⟨h1, h2, h3, cur, h4, h5, h6⟩ := h
  obtain ⟨i, hi, hz0, hz1, hz2⟩ := info_parts info8
  obtain ⟨b, o, rfl, hb, hcb⟩ := hr.pos (by omega)
  have src : Src Tryd.prog i.size 34 (.slice (some ⟨b, o, none⟩) 1 c') 1 [u8v y] w := Src.ofSlice w (e' := 5) Tryd.underlying34 _ _ _ _ (by rw [hz1]; rfl) (fun j u hu => by
    match j, hu with
    | 0, hu =>
      simp at hu
      subst hu
      have := hcb 0 (by omega)
      have hadd : (⟨b, o, none⟩ : Addr).add 0 = ⟨b, o + 0, none⟩ := by unfold Addr.add; split <;> simp_all
      rw [hadd, this]
      simp [u8v, bt]) (fun u hu => by simp at hu; subst hu; rfl)
  by_cases hroom : n + 1 ≤ c
  · have hr2 := run_append_room_src (P := Tryd.prog) w 34 34 ty 5 i Tryd.underlying34 hi g 0 n c _ 1 [u8v y] src hroom (fun j hj => by
      obtain rfl : j = 0 := by simpa using hj
      rw [hz1, cell_of_row w g _ _ _ _ h4, Nat.zero_add, Nat.mul_one, Nat.add_zero]
      simp; omega) (fun j hj => by
      obtain rfl : j = 0 := by simpa using hj
      simp only [World.frozen?, h4, hz1]
      simp
      omega)
    refine ⟨_, _, _, hr2, ?_, ?_⟩
    · simp only [World.setCells, hz1, Nat.mul_one, Nat.zero_add]
      refine ⟨by simp [h1], hroom, h3, fun _ => ⟨g, 0, rfl, by simpa [World.setCell] using heap_lt h4, fun j hj => ?_⟩⟩
      rw [Nat.zero_add, setCell_eq_setRow w g n cur _ _ _ h4, cell_of_row _ g j _ _ _ (setRow_heap w g cur _ _ _ h4)]
      by_cases q : j = n
      · have hjl : j < cur.size := by omega
        have hb' : bt (xs ++ [y]) j = y.toNat := by
          unfold bt
          simp only [List.getD]
          rw [List.getElem?_append_right (by omega), show j - xs.length = 0 by omega]
          rfl
        rw [hb', ← q, Array.getElem?_setIfInBounds_self_of_lt hjl]
        rfl
      · rw [Array.getElem?_setIfInBounds_ne (Ne.symm q), h6 j (by omega)]
        congr 2
        unfold bt
        simp only [List.getD]
        rw [List.getElem?_append_left (by omega)]
    · simp only [World.setCells, hz1, Nat.mul_one, Nat.zero_add]
      exact gr_set (gr_ext (Ext.refl w) _) _ _
  · have holds : ∀ j u, (xs.map u8v)[j]? = some u → w.drew.cell? ((⟨g, 0, none⟩ : Addr).add j) = some u := fun j u hu => by
      have hj : j < n := by
        have := (List.getElem?_eq_some_iff.1 hu).1
        rw [List.length_map] at this
        omega
      have hadd : (⟨g, 0, none⟩ : Addr).add j = ⟨g, j, none⟩ := by unfold Addr.add; split <;> simp_all
      rw [hadd, cell_of_row w.drew g j _ _ _ h4, h6 j hj, ← u8v_bt (by omega), hu]
    have hr2 := run_append_grow_src (P := Tryd.prog) w 34 34 ty 5 i (.int .u8 0) Tryd.underlying34 hi hz0 (some ⟨g, 0, none⟩) n c (xs.map u8v) (run_firstCells_some w.drew i.size n ⟨g, 0, none⟩ n c (xs.map u8v) (by rw [hz1]; simp [h1]) holds) _ 1 [u8v y] src (by omega) (by omega) (growslice_fits (by omega) (by rw [hz2]; omega))
    refine ⟨_, _, _, hr2, ?_, ⟨rfl, rfl, rfl, by simp, fun k hk _ => heap_alloc_old w.drew _ hk⟩⟩
    have hge := grownCap_ge w (n + 1) c 5
    have hcm : grownCap w (n + 1) c 5 ≤ maxLen := grownCap_le_maxLen w (n + 1) c 5 (by unfold maxLen; omega)
    have ho : Own 0 (w.drew.alloc (.cells ((xs.map u8v ++ [u8v y]).toArray ++ Builtin.zeroCells (Value.int .u8 0).cells (grownCap w (n + 1) c 5 - (n + 1))) 5)) (some ⟨w.heap.size, 0, none⟩) (n + 1) (grownCap w (n + 1) c 5) (xs ++ [y]) := by
      refine ⟨by simp [h1], .inr ⟨w.heap.size, _, _, rfl, Nat.zero_le _, heap_alloc_new w.drew _, hge, hcm, ?_, ?_⟩⟩
      · have hz1 : (Value.int IntKind.u8 0).cells.size = 1 := rfl
        simp only [Array.size_append, List.size_toArray, size_zeroCells, hz1, List.length_append, List.length_map, List.length_cons, List.length_nil, h1]
        omega
      · simp only [Array.toList_append, List.map_append, List.map_cons, List.map_nil]
        exact List.take_left' (by simp [h1])
    exact ho.bs
theorem wp_append_conv {w : World} {o : Oper} {a : Act} {K : Act → World → Prop} {Q : Exit → Act → World → Prop} {g n c : Nat} {xs : List UInt8} {y : UInt8} {A' : Option Addr} {c' : Nat} {s x : Operand}
    (ho : o.op = .call { callee := .builtin .append, args := #[s, x], argTypes := #[34, 34] }) (hs : a.eval s = .slice (some ⟨g, 0, none⟩) n c) (hx : a.eval x = .slice A' 1 c')
    (h : Cv w g n c xs) (hn : n ≤ 1000000) (hr : Bs w A' 1 c' [y])
    (hK : ∀ A'' c'' w', Bs w' A'' (n + 1) c'' (xs ++ [y]) → w.grownBy w' (some g) → K (a.put o.dst (.slice A'' (n + 1) c'')) w') : o.wp Tryd.prog a w K Q := by
  obtain ⟨A'', c'', w', hrun, h2, h3⟩ := append_conv o.type h hn hr
  unfold Oper.wp execOp
  simp only [ho, resolve, invoke, builtin, Sem.run_bind, Sem.run_pure, Result.andThen_ok, List.map_toArray, List.map_cons, List.map_nil, hs, hx, hrun]
  exact hK A'' c'' w' h2 h3
end Go.Proofs.YthdjojindijmnaaDoor
end

section
/-
  A literal of strings. No conditions.
-/
namespace Go.Proofs.YthdjojindijmnaaDoor
open Go.ChangeShapes Go.WideShapes Go.ChangeAt Go.RowKit Go.Deep

theorem strL_eta (s : ByteArray) : strL s.data.toList = s := by cases s; simp [strL]
theorem str_lit {W : World} {t : TypeId} {l : List (List UInt8)} {n : Nat} (hn : l.length = n) : Ss (W.alloc (.cells (l.map fun x => Value.string (strL x)).toArray t)) (some ⟨W.heap.size, 0, none⟩) n l := by
  refine ⟨hn, fun _ => ⟨_, 0, rfl, by rw [size_alloc]; omega, fun j hj => ?_⟩⟩
  rw [cell_of_row _ _ _ _ _ (0, 0) (heap_alloc_new _ _)]
  simp [List.getD, show j < l.length by omega]

end Go.Proofs.YthdjojindijmnaaDoor
end

section
/-
  A struct of two parts is laid of its parts. No conditions.
-/
namespace Go.Proofs.YthdjojindijmnaaDoor
open Go.ChangeShapes Go.WideShapes Go.ChangeAt Go.RowKit Go.Deep

theorem fold_cells (off : Nat) (v : Array Value) (cs : Array Value) : v.zipIdx.foldl (fun cs (c, j) => cs.setIfInBounds (off + j) c) cs = (v.toList.zipIdx 0).foldl (fun cs (x : Value × Nat) => cs.setIfInBounds (off + x.2) x.1) cs := by
  rw [← Array.foldl_toList, Array.toList_zipIdx]
theorem fill_two {p q : Nat} {K L Z : Array Value} (pl : Nat → Option (Nat × Nat)) (h0 : pl 0 = some (0, p)) (h1 : pl 1 = some (p, q)) (hK : K.size = p) (hL : L.size = q) (hZ : Z.size = p + q) : Instr.fill pl Z [(0, .agg K), (1, .agg L)] = some (K ++ L) := by
  have c0 : (Value.agg K).cells = K := rfl
  have c1 : (Value.agg L).cells = L := rfl
  obtain ⟨g1, g2⟩ := Great.foldl_set 0 K.toList 0 Z
  obtain ⟨g3, g4⟩ := Great.foldl_set p L.toList 0 ((K.toList.zipIdx 0).foldl (fun cs (x : Value × Nat) => cs.setIfInBounds (0 + x.2) x.1) Z)
  unfold Instr.fill
  simp only [h0, c0, hK]
  rw [if_neg (by simp; omega)]
  unfold Instr.fill
  simp only [h1, c1, hL]
  rw [if_neg (by rw [fold_cells, g1]; simp; omega)]
  unfold Instr.fill
  rw [fold_cells, fold_cells]
  congr 1
  apply Array.ext_getElem?
  intro k
  rw [g4 k, g2 k, g1]
  simp only [Nat.add_zero, Nat.zero_add, Nat.zero_le, true_and, Array.length_toList, hK, hL, hZ, Nat.sub_zero]
  by_cases a : k < p
  · rw [if_neg (by omega), if_pos ⟨a, by omega⟩, Array.getElem?_append_left (by omega)]
    simp
  · by_cases b : k < p + q
    · rw [if_pos ⟨by omega, b, b⟩, Array.getElem?_append_right (by omega), hK]
      simp
    · rw [if_neg (by omega), if_neg (by omega), Array.getElem?_eq_none (by omega), Array.getElem?_eq_none (by rw [Array.size_append]; omega)]
end Go.Proofs.YthdjojindijmnaaDoor
end

section
/-
  An array in the midst of a block is read.
-/
namespace Go.Proofs.YthdjojindijmnaaDoor
open Go.ChangeShapes Go.WideShapes Go.ChangeAt Go.RowKit Go.Deep

/-- An array in the midst of a block. -/
theorem exec_load_mid {P : Program} {o : Oper} {a : Act} {w : World} {ty : TypeId} {x : Operand} {g off : Nat} {ys : List Value} {d : TypeDesc} (ho : o.op = .load ty x) (hx : a.eval x = .pointer (some ⟨g, off, none⟩)) (hc : ∀ j v, ys[j]? = some v → w.cell? ⟨g, off + j, none⟩ = some v)
    (hu : P.underlying ty = some d) (hd : (match d with | .struct _ | .array _ _ => true | _ => false) = true) (hi : (P.info? ty).map (·.size) = some ys.length) : (execOp a.eval o).run P w = .ok (.value (.agg ys.toArray)) w := by
  have hl : (loadCells ⟨g, off, none⟩ ys.length).run P w = .ok ys.toArray w := run_loadCells_list (P := P) w ⟨g, off, none⟩ ys (fun j v hv => by
    have hadd : (⟨g, off, none⟩ : Addr).add j = ⟨g, off + j, none⟩ := by unfold Addr.add; split <;> simp_all
    rw [hadd]
    exact hc j v hv)
  have hv : (loadVar ty ⟨g, off, none⟩).run P w = .ok (.agg ys.toArray) w := by
    cases hq : P.info? ty with
    | none => simp [hq] at hi
    | some i =>
      have hs : i.size = ys.length := by simpa [hq] using hi
      have hagg : (isAgg ty).run P w = .ok true w := by
        unfold isAgg
        rw [Sem.run_bind, run_underlying hu w]
        cases d <;> simp_all
      simp [loadVar, Sem.run_bind, hagg, sizeOf, typeInfo, hq, hs, hl]
  unfold execOp
  simp only [ho, hx, Instr.loadAt, Instr.sureAddr, Sem.run_bind, Sem.run_pure, Result.andThen_ok, hv]

theorem wpList_load_mid {P : Program} {ops : Array Oper} {rest : List Oper} {o : Oper} {a : Act} {w : World} {Q : Exit → Act → World → Prop} (hw : Region.wanted o (yielded ops a.tmps) = true) {ty : TypeId} {x : Operand} {g off : Nat} {ys : List Value} {d : TypeDesc} (ho : o.op = .load ty x) (hx : a.eval x = .pointer (some ⟨g, off, none⟩)) (hc : ∀ j v, ys[j]? = some v → w.cell? ⟨g, off + j, none⟩ = some v)
    (hu : P.underlying ty = some d) (hd : (match d with | .struct _ | .array _ _ => true | _ => false) = true) (hi : (P.info? ty).map (·.size) = some ys.length) (h : wpList P ops Q rest (a.put o.dst (.agg ys.toArray)) w) : wpList P ops Q (o :: rest) a w :=
  wpList_exec hw (exec_load_mid ho hx hc hu hd hi) h
theorem exec_eql_keyB {o : Oper} {a : Act} {w : World} {x y : Operand} {t' : TypeId} {xs ys : List UInt8} {b : Bool} (hb : decide (xs = ys) = b) (lx : xs.length = 32) (ly : ys.length = 32) (ho : o.op = .binOp .eql 23 x y t') (hx : a.eval x = .agg (cellsOf xs).toArray) (hy : a.eval y = .agg (cellsOf ys).toArray) :
    (execOp a.eval o).run Tryd.prog w = .ok (.value (.bool b)) w := hb ▸ exec_eql_key ho hx hy lx ly
theorem exec_neq_keyB {o : Oper} {a : Act} {w : World} {x y : Operand} {t' : TypeId} {xs ys : List UInt8} {b : Bool} (hb : (!decide (xs = ys)) = b) (lx : xs.length = 32) (ly : ys.length = 32) (ho : o.op = .binOp .neq 23 x y t') (hx : a.eval x = .agg (cellsOf xs).toArray) (hy : a.eval y = .agg (cellsOf ys).toArray) :
    (execOp a.eval o).run Tryd.prog w = .ok (.value (.bool b)) w := hb ▸ exec_neq_key ho hx hy lx ly
end Go.Proofs.YthdjojindijmnaaDoor
end
