/-
  A slice of three numbers is made; their sum. No conditions.
-/
import Derived.Test.YteognebhlehjlaaDoorFldSum
import Derived.Great.BuildSlice
namespace Go.Proofs.YteognebhlehjlaaDoor
open Go.ChangeShapes Go.WideShapes Go.ChangeAt Go.RowKit Go.Deep
set_option maxRecDepth 100000

theorem infoE : (Tryd.prog.info? 28).map (fun i => (i.zero, i.size)) = some (some (.agg (wcells zw8).toArray), 8) := by kernel_rfl
theorem wp_slice3 {o : Oper} {a : Act} {w : World} {K : Act → World → Prop} {Q : Exit → Act → World → Prop} {u v t : List Nat} (hu : u.length = 8) (hv : v.length = 8) (ht : t.length = 8) {x0 x1 x2 : Operand}
    (ho : o.op = .buildSlice 40 3 #[(0, x0), (1, x1), (2, x2)]) (h0 : a.eval x0 = .agg (wcells u).toArray) (h1 : a.eval x1 = .agg (wcells v).toArray) (h2 : a.eval x2 = .agg (wcells t).toArray)
    (h : K (a.put o.dst (.slice (some ⟨w.heap.size, 0, none⟩) 3 3)) (w.alloc (.cells (wcells u ++ wcells v ++ wcells t).toArray 28))) : o.wp Tryd.prog a w K Q := by
  obtain ⟨i, hi, hp⟩ := Option.map_eq_some_iff.1 infoE
  obtain ⟨hz0, hz1⟩ := Prod.mk.inj hp
  refine wp_buildSlice 40 28 3 _ ho (wcells u ++ wcells v ++ wcells t).toArray i _ Tryd.underlying40 hi hz0 (by rw [hz1]; omega) (by rw [hz1]; omega) ?_ h
  rw [hz1]
  simp only [List.map_toArray, List.map_cons, List.map_nil, h0, h1, h2]
  have := Great.fill_whole (s := 8) (by omega) [Value.agg (wcells u).toArray, Value.agg (wcells v).toArray, Value.agg (wcells t).toArray] ((Array.range (3 * 8)).map ((Value.agg (wcells zw8).toArray).cells[· % (Value.agg (wcells zw8).toArray).cells.size]!)) (fun x hx => by
    simp only [List.mem_cons, List.not_mem_nil, or_false] at hx
    rcases hx with rfl | rfl | rfl
    · exact wcells_size hu
    · exact wcells_size hv
    · exact wcells_size ht) (by simp)
  simp only [List.zipIdx_cons, List.zipIdx_nil, List.map_cons, List.map_nil, List.flatMap_cons, List.flatMap_nil, List.append_nil] at this
  rw [List.append_assoc]
  exact this
theorem sum3_calls {x y z g : Nat} {w : World} (hx : x < P25) (hy : y < P25) (hz : z < P25) (hE : w.heap[g]? = some (.cells (wcells (lbs 8 z) ++ wcells (lbs 8 y) ++ wcells (lbs 8 x)).toArray 28 (0, 0))) {tg : TypeId × Nat × Nat} (hG : Gp w tg) :
    Calls Tryd.prog 22 #[.slice (some ⟨g, 0, none⟩) 3 3] w fun e w' => e = .returned (.agg (wcells (lbs 8 (((x + y) % P25 + z) % P25))).toArray) ∧ Ext w w' := by
  have hs : sumF (fun j => [z, y, x].getD j 0) 3 = ((x + y) % P25 + z) % P25 := by
    show (((0 + z) % P25 + y) % P25 + x) % P25 = _
    rw [Nat.mod_add_mod, Nat.mod_add_mod, Nat.add_assoc, Nat.mod_add_mod]
    congr 1
    omega
  have hl : ∀ t, (wcells (lbs 8 t)).length = 8 := fun t => by simpa using wcells_size (lbs_len 8 t)
  have := sum_calls (f := fun j => [z, y, x].getD j 0) (n := 3) (c := 3) (g := g) (w := w) (by omega) (by omega) (by omega) (fun j hj => by
    have h3 : j = 0 ∨ j = 1 ∨ j = 2 := by omega
    rcases h3 with rfl | rfl | rfl
    · exact hz
    · exact hy
    · exact hx) ⟨heap_lt hE, fun j hj i v hv => by
      have h3 : j = 0 ∨ j = 1 ∨ j = 2 := by omega
      rw [cell_of_row w g _ _ _ (0, 0) hE, List.getElem?_toArray]
      rcases h3 with rfl | rfl | rfl
      · have hi := (List.getElem?_eq_some_iff.1 hv).1
        rw [hl] at hi
        rw [List.append_assoc, List.getElem?_append_left (by rw [hl]; omega), Nat.zero_mul, Nat.zero_add]
        exact hv
      · have hi := (List.getElem?_eq_some_iff.1 hv).1
        rw [hl] at hi
        rw [List.append_assoc, List.getElem?_append_right (by rw [hl]; omega), List.getElem?_append_left (by rw [hl, hl]; omega), hl, Nat.one_mul, Nat.add_sub_cancel_left]
        exact hv
      · have hi := (List.getElem?_eq_some_iff.1 hv).1
        rw [hl] at hi
        rw [List.getElem?_append_right (by rw [List.length_append, hl, hl]; omega), List.length_append, hl, hl, show 2 * 8 + i - (8 + 8) = i from by omega]
        exact hv⟩ hG
  rw [hs] at this
  exact this
end Go.Proofs.YteognebhlehjlaaDoor
