/-
  Bytes as cells of a block; bytes are copied into them. No conditions.
-/
import Derived.Test.YtbnjmmefnjoofaaDoorBase
import Derived.Laws.CopyOwn
namespace Go.Proofs.YtbnjmmefnjoofaaDoor
open Go.ChangeShapes Go.WideShapes Go.ChangeAt Go.RowKit Go.Deep
set_option maxRecDepth 100000

/-- Bytes as cells. -/
def cellsOf (xs : List UInt8) : List Value := (List.range xs.length).map fun j => Value.int .u8 (bt xs j : Int)
theorem cellsOf_len (xs : List UInt8) : (cellsOf xs).length = xs.length := by simp [cellsOf]
theorem cellsOf_get {xs : List UInt8} {j : Nat} (h : j < xs.length) : (cellsOf xs)[j]? = some (.int .u8 (bt xs j : Int)) := by simp [cellsOf, h]

theorem cellsOf_one (xs : List UInt8) : (cellsOf xs).toArray.all (·.oneCell') = true := by
  rw [Array.all_eq_true_iff_forall_mem]
  intro v hv
  obtain ⟨j, _, rfl⟩ := List.mem_map.1 (List.mem_toArray.1 hv)
  rfl
/-- Bytes are copied into a row of cells that is all there. -/
theorem copy_bs {W : World} {g off dLen dCap : Nat} {cur : List Value} {t dT sT ty : TypeId} {A : Option Addr} {n c : Nat} {xs : List UInt8} (hu : Tryd.prog.underlying dT = some (.slice 5)) (hg : W.heap[g]? = some (.cells cur.toArray t (0, 0))) (h : Bs W A n c xs) (hd : n ≤ dLen) (hfit : off + n ≤ cur.length) :
    ∃ W', (Builtin.copy_ #[dT, sT] ty #[.slice (some ⟨g, off, none⟩) dLen dCap, .slice A n c]).run Tryd.prog W = .ok (goInt n) W' ∧ W'.heap[g]? = some (.cells (splice cur off (cellsOf xs)).toArray t (0, 0)) ∧ (∀ B, B ≤ g → Below B W W') := by
  have hl := h.len
  have hsz : (Tryd.prog.info? 5).map (·.size) = some 1 := rfl
  by_cases h0 : n = 0
  · subst h0
    obtain rfl : xs = [] := List.eq_nil_of_length_eq_zero hl
    refine ⟨W, ?_, by simpa [splice, cellsOf] using hg, fun B _ => Below.refl _ _⟩
    have := run_copy_none (P := Tryd.prog) W dT sT ty _ (some ⟨g, off, none⟩) A dLen dCap 0 c hu hsz (by simp)
    simpa using this
  · obtain ⟨b, o, rfl, hb, hc⟩ := h.pos (by omega)
    have hr := run_copy_row Tryd.prog W dT sT ty _ g off dLen dCap ⟨b, o, none⟩ n c cur.toArray t (cellsOf xs) hu hsz hg (by rw [cellsOf_len, hl]; exact (Nat.min_eq_left hd).symm) (fun j v hv => by
      have hj : j < xs.length := by
        rcases Nat.lt_or_ge j xs.length with q | q
        · exact q
        · rw [List.getElem?_eq_none (by rw [cellsOf_len]; exact q)] at hv; cases hv
      rw [cellsOf_get hj] at hv
      injection hv with hv
      subst hv
      have : (⟨b, o, none⟩ : Addr).add j = ⟨b, o + j, none⟩ := by unfold Addr.add; split <;> simp_all
      rw [this]
      exact hc j (by omega)) (by rw [cellsOf_len]; simp; omega) (fun v hv => by
      obtain ⟨j, _, rfl⟩ := List.mem_map.1 hv
      rfl)
    rw [cellsOf_len, hl] at hr
    refine ⟨_, hr, ?_, fun B hB => below_setRow (Below.refl _ _) hB _⟩
    have := setRow_heap W g _ ((cur.take off ++ cellsOf xs ++ cur.drop (off + n)).toArray) t _ hg
    simpa [splice, cellsOf_len, hl, List.append_assoc] using this

theorem upon_copy {o : Oper} {a : Act} {K : Act → World → Prop} {Q : Exit → Act → World → Prop} {W : World} {g off dLen dCap : Nat} {cur : List Value} {t dT sT ty : TypeId} {A : Option Addr} {n c : Nat} {xs : List UInt8} (hu : Tryd.prog.underlying dT = some (.slice 5)) (hg : W.heap[g]? = some (.cells cur.toArray t (0, 0))) (h : Bs W A n c xs) (hd : n ≤ dLen) (hfit : off + n ≤ cur.length)
    (H : ∀ W', Hid (W'.heap[g]? = some (.cells (splice cur off (cellsOf xs)).toArray t (0, 0))) → Hid (∀ B, B ≤ g → Below B W W') → Oper.upon Tryd.prog o a K Q (.ok (Next.value (goInt n)) W')) :
    Oper.upon Tryd.prog o a K Q (((Builtin.copy_ #[dT, sT] ty #[.slice (some ⟨g, off, none⟩) dLen dCap, .slice A n c]).run Tryd.prog W).andThen fun a w' => .ok (Next.value a) w') := by
  obtain ⟨W', h1, h2, h3⟩ := copy_bs (W := W) (dT := dT) (sT := sT) (ty := ty) (dCap := dCap) hu hg h hd hfit
  rw [h1]
  exact H W' h2 h3
theorem heap_alloc2 (w : World) (o1 o2 : Obj) : ((w.alloc o1).alloc o2).heap[w.heap.size + 1]? = some o2 := by
  simp only [World.alloc, Array.getElem?_push, Array.size_push, if_true]

theorem heap_alloc1 (w : World) (o1 o2 : Obj) : ((w.alloc o1).alloc o2).heap[w.heap.size]? = some o1 := by
  simp only [World.alloc, Array.getElem?_push, Array.size_push, if_true]
  rw [if_neg (by omega)]
end Go.Proofs.YtbnjmmefnjoofaaDoor
