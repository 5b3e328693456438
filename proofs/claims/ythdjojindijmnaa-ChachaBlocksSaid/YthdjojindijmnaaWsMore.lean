/-
  More on rows of words of the call's own.
-/
import Derived.Test.YthdjojindijmnaaOwnW
import Derived.Test.YthdjojindijmnaaWords
import Derived.Test.YthdjojindijmnaaMix
namespace Go.Proofs.Ythdjojindijmnaa
open Go.ChangeShapes Go.WideShapes Go.ChangeAt Go.RowKit Go.Deep

theorem Ws.one (w : World) (t : TypeId) (x : Nat) : Ws (w.alloc (.cells #[.int .u32 (x : Int)] t)) (some ⟨w.heap.size, 0, none⟩) 1 [x] := by
  refine ⟨rfl, fun _ => ⟨w.heap.size, 0, rfl, by rw [size_alloc]; omega, fun j hj => ?_⟩⟩
  obtain rfl : j = 0 := by omega
  rw [cell_of_row _ _ _ _ _ (0, 0) (heap_alloc_new _ _)]
  rfl
theorem OwnW.arr {B : Nat} {w : World} {A : Option Addr} {n c : Nat} {vs : List Nat} (h : OwnW B w A n c vs) (h0 : 0 < n) (hlt : ∀ i, i < n → wd vs i < 4294967296) : ∃ g, A = some ⟨g, 0, none⟩ ∧ B ≤ g ∧ Arr w g vs := by
  have hl := h.len
  rcases h.2 with ⟨hv, hn⟩ | ⟨g, cap, cur, hv, hb, hg, hnc, hcm, hcs, htk⟩
  · omega
  · injection hv with h1 h2 h3
    subst h1 h3
    refine ⟨g, rfl, hb, heap_lt hg, fun j hj => ⟨?_, frozen_of_row w g j cur _ hg, hlt j (by omega)⟩⟩
    have e : (wcells vs)[j]? = cur[j]? := by
      rw [← htk, List.getElem?_take, if_pos (by omega), Array.getElem?_toList]
    have e2 : (wcells vs)[j]? = some (.int .u32 (wd vs j : Int)) := by simp [wcells, wd, List.getD, hj]
    rw [e2] at e
    simp [World.cell?, hg, ← e]
theorem take_wd {vs : List Nat} {k : Nat} (h : k < vs.length) : vs.take k ++ [wd vs k] = vs.take (k + 1) := by
  rw [List.take_succ_eq_append_getElem h]
  simp [wd, List.getD, h]
theorem Ws.of_wr {w : World} {g n : Nat} {t : TypeId} {vs : List Nat} (h : Wr w g t vs) (hn : vs.length = n) : Ws w (some ⟨g, 0, none⟩) n vs :=
  ⟨hn, fun _ => ⟨g, 0, rfl, h.lt, fun j hj => by rw [Nat.zero_add]; exact h.cell (by omega)⟩⟩
end Go.Proofs.Ythdjojindijmnaa
