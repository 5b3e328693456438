/-
  A key is filled from a slice that is long enough. No conditions.
-/
import Derived.Test.YtojgmgghlkpfoaaMid
import Derived.Test.YtojgmgghlkpfoaaCells
namespace Go.Proofs.Ytojgmgghlkpfoaa
open Go.ChangeShapes Go.WideShapes Go.ChangeAt Go.RowKit Go.Deep

/-- A key is filled from a longer slice. -/
theorem upon_copy_keyK {o : Oper} {a : Act} {K : Act → World → Prop} {Q : Exit → Act → World → Prop} {W : World} {g dCap : Nat} {cur : Array Value} {t dT sT ty : TypeId} {A : Option Addr} {n c : Nat} {xs : List UInt8} (hu : Try.prog.underlying dT = some (.slice 5)) (hg : W.heap[g]? = some (.cells cur t (0, 0))) (h : Bs W A n c xs) (hn : 32 ≤ n) (hc : cur.size = 32)
    (H : Oper.upon Try.prog o a K Q (.ok (Next.value (goInt 32)) (W.setRow g (cellsOf (xs.take 32)).toArray))) :
    Oper.upon Try.prog o a K Q (((Builtin.copy_ #[dT, sT] ty #[.slice (some ⟨g, 0, none⟩) 32 dCap, .slice A n c]).run Try.prog W).andThen fun a w' => .ok (Next.value a) w') := by
  have hl := h.len
  obtain ⟨b, o', rfl, hb, hcl⟩ := h.pos (by omega)
  have hsz : (Try.prog.info? 5).map (·.size) = some 1 := rfl
  have hL : (cellsOf (xs.take 32)).length = 32 := by rw [cellsOf_len, List.length_take]; omega
  have hr := run_copy_row Try.prog W dT sT ty _ g 0 32 dCap ⟨b, o', none⟩ n c cur t (cellsOf (xs.take 32)) hu hsz hg (by rw [hL]; exact (Nat.min_eq_right hn).symm) (fun j v hv => by
    have hj : j < 32 := by
      have := (List.getElem?_eq_some_iff.1 hv).1
      rwa [hL] at this
    rw [cellsOf_get (by rw [List.length_take]; omega), bt_take hj] at hv
    injection hv with hv
    subst hv
    have : (⟨b, o', none⟩ : Addr).add j = ⟨b, o' + j, none⟩ := by unfold Addr.add; split <;> simp_all
    rw [this]
    exact hcl j (by omega)) (by rw [hL]; omega) (fun v hv => by
    obtain ⟨j, _, rfl⟩ := List.mem_map.1 hv
    rfl)
  have he : (cur.toList.take 0 ++ cellsOf (xs.take 32) ++ cur.toList.drop (0 + (cellsOf (xs.take 32)).length)) = cellsOf (xs.take 32) := by
    rw [hL, List.drop_of_length_le (by simp [hc])]; simp
  rw [he, hL] at hr
  rw [hr]
  exact H

end Go.Proofs.Ytojgmgghlkpfoaa
