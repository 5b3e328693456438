import Derived.Test.YtbkmnmhfjgmoiaaDoorBase
import Derived.Test.YtbkmnmhfjgmoiaaDoorMid
import Derived.Test.YtbkmnmhfjgmoiaaDoorCells
import Derived.Test.YtbkmnmhfjgmoiaaDoorPkQ
import Derived.Test.YtbkmnmhfjgmoiaaDoorPkN
import Derived.Test.YtbkmnmhfjgmoiaaDoorStV
import Derived.Test.YtbkmnmhfjgmoiaaDoorPkH
import Derived.Test.YtbkmnmhfjgmoiaaDoorLowM
import Derived.Test.YtbkmnmhfjgmoiaaDoorPkI
section
/-
  A slice of bytes beside a one-celled block that turns.
-/
namespace Go.Proofs.YtbkmnmhfjgmoiaaDoor
open Go.ChangeShapes Go.WideShapes Go.ChangeAt Go.RowKit Go.Deep
set_option maxRecDepth 100000

theorem grown_setCell8 {w : World} {g o : Nat} {v : Value} : w.grownBy (w.setCell ⟨g, o, none⟩ v) (some g) := grown_setCells (w := w) (g := g) (o := o) (vs := [v])
theorem Bs.cell1 {w : World} {A : Option Addr} {n c g : Nat} {xs : List UInt8} {T : TypeId} {v u : Value} (h : Bs w A n c xs) (hg : Cb w g T [v]) (hv : ∀ k i, v ≠ .int k i) : Bs (w.setCell ⟨g, 0, none⟩ u) A n c xs := by
  refine ⟨h.1, h.2.1, h.2.2.1, fun h0 => ?_⟩
  obtain ⟨b, off, hA, hb, hc⟩ := h.2.2.2 h0
  have gr : w.grownBy (w.setCell ⟨g, 0, none⟩ u) (some g) := grown_setCell8
  have hne : b ≠ g := by
    intro q
    subst q
    have h1 := hc 0 h0
    rw [cell_of_row w b _ _ _ _ hg, List.getElem?_toArray] at h1
    match off, h1 with
    | 0, h1 => simp at h1; exact hv _ _ h1
    | k + 1, h1 => simp at h1
  have hq := gr.block b hb (fun q => hne (Option.some.inj q))
  refine ⟨b, off, hA, Nat.lt_of_lt_of_le hb gr.size, fun j hj => ?_⟩
  rw [← hc j hj]
  simp only [World.cell?, hq]
theorem Bs.grown {w w' : World} {A : Option Addr} {n c g : Nat} {xs : List UInt8} {T : TypeId} {v : Value} (h : Bs w A n c xs) (hg : Cb w g T [v]) (hv : ∀ k i, v ≠ .int k i) (gr : w.grownBy w' (some g)) : Bs w' A n c xs := by
  refine ⟨h.1, h.2.1, h.2.2.1, fun h0 => ?_⟩
  obtain ⟨b, off, hA, hb, hc⟩ := h.2.2.2 h0
  have hne : b ≠ g := by
    intro q
    subst q
    have h1 := hc 0 h0
    rw [cell_of_row w b _ _ _ _ hg, List.getElem?_toArray] at h1
    match off, h1 with
    | 0, h1 => simp at h1; exact hv _ _ h1
    | k + 1, h1 => simp at h1
  have hq := gr.block b hb (fun q => hne (Option.some.inj q))
  refine ⟨b, off, hA, Nat.lt_of_lt_of_le hb gr.size, fun j hj => ?_⟩
  rw [← hc j hj]
  simp only [World.cell?, hq]
end Go.Proofs.YtbkmnmhfjgmoiaaDoor
end

section
/-
  's[k:]' and 's[:k]' as operations of a region.
-/
namespace Go.Proofs.YtbkmnmhfjgmoiaaDoor
open Go.ChangeShapes Go.WideShapes Go.ChangeAt Go.RowKit Go.Deep

theorem exec_from {w : World} {o : Oper} {a : Act} {x lo : Operand} {A : Option Addr} {n c k : Nat} {kd : IntKind} (ho : o.op = .slice 27 x (some lo) none none) (hx : a.eval x = .slice A n c) (hl : a.eval lo = .int kd (k : Int)) (hk : k ≤ n) (hnc : n ≤ c) :
    (execOp a.eval o).run Tryd.prog w = .ok (.value (.slice (if c = k then A else A.map (·.add k)) (n - k) (c - k))) w := by
  obtain ⟨dst, op, ty, pos, af, gd⟩ := o
  simp only at ho
  subst ho
  obtain ⟨i, hi', hsz⟩ := Option.map_eq_some_iff.1 size8
  have q1 : (k : Int) ≤ (n : Int) := by omega
  simp only [execOp, hx, hl, Option.map, Instr.sliceAt]
  go_simp
  cases A <;> rfl
theorem exec_to {w : World} {o : Oper} {a : Act} {x hi : Operand} {A : Option Addr} {n c k : Nat} {kd : IntKind} (ho : o.op = .slice 27 x none (some hi) none) (hx : a.eval x = .slice A n c) (hl : a.eval hi = .int kd (k : Int)) (hk : k ≤ c) :
    (execOp a.eval o).run Tryd.prog w = .ok (.value (.slice A k c)) w := by
  obtain ⟨dst, op, ty, pos, af, gd⟩ := o
  simp only at ho
  subst ho
  obtain ⟨i, hi', hsz⟩ := Option.map_eq_some_iff.1 size8
  have q1 : (k : Int) ≤ (c : Int) := by omega
  have q2 : (if c = 0 then A else A.map (·.add 0)) = A := by
    split
    · rfl
    · cases A <;> simp [Addr.add]
  simp only [execOp, hx, hl, Option.map, Instr.sliceAt]
  go_simp
end Go.Proofs.YtbkmnmhfjgmoiaaDoor
end

section
/-
  stamp.Read's closure next; numberOf; a copy into the midst of a block.
-/
namespace Go.Proofs.YtbkmnmhfjgmoiaaDoor
open Go.ChangeShapes Go.WideShapes Go.ChangeAt Go.RowKit Go.Deep
set_option maxRecDepth 100000

set_option maxHeartbeats 2000000 in
theorem next16_calls {w : World} {g n c k : Nat} {A : Option Addr} {xs : List UInt8} (h : Cb w g 27 [.slice A n c]) (hb : Bs w A n c xs) (hk : k ≤ n) (hm : k ≤ 1000000) :
    Calls Tryd.prog 33 #[.int .i64 (k : Int), .pointer (some ⟨g, 0, none⟩)] w fun e w' => e = .returned (.slice A k c) ∧ ∃ A', Cb w' g 27 [.slice A' (n - k) (c - k)] ∧ Bs w' A k c (xs.take k) ∧ Bs w' A' (n - k) (c - k) (xs.drop k) ∧ w.grownBy w' (some g) ∧ (∀ s, Bs s A n c xs → Bs s A k c (xs.take k) ∧ Bs s A' (n - k) (c - k) (xs.drop k)) := by
  have c0 := h.cell (j := 0) rfl
  have fz := h.frozen 0
  have hnc := hb.2.1
  have hbs : ∀ s, Bs s A n c xs → Bs s A k c (xs.take k) := fun s hb => ⟨by rw [List.length_take, hb.1]; omega, by omega, hb.2.2.1, fun h0 => by
    obtain ⟨b, off, hA, hbl, hc⟩ := hb.2.2.2 (by omega)
    exact ⟨b, off, hA, hbl, fun j hj => by rw [hc j (by omega)]; congr 3; simp [bt, List.getD, hj]⟩⟩
  have hbt := hbs w hb
  have fin : Hid (∀ (A' : Option Addr), A' = (if c = k then A else A.map (·.add k)) → Cb (w.setCell ⟨g, 0, none⟩ (.slice A' (n - k) (c - k))) g 27 [.slice A' (n - k) (c - k)] ∧ Bs (w.setCell ⟨g, 0, none⟩ (.slice A' (n - k) (c - k))) A k c (xs.take k) ∧ Bs (w.setCell ⟨g, 0, none⟩ (.slice A' (n - k) (c - k))) A' (n - k) (c - k) (xs.drop k) ∧ w.grownBy (w.setCell ⟨g, 0, none⟩ (.slice A' (n - k) (c - k))) (some g) ∧ (∀ s, Bs s A n c xs → Bs s A k c (xs.take k) ∧ Bs s A' (n - k) (c - k) (xs.drop k))) := fun A' hA' => by
    subst hA'
    exact ⟨h.setCell, hbt.cell1 h (fun k i q => by cases q), (hb.cut hk).cell1 h (fun k i q => by cases q), grown_setCell8, fun s q => ⟨hbs s q, q.cut hk⟩⟩
  clear hbt hbs
  clear h hb
  by_cases hck : c = k
  · subst hck
    obtain rfl : n = c := by omega
    have f := fin.out A (if_pos rfl).symm
    simp only [Nat.sub_self] at f
    replace f := Lib.hid f
    clear fin
    go_enter Tryd.func33, Tryd.ntmps33
    go_wp2_with fail
    go_ret
    exact ⟨rfl, A, by simp only [Nat.sub_self]; exact f.out⟩
  · have f := Lib.hid (fin.out (A.map (·.add k)) (if_neg hck).symm)
    clear fin
    go_enter Tryd.func33, Tryd.ntmps33
    go_wp2_with fail
    go_ret
    exact ⟨rfl, A.map (·.add k), f.out⟩
set_option maxHeartbeats 2000000 in
theorem number16_calls {w : World} {c k : Nat} {A : Option Addr} {xs : List UInt8} (h : Bs w A k c xs) (hk : k ≤ 4) (hv : numN xs k < 4294967296) :
    Calls Tryd.prog 34 #[.slice A k c] w fun e w' => e = .returned (.int .i64 (numN xs k : Int)) ∧ Ext w w' := by
  have OH : Hid (Calls Tryd.prog 44 #[.slice A k c] w fun e w' => e = .returned (.int .u64 (numN xs k : Int)) ∧ Ext w w') := ofHigh_calls (m := k) h (by omega) (Nat.le_refl _) (if_neg (by omega))
  generalize numN xs k = v at *
  have u1 : IntKind.i64.wrap (v : Int) = (v : Int) := IntWalk.i64_in _ (by omega)
  clear h
  go_enter Tryd.func34, Tryd.ntmps34
  go_wp2_with fail
  refine OH.out.mono ?_
  rintro e w2 ⟨rfl, e2⟩
  clear OH
  go_wp2_with fail
  go_ret
  exact ⟨rfl, e2⟩
/-- Bytes are copied into the midst of a block. -/
theorem upon_copy_mid {o : Oper} {a : Act} {K : Act → World → Prop} {Q : Exit → Act → World → Prop} {W : World} {g off dCap : Nat} {L p y q : List Value} {t dT sT ty : TypeId} {A : Option Addr} {n c : Nat} {xs : List UInt8} (hu : Tryd.prog.underlying dT = some (.slice 5)) (hg : Cb W g t L) (hL : L = p ++ (y ++ q)) (hp : p.length = off) (hy : y.length = n) (h : Bs W A n c xs) (h0 : 0 < n)
    (H : Oper.upon Tryd.prog o a K Q (.ok (Next.value (goInt n)) (W.setRow g (p ++ (cellsOf xs ++ q)).toArray))) :
    Oper.upon Tryd.prog o a K Q (((Builtin.copy_ #[dT, sT] ty #[.slice (some ⟨g, off, none⟩) n dCap, .slice A n c]).run Tryd.prog W).andThen fun a w' => .ok (Next.value a) w') := by
  have hl := h.len
  obtain ⟨b, o', rfl, hb, hcl⟩ := h.pos h0
  have hsz : (Tryd.prog.info? 5).map (·.size) = some 1 := rfl
  have hx : (cellsOf xs).length = n := by rw [cellsOf_len, hl]
  have hr := run_copy_row Tryd.prog W dT sT ty _ g off n dCap ⟨b, o', none⟩ n c L.toArray t (cellsOf xs) hu hsz hg (by rw [hx]; exact (Nat.min_self n).symm) (fun j v hv => by
    have hj : j < n := by
      have := (List.getElem?_eq_some_iff.1 hv).1
      rwa [hx] at this
    rw [cellsOf_get (by omega)] at hv
    injection hv with hv
    subst hv
    have : (⟨b, o', none⟩ : Addr).add j = ⟨b, o' + j, none⟩ := by unfold Addr.add; split <;> simp_all
    rw [this]
    exact hcl j (by omega)) (by rw [hx, List.size_toArray, hL]; simp; omega) (fun v hv => by
    obtain ⟨j, _, rfl⟩ := List.mem_map.1 hv
    rfl)
  have he : (L.toArray.toList.take off ++ cellsOf xs ++ L.toArray.toList.drop (off + (cellsOf xs).length)) = p ++ (cellsOf xs ++ q) := by
    rw [hx, hL, ← hp, ← hy]
    simp [List.take_append, List.drop_append]
  rw [he, hx] at hr
  rw [hr]
  exact H
end Go.Proofs.YtbkmnmhfjgmoiaaDoor
end
