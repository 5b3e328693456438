/-
  The bytes behind the first k of a slice.
-/
import Derived.Test.YteaoacinhdjkeaaBase
namespace Go.Proofs.Yteaoacinhdjkeaa
open Go.ChangeShapes Go.WideShapes Go.ChangeAt Go.RowKit Go.Deep

theorem Bs.cut {w : World} {A : Option Addr} {n c k : Nat} {xs : List UInt8} (h : Bs w A n c xs) (hk : k ≤ n) : Bs w (if c = k then A else A.map (·.add k)) (n - k) (c - k) (xs.drop k) := by
  have h1 := h.le
  have h2 := h.2.2.1
  refine ⟨by rw [List.length_drop, h.len], by omega, by omega, fun h0 => ?_⟩
  obtain ⟨b, off, rfl, hb, hc⟩ := h.pos (by omega)
  rw [if_neg (by omega)]
  refine ⟨b, off + k, ?_, hb, fun j hj => ?_⟩
  · by_cases hk0 : k = 0
    · subst hk0; simp [Addr.add]
    · simp [Addr.add, hk0]
  · rw [bt_drop, Nat.add_assoc]
    exact hc (k + j) (by omega)
theorem Bs.recap {w : World} {A : Option Addr} {n c c2 : Nat} {xs : List UInt8} (h : Bs w A n c xs) (h2 : n ≤ c2) (hm : c2 ≤ 9223372036854775807 := by omega) : Bs w A n c2 xs := ⟨h.1, h2, hm, h.2.2.2⟩
theorem Bs.cutAt {w : World} {b off n c k : Nat} {xs : List UInt8} (h : Bs w (some ⟨b, off, none⟩) n c xs) (hk : k < n) : Bs w (some ⟨b, off + k, none⟩) (n - k) (c - k) (xs.drop k) := by
  have h1 := h.cut (Nat.le_of_lt hk)
  have h2 := h.le
  rw [if_neg (by omega)] at h1
  have : (some (⟨b, off, none⟩ : Addr)).map (·.add k) = some ⟨b, off + k, none⟩ := by
    by_cases hk0 : k = 0
    · subst hk0; simp [Addr.add]
    · simp [Addr.add, hk0]
  rwa [this] at h1
theorem size8 : (Try.prog.info? 5).map (·.size) = some 1 := by kernel_rfl
/-- 's[k:]'. -/
theorem wpList_cut {w : World} {ops : Array Oper} {rest : List Oper} {o : Oper} {a : Act} {Q : Exit → Act → World → Prop} (hgd : o.guard = none) {x lo : Operand} {A : Option Addr} {n c k : Nat} {kd : IntKind} {z : Int}
    (ho : o.op = .slice 37 x (some lo) none none) (hx : a.eval x = .slice A n c) (hl : a.eval lo = .int kd z) (hz : z = (k : Int)) (hk : k ≤ n) (hnc : n ≤ c)
    (hK : ∀ A', (∀ w0 xs, Bs w0 A n c xs → Bs w0 A' (n - k) (c - k) (xs.drop k)) → wpList Try.prog ops Q rest (a.put o.dst (.slice A' (n - k) (c - k))) w) : wpList Try.prog ops Q (o :: rest) a w := by
  subst hz
  refine wpList_plain hgd fun K hK' => ?_
  have hr : (Instr.slice 37 (.slice A n c) (some (.int kd (k : Int))) none none).run Try.prog w = .ok (.slice (if c = k then A else A.map (·.add k)) (n - k) (c - k)) w := by
    obtain ⟨i, hi, hsz⟩ := Option.map_eq_some_iff.1 size8
    simp [Instr.slice, run_underlying Try.underlying37, Instr.sliceBounds, Instr.sliceBound, asIntOf, sizeOf, typeInfo, hi, hsz]
    intro hlt
    omega
  have hop : (execOp a.eval o).run Try.prog w = .ok (.value (.slice (if c = k then A else A.map (·.add k)) (n - k) (c - k))) w := by
    obtain ⟨dst, op, ty, pos, af, gd⟩ := o
    simp only at ho
    subst ho
    simp only [execOp, hx, hl, Option.map, Instr.sliceAt]
    go_simp
    cases A <;> rfl
  unfold Oper.wp
  rw [hop]
  exact hK' _ _ (hK _ (fun w0 xs h => h.cut hk))
/-- 's[k:h]'. -/
theorem wpList_cut2 {w : World} {ops : Array Oper} {rest : List Oper} {o : Oper} {a : Act} {Q : Exit → Act → World → Prop} (hgd : o.guard = none) {x lo hi : Operand} {A : Option Addr} {n c k h : Nat} {kd kd' : IntKind} {z : Int}
    (ho : o.op = .slice 37 x (some lo) (some hi) none) (hx : a.eval x = .slice A n c) (hl : a.eval lo = .int kd (k : Int)) (hh : a.eval hi = .int kd' z) (hz : z = (h : Int)) (hk : k ≤ h) (hhn : h ≤ n) (hnc : n ≤ c)
    (hK : ∀ A', (∀ w0 xs, Bs w0 A n c xs → Bs w0 A' (h - k) (c - k) ((xs.take h).drop k)) → wpList Try.prog ops Q rest (a.put o.dst (.slice A' (h - k) (c - k))) w) : wpList Try.prog ops Q (o :: rest) a w := by
  refine wpList_plain hgd fun K hK' => ?_
  have hop : (execOp a.eval o).run Try.prog w = .ok (.value (.slice (if c = k then A else A.map (·.add k)) (h - k) (c - k))) w := by
    obtain ⟨dst, op, ty, pos, af, gd⟩ := o
    simp only at ho
    subst ho hz
    obtain ⟨i, hi', hsz⟩ := Option.map_eq_some_iff.1 size8
    have q1 : (k : Int) ≤ (h : Int) := by omega
    have q2 : (h : Int) ≤ (c : Int) := by omega
    simp only [execOp, hx, hl, hh, Option.map, Instr.sliceAt]
    go_simp
    cases A <;> rfl
  unfold Oper.wp
  rw [hop]
  exact hK' _ _ (hK _ (fun w0 xs hb => (hb.take hhn).cut hk))
end Go.Proofs.Yteaoacinhdjkeaa
