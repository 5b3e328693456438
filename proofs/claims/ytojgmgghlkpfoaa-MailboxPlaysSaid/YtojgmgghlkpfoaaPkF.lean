import Derived.Test.YtojgmgghlkpfoaaEnvB
import Derived.Recover
import Derived.WalkLawsBesides
import Derived.Test.YtojgmgghlkpfoaaBase
import Derived.Test.YtojgmgghlkpfoaaPkG
import Derived.Test.YtojgmgghlkpfoaaPkH
import Derived.Test.YtojgmgghlkpfoaaSeq
import Derived.Test.YtojgmgghlkpfoaaRowOps
section
/-
  Reading a head: what panics (head.demand, take), and the number of a fault (errnoOf).
-/
namespace Go.Proofs.Ytojgmgghlkpfoaa
open Go.ChangeShapes Go.WideShapes Go.ChangeAt Go.RowKit Go.Deep
set_option maxRecDepth 100000

/-- a fault's own entry -/
def faultE (n : Int) : PanicEntry := { v := .iface 28 (.int .i64 n), recovered := false }
theorem demand_ok {w : World} : Calls Try.prog 38 #[.bool true] w fun e w' => e = .returned (.tuple #[]) ∧ Ext w w' := by
  go_enter Try.func38, Try.ntmps38
  go_wp2_with fail
  go_end0
  exact ⟨rfl, Ext.refl _⟩
theorem demand_bad {w : World} : Calls Try.prog 38 #[.bool false] w fun e w' => e = .panicked [faultE 2] ∧ Ext w w' := by
  go_enter Try.func38, Try.ntmps38
  go_wp2_with fail
  exact ⟨rfl, rfl, Ext.refl _⟩
theorem assert_errno (n : Int) (w : World) : (Instr.typeAssert (.iface 28 (.int .i64 n)) 20 28 true).run Try.prog w = .ok (.tuple #[.int .i64 n, .bool true]) w := by kernel_rfl
theorem errnoOf_calls {w : World} {n : Int} : Calls Try.prog 35 #[.iface 28 (.int .i64 n)] w fun e w' => e = .returned (.int .i64 n) ∧ Ext w w' := by
  have hta := assert_errno
  go_enter Try.func35, Try.ntmps35
  go_wp2_with fail
  go_ret
  exact ⟨rfl, Ext.refl _⟩
set_option maxHeartbeats 1000000 in
theorem take_short {w : World} {g n c : Nat} {k : Nat} {A : Option Addr} (h : Cb w g 73 [.slice A n c]) (hk : n < k) (hb : k ≤ 1000000) : Calls Try.prog 45 #[.pointer (some ⟨g, 0, none⟩), .int .i64 (k : Int)] w fun e w' => e = .panicked [faultE 3] ∧ Ext w w' := by
  have c0 := h.cell (j := 0) rfl
  have u1 : decide ((n : Int) < (k : Int)) = true := decide_eq_true (by omega)
  replace h := Lib.hid h
  go_enter Try.func45, Try.ntmps45
  go_wp2_with fail
  exact ⟨rfl, rfl, Ext.refl _⟩
end Go.Proofs.Ytojgmgghlkpfoaa
end

section
/-
  The bytes behind the first k of a slice.
-/
namespace Go.Proofs.Ytojgmgghlkpfoaa
open Go.ChangeShapes Go.WideShapes Go.ChangeAt Go.RowKit Go.Deep

theorem Bs.cut {w : World} {A : Option Addr} {n c k : Nat} {xs : List UInt8} (h : Bs w A n c xs) (hk : k ≤ n) : Bs w (if c = k then A else A.map (·.add k)) (n - k) (c - k) (xs.drop k) := by
  have h1 := h.le
  have h2 := h.2.2.1
  refine ⟨by rw [List.length_drop, h.len], by omega, by omega, fun h0 => ?_⟩
  obtain ⟨b, off, rfl, hb, hc⟩ := h.pos (by omega)
  rw [if_neg (by omega)]
  refine ⟨b, off + k, ?_, hb, fun j hj => ?_⟩
  · by_cases hk0 : k = 0
    · subst hk0; simp [Addr.add]
    · simp [Addr.add, hk0]
  · rw [bt_drop, Nat.add_assoc]
    exact hc (k + j) (by omega)
theorem Bs.recap {w : World} {A : Option Addr} {n c c2 : Nat} {xs : List UInt8} (h : Bs w A n c xs) (h2 : n ≤ c2) (hm : c2 ≤ 9223372036854775807 := by omega) : Bs w A n c2 xs := ⟨h.1, h2, hm, h.2.2.2⟩
theorem Bs.cutAt {w : World} {b off n c k : Nat} {xs : List UInt8} (h : Bs w (some ⟨b, off, none⟩) n c xs) (hk : k < n) : Bs w (some ⟨b, off + k, none⟩) (n - k) (c - k) (xs.drop k) := by
  have h1 := h.cut (Nat.le_of_lt hk)
  have h2 := h.le
  rw [if_neg (by omega)] at h1
  have : (some (⟨b, off, none⟩ : Addr)).map (·.add k) = some ⟨b, off + k, none⟩ := by
    by_cases hk0 : k = 0
    · subst hk0; simp [Addr.add]
    · simp [Addr.add, hk0]
  rwa [this] at h1
theorem size8 : (Try.prog.info? 5).map (·.size) = some 1 := by kernel_rfl
/-- 's[k:]'. -/
theorem wpList_cut {w : World} {ops : Array Oper} {rest : List Oper} {o : Oper} {a : Act} {Q : Exit → Act → World → Prop} (hgd : o.guard = none) {x lo : Operand} {A : Option Addr} {n c k : Nat} {kd : IntKind} {z : Int}
    (ho : o.op = .slice 26 x (some lo) none none) (hx : a.eval x = .slice A n c) (hl : a.eval lo = .int kd z) (hz : z = (k : Int)) (hk : k ≤ n) (hnc : n ≤ c)
    (hK : ∀ A', (∀ w0 xs, Bs w0 A n c xs → Bs w0 A' (n - k) (c - k) (xs.drop k)) → wpList Try.prog ops Q rest (a.put o.dst (.slice A' (n - k) (c - k))) w) : wpList Try.prog ops Q (o :: rest) a w := by
  subst hz
  refine wpList_plain hgd fun K hK' => ?_
  have hr : (Instr.slice 26 (.slice A n c) (some (.int kd (k : Int))) none none).run Try.prog w = .ok (.slice (if c = k then A else A.map (·.add k)) (n - k) (c - k)) w := by
    obtain ⟨i, hi, hsz⟩ := Option.map_eq_some_iff.1 size8
    simp [Instr.slice, run_underlying Try.underlying26, Instr.sliceBounds, Instr.sliceBound, asIntOf, sizeOf, typeInfo, hi, hsz]
    intro hlt
    omega
  have hop : (execOp a.eval o).run Try.prog w = .ok (.value (.slice (if c = k then A else A.map (·.add k)) (n - k) (c - k))) w := by
    obtain ⟨dst, op, ty, pos, af, gd⟩ := o
    simp only at ho
    subst ho
    simp only [execOp, hx, hl, Option.map, Instr.sliceAt]
    go_simp
    cases A <;> rfl
  unfold Oper.wp
  rw [hop]
  exact hK' _ _ (hK _ (fun w0 xs h => h.cut hk))
/-- 's[k:h]'. -/
theorem wpList_cut2 {w : World} {ops : Array Oper} {rest : List Oper} {o : Oper} {a : Act} {Q : Exit → Act → World → Prop} (hgd : o.guard = none) {x lo hi : Operand} {A : Option Addr} {n c k h : Nat} {kd kd' : IntKind} {z : Int}
    (ho : o.op = .slice 26 x (some lo) (some hi) none) (hx : a.eval x = .slice A n c) (hl : a.eval lo = .int kd (k : Int)) (hh : a.eval hi = .int kd' z) (hz : z = (h : Int)) (hk : k ≤ h) (hhn : h ≤ n) (hnc : n ≤ c)
    (hK : ∀ A', (∀ w0 xs, Bs w0 A n c xs → Bs w0 A' (h - k) (c - k) ((xs.take h).drop k)) → wpList Try.prog ops Q rest (a.put o.dst (.slice A' (h - k) (c - k))) w) : wpList Try.prog ops Q (o :: rest) a w := by
  refine wpList_plain hgd fun K hK' => ?_
  have hop : (execOp a.eval o).run Try.prog w = .ok (.value (.slice (if c = k then A else A.map (·.add k)) (h - k) (c - k))) w := by
    obtain ⟨dst, op, ty, pos, af, gd⟩ := o
    simp only at ho
    subst ho hz
    obtain ⟨i, hi', hsz⟩ := Option.map_eq_some_iff.1 size8
    have q1 : (k : Int) ≤ (h : Int) := by omega
    have q2 : (h : Int) ≤ (c : Int) := by omega
    simp only [execOp, hx, hl, hh, Option.map, Instr.sliceAt]
    go_simp
    cases A <;> rfl
  unfold Oper.wp
  rw [hop]
  exact hK' _ _ (hK _ (fun w0 xs hb => (hb.take hhn).cut hk))
end Go.Proofs.Ytojgmgghlkpfoaa
end

section
/-
  's[k:]' and 's[:k]' as operations of a region.
-/
namespace Go.Proofs.Ytojgmgghlkpfoaa
open Go.ChangeShapes Go.WideShapes Go.ChangeAt Go.RowKit Go.Deep

theorem exec_from {w : World} {o : Oper} {a : Act} {x lo : Operand} {A : Option Addr} {n c k : Nat} {kd : IntKind} (ho : o.op = .slice 26 x (some lo) none none) (hx : a.eval x = .slice A n c) (hl : a.eval lo = .int kd (k : Int)) (hk : k ≤ n) (hnc : n ≤ c) :
    (execOp a.eval o).run Try.prog w = .ok (.value (.slice (if c = k then A else A.map (·.add k)) (n - k) (c - k))) w := by
  obtain ⟨dst, op, ty, pos, af, gd⟩ := o
  simp only at ho
  subst ho
  obtain ⟨i, hi', hsz⟩ := Option.map_eq_some_iff.1 size8
  have q1 : (k : Int) ≤ (n : Int) := by omega
  simp only [execOp, hx, hl, Option.map, Instr.sliceAt]
  go_simp
  cases A <;> rfl
theorem exec_to {w : World} {o : Oper} {a : Act} {x hi : Operand} {A : Option Addr} {n c k : Nat} {kd : IntKind} (ho : o.op = .slice 26 x none (some hi) none) (hx : a.eval x = .slice A n c) (hl : a.eval hi = .int kd (k : Int)) (hk : k ≤ c) :
    (execOp a.eval o).run Try.prog w = .ok (.value (.slice A k c)) w := by
  obtain ⟨dst, op, ty, pos, af, gd⟩ := o
  simp only at ho
  subst ho
  obtain ⟨i, hi', hsz⟩ := Option.map_eq_some_iff.1 size8
  have q1 : (k : Int) ≤ (c : Int) := by omega
  have q2 : (if c = 0 then A else A.map (·.add 0)) = A := by
    split
    · rfl
    · cases A <;> simp [Addr.add]
  simp only [execOp, hx, hl, Option.map, Instr.sliceAt]
  go_simp
end Go.Proofs.Ytojgmgghlkpfoaa
end

section
/-
  Reading a head: take, where there is enough.
-/
namespace Go.Proofs.Ytojgmgghlkpfoaa
open Go.ChangeShapes Go.WideShapes Go.ChangeAt Go.RowKit Go.Deep
set_option maxRecDepth 100000

theorem grown_setCell8 {w : World} {g o : Nat} {v : Value} : w.grownBy (w.setCell ⟨g, o, none⟩ v) (some g) := grown_setCells (w := w) (g := g) (o := o) (vs := [v])
theorem Bs.cell1 {w : World} {A : Option Addr} {n c g : Nat} {xs : List UInt8} {T : TypeId} {v u : Value} (h : Bs w A n c xs) (hg : Cb w g T [v]) (hv : ∀ k i, v ≠ .int k i) : Bs (w.setCell ⟨g, 0, none⟩ u) A n c xs := by
  refine ⟨h.1, h.2.1, h.2.2.1, fun h0 => ?_⟩
  obtain ⟨b, off, hA, hb, hc⟩ := h.2.2.2 h0
  have gr : w.grownBy (w.setCell ⟨g, 0, none⟩ u) (some g) := grown_setCell8
  have hne : b ≠ g := by
    intro q
    subst q
    have h1 := hc 0 h0
    rw [cell_of_row w b _ _ _ _ hg, List.getElem?_toArray] at h1
    match off, h1 with
    | 0, h1 => simp at h1; exact hv _ _ h1
    | k + 1, h1 => simp at h1
  have hq := gr.block b hb (fun q => hne (Option.some.inj q))
  refine ⟨b, off, hA, Nat.lt_of_lt_of_le hb gr.size, fun j hj => ?_⟩
  rw [← hc j hj]
  simp only [World.cell?, hq]
theorem Bs.grown {w w' : World} {A : Option Addr} {n c g : Nat} {xs : List UInt8} {T : TypeId} {v : Value} (h : Bs w A n c xs) (hg : Cb w g T [v]) (hv : ∀ k i, v ≠ .int k i) (gr : w.grownBy w' (some g)) : Bs w' A n c xs := by
  refine ⟨h.1, h.2.1, h.2.2.1, fun h0 => ?_⟩
  obtain ⟨b, off, hA, hb, hc⟩ := h.2.2.2 h0
  have hne : b ≠ g := by
    intro q
    subst q
    have h1 := hc 0 h0
    rw [cell_of_row w b _ _ _ _ hg, List.getElem?_toArray] at h1
    match off, h1 with
    | 0, h1 => simp at h1; exact hv _ _ h1
    | k + 1, h1 => simp at h1
  have hq := gr.block b hb (fun q => hne (Option.some.inj q))
  refine ⟨b, off, hA, Nat.lt_of_lt_of_le hb gr.size, fun j hj => ?_⟩
  rw [← hc j hj]
  simp only [World.cell?, hq]
set_option maxHeartbeats 2000000 in
theorem take_ok {w : World} {g n c k : Nat} {A : Option Addr} {xs : List UInt8} (h : Cb w g 73 [.slice A n c]) (hb : Bs w A n c xs) (hk : k ≤ n) (hm : k ≤ 1000000) :
    Calls Try.prog 45 #[.pointer (some ⟨g, 0, none⟩), .int .i64 (k : Int)] w fun e w' => e = .returned (.slice A k c) ∧ ∃ A', Cb w' g 73 [.slice A' (n - k) (c - k)] ∧ Bs w' A k c (xs.take k) ∧ Bs w' A' (n - k) (c - k) (xs.drop k) ∧ w.grownBy w' (some g) ∧ (∀ s, Bs s A n c xs → Bs s A' (n - k) (c - k) (xs.drop k)) := by
  have c0 := h.cell (j := 0) rfl
  have fz := h.frozen 0
  have u1 : decide ((n : Int) < (k : Int)) = false := decide_eq_false (by omega)
  have hnc := hb.2.1
  have hbt : Bs w A k c (xs.take k) := ⟨by rw [List.length_take, hb.1]; omega, by omega, hb.2.2.1, fun h0 => by
    obtain ⟨b, off, hA, hbl, hc⟩ := hb.2.2.2 (by omega)
    exact ⟨b, off, hA, hbl, fun j hj => by rw [hc j (by omega)]; congr 3; simp [bt, List.getD, hj]⟩⟩
  have fin : Hid (∀ (A' : Option Addr), A' = (if c = k then A else A.map (·.add k)) → Cb (w.setCell ⟨g, 0, none⟩ (.slice A' (n - k) (c - k))) g 73 [.slice A' (n - k) (c - k)] ∧ Bs (w.setCell ⟨g, 0, none⟩ (.slice A' (n - k) (c - k))) A k c (xs.take k) ∧ Bs (w.setCell ⟨g, 0, none⟩ (.slice A' (n - k) (c - k))) A' (n - k) (c - k) (xs.drop k) ∧ w.grownBy (w.setCell ⟨g, 0, none⟩ (.slice A' (n - k) (c - k))) (some g) ∧ (∀ s, Bs s A n c xs → Bs s A' (n - k) (c - k) (xs.drop k))) := fun A' hA' => by
    subst hA'
    exact ⟨h.setCell, hbt.cell1 h (fun k i q => by cases q), (hb.cut hk).cell1 h (fun k i q => by cases q), grown_setCell8, fun s q => q.cut hk⟩
  clear hbt
  clear h hb
  by_cases hck : c = k
  · subst hck
    obtain rfl : n = c := by omega
    have f := fin.out A (if_pos rfl).symm
    simp only [Nat.sub_self] at f
    replace f := Lib.hid f
    clear fin
    go_enter Try.func45, Try.ntmps45
    go_wp2_with fail
    go_ret
    exact ⟨rfl, A, by simp only [Nat.sub_self]; exact f.out⟩
  · have f := Lib.hid (fin.out (A.map (·.add k)) (if_neg hck).symm)
    clear fin
    go_enter Try.func45, Try.ntmps45
    go_wp2_with fail
    go_ret
    exact ⟨rfl, A.map (·.add k), f.out⟩
end Go.Proofs.Ytojgmgghlkpfoaa
end

section
/-
  Reading a head: number and end.
-/
namespace Go.Proofs.Ytojgmgghlkpfoaa
open Go.ChangeShapes Go.WideShapes Go.ChangeAt Go.RowKit Go.Deep
set_option maxRecDepth 100000

def numN (xs : List UInt8) (k : Nat) : Nat := ofLowL (xs.take k).reverse
set_option maxHeartbeats 2000000 in
theorem number_ok {w : World} {g n c k : Nat} {A : Option Addr} {xs : List UInt8} (h : Cb w g 73 [.slice A n c]) (hb : Bs w A n c xs) (hk : k ≤ n) (hm : k ≤ 4) (hv : numN xs k < 4294967296) :
    Calls Try.prog 43 #[.pointer (some ⟨g, 0, none⟩), .int .i64 (k : Int)] w fun e w' => e = .returned (.int .i64 (numN xs k : Int)) ∧ ∃ A', Cb w' g 73 [.slice A' (n - k) (c - k)] ∧ Bs w' A' (n - k) (c - k) (xs.drop k) ∧ w.grownBy w' (some g) ∧ (∀ s, Bs s A n c xs → Bs s A' (n - k) (c - k) (xs.drop k)) := by
  have TK := Lib.hid (take_ok h hb hk (by omega))
  have OH : Hid (∀ (W : World), Bs W A k c (xs.take k) → Calls Try.prog 52 #[.slice A k c] W fun e w' => e = .returned (.int .u64 (numN xs k : Int)) ∧ Ext W w') := fun W q => by
    have := ofHigh_calls (m := k) q (by omega) (Nat.le_refl _) (if_neg (by omega))
    rw [List.take_of_length_le (by rw [List.length_take]; omega)] at this
    exact this
  generalize numN xs k = v at *
  have u1 : IntKind.i64.wrap (v : Int) = (v : Int) := IntWalk.i64_in _ (by omega)
  clear h hb
  go_enter Try.func43, Try.ntmps43
  go_wp2_with fail
  refine TK.out.mono ?_
  rintro e w1 ⟨rfl, A', k1, b1, b2, g1, cut_⟩
  have OK := Lib.hid (OH.out _ b1)
  replace k1 := Lib.hid k1
  replace b2 := Lib.hid b2
  replace g1 := Lib.hid g1
  replace cut_ := Lib.hid cut_
  clear TK OH b1
  go_wp2_with fail
  refine OK.out.mono ?_
  rintro e w2 ⟨rfl, e2⟩
  have f : Hid (Cb w2 g 73 [.slice A' (n - k) (c - k)] ∧ Bs w2 A' (n - k) (c - k) (xs.drop k) ∧ w.grownBy w2 (some g)) := ⟨k1.out.ext e2, b2.out.ext e2, grown_trans' g1.out ⟨e2.os, e2.tape, e2.output, e2.size, fun i hi _ => e2.block i hi⟩⟩
  clear OK k1 b2 g1 e2
  go_wp2_with fail
  go_ret
  exact ⟨rfl, A', f.out.1, f.out.2.1, f.out.2.2, cut_.out⟩
theorem end_ok {w : World} {g c : Nat} {A : Option Addr} (h : Cb w g 73 [.slice A 0 c]) : Calls Try.prog 37 #[.pointer (some ⟨g, 0, none⟩)] w fun e w' => e = .returned (.tuple #[]) ∧ Ext w w' := by
  have c0 := h.cell (j := 0) rfl
  have DM := Lib.hid (fun (W : World) => demand_ok (w := W))
  clear h
  go_enter Try.func37, Try.ntmps37
  go_wp2_with fail
  refine (DM.out _).mono ?_
  rintro e w1 ⟨rfl, e1⟩
  go_wp2_with fail
  go_end0
  exact ⟨rfl, e1⟩
theorem end_bad {w : World} {g n c : Nat} {A : Option Addr} (h : Cb w g 73 [.slice A n c]) (hn : 0 < n) : Calls Try.prog 37 #[.pointer (some ⟨g, 0, none⟩)] w fun e w' => e = .panicked [faultE 2] ∧ Ext w w' := by
  have c0 := h.cell (j := 0) rfl
  have DM := Lib.hid (fun (W : World) => demand_bad (w := W))
  have u1 : ((n : Int) == 0) = false := by simp; omega
  have u2 : ¬ n = 0 := by omega
  clear h
  go_enter Try.func37, Try.ntmps37
  go_wp2_with fail
  refine (DM.out _).mono ?_
  rintro e w1 ⟨rfl, e1⟩
  exact ⟨rfl, rfl, e1⟩
end Go.Proofs.Ytojgmgghlkpfoaa
end

section
/-
  Reading a head: key.
-/
namespace Go.Proofs.Ytojgmgghlkpfoaa
open Go.ChangeShapes Go.WideShapes Go.ChangeAt Go.RowKit Go.Deep
set_option maxRecDepth 100000

theorem Two.grown {g g' : Nat} {a b : World} (h : a.grownBy b (some g)) : Two g g' a b := ⟨h.os, h.tape, h.output, h.size, fun i hi h1 _ => h.block i hi (fun q => h1 (Option.some.inj q))⟩
set_option maxHeartbeats 4000000 in
theorem key_ok {w : World} {g n c : Nat} {A : Option Addr} {xs : List UInt8} (h : Cb w g 73 [.slice A n c]) (hb : Bs w A n c xs) (hk : 32 ≤ n) :
    Calls Try.prog 44 #[.pointer (some ⟨g, 0, none⟩)] w fun e w' => e = .returned (.agg (cellsOf (xs.take 32)).toArray) ∧ ∃ A', Cb w' g 73 [.slice A' (n - 32) (c - 32)] ∧ Bs w' A' (n - 32) (c - 32) (xs.drop 32) ∧ w.grownBy w' (some g) ∧ (∀ s, Bs s A n c xs → Bs s A' (n - 32) (c - 32) (xs.drop 32)) := by
  have TK : Hid (∀ (W : World), Ext w W → Calls Try.prog 45 #[.pointer (some ⟨g, 0, none⟩), .int .i64 32] W fun e w' => e = .returned (.slice A 32 c) ∧ ∃ A', Cb w' g 73 [.slice A' (n - 32) (c - 32)] ∧ Bs w' A 32 c (xs.take 32) ∧ Bs w' A' (n - 32) (c - 32) (xs.drop 32) ∧ W.grownBy w' (some g) ∧ (∀ s, Bs s A n c xs → Bs s A' (n - 32) (c - 32) (xs.drop 32))) := fun W e => take_ok (k := 32) (h.ext e) (hb.ext e) hk (by omega)
  have glt := h.lt
  have BG : Hid (∀ s, w.grownBy s (some g) → Bs s A n c xs) := fun s q => hb.grown h (fun k i q => by cases q) q
  have hal := key_alloc
  have hz0 := zeros32_size
  generalize zeros32 = Z at *
  have L_t : (xs.take 32).length = 32 := by rw [List.length_take, hb.1]; omega
  generalize xs.take 32 = kk at *
  generalize xs.drop 32 = tl at *
  have S_k : (cellsOf kk).toArray.size = 32 := by simp [cellsOf_len, L_t]
  have O_k := cellsOf_one kk
  obtain ⟨r, hr⟩ : ∃ r, r = w.heap.size := ⟨_, rfl⟩
  have B0 : Hid (((w.alloc (Obj.cells Z 23)).alloc (Obj.cells Z 23)).heap[r]? = some (.cells Z 23 (0, 0)) ∧ ((w.alloc (Obj.cells Z 23)).alloc (Obj.cells Z 23)).heap[r + 1]? = some (.cells Z 23 (0, 0)) ∧ Ext w ((w.alloc (Obj.cells Z 23)).alloc (Obj.cells Z 23))) := by
    rw [hr]; exact ⟨heap_alloc1 _ _ _, heap_alloc2 _ _ _, ((Ext.refl w).alloc _).alloc _⟩
  clear h hb
  go_enter Try.func44, Try.ntmps44
  go_upto_region 2 with fail
  refine wp_gen (fun W => W.heap[r]? = some (.cells Z 23 (0, 0)) ∧ W.heap[r + 1]? = some (.cells Z 23 (0, 0)) ∧ Ext w W) B0.out ?_
  rw [← hr]
  have gr_ : g < r := by rw [hr]; exact glt
  have wr : w.heap.size ≤ r := Nat.le_of_eq hr.symm
  clear B0
  replace hr := Lib.hid hr
  rintro w0 ⟨b0, b1, x0⟩
  have TK0 := Lib.hid (TK.out w0.drew x0.drew)
  replace b0 : Hid (w0.drew.heap[r]? = some (.cells Z 23 (0, 0))) := b0
  replace b1 : Hid (w0.drew.heap[r + 1]? = some (.cells Z 23 (0, 0))) := b1
  have x0' : Hid (Ext w w0.drew) := x0.drew
  clear TK x0
  refine wp_region_seq (R := Two g (r + 1)) (Two.refl _ _) (fun _ _ _ => Two.trans) [0, 1, 2, 3] [2, 3] [(0, 5, 16), (0, 6, 2), (2, 7, 64), (5, 8, 160)] (by kernel_rfl) (by kernel_rfl) (by kernel_rfl) rfl (by kernel_rfl) (by kernel_rfl) (fun _ _ d _ _ h => by cases d <;> exact h) ?_
  repeat (first | (refine seq_read (fun _ => True) (fun _ _ => trivial) _ (v := ?_) rfl rfl (by rfl) ?_ ?_; rotate_left; (· intro w' hF; go_simp; (try with_reducible rfl)); simp only [Act.put, List.setIfInBounds_toArray, List.set_cons_zero, List.set_cons_succ]) | (refine seq_skip _ rfl rfl (by rfl) ?_; simp only [Act.put, List.setIfInBounds_toArray, List.set_cons_zero, List.set_cons_succ]))
  generalize w0.drew = W at *
  refine seq_do _ rfl rfl (by rfl) (fun K hK => ?_)
  go_simp
  refine TK0.out.mono ?_
  rintro e0 w1 ⟨rfl, A', k1, t1, d1, g1, cut_⟩
  refine hK.out _ _ (Two.grown g1) ?_
  clear hK K
  try simp only [Act.put, List.setIfInBounds_toArray, List.set_cons_zero, List.set_cons_succ]
  have ba : Hid (w1.heap[r]? = some (.cells Z 23 (0, 0))) := (g1.block _ (heap_lt b0.out) (fun q => by have := Option.some.inj q; omega)).trans b0.out
  have bb : Hid (w1.heap[r + 1]? = some (.cells Z 23 (0, 0))) := (g1.block _ (heap_lt b1.out) (fun q => by have := Option.some.inj q; omega)).trans b1.out
  have x1 : Hid (w.grownBy w1 (some g)) := grown_trans' ⟨x0'.out.os, x0'.out.tape, x0'.out.output, x0'.out.size, fun i hi _ => x0'.out.block i hi⟩ g1
  have t1' := Lib.hid t1
  replace k1 := Lib.hid k1
  replace cut_ := Lib.hid cut_
  clear g1 d1 t1 x0' b0 b1 TK0
  refine seq_do _ rfl rfl (by rfl) (fun K hK => ?_)
  go_simp
  refine upon_copy_keyK (xs := kk) rfl bb.out t1'.out (Nat.le_refl _) hz0 ?_
  rw [List.take_of_length_le (show kk.length ≤ 32 by omega)]
  refine hK.out _ _ (Two.row' _ _) ?_
  clear hK K
  try simp only [Act.put, List.setIfInBounds_toArray, List.set_cons_zero, List.set_cons_succ]
  have f0 : Hid ((w1.setRow (r + 1) (cellsOf kk).toArray).heap[r]? = some (.cells Z 23 (0, 0))) := (setRow_other _ _ _ _ (by omega)).trans ba.out
  have f1 : Hid ((w1.setRow (r + 1) (cellsOf kk).toArray).heap[r + 1]? = some (.cells (cellsOf kk).toArray 23 (0, 0))) := setRow_heap _ _ _ _ _ _ bb.out
  have f2 : Hid (Cb (w1.setRow (r + 1) (cellsOf kk).toArray) g 73 [.slice A' (n - 32) (c - 32)]) := k1.out.row (by omega)
  have f3 : Hid (w.grownBy (w1.setRow (r + 1) (cellsOf kk).toArray) (some g)) := ⟨x1.out.os, x1.out.tape, x1.out.output, by simpa using x1.out.size, fun i hi hne => (setRow_other _ _ _ _ (by omega)).trans (x1.out.block i hi hne)⟩
  clear ba bb x1 t1' k1
  refine seq_done ?_
  refine gen_q (fun W => W.heap[r]? = some (.cells Z 23 (0, 0)) ∧ W.heap[r + 1]? = some (.cells (cellsOf kk).toArray 23 (0, 0)) ∧ Cb W g 73 [.slice A' (n - 32) (c - 32)] ∧ w.grownBy W (some g)) ⟨f0.out, f1.out, f2.out, f3.out⟩ ?_
  clear f0 f1 f2 f3
  rintro w3 ⟨f0, f1, f2, f3⟩
  replace f0 := Lib.hid f0
  replace f1 := Lib.hid f1
  have F : Hid (Cb (w3.setRow r (cellsOf kk).toArray) g 73 [.slice A' (n - 32) (c - 32)] ∧ w.grownBy (w3.setRow r (cellsOf kk).toArray) (some g)) := ⟨f2.row (by omega), ⟨f3.os, f3.tape, f3.output, by simpa using f3.size, fun i hi hne => (setRow_other _ _ _ _ (by omega)).trans (f3.block i hi hne)⟩⟩
  have FB : Hid (Bs (w3.setRow r (cellsOf kk).toArray) A' (n - 32) (c - 32) tl) := cut_.out _ (BG.out _ F.out.2)
  clear f2 f3
  go_wp2_with (first
    | (refine wpList_load_row rfl 23 _ rfl (r + 1) rfl 23 (cellsOf kk).toArray (0, 0) _ f1.out rfl rfl (by rw [S_k]; rfl) ?_; simp only [Act.put, List.setIfInBounds_toArray, List.set_cons_zero, List.set_cons_succ])
    | (refine wpList_store_row rfl 23 _ _ rfl r (cellsOf kk).toArray rfl rfl 23 Z f0.out (by rw [S_k]; rfl) (by rw [S_k, hz0]) O_k ?_; simp only [Act.put]))
  (try simp only [Exit.inBlock, Exit.then])
  refine bodyPost_ret (results_cell_row rfl _ _ r 23 (cellsOf kk).toArray (0, 0) _ rfl (setRow_heap _ _ _ _ _ _ f0.out) rfl rfl (by rw [S_k]; rfl)) rfl ?_
  exact ⟨rfl, A', F.out.1, FB.out, F.out.2, cut_.out⟩
end Go.Proofs.Ytojgmgghlkpfoaa
end
