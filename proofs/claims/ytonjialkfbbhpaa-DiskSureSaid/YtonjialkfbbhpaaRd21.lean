/-
  The document's disk: its state; New, burn, Fuse.
-/
import Derived.Test.YtonjialkfbbhpaaDkP
import Derived.Test.YtonjialkfbbhpaaOt
namespace Go.Proofs.Ytonjialkfbbhpaa
open Go.ChangeShapes Go.WideShapes Go.ChangeAt Go.RowKit Go.Deep Go.Maps
set_option maxRecDepth 100000

def Ds.lit (d : Ds) : Int := if d.hf then d.f else -1
def Ds.isC (d : Ds) : List Value := (List.range d.S.length).map fun i => Value.bool (d.N i).isSome
theorem isC_len (d : Ds) : d.isC.length = d.S.length := by simp [Ds.isC]
theorem isC_at {d : Ds} {i : Nat} (h : i < d.S.length) : d.isC[i]? = some (.bool (d.N i).isSome) := by simp [Ds.isC, h]
def Ds.rcells (d : Ds) (r n i : Nat) : List Value := [.slice (some ⟨r, 0, none⟩) d.S.length d.S.length, .slice (some ⟨n, 0, none⟩) d.S.length d.S.length, .slice (some ⟨i, 0, none⟩) d.S.length d.S.length, .int .i64 d.lit, .bool d.dd]
/-- The document's disk at block g, with its three rows. -/
structure RD (w : World) (g r n i : Nat) (d : Ds) (X : List (List UInt8)) : Prop where
  cb : Cb w g 96 (d.rcells r n i)
  sr : Cb w r 61 (d.S.map cellsOf).flatten
  nr : Cb w n 61 (X.map cellsOf).flatten
  ir : Cb w i 4 d.isC
  ne : r ≠ n
  ok : d.ok
  xl : X.length = d.S.length
  xs : ∀ x ∈ X, x.length = 64
  xn : ∀ j s, d.N j = some s → X.getD j [] = s
section
variable {w w' : World} {g r n i : Nat} {d : Ds} {X : List (List UInt8)}
theorem RD.stay (h : RD w g r n i d X) (hg : w'.heap[g]? = w.heap[g]?) (hr : w'.heap[r]? = w.heap[r]?) (hn : w'.heap[n]? = w.heap[n]?) (hi : w'.heap[i]? = w.heap[i]?) : RD w' g r n i d X := ⟨hg.trans h.cb, hr.trans h.sr, hn.trans h.nr, hi.trans h.ir, h.ne, h.ok, h.xl, h.xs, h.xn⟩
theorem RD.ext (h : RD w g r n i d X) (x : Ext w w') : RD w' g r n i d X := h.stay (x.block _ h.cb.lt) (x.block _ h.sr.lt) (x.block _ h.nr.lt) (x.block _ h.ir.lt)
theorem RD.gr (h : RD w g r n i d X) : g ≠ r := cb_differ h.cb h.sr (by decide)
theorem RD.gn (h : RD w g r n i d X) : g ≠ n := cb_differ h.cb h.nr (by decide)
theorem RD.gi (h : RD w g r n i d X) : g ≠ i := cb_differ h.cb h.ir (by decide)
theorem RD.ri (h : RD w g r n i d X) : r ≠ i := cb_differ h.sr h.ir (by decide)
theorem RD.ni (h : RD w g r n i d X) : n ≠ i := cb_differ h.nr h.ir (by decide)
/-- The disk and the document's are apart. -/
theorem DK.apart {g' r' b : Nat} {d' : Ds} (k : DK w g' r' b d') (h : RD w g r n i d X) : (g ≠ g' ∧ g ≠ r' ∧ g ≠ b) ∧ (r ≠ g' ∧ r ≠ r' ∧ r ≠ b) ∧ (n ≠ g' ∧ n ≠ r' ∧ n ≠ b) ∧ (i ≠ g' ∧ i ≠ r' ∧ i ≠ b) := by
  obtain ⟨es, c, q⟩ := k.mp.obj
  have nb : ∀ {j : Nat} {t : TypeId} {C : List Value}, Cb w j t C → j ≠ b := fun {j t C} z e => by
    subst e
    unfold Cb at z
    rw [q] at z
    cases z
  exact ⟨⟨cb_differ h.cb k.cb (by decide), cb_differ h.cb k.row (by decide), nb h.cb⟩, ⟨cb_differ h.sr k.cb (by decide), cb_differ h.sr k.row (by decide), nb h.sr⟩, ⟨cb_differ h.nr k.cb (by decide), cb_differ h.nr k.row (by decide), nb h.nr⟩, ⟨cb_differ h.ir k.cb (by decide), cb_differ h.ir k.row (by decide), nb h.ir⟩⟩
/-- A cell of its own block turns. -/
theorem RD.cell {d' : Ds} (h : RD w g r n i d X) {o : Nat} {v : Value} (hc : (d.rcells r n i).set o v = d'.rcells r n i) (hS : d'.S = d.S) (hN : d'.N = d.N) (ok : d'.ok) : RD (w.setCell ⟨g, o, none⟩ v) g r n i d' X := by
  have e : d'.isC = d.isC := by unfold Ds.isC; rw [hS, hN]
  refine ⟨by rw [← hc]; exact h.cb.setCell, ?_, ?_, ?_, h.ne, ok, by rw [hS]; exact h.xl, h.xs, by rw [hN]; exact h.xn⟩
  · rw [hS]; exact (Below.heap_setCell _ _ _ _ (fun q => h.gr q.symm)).trans h.sr
  · exact (Below.heap_setCell _ _ _ _ (fun q => h.gn q.symm)).trans h.nr
  · rw [e]; exact (Below.heap_setCell _ _ _ _ (fun q => h.gi q.symm)).trans h.ir
end
theorem infoRS : (Try.prog.info? 61).map (fun i => (i.zero, i.size, i.bytes)) = some (some (.agg zS64.toArray), 64, (Try.prog.info? 61).elim 0 (·.bytes)) := by kernel_rfl
theorem bytesRS : (Try.prog.info? 61).elim 0 (·.bytes) ≤ 1000000 := by decide +kernel
theorem makeRS (n : Nat) (hn : n ≤ 1000) (w : World) :
    (Instr.makeSlice 94 (.int .i64 (n : Int)) (.int .i64 (n : Int))).run Try.prog w = .ok (.slice (some ⟨w.heap.size, 0, none⟩) n n) (w.alloc (.cells (List.replicate n zS64).flatten.toArray 61)) := by
  obtain ⟨i, hi, h0, h1, h2⟩ := info_parts infoRS
  have hb := bytesRS
  have hle : n * i.bytes ≤ 1000 * 1000000 := Nat.mul_le_mul hn (by rw [h2]; exact hb)
  have h4 : (i.bytes : Int) * (n : Int) ≤ 281474976710656 := by
    have h3 : ((n * i.bytes : Nat) : Int) ≤ 1000000000 := by omega
    rw [Int.natCast_mul, Int.mul_comm] at h3
    omega
  have := run_make (P := Try.prog) w 94 61 i (.agg zS64.toArray) Try.underlying94 hi h0 .i64 .i64 (n : Int) (n : Int) (by omega) (by omega) (by first | exact h4 | omega) (by omega)
  rw [this]
  simp only [Int.toNat_natCast]
  rw [h1, show (Value.agg zS64.toArray).cells = zS64.toArray from rfl, madeCells_flat64 zS64_len (by omega)]
theorem infoB21 : (Try.prog.info? 4).map (fun i => (i.zero, i.size, i.bytes)) = some (some (.bool false), 1, 1) := by kernel_rfl
theorem makeB21 (n : Nat) (hn : n ≤ 1000) (w : World) :
    (Instr.makeSlice 75 (.int .i64 (n : Int)) (.int .i64 (n : Int))).run Try.prog w = .ok (.slice (some ⟨w.heap.size, 0, none⟩) n n) (w.alloc (.cells (List.replicate n (Value.bool false)).toArray 4)) := by
  rw [run_make_row' _ _ _ 1 Try.underlying75 infoB21 rfl .i64 .i64 n (by omega) (by omega) w]
  congr 3
  apply Array.ext'
  rw [toList_madeCells_one]
theorem rnew_bad {w : World} {z : Int} (h : z < 1 ∨ 64 < z) : Calls Try.prog 22 #[.int .i64 z] w fun e w' => e = .returned (.tuple #[.pointer none, .int .i64 1]) ∧ Ext w w' := by
  by_cases h1 : z < 1
  · have u1 : decide (z < 1) = true := decide_eq_true h1
    clear h
    go_enter Try.func22, Try.ntmps22
    go_wp2_with fail
    go_ret2
    exact ⟨rfl, Ext.refl w⟩
  · have u1 : decide (z < 1) = false := decide_eq_false h1
    have h2 : 64 < z := h.resolve_left h1
    have u2 : decide (64 < z) = true := decide_eq_true h2
    clear h
    go_enter Try.func22, Try.ntmps22
    go_wp2_with fail
    go_ret2
    exact ⟨rfl, Ext.refl w⟩
end Go.Proofs.Ytonjialkfbbhpaa
