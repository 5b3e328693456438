/-
  disk.has, burn, Fuse.
-/
import Derived.Test.YteaoacinhdjkeaaDk
namespace Go.Proofs.Yteaoacinhdjkeaa
open Go.ChangeShapes Go.WideShapes Go.ChangeAt Go.RowKit Go.Deep Go.Maps
set_option maxRecDepth 100000

theorem dhas_calls {w : World} {g r b : Nat} {d : Ds} (h : DK w g r b d) {i : Int} : Calls Try.prog 51 #[.pointer (some ⟨g, 0, none⟩), .int .i64 i] w fun e w' => e = .returned (.bool (decide (0 ≤ i ∧ i < (d.S.length : Int)))) ∧ Ext w w' := by
  have c0 : w.cell? ⟨g, 0, none⟩ = some (.slice (some ⟨r, 0, none⟩) d.S.length d.S.length) := h.cb.cell rfl
  obtain ⟨m, hm⟩ : ∃ m, m = d.S.length := ⟨_, rfl⟩
  rw [← hm] at c0 ⊢
  clear h hm
  obtain ⟨res, hres⟩ : ∃ q, q = decide (0 ≤ i ∧ i < (m : Int)) := ⟨_, rfl⟩
  rw [← hres]
  rcases Decidable.em (0 ≤ i) with h0 | h0
  · have u1 : decide (0 ≤ i) = true := decide_eq_true h0
    rcases Decidable.em (i < (m : Int)) with h1 | h1
    · obtain rfl : res = true := by rw [hres]; exact decide_eq_true ⟨h0, h1⟩
      have u2 : decide (i < (m : Int)) = true := decide_eq_true h1
      clear hres
      go_enter Try.func51, Try.ntmps51
      go_wp2_with fail
      go_ret
      exact ⟨rfl, Ext.refl w⟩
    · obtain rfl : res = false := by rw [hres]; exact decide_eq_false (fun q => h1 q.2)
      have u2 : decide (i < (m : Int)) = false := decide_eq_false h1
      clear hres
      go_enter Try.func51, Try.ntmps51
      go_wp2_with fail
      go_ret
      exact ⟨rfl, Ext.refl w⟩
  · have u1 : decide (0 ≤ i) = false := decide_eq_false h0
    obtain rfl : res = false := by rw [hres]; exact decide_eq_false (fun q => h0 q.1)
    clear hres
    go_enter Try.func51, Try.ntmps51
    go_wp2_with fail
    go_ret
    exact ⟨rfl, Ext.refl w⟩
/-- Is there no power for one more? -/
def Ds.fails (d : Ds) : Bool := d.dd || (d.hf && d.f == 0)
def Ds.burn (d : Ds) : Ds := if d.fails then { d with dd := true } else if d.hf then { d with f := d.f - 1 } else d
theorem gr_cell21 (w : World) (g o : Nat) (v : Value) : w.grownBy (w.setCell ⟨g, o, none⟩ v) (some g) := ⟨rfl, rfl, rfl, by simp [World.setCell], fun i _ h => Below.heap_setCell _ _ _ _ (fun q => h (by rw [q]))⟩
/-- A cell of the disk's own block turns. -/
theorem DK.cell {w : World} {g r b : Nat} {d d' : Ds} (h : DK w g r b d) {o : Nat} {v : Value} (hc : (d.cells r b).set o v = d'.cells r b) (hS : d'.S = d.S) (hN : d'.N = d.N) (ok : d'.ok) : DK (w.setCell ⟨g, o, none⟩ v) g r b d' := by
  refine ⟨by rw [← hc]; exact h.cb.setCell, ?_, ?_, ok⟩
  · rw [hS]
    exact (Below.heap_setCell _ _ _ _ (fun q => h.gr q.symm)).trans h.row
  · have e : d'.ent = d.ent := by unfold Ds.ent; rw [hS, hN]
    rw [e]
    exact h.mp.stay (Below.heap_setCell _ _ _ _ (fun q => h.gb q.symm))
theorem dburn_calls {w : World} {g r b : Nat} {d : Ds} (h : DK w g r b d) : Calls Try.prog 52 #[.pointer (some ⟨g, 0, none⟩)] w fun e w' => e = .returned (.int .i64 (if d.fails then 13 else 0)) ∧ DK w' g r b d.burn ∧ w.grownBy w' (some g) := by
  have c2 : w.cell? ⟨g, 2, none⟩ = some (.bool d.hf) := h.cb.cell rfl
  have c3 : w.cell? ⟨g, 3, none⟩ = some (.int .i64 d.f) := h.cb.cell rfl
  have c4 : w.cell? ⟨g, 4, none⟩ = some (.bool d.dd) := h.cb.cell rfl
  have f3 := h.cb.frozen 3
  have f4 := h.cb.frozen 4
  have fl := h.ok.fl
  have D1 : Hid (d.fails = true → DK (w.setCell ⟨g, 4, none⟩ (.bool true)) g r b d.burn) := fun q => by
    unfold Ds.burn; rw [if_pos q]
    exact h.cell (d' := { d with dd := true }) rfl rfl rfl ⟨h.ok.low, h.ok.most, h.ok.sl, h.ok.nl, h.ok.fl⟩
  have D2 : Hid (d.fails = false → d.hf = true → d.f ≠ 0 → DK (w.setCell ⟨g, 3, none⟩ (.int .i64 (d.f - 1))) g r b d.burn) := fun q q2 q3 => by
    unfold Ds.burn; rw [q, if_neg (by decide), if_pos q2]
    exact h.cell (d' := { d with f := d.f - 1 }) rfl rfl rfl ⟨h.ok.low, h.ok.most, h.ok.sl, h.ok.nl, by have := h.ok.fl; dsimp only; omega⟩
  have D3 : Hid (d.fails = false → d.hf = false → DK w g r b d.burn) := fun q q2 => by
    unfold Ds.burn; rw [q, if_neg (by decide), q2, if_neg (by decide)]
    exact h
  have HF : d.fails = (d.dd || (d.hf && d.f == 0)) := rfl
  clear h
  generalize d.burn = d2 at *
  generalize d.fails = fa at *
  generalize d.hf = hf at *
  generalize d.f = f at *
  generalize d.dd = dd at *
  rcases dd with _ | _
  · rcases hf with _ | _
    · obtain rfl : fa = false := HF
      have K := Lib.hid (D3.out rfl rfl)
      clear D1 D2 D3
      go_enter Try.func52, Try.ntmps52
      go_wp2_with fail
      go_ret
      exact ⟨rfl, K.out, World.grownBy.refl w _⟩
    · by_cases hz : f = 0
      · obtain rfl : fa = true := by rw [HF, hz]; rfl
        have K := Lib.hid (D1.out rfl)
        subst hz
        clear D1 D2 D3 HF
        go_enter Try.func52, Try.ntmps52
        go_wp2_with fail
        go_ret
        exact ⟨rfl, K.out, gr_cell21 _ _ _ _⟩
      · have u1 : (f == 0) = false := by simpa using hz
        obtain rfl : fa = false := by rw [HF, u1]; rfl
        have K := Lib.hid (D2.out rfl rfl hz)
        have hw : IntKind.i64.wrap (f - 1) = f - 1 := IntWalk.i64_in _ (by omega)
        replace hz := Lib.hid hz
        clear D1 D2 D3 HF
        go_enter Try.func52, Try.ntmps52
        go_wp2_with fail
        go_ret
        exact ⟨rfl, K.out, gr_cell21 _ _ _ _⟩
  · obtain rfl : fa = true := HF
    have K := Lib.hid (D1.out rfl)
    clear D1 D2 D3
    go_enter Try.func52, Try.ntmps52
    go_wp2_with fail
    go_ret
    exact ⟨rfl, K.out, gr_cell21 _ _ _ _⟩
def Ds.fuse (d : Ds) (n : Int) : Ds := { d with hf := decide (0 ≤ n), f := if 0 < n then n else 0 }
theorem dfuse_calls {w : World} {g r b : Nat} {d : Ds} (h : DK w g r b d) {n : Int} (hn : -9223372036854775808 ≤ n ∧ n ≤ 9223372036854775807) : Calls Try.prog 18 #[.pointer (some ⟨g, 0, none⟩), .int .i64 n] w fun e w' => e = .returned (.tuple #[]) ∧ DK w' g r b (d.fuse n) ∧ w.grownBy w' (some g) := by
  have c2 : w.cell? ⟨g, 2, none⟩ = some (.bool d.hf) := h.cb.cell rfl
  have f2 := h.cb.frozen 2
  have K : Hid (∀ hv, hv = decide (0 ≤ n) → ∀ fv, fv = (if 0 < n then n else 0) → DK (w.setCell ⟨g, 2, none⟩ (.bool hv)) g r b { d with hf := hv } ∧ DK ((w.setCell ⟨g, 2, none⟩ (.bool hv)).setCell ⟨g, 3, none⟩ (.int .i64 fv)) g r b (d.fuse n)) := by
    rintro hv rfl fv rfl
    have h1 : DK (w.setCell ⟨g, 2, none⟩ (.bool (decide (0 ≤ n)))) g r b { d with hf := decide (0 ≤ n) } := h.cell rfl rfl rfl ⟨h.ok.low, h.ok.most, h.ok.sl, h.ok.nl, h.ok.fl⟩
    exact ⟨h1, h1.cell (d' := d.fuse n) rfl rfl rfl ⟨h.ok.low, h.ok.most, h.ok.sl, h.ok.nl, by dsimp only [Ds.fuse]; split <;> omega⟩⟩
  clear h
  obtain ⟨hv, hhv⟩ : ∃ q, q = decide (0 ≤ n) := ⟨_, rfl⟩
  obtain ⟨fv, hfv⟩ : ∃ q : Int, q = (if 0 < n then n else 0) := ⟨_, rfl⟩
  replace K := Lib.hid (K.out hv hhv fv hfv)
  have c3 : (w.setCell ⟨g, 2, none⟩ (.bool hv)).cell? ⟨g, 3, none⟩ = some (.int .i64 d.f) := K.out.1.cb.cell rfl
  have f3 := K.out.1.cb.frozen 3
  have u1 : decide (0 ≤ n) = hv := hhv.symm
  have u2 : (if (0 : Int) > n then (0 : Int) else n) = fv := by rw [hfv]; split <;> split <;> omega
  have u3 : (if n < 0 then (0 : Int) else n) = fv := u2
  replace hhv := Lib.hid hhv
  replace hfv := Lib.hid hfv
  go_enter Try.func18, Try.ntmps18
  go_wp2_with fail
  go_end0
  exact ⟨rfl, K.out.2, grown_trans' (gr_cell21 _ _ _ _) (gr_cell21 _ _ _ _)⟩
end Go.Proofs.Yteaoacinhdjkeaa
