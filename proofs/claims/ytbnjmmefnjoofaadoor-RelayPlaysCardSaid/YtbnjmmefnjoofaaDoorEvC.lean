/-
  The cells of heads and envelopes. No conditions.
-/
import Derived.Test.YtbnjmmefnjoofaaDoorFillS
namespace Go.Proofs.YtbnjmmefnjoofaaDoor
open Go.ChangeShapes Go.WideShapes Go.ChangeAt Go.RowKit Go.Deep
set_option maxRecDepth 100000

def upB (z m : Int) : Bool := decide (0 ≤ z) && decide (z ≤ m)
/-- the cells of a head -/
def hdC (pk : List UInt8) (p n : Int) : List Value := cellsOf pk ++ [.int .i64 p, .int .i64 n]
theorem hdC_len {pk : List UInt8} (h : pk.length = 32) (p n : Int) : (hdC pk p n).length = 34 := by simp [hdC, cellsOf_len, h]
/-- the cells of an envelope -/
def evC (f t : Int) (cm pk : List UInt8) (p n : Int) (A : Option Addr) (m c : Nat) : List Value := [.int .i64 f, .int .i64 t] ++ (cellsOf cm ++ (hdC pk p n ++ [.slice A m c]))
theorem evC_len {cm pk : List UInt8} (hc : cm.length = 32) (hk : pk.length = 32) (f t p n : Int) (A : Option Addr) (m c : Nat) : (evC f t cm pk p n A m c).length = 69 := by simp [evC, hdC_len hk, cellsOf_len, hc]
theorem ev_cells {cm pk : List UInt8} (hc : cm.length = 32) (hk : pk.length = 32) (f t p n : Int) (A : Option Addr) (m c : Nat) :
    (evC f t cm pk p n A m c)[0]? = some (.int .i64 f) ∧ (evC f t cm pk p n A m c)[1]? = some (.int .i64 t) ∧ (evC f t cm pk p n A m c)[68]? = some (.slice A m c) ∧
    evC f t cm pk p n A m c = ([.int .i64 f, .int .i64 t] ++ cellsOf cm) ++ (hdC pk p n ++ [.slice A m c]) ∧ evC f t cm pk p n A m c = [.int .i64 f, .int .i64 t] ++ (cellsOf cm ++ (hdC pk p n ++ [.slice A m c])) := by
  refine ⟨rfl, rfl, ?_, by simp [evC], rfl⟩
  unfold evC
  rw [List.getElem?_append_right (by simp), List.getElem?_append_right (by simp [cellsOf_len, hc]), List.getElem?_append_right (by simp [cellsOf_len, hc, hdC_len hk])]
  simp [cellsOf_len, hc, hdC_len hk]
theorem one_hd {pk : List UInt8} {p n : Int} : ∀ v ∈ hdC pk p n, v.oneCell' = true := fun v hv => by
  simp only [hdC, List.mem_append, List.mem_cons, List.not_mem_nil, or_false] at hv
  rcases hv with h | rfl | rfl
  · exact one_mem _ v h
  · rfl
  · rfl
theorem one_ev {f t p n : Int} {cm pk : List UInt8} {A : Option Addr} {m c : Nat} : ∀ v ∈ evC f t cm pk p n A m c, v.oneCell' = true := fun v hv => by
  simp only [evC, List.mem_append, List.mem_cons, List.not_mem_nil, or_false] at hv
  rcases hv with (rfl | rfl) | h | h | rfl
  · rfl
  · rfl
  · exact one_mem _ v h
  · exact one_hd v h
  · rfl
end Go.Proofs.YtbnjmmefnjoofaaDoor
