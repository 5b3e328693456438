/-
  Reading a head: what panics (head.demand, take), and the number of a fault (errnoOf).
-/
import Derived.Test.YtojgmgghlkpfoaaEnvB
import Derived.Recover
import Derived.WalkLawsBesides
namespace Go.Proofs.Ytojgmgghlkpfoaa
open Go.ChangeShapes Go.WideShapes Go.ChangeAt Go.RowKit Go.Deep
set_option maxRecDepth 100000

/-- a fault's own entry -/
def faultE (n : Int) : PanicEntry := { v := .iface 28 (.int .i64 n), recovered := false }
theorem demand_ok {w : World} : Calls Try.prog 38 #[.bool true] w fun e w' => e = .returned (.tuple #[]) ∧ Ext w w' := by
  go_enter Try.func38, Try.ntmps38
  go_wp2_with fail
  go_end0
  exact ⟨rfl, Ext.refl _⟩
theorem demand_bad {w : World} : Calls Try.prog 38 #[.bool false] w fun e w' => e = .panicked [faultE 2] ∧ Ext w w' := by
  go_enter Try.func38, Try.ntmps38
  go_wp2_with fail
  exact ⟨rfl, rfl, Ext.refl _⟩
theorem assert_errno (n : Int) (w : World) : (Instr.typeAssert (.iface 28 (.int .i64 n)) 20 28 true).run Try.prog w = .ok (.tuple #[.int .i64 n, .bool true]) w := by kernel_rfl
theorem errnoOf_calls {w : World} {n : Int} : Calls Try.prog 35 #[.iface 28 (.int .i64 n)] w fun e w' => e = .returned (.int .i64 n) ∧ Ext w w' := by
  have hta := assert_errno
  go_enter Try.func35, Try.ntmps35
  go_wp2_with fail
  go_ret
  exact ⟨rfl, Ext.refl _⟩
set_option maxHeartbeats 1000000 in
theorem take_short {w : World} {g n c : Nat} {k : Nat} {A : Option Addr} (h : Cb w g 73 [.slice A n c]) (hk : n < k) (hb : k ≤ 1000000) : Calls Try.prog 45 #[.pointer (some ⟨g, 0, none⟩), .int .i64 (k : Int)] w fun e w' => e = .panicked [faultE 3] ∧ Ext w w' := by
  have c0 := h.cell (j := 0) rfl
  have u1 : decide ((n : Int) < (k : Int)) = true := decide_eq_true (by omega)
  replace h := Lib.hid h
  go_enter Try.func45, Try.ntmps45
  go_wp2_with fail
  exact ⟨rfl, rfl, Ext.refl _⟩
end Go.Proofs.Ytojgmgghlkpfoaa
