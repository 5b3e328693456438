/-
  What the row's list says of field.prime.
-/
import Derived.Test.YtadnmiedmcckkaaDoorFldRed
import Derived.Lib.LaidTab
namespace Go.Proofs.YtadnmiedmcckkaaDoor
open Go.ChangeShapes Go.WideShapes Go.ChangeAt Go.RowKit Go.Deep
set_option maxRecDepth 100000

def primeZ : List Int := [4294967277, 4294967295, 4294967295, 4294967295, 4294967295, 4294967295, 4294967295, 2147483647]
theorem gPrime : Tryd.prog.globalNamed "palfrey/field.prime" = some 0 := by kernel_rfl
theorem gPrimeType : (Tryd.prog.globals[0]?).map (·.type) = some 55 := by kernel_rfl
theorem gp_of_tab {W : World} (h : Lib.TabIs Tryd.prog W "palfrey/field.prime" .u32 primeZ) : ∃ tg, Gp W tg := by
  unfold Lib.TabIs World.var? at h
  rw [gPrime] at h
  simp only [Option.bind_some] at h
  cases hh : W.heap[0]? with
  | none => rw [hh] at h; cases h
  | some o =>
    rw [hh] at h
    cases o with
    | cells cs t fr =>
      simp only [Option.some.injEq] at h
      subst h
      refine ⟨(t, fr), ?_⟩
      unfold Gp
      rw [← primeL_eq]
      exact hh
    | _ => cases h
theorem gp_of_laid {W : World} {rest : List (String × DataW Unit)} (h : laidMet Tryd.prog (("palfrey/field.prime", Lib.tabData .u32 primeZ) :: rest) W) : ∃ tg, Gp W tg :=
  gp_of_tab (Lib.tabIs_of_head (rest := rest) gPrime gPrimeType Tryd.underlying55 Tryd.underlying54 (by kernel_rfl) (by kernel_rfl) h)
end Go.Proofs.YtadnmiedmcckkaaDoor
