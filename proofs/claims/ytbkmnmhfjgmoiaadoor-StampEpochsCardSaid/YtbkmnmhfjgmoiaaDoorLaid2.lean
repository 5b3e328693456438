import Derived.Test.YtbkmnmhfjgmoiaaDoorPkM
import Derived.Lib.LaidTab
/-
  What the row's list says of blake.initial.
-/
namespace Go.Proofs.YtbkmnmhfjgmoiaaDoor
open Go.ChangeShapes Go.WideShapes Go.ChangeAt Go.RowKit Go.Deep

def initZ : List Int := [1779033703, 3144134277, 1013904242, 2773480762, 1359893119, 2600822924, 528734635, 1541459225]
theorem gBlake : Tryd.prog.globalNamed "palfrey/blake.initial" = some 0 := by kernel_rfl
theorem gBlakeType : (Tryd.prog.globals[0]?).map (·.type) = some 72 := by kernel_rfl
theorem gl_of_tab {W : World} (h : Lib.TabIs Tryd.prog W "palfrey/blake.initial" .u32 initZ) : ∃ tg, Gl W tg := by
  unfold Lib.TabIs World.var? at h
  rw [gBlake] at h
  simp only [Option.bind_some] at h
  cases hh : W.heap[0]? with
  | none => rw [hh] at h; cases h
  | some o =>
    rw [hh] at h
    cases o with
    | cells cs t fr =>
      simp only [Option.some.injEq] at h
      subst h
      exact ⟨(t, fr), hh⟩
    | _ => cases h
theorem gl_of_laid {W : World} {rest : List (String × DataW Unit)} (h : laidMet Tryd.prog (("palfrey/blake.initial", Lib.tabData .u32 initZ) :: rest) W) : ∃ tg, Gl W tg :=
  gl_of_tab (Lib.tabIs_of_head (rest := rest) gBlake gBlakeType Tryd.underlying72 Tryd.underlying71 (by kernel_rfl) (by kernel_rfl) h)
end Go.Proofs.YtbkmnmhfjgmoiaaDoor
