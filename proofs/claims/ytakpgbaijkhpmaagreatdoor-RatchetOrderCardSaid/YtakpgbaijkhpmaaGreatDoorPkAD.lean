import Derived.Test.YtakpgbaijkhpmaaGreatDoorPkAC
namespace Go.Edw
open Go.Pratt
set_option maxRecDepth 100000
instance:NeZero Q25:=⟨by decide⟩
open Classical in
noncomputable def fi(x:Fq):Fq:=if h:x≠0 then(inv_ex x h).choose else 0
theorem fi_zero:fi 0=0:=by unfold fi;rw [dif_neg(by simp)]
theorem fi_uniq{x y:Fq}(h:x *y=1):fi x=y:=by
 have hx:x≠0:=by rintro rfl;rw [Fin.zero_mul] at h;exact absurd h(by decide)
 exact cancel hx(by rw [mul_fi hx,h])
end Go.Edw
