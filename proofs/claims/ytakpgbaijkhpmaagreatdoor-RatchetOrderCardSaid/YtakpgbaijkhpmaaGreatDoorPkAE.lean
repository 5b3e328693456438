import Derived.Test.YtakpgbaijkhpmaaGreatDoorPkAD
namespace Go.Edw
open Go.Pratt
set_option maxRecDepth 100000
theorem res_comm(x:Fq){s t:Nat→Bool}(s0:s 0=true)(sl:s 254=false)(t0:t 0=true)(tl:t 254=false):resF 121665(resF 121665 x s)t=resF 121665(resF 121665 x t)s:=by
 rcases point_of x with⟨q,hq,rfl⟩ | ⟨q,hq,e⟩
 ·exact res_comm_point dI_non dI_eq(by decide +kernel)hq s0 sl t0 tl
 ·have h:=res_comm_point dT_non dT_eq(by decide +kernel)hq s0 sl t0 tl
  rw [e,res_neg,res_neg,res_neg,res_neg] at h
  have nn:∀a b:Fq, -a= -b→a=b:=fun a b h=>by grobner
  exact nn _ _ h
end Go.Edw
