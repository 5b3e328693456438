import Derived.Test.YtakpgbaijkhpmaaGreatDoorRows
namespace Go.Pratt
structure Root(N g:Nat):Prop where
 big:1 < N
 back:g ^(N - 1)% N=1
 no:∀i,0 < i→i < N - 1→g ^ i % N≠1
section
variable{N g:Nat}(R:Root N g)
include R
end
theorem rootP:Root 57896044618658097711785492504343953926634992332820282019728792003956564819949 2:=root_cert(n:=255)(L:= [2,2,3,65147,74058212732561358302231226437062788676166966415465897661863160754340907])(by decide +kernel)(by simp only [List.forall_mem_cons,List.not_mem_nil,false_implies,implies_true,and_true];exact⟨q2,q2,q3,q65147,qb5⟩)
end Go.Pratt
