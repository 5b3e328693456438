import Derived.Test.YtakpgbaijkhpmaaGreatDoorPkAF
open Nat renaming mod_lt→jp3,mul_mod→jqL,pow_add→jqK
set_option maxHeartbeats 64000000
set_option linter.unusedSimpArgs false
set_option linter.unusedVariables false
namespace Go.Edw
open Go.Pratt
set_option maxRecDepth 100000
theorem fi_neg (x:Fq):fi (-x)= -fi x:=by
 by_cases h:x=0
 ·subst h;rw [show -(0:Fq)=0 by decide,fi_zero]
  decide
 ·refine fi_uniq ?_;have:=mul_fi h;generalize fi x=i at *
  grobner
def negS (s:St):St:=(s.1,s.2.1, -s.2.2.1, -s.2.2.2)
theorem step_neg (α x:Fq) (s:St):stepF (-(α+1)) (-x) (negS s)=negS (stepF α x s):=by
 obtain ⟨a,b,c,d⟩:=s;refine Prod.ext ?_ (Prod.ext ?_ (Prod.ext ?_ ?_))
 ·show (a+ -c)*(a+ -c)*((a - -c)*(a - -c))=(a+c)*(a+c)*((a - c)*(a - c));grobner
 ·show ((b - -d)*(a+ -c)+(b+ -d)*(a - -c))*((b - -d)*(a+ -c)+(b+ -d)*(a - -c))=((b - d)*(a+c)+(b+d)*(a - c))*((b - d)*(a+c)+(b+d)*(a - c));grobner
 ·show ((a+ -c)*(a+ -c) - (a - -c)*(a - -c))*((a+ -c)*(a+ -c)+ -(α+1)*((a+ -c)*(a+ -c) - (a - -c)*(a - -c)))= -(((a+c)*(a+c) - (a - c)*(a - c))*((a+c)*(a+c)+α*((a+c)*(a+c) - (a - c)*(a - c))));grobner
 ·show -x*((b - -d)*(a+ -c) - (b+ -d)*(a - -c))*((b - -d)*(a+ -c) - (b+ -d)*(a - -c))= -(x*((b - d)*(a+c) - (b+d)*(a - c))*((b - d)*(a+c) - (b+d)*(a - c)));grobner
theorem swap_neg (t:Bool) (s:St):swapF t (negS s)=negS (swapF t s):=by cases t <;> rfl
theorem lad_neg (α x:Fq) (bits:Nat->Bool):∀ m,ladF (-(α+1)) (-x) bits (m+1)=negS (ladF α x bits (m+1))
 | 0=>by
   show swapF (bits 0) (stepF (-(α+1)) (-x) (swapF (bits 0) (1, -x,0,1)))=negS (swapF (bits 0) (stepF α x (swapF (bits 0) (1,x,0,1))))
   rw [<-swap_neg]
   congr 1
   cases bits 0 with
   | false=>
     refine Prod.ext ?_ (Prod.ext ?_ (Prod.ext ?_ ?_))
     ·rfl
     ·show ((-x - 1)*(1+0)+(-x+1)*(1 - 0))*((-x - 1)*(1+0)+(-x+1)*(1 - 0))=((x - 1)*(1+0)+(x+1)*(1 - 0))*((x - 1)*(1+0)+(x+1)*(1 - 0));grobner
     ·show ((1+0)*(1+0) - (1 - 0)*(1 - 0))*((1+0)*(1+0)+ -(α+1)*((1+0)*(1+0) - (1 - 0)*(1 - 0)))= -(((1+0)*(1+0) - (1 - 0)*(1 - 0))*((1+0)*(1+0)+α*((1+0)*(1+0) - (1 - 0)*(1 - 0))));grobner
     ·show -x*((-x - 1)*(1+0) - (-x+1)*(1 - 0))*((-x - 1)*(1+0) - (-x+1)*(1 - 0))= -(x*((x - 1)*(1+0) - (x+1)*(1 - 0))*((x - 1)*(1+0) - (x+1)*(1 - 0)));grobner
   | true=>
     refine Prod.ext ?_ (Prod.ext ?_ (Prod.ext ?_ ?_))
     ·show (-x+1)*(-x+1)*((-x - 1)*(-x - 1))=(x+1)*(x+1)*((x - 1)*(x - 1));grobner
     ·show ((1 - 0)*(-x+1)+(1+0)*(-x - 1))*((1 - 0)*(-x+1)+(1+0)*(-x - 1))=((1 - 0)*(x+1)+(1+0)*(x - 1))*((1 - 0)*(x+1)+(1+0)*(x - 1));grobner
     ·show ((-x+1)*(-x+1) - (-x - 1)*(-x - 1))*((-x+1)*(-x+1)+ -(α+1)*((-x+1)*(-x+1) - (-x - 1)*(-x - 1)))= -(((x+1)*(x+1) - (x - 1)*(x - 1))*((x+1)*(x+1)+α*((x+1)*(x+1) - (x - 1)*(x - 1))));grobner
     ·show -x*((1 - 0)*(-x+1) - (1+0)*(-x - 1))*((1 - 0)*(-x+1) - (1+0)*(-x - 1))= -(x*((1 - 0)*(x+1) - (1+0)*(x - 1))*((1 - 0)*(x+1) - (1+0)*(x - 1)));grobner
 | m+1=>by
   show swapF (bits (m+1)) (stepF (-(α+1)) (-x) (swapF (bits (m+1)) (ladF (-(α+1)) (-x) bits (m+1))))=negS (swapF (bits (m+1)) (stepF α x (swapF (bits (m+1)) (ladF α x bits (m+1)))))
   rw [lad_neg α x bits m,swap_neg,step_neg,swap_neg]
theorem res_neg (α x:Fq) (bits:Nat->Bool):resF (-(α+1)) (-x) bits= -resF α x bits:=by
 unfold resF;rw [lad_neg α x bits 254]
 show _*fi (-(ladF α x bits (254+1)).2.2.1)=_
 rw [fi_neg];generalize fi (ladF α x bits (254+1)).2.2.1=i
 show (ladF α x bits (254+1)).1* -i= -((ladF α x bits (254+1)).1*i)
 generalize (ladF α x bits (254+1)).1=j
 grobner
theorem pow_hit {x:Fq}(h:x≠0):∃ i,(2 ^ i % Q25:Nat)=x.val:=by
 obtain ⟨i,_,e⟩:=rootQ.hit (Nat.pos_of_ne_zero fun e=>h (Fin.ext e)) x.isLt;exact ⟨i,e⟩
theorem two_nonsq {x y:Fq}(hx:x≠0) (hy:y≠0) (nx:NonSq x) (ny:NonSq y):∃ s:Fq,s*s=x*y:=by
 obtain ⟨i,hi⟩:=pow_hit hx;obtain ⟨j,hj⟩:=pow_hit hy;have sq:∀ (z:Fq) (k:Nat),2 ^ (k+k) % Q25=z.val->∃ s:Fq,s*s=z:=fun z k e=>⟨⟨2 ^ k % Q25,jp3 _ (by decide)⟩,Fin.ext (by
  rw [val_mul]
  show 2 ^ k % Q25*(2 ^ k % Q25) % Q25=_
  rw [<-jqL,<-jqK,e])⟩
 have odd:∀ (z:Fq) (k:Nat),NonSq z->2 ^ k % Q25=z.val->k % 2=1:=fun z k hn e=>by
  rcases Nat.mod_two_eq_zero_or_one k with h | h
  ·exfalso
   obtain ⟨s,hs⟩:=sq z (k / 2) (by rw [show k / 2+k / 2=k by omega];exact e);exact hn s hs
  ·exact h
 have oi:=odd x i nx hi;have oj:=odd y j ny hj;refine sq (x*y) ((i+j) / 2) ?_;rw [show (i+j) / 2+(i+j) / 2=i+j by omega,jqK,jqL,hi,hj,val_mul]
theorem nonsq_of {x:Fq}(h:pm Q25 x.val 255 ((Q25 - 1) / 2)≠1) (h0:x≠0):NonSq x:=by
 rintro s rfl
 apply h
 have s0:s≠0:=by rintro rfl;exact h0 (by decide)
 rw [pm_eq _ _ _ _ (by decide+kernel),val_mul,<-Nat.pow_mod,Nat.mul_pow,<-jqK,show (Q25 - 1) / 2+(Q25 - 1) / 2=Q25 - 1 by decide+kernel];exact fermat s0
def dI:Fq:=20800338683988658368647408995589388737092878452977063003340006470870624536394
def dT:Fq:=28692721048178265397853269683490922171210976843790175684556505508326675974058
theorem dI_non:NonSq dI:=nonsq_of (by decide+kernel) (by decide+kernel)
theorem dT_non:NonSq dT:=nonsq_of (by decide+kernel) (by decide+kernel)
theorem dI_eq:dI*(121665+1)=121665:=by decide+kernel
theorem dT_eq:dT*(-((121665:Fq)+1)+1)= -((121665:Fq)+1):=by decide+kernel
theorem dIT:dI*dT=1:=by decide+kernel
theorem point_of (x:Fq):(∃ q,On dI q/\xw q.2=x)\/(∃ q,On dT q/\xw q.2= -x):=by
 by_cases x0:x=0
 ·exact .inl ⟨(0,1),on_id _,by rw [xw_one,x0]⟩
 by_cases xm:x+1=0
 ·refine .inr ⟨(1,0),by simp only [On];grobner,?_⟩;have:=xw_eq (w:=(0:Fq)) (by decide);generalize xw 0=X at *
  show X= -x
  grobner
 have hi:=mul_fi xm;generalize hg:fi (x+1)=i at *;have hv:∃ v:Fq,v=(x - 1)*i:=⟨_,rfl⟩;obtain ⟨v,hv⟩:=hv;have e1:v*(x+1)=x - 1:=by grobner
 have v1:v≠1:=fun e=>two_ne (by grobner)
 have hx:=xw_eq v1;have xe:xw v=x:=by
  generalize xw v=X at *;have n:1 - v≠0:=fun z=>v1 (by grobner)
  exact cancel n (by clear hi hg hv;grobner)
 have om:=one_min dI_non (w:=v);by_cases sq:∃ s:Fq,s*s=(1 - v*v)*(1 - dI*v*v)
 ·obtain ⟨s,hs⟩:=sq;have hj:=mul_fi om;generalize fi (1 - dI*v*v)=j at *;refine .inl ⟨(s*j,v),?_,xe⟩;simp only [On];refine cancel om (cancel om ?_);generalize dI=D at *;have e2:(1 - D*v*v)*(s*j)=s:=by clear hx e1 hi hv hs;grobner
  generalize s*j=u at *;clear hj hx e1 hi hv;subst e2
  grobner
 ·have v0:v≠0:=by
   rintro rfl;exact sq ⟨1,by grobner⟩
  have hT:NonSq ((1 - v*v)*(1 - dI*v*v)):=fun s hs=>sq ⟨s,hs⟩
  have T0:(1 - v*v)*(1 - dI*v*v)≠0:=fun z=>sq ⟨0,by rw [z];decide⟩
  have d0:dT≠0:=by decide+kernel
  obtain ⟨s,hs⟩:=two_nonsq T0 d0 hT dT_non;have hk:=mul_fi v0;generalize fi v=k at *;have omT:=one_min dT_non (w:=k);have hj:=mul_fi omT;generalize fi (1 - dT*k*k)=j at *;have dd:=dIT;generalize dI=D at *;generalize dT=E at *
  right
  refine ⟨(s*k*k*j,k),?_,?_⟩
  ·simp only [On];refine cancel omT (cancel omT ?_);have e3:(1 - k*k)*(1 - E*k*k)=(s*k*k)*(s*k*k):=by
    have:(s*k*k)*(s*k*k)=(s*s)*(k*k*(k*k)):=by grobner
    rw [this,hs];clear hs this hj hx e1 hi hv omT om T0
    grobner
   have e2:(1 - E*k*k)*(s*k*k*j)=s*k*k:=by clear hx e1 hi hv hs hk dd e3;grobner
   generalize s*k*k*j=u at *;clear hj hx e1 hi hv hs hk dd;rw [<-e2] at e3;clear e2
   grobner
  ·have k1:k≠1:=fun e=>v1 (by rw [e] at hk;clear hs hj hx hi;grobner)
   have hy:=xw_eq k1
   show xw k= -x
   generalize xw k=X at *;have n:1 - k≠0:=fun z=>k1 (by grobner)
   refine cancel n ?_;have:(1 - k)*X=1+k:=by rw [<-hy];grobner
   rw [this];clear this hy hs hj hx dd hi hg hv omT om T0 xe;have:x - 1=v*(x+1):=e1.symm;have:k*(x - 1)=x+1:=by rw [this];grobner
   grobner
theorem res_comm (x:Fq){s t:Nat->Bool}(s0:s 0=true) (sl:s 254=false) (t0:t 0=true) (tl:t 254=false):resF 121665 (resF 121665 x s) t=resF 121665 (resF 121665 x t) s:=by
 rcases point_of x with ⟨q,hq,rfl⟩ | ⟨q,hq,e⟩
 ·exact res_comm_point dI_non dI_eq (by decide+kernel) hq s0 sl t0 tl
 ·have h:=res_comm_point dT_non dT_eq (by decide+kernel) hq s0 sl t0 tl;rw [e,res_neg,res_neg,res_neg,res_neg] at h;have nn:∀ a b:Fq, -a= -b->a=b:=fun a b h=>by grobner
  exact nn _ _ h
end Go.Edw
