import Derived.Test.YtakpgbaijkhpmaaGreatDoorPkAE
open Classical renaming byContradiction→jpM
open Fin renaming zero_mul→jqP
open Nat renaming mul_comm→jqI
set_option maxHeartbeats 64000000
set_option linter.unusedSimpArgs false
set_option linter.unusedVariables false
namespace Go.Edw
open Go.Pratt
set_option maxRecDepth 100000
theorem add_neg {δ:Fq}(hd:NonSq δ){u w:Fq}(h:On δ (u,w)):On δ (-u,w)/\add δ (u,w) (-u,w)=(0,1):=by
 have hn:On δ (-u,w):=by simp only [On] at h ⊢;grobner
 refine ⟨hn,?_⟩;have dp:=den_p hd h hn;have dm:=den_m hd h hn;obtain ⟨a,b,e,ha,hb⟩:=add_eq hd h hn;rw [e];simp only [On] at h;have z1:a=0:=cancel dp (by rw [show (1+δ*u* -u*w*w)*a=a*(1+δ*u* -u*w*w) by grobner,ha];grobner);have z2:b=1:=cancel dm (by rw [show (1 - δ*u* -u*w*w)*b=b*(1 - δ*u* -u*w*w) by grobner,hb];clear ha hb e dp dm;grobner);rw [z1,z2]
theorem diff_of {δ:Fq}(hd:NonSq δ){u1 w1 u2 w2 uq wq:Fq}(h1:On δ (u1,w1)) (hq:On δ (uq,wq)) (h2:On δ (u2,w2)) (e:add δ (u1,w1) (uq,wq)=(u2,w2)):wq*(1+δ*u1*u2*w1*w2)=w1*w2+u1*u2:=by
 obtain ⟨hn,hz⟩:=add_neg hd h1;have hs:add δ (u2,w2) (-u1,w1)=(uq,wq):=by
  rw [<-e,add_comm δ (u1,w1),add_assoc hd hq h1 hn,hz,add_id]
 obtain ⟨a,b,e2,_,hb⟩:=add_eq hd h2 hn;rw [hs] at e2
 injection e2 with _ e3
 rw [<-e3] at hb;clear e3 hs hz hn e
 grobner
abbrev St:=Fq×Fq×Fq×Fq
def stepF (α x:Fq) (s:St):St:=
 let e:=s.1+s.2.2.1;let f:=s.1 - s.2.2.1;let g:=s.2.1+s.2.2.2;let h:=s.2.1 - s.2.2.2
 let u:=e*e;let v:=f*f;let w:=u - v;let y:=h*e;let z:=g*f
 (u*v,(y+z)*(y+z),w*(u+α*w),x*(y - z)*(y - z))
def swapF (t:Bool) (s:St):St:=if t then (s.2.1,s.1,s.2.2.2,s.2.2.1) else s
def ladF (α x:Fq) (bits:Nat->Bool):Nat->St
 | 0=>(1,x,0,1)
 | m+1=>swapF (bits m) (stepF α x (swapF (bits m) (ladF α x bits m)))
noncomputable def resF (α x:Fq) (bits:Nat->Bool):Fq:=(ladF α x bits 255).1*fi (ladF α x bits 255).2.2.1
def kF (bits:Nat->Bool):Nat->Nat
 | 0=>0
 | m+1=>2*kF bits m+if bits m then 1 else 0
noncomputable def xw (w:Fq):Fq:=(1+w)*fi (1 - w)
theorem xw_one:xw 1=0:=by unfold xw;rw [show (1:Fq) - 1=0 by grobner,fi_zero,Fin.mul_zero]
theorem xw_eq {w:Fq}(h:w≠1):xw w*(1 - w)=1+w:=by
 have:=mul_fi (show 1 - w≠0 from fun q=>h (by grobner));unfold xw;generalize fi (1 - w)=i at *
 grobner
theorem rep_res {a c w:Fq}(h:Rep a c w):a*fi c=xw w:=by
 obtain ⟨h1,h2⟩:=h;by_cases hw:w=1
 ·subst hw;have hc:2*c=0:=by grobner
  have:c=0:=jpM fun z=>mul_ne two_ne z hc
  rw [this,fi_zero,Fin.mul_zero,xw_one]
 ·have hx:=xw_eq hw;have hc2:2*c=(1 - w)*(a+c):=by grobner
  have ha2:2*a=(1+w)*(a+c):=by grobner
  have w1:1 - w≠0:=fun q=>hw (by grobner)
  have hc:c≠0:=fun z=>by
   rw [z] at hc2 h1;refine mul_ne w1 h1 ?_;rw [<-hc2];grobner
  have hf:=mul_fi hc;generalize xw w=X at *;generalize fi c=i at *;have:a=X*c:=cancel two_ne (cancel w1 (by generalize a+c=s at *;clear h2 hf h1;grobner))
  grobner
theorem lad_inv {α δ:Fq}(hd:NonSq δ) (hα:δ*(α+1)=α) (h1:α+1≠0){uq wq x:Fq}(hq:On δ (uq,wq)) (hx:x*(1 - wq)=1+wq) (hx1:1 - wq≠0) (hx2:1+wq≠0) (bits:Nat->Bool):∀ m,Rep (ladF α x bits m).1 (ladF α x bits m).2.2.1 (sm δ (uq,wq) (kF bits m)).2/\Rep (ladF α x bits m).2.1 (ladF α x bits m).2.2.2 (sm δ (uq,wq) (kF bits m+1)).2
 | 0=>by
   refine ⟨⟨?_,?_⟩,?_,?_⟩
   ·show (1:Fq)+0≠0;decide
   ·show (1:Fq) - 0=1*(1+0);grobner
   ·show x+1≠0
    intro z;have:2=(0:Fq):=by grobner
    exact two_ne this
   ·show x - 1=(sm δ (uq,wq) 1).2*(x+1)
    have:sm δ (uq,wq) 1=(uq,wq):=id_add δ _;rw [this]
    show x - 1=wq*(x+1)
    grobner
 | m+1=>by
   obtain ⟨r1,r2⟩:=lad_inv hd hα h1 hq hx hx1 hx2 bits m;have o1:=sm_on hd hq (kF bits m);have o2:=sm_on hd hq (kF bits m+1);have e12:add δ (sm δ (uq,wq) (kF bits m)) (uq,wq)=sm δ (uq,wq) (kF bits m+1):=rfl;have d11:add δ (sm δ (uq,wq) (kF bits m)) (sm δ (uq,wq) (kF bits m))=sm δ (uq,wq) (2*kF bits m):=by rw [Nat.two_mul,sm_add hd hq]
   have d12:add δ (sm δ (uq,wq) (kF bits m)) (sm δ (uq,wq) (kF bits m+1))=sm δ (uq,wq) (2*kF bits m+1):=by rw [show 2*kF bits m+1=kF bits m+(kF bits m+1) by omega,sm_add hd hq (kF bits m) (kF bits m+1)]
   have d22:add δ (sm δ (uq,wq) (kF bits m+1)) (sm δ (uq,wq) (kF bits m+1))=sm δ (uq,wq) (2*kF bits m+2):=by rw [show 2*kF bits m+2=(kF bits m+1)+(kF bits m+1) by omega,sm_add hd hq (kF bits m+1) (kF bits m+1)]
   have d21:add δ (sm δ (uq,wq) (kF bits m+1)) (sm δ (uq,wq) (kF bits m))=sm δ (uq,wq) (2*kF bits m+1):=by rw [add_comm,d12]
   generalize hp1:sm δ (uq,wq) (kF bits m)=p1 at *;generalize hp2:sm δ (uq,wq) (kF bits m+1)=p2 at *;obtain ⟨u1,w1⟩:=p1;obtain ⟨u2,w2⟩:=p2;have df:=diff_of hd o1 hq o2 e12;have el:ladF α x bits (m+1)=swapF (bits m) (stepF α x (swapF (bits m) (ladF α x bits m))):=rfl;have ek:kF bits (m+1)=2*kF bits m+if bits m then 1 else 0:=rfl
   rw [el,ek];clear el ek;generalize ladF α x bits m=s at *;obtain ⟨a,b,c,d⟩:=s;generalize kF bits m=k at *
   cases bits m with
   | false=>
     have q1:=rep_dbl hd hα h1 o1 r1;have q2:=rep_add hd o1 o2 r1 r2 df hx hx1 hx2;rw [d11] at q1;rw [d12] at q2;exact ⟨q1,q2⟩
   | true=>
     have q1:=rep_dbl hd hα h1 o2 r2;have q2:=rep_add hd o2 o1 r2 r1 (w4:=wq) (by rw [show 1+δ*u2*u1*w2*w1=1+δ*u1*u2*w1*w2 by grobner,df];grobner) hx hx1 hx2;rw [d22] at q1;rw [d21] at q2;exact ⟨q2,q1⟩
theorem on_one {δ:Fq}(hd:NonSq δ){u w:Fq}(h:On δ (u,w)) (hw:w*w=1):u=0:=by
 simp only [On] at h;have d1:δ≠1:=fun e=>hd 1 (by rw [e];grobner)
 refine jpM fun hu=> ?_
 have:u*u*(1 - δ)=0:=by grobner
 exact mul_ne (mul_ne hu hu) (fun z=>d1 (by grobner)) this
theorem lad_zero {α:Fq}{bits:Nat->Bool}(b0:bits 0=true):∀ m,(ladF α 0 bits (m+1)).2.2.1=0/\(ladF α 0 bits (m+1)).2.2.2=0
 | 0=>by
   show (swapF (bits 0) (stepF α 0 (swapF (bits 0) (1,0,0,1)))).2.2.1=0/\(swapF (bits 0) (stepF α 0 (swapF (bits 0) (1,0,0,1)))).2.2.2=0
   rw [b0];constructor
   ·show (0:Fq)*_*_=0;rw [jqP,jqP]
   ·show (((0:Fq)+1)*(0+1) - (0 - 1)*(0 - 1))*_=0
    rw [show ((0:Fq)+1)*(0+1) - (0 - 1)*(0 - 1)=0 by grobner,jqP]
 | m+1=>by
   obtain ⟨h1,h2⟩:=lad_zero (α:=α) b0 m
   show (swapF (bits (m+1)) (stepF α 0 (swapF (bits (m+1)) (ladF α 0 bits (m+1))))).2.2.1=0/\(swapF (bits (m+1)) (stepF α 0 (swapF (bits (m+1)) (ladF α 0 bits (m+1))))).2.2.2=0
   generalize ladF α 0 bits (m+1)=s at *;obtain ⟨a,b,c,d⟩:=s;simp only at h1 h2;subst h1 h2
   cases bits (m+1) with
   | false=>
     constructor
     ·show ((a+0)*(a+0) - (a - 0)*(a - 0))*_=0
      rw [show (a+0)*(a+0) - (a - 0)*(a - 0)=0 by grobner,jqP]
     ·show (0:Fq)*_*_=0;rw [jqP,jqP]
   | true=>
     constructor
     ·show (0:Fq)*_*_=0;rw [jqP,jqP]
     ·show ((b+0)*(b+0) - (b - 0)*(b - 0))*_=0
      rw [show (b+0)*(b+0) - (b - 0)*(b - 0)=0 by grobner,jqP]
theorem res_zero {α:Fq}{bits:Nat->Bool}(b0:bits 0=true):resF α 0 bits=0:=by
 unfold resF;rw [(lad_zero b0 254).1,fi_zero,Fin.mul_zero]
theorem res_point {α δ:Fq}(hd:NonSq δ) (hα:δ*(α+1)=α) (h1:α+1≠0){q:Fq×Fq}(hq:On δ q){bits:Nat->Bool}(b0:bits 0=true) (bl:bits 254=false):resF α (xw q.2) bits=xw (sm δ q (kF bits 255)).2:=by
 obtain ⟨u,w⟩:=q
 show resF α (xw w) bits=_
 by_cases w1:w=1
 ·subst w1;have:=on_one hd hq (by grobner);subst this;rw [xw_one,res_zero b0,sm_id,xw_one]
 ·by_cases w2:1+w=0
  ·have wm:w*w=1:=by grobner
   have hu:=on_one hd hq wm;subst hu;have hx0:xw w=0:=by unfold xw;rw [w2,jqP]
   rw [hx0,res_zero b0];have e2:sm δ (0,w) (kF bits 255)=(0,1):=by
    have hk:kF bits 255=2*kF bits 254:=by show 2*kF bits 254+(if bits 254 then 1 else 0)=_;rw [bl];rfl
    rw [hk,<-sm_sm hd hq];have h2:sm δ (0,w) 2=(0,1):=by
     have z:add δ (0,w) (0,w)=(0,1):=by
      simp only [add];rw [show (0:Fq)*w+w*0=0 by grobner,jqP,show 1 - δ*0*0*w*w=1 by grobner,show w*w - 0*0=1 by grobner,fi_uniq (show (1:Fq)*1=1 by grobner)]
      rfl
     show add δ (add δ (0,1) (0,w)) (0,w)=_
     rw [id_add,z]
    rw [h2,sm_id]
   rw [e2,xw_one]
  ·have hx:=xw_eq w1;have hx1:1 - w≠0:=fun z=>w1 (by grobner)
   exact rep_res (lad_inv hd hα h1 hq hx hx1 w2 bits 255).1
theorem res_comm_point {α δ:Fq}(hd:NonSq δ) (hα:δ*(α+1)=α) (h1:α+1≠0){q:Fq×Fq}(hq:On δ q){s t:Nat->Bool}(s0:s 0=true) (sl:s 254=false) (t0:t 0=true) (tl:t 254=false):resF α (resF α (xw q.2) s) t=resF α (resF α (xw q.2) t) s:=by
 rw [res_point hd hα h1 hq s0 sl,res_point hd hα h1 hq t0 tl,res_point hd hα h1 (sm_on hd hq _) t0 tl,res_point hd hα h1 (sm_on hd hq _) s0 sl,sm_sm hd hq,sm_sm hd hq,jqI]
end Go.Edw
