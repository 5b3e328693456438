import Derived.Test.YtakpgbaijkhpmaaGreatDoorPkAC
open Classical renaming byContradiction→jpM
open Fin renaming zero_mul→jqP
open Nat renaming mod_lt→jp3,mul_comm→jqI,pow_succ→jqN
set_option maxHeartbeats 64000000
set_option linter.unusedSimpArgs false
set_option linter.unusedVariables false
namespace Go.Edw
open Go.Pratt
set_option maxRecDepth 100000
abbrev Q25:Nat:=57896044618658097711785492504343953926634992332820282019728792003956564819949
abbrev Fq:=Fin Q25
instance:NeZero Q25:=⟨by decide⟩
theorem val_mul (x y:Fq):(x*y).val=x.val*y.val % Q25:=Fin.val_mul x y
theorem rootQ:Root Q25 2:=rootP
theorem fermat {x:Fq}(h:x≠0):x.val ^ (Q25 - 1) % Q25=1:=rootQ.fermat (Nat.pos_of_ne_zero fun e=>h (Fin.ext e)) x.isLt
theorem inv_ex (x:Fq) (h:x≠0):∃ y:Fq,x*y=1:=by
 refine ⟨⟨x.val ^ (Q25 - 2) % Q25,jp3 _ (by decide)⟩,Fin.ext ?_⟩;rw [val_mul]
 show x.val*(x.val ^ (Q25 - 2) % Q25) % Q25=1
 rw [Nat.mul_mod_mod,jqI,<-jqN];exact fermat h
open Classical in
noncomputable def fi (x:Fq):Fq:=if h:x≠0 then (inv_ex x h).choose else 0
theorem mul_fi {x:Fq}(h:x≠0):x*fi x=1:=by unfold fi;rw [dif_pos h];exact (inv_ex x h).choose_spec
theorem fi_zero:fi 0=0:=by unfold fi;rw [dif_neg (by simp)]
theorem cancel {x y z:Fq}(h:x≠0) (e:x*y=x*z):y=z:=by
 have h1:=mul_fi h;generalize fi x=t at *;have:t*(x*y)=t*(x*z):=by rw [e]
 grobner
theorem mul_ne {x y:Fq}(hx:x≠0) (hy:y≠0):x*y≠0:=fun e=>hy (cancel hx (by rw [e];grobner))
theorem fi_uniq {x y:Fq}(h:x*y=1):fi x=y:=by
 have hx:x≠0:=by rintro rfl;rw [jqP] at h;exact absurd h (by decide)
 exact cancel hx (by rw [mul_fi hx,h])
theorem zero_of_sq {x:Fq}(h:x*x=0):x=0:=jpM fun hx=>mul_ne hx hx h
theorem two_ne:(2:Fq)≠0:=by decide
def On (δ:Fq) (p:Fq×Fq):Prop:=p.1*p.1+p.2*p.2=1+δ*p.1*p.1*p.2*p.2
def NonSq (δ:Fq):Prop:=∀ s:Fq,s*s≠δ
theorem complete {δ:Fq}(hd:NonSq δ){u1 w1 u2 w2 t:Fq}(h1:On δ (u1,w1)) (h2:On δ (u2,w2)) (ht:t*t=1):δ*u1*u2*w1*w2≠t:=by
 intro e;simp only [On] at h1 h2;have t0:t≠0:=by rintro rfl;rw [jqP] at ht;exact absurd ht (by decide)
 have k1:(u1+t*w1)*(u1+t*w1)=δ*(u1*w1*(u2+w2))*(u1*w1*(u2+w2)):=by subst e;grobner
 have k2:(u1 - t*w1)*(u1 - t*w1)=δ*(u1*w1*(u2 - w2))*(u1*w1*(u2 - w2)):=by subst e;grobner
 have nz:u1*w1≠0:=fun z=>t0 (by rw [<-e];grobner)
 have nz2:u2≠0:=fun z=>t0 (by rw [<-e,z];grobner)
 have hs:∀ a b:Fq,a*a=δ*b*b->b=0:=fun a b h=>jpM fun hb=>by
  have hm:=mul_fi hb;generalize fi b=i at *;exact hd (a*i) (by grobner)
 have z1:=hs _ _ k1;have z2:=hs _ _ k2;have y1:u2+w2=0:=jpM fun q=>mul_ne nz q z1
 have y2:u2 - w2=0:=jpM fun q=>mul_ne nz q z2
 exact mul_ne two_ne nz2 (by grobner)
theorem den_p {δ:Fq}(hd:NonSq δ){u1 w1 u2 w2:Fq}(h1:On δ (u1,w1)) (h2:On δ (u2,w2)):1+δ*u1*u2*w1*w2≠0:=fun e=>
 complete hd h1 h2 (t:= -1) (by grobner) (by grobner)
theorem den_m {δ:Fq}(hd:NonSq δ){u1 w1 u2 w2:Fq}(h1:On δ (u1,w1)) (h2:On δ (u2,w2)):1 - δ*u1*u2*w1*w2≠0:=fun e=>
 complete hd h1 h2 (t:=1) (by grobner) (by grobner)
noncomputable def add (δ:Fq) (p q:Fq×Fq):Fq×Fq:=((p.1*q.2+p.2*q.1)*fi (1+δ*p.1*q.1*p.2*q.2),(p.2*q.2 - p.1*q.1)*fi (1 - δ*p.1*q.1*p.2*q.2))
theorem add_eq {δ:Fq}(hd:NonSq δ){u1 w1 u2 w2:Fq}(h1:On δ (u1,w1)) (h2:On δ (u2,w2)):∃ a b,add δ (u1,w1) (u2,w2)=(a,b)/\a*(1+δ*u1*u2*w1*w2)=u1*w2+w1*u2/\b*(1 - δ*u1*u2*w1*w2)=w1*w2 - u1*u2:=by
 refine ⟨_,_,rfl,?_,?_⟩
 ·have:=mul_fi (den_p hd h1 h2)
  show (u1*w2+w1*u2)*fi (1+δ*u1*u2*w1*w2)*_=_
  generalize fi (1+δ*u1*u2*w1*w2)=i at *
  grobner
 ·have:=mul_fi (den_m hd h1 h2)
  show (w1*w2 - u1*u2)*fi (1 - δ*u1*u2*w1*w2)*_=_
  generalize fi (1 - δ*u1*u2*w1*w2)=i at *
  grobner
theorem poly_close (u1 w1 u2 w2 δ:Fq) (h1:u1*u1+w1*w1=1+δ*u1*u1*w1*w1) (h2:u2*u2+w2*w2=1+δ*u2*u2*w2*w2):
 (u1*w2+w1*u2)*(u1*w2+w1*u2)*((1 - δ*u1*u2*w1*w2)*(1 - δ*u1*u2*w1*w2))+(w1*w2-u1*u2)*(w1*w2-u1*u2)*((1+δ*u1*u2*w1*w2)*(1+δ*u1*u2*w1*w2))=((1 - δ*u1*u2*w1*w2)*(1 - δ*u1*u2*w1*w2))*((1+δ*u1*u2*w1*w2)*(1+δ*u1*u2*w1*w2))+δ*((u1*w2+w1*u2)*(u1*w2+w1*u2)*((w1*w2-u1*u2)*(w1*w2-u1*u2))):=by grobner
theorem add_on {δ:Fq}(hd:NonSq δ){p q:Fq×Fq}(h1:On δ p) (h2:On δ q):On δ (add δ p q):=by
 obtain ⟨u1,w1⟩:=p;obtain ⟨u2,w2⟩:=q;obtain ⟨a,b,e,ha,hb⟩:=add_eq hd h1 h2;rw [e];have dp:=den_p hd h1 h2;have dm:=den_m hd h1 h2;have pc:=poly_close u1 w1 u2 w2 δ h1 h2;simp only [On];generalize 1+δ*u1*u2*w1*w2=A at *;generalize 1 - δ*u1*u2*w1*w2=B at *;refine cancel (mul_ne (mul_ne dp dm) (mul_ne dp dm)) ?_;rw [<-ha,<-hb] at pc;clear h1 h2 ha hb e
 grobner
theorem add_comm (δ:Fq) (p q:Fq×Fq):add δ p q=add δ q p:=by
 obtain ⟨u1,w1⟩:=p;obtain ⟨u2,w2⟩:=q;simp only [add];rw [show u1*w2+w1*u2=u2*w1+w2*u1 by grobner,show δ*u1*u2*w1*w2=δ*u2*u1*w2*w1 by grobner,show w1*w2 - u1*u2=w2*w1 - u2*u1 by grobner]
theorem add_id (δ:Fq) (p:Fq×Fq):add δ p (0,1)=p:=by
 obtain ⟨u,w⟩:=p;simp only [add];rw [show 1+δ*u*0*w*1=1 by grobner,show 1 - δ*u*0*w*1=1 by grobner,fi_uniq (show (1:Fq)*1=1 by grobner),show (u*1+w*0)*1=u by grobner,show (w*1 - u*0)*1=w by grobner]
theorem on_id (δ:Fq):On δ (0,1):=by simp only [On];grobner
theorem poly_w (u1 w1 u2 w2 u3 w3 δ:Fq) (h1:u1*u1+w1*w1=1+δ*u1*u1*w1*w1) (h2:u2*u2+w2*w2=1+δ*u2*u2*w2*w2) (h3:u3*u3+w3*w3=1+δ*u3*u3*w3*w3):
 ((w1*w2-u1*u2)*(1+δ*u1*u2*w1*w2)*w3 - (u1*w2+w1*u2)*(1 - δ*u1*u2*w1*w2)*u3)*((1+δ*u2*u3*w2*w3)*(1 - δ*u2*u3*w2*w3) - δ*u1*w1*(u2*w3+w2*u3)*(w2*w3-u2*u3))=
 (w1*(w2*w3-u2*u3)*(1+δ*u2*u3*w2*w3) - u1*(u2*w3+w2*u3)*(1 - δ*u2*u3*w2*w3))*((1+δ*u1*u2*w1*w2)*(1 - δ*u1*u2*w1*w2) - δ*u3*w3*(u1*w2+w1*u2)*(w1*w2-u1*u2)):=by grobner (ringSteps:=1000000)
theorem poly_u (u1 w1 u2 w2 u3 w3 δ:Fq) (h1:u1*u1+w1*w1=1+δ*u1*u1*w1*w1) (h2:u2*u2+w2*w2=1+δ*u2*u2*w2*w2) (h3:u3*u3+w3*w3=1+δ*u3*u3*w3*w3):
 ((u1*w2+w1*u2)*(1 - δ*u1*u2*w1*w2)*w3+(w1*w2-u1*u2)*(1+δ*u1*u2*w1*w2)*u3)*((1+δ*u2*u3*w2*w3)*(1 - δ*u2*u3*w2*w3)+δ*u1*w1*(u2*w3+w2*u3)*(w2*w3-u2*u3))=
 (u1*(w2*w3-u2*u3)*(1+δ*u2*u3*w2*w3)+w1*(u2*w3+w2*u3)*(1 - δ*u2*u3*w2*w3))*((1+δ*u1*u2*w1*w2)*(1 - δ*u1*u2*w1*w2)+δ*u3*w3*(u1*w2+w1*u2)*(w1*w2-u1*u2)):=by grobner (ringSteps:=1000000)
end Go.Edw
