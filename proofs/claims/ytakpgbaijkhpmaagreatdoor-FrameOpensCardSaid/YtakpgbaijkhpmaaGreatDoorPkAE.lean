import Derived.Test.YtakpgbaijkhpmaaGreatDoorPkAD
open Classical renaming byContradiction→jpM
set_option maxHeartbeats 64000000
set_option linter.unusedSimpArgs false
set_option linter.unusedVariables false
namespace Go.Edw
open Go.Pratt
set_option maxRecDepth 100000
theorem add_assoc {δ:Fq}(hd:NonSq δ){p q r:Fq×Fq}(h1:On δ p) (h2:On δ q) (h3:On δ r):add δ (add δ p q) r=add δ p (add δ q r):=by
 have c1:=add_on hd h1 h2;have c2:=add_on hd h2 h3;obtain ⟨u1,w1⟩:=p;obtain ⟨u2,w2⟩:=q;obtain ⟨u3,w3⟩:=r;obtain ⟨a,b,e1,ha,hb⟩:=add_eq hd h1 h2;obtain ⟨c,d,e2,hc,hd'⟩:=add_eq hd h2 h3;rw [e1] at c1 ⊢;rw [e2] at c2 ⊢;obtain ⟨x,y,e3,hx,hy⟩:=add_eq hd c1 h3;obtain ⟨z,t,e4,hz,ht⟩:=add_eq hd h1 c2;rw [e3,e4];have dp1:=den_p hd h1 h2;have dm1:=den_m hd h1 h2;have dp2:=den_p hd h2 h3;have dm2:=den_m hd h2 h3;have dp3:=den_p hd c1 h3;have dm3:=den_m hd c1 h3;have dp4:=den_p hd h1 c2;have dm4:=den_m hd h1 c2;have pw:=poly_w u1 w1 u2 w2 u3 w3 δ h1 h2 h3;have pu:=poly_u u1 w1 u2 w2 u3 w3 δ h1 h2 h3;clear e1 e2 e3 e4 c1 c2 h1 h2 h3;have m:(1+δ*u1*u2*w1*w2)*(1 - δ*u1*u2*w1*w2)*((1+δ*u2*u3*w2*w3)*(1 - δ*u2*u3*w2*w3))≠0:=mul_ne (mul_ne dp1 dm1) (mul_ne dp2 dm2);rw [<-ha,<-hb,<-hc,<-hd'] at pw pu;clear ha hb hc hd';generalize hA:1+δ*u1*u2*w1*w2=A at *;generalize hB:1 - δ*u1*u2*w1*w2=B at *;generalize hC:1+δ*u2*u3*w2*w3=C at *;generalize hD:1 - δ*u2*u3*w2*w3=D at *;clear hA hB hC hD;have cw:(b*w3 - a*u3)*(1 - δ*u1*c*w1*d)=(w1*d - u1*c)*(1 - δ*a*u3*b*w3):=cancel m (by clear hx hy hz ht pu;grobner);have cu:(a*w3+b*u3)*(1+δ*u1*c*w1*d)=(u1*d+w1*c)*(1+δ*a*u3*b*w3):=cancel m (by clear hx hy hz ht pw cw;grobner);clear pw pu m;rw [<-hx,<-hz] at cu;rw [<-hy,<-ht] at cw;clear hx hy hz ht;have ex:x=z:=cancel (mul_ne dp3 dp4) (by clear cw;grobner);have ey:y=t:=cancel (mul_ne dm3 dm4) (by clear cu;grobner);rw [ex,ey]
noncomputable def sm (δ:Fq) (q:Fq×Fq):Nat->Fq×Fq
 | 0=>(0,1)
 | n+1=>add δ (sm δ q n) q
theorem sm_on {δ:Fq}(hd:NonSq δ){q:Fq×Fq}(h:On δ q):∀ n,On δ (sm δ q n)
 | 0=>on_id δ
 | n+1=>add_on hd (sm_on hd h n) h
theorem sm_add {δ:Fq}(hd:NonSq δ){q:Fq×Fq}(h:On δ q) (m:Nat):∀ n,sm δ q (m+n)=add δ (sm δ q m) (sm δ q n)
 | 0=>(add_id δ _).symm
 | n+1=>by
   show add δ (sm δ q (m+n)) q=add δ _ (add δ (sm δ q n) q)
   rw [sm_add hd h m n,add_assoc hd (sm_on hd h m) (sm_on hd h n) h]
theorem id_add (δ:Fq) (p:Fq×Fq):add δ (0,1) p=p:=by rw [add_comm,add_id]
theorem sm_sm {δ:Fq}(hd:NonSq δ){q:Fq×Fq}(h:On δ q) (m:Nat):∀ n,sm δ (sm δ q m) n=sm δ q (m*n)
 | 0=>rfl
 | n+1=>by
   show add δ (sm δ (sm δ q m) n) (sm δ q m)=_
   rw [sm_sm hd h m n,Nat.mul_succ,sm_add hd h]
theorem sm_id (δ:Fq):∀ n,sm δ (0,1) n=(0,1)
 | 0=>rfl
 | n+1=>by show add δ (sm δ (0,1) n) (0,1)=_;rw [add_id,sm_id δ n]
theorem poly_d (u1 w1 u2 w2 δ:Fq) (h1:u1*u1+w1*w1=1+δ*u1*u1*w1*w1) (h2:u2*u2+w2*w2=1+δ*u2*u2*w2*w2):
 ((w1*w2-u1*u2)*(1+δ*u1*u2*w1*w2)+(w1*w2+u1*u2)*(1 - δ*u1*u2*w1*w2))*(w1*w1+w2*w2)=2*w1*w2*((1 - δ*u1*u2*w1*w2)*(1+δ*u1*u2*w1*w2)+(w1*w2-u1*u2)*(w1*w2+u1*u2)):=by grobner (ringSteps:=1000000)
theorem key_cut {A B Y W y w4 S T:Fq}(h4:w4*A=W) (hy:y*B=Y) (p:(Y*A+W*B)*S=T*(B*A+Y*W)):B*A*((y+w4)*S)=B*A*(T*(1+y*w4)):=by subst h4 hy;grobner
theorem add_a {y w4 S T:Fq}(key:(y+w4)*S=T*(1+y*w4)):T - w4*S=y*(S - T*w4):=by grobner
theorem add_b {w4 S T:Fq}(q:S - T*w4=0) (q2:T - w4*S=0):(1 - w4)*(1+w4)*S=0:=by grobner
theorem add_c {w4 S T:Fq}(q4:S=0) (q2:T - w4*S=0):T=0:=by grobner
theorem add_d {w1 w2:Fq}(q4:w1*w1+w2*w2=0) (q6:w1*w2=0):(w1*w1)*(w1*w1)=0:=by grobner
theorem add_e {u1 u2 δ w4:Fq}(h1:u1*u1+0*0=1+δ*u1*u1*0*0) (h2:u2*u2+0*0=1+δ*u2*u2*0*0) (h4:w4*(1+δ*u1*u2*0*0)=0*0+u1*u2):(1 - w4)*(1+w4)=0:=by grobner
theorem add_s {x w4 p q:Fq}(hx:x*(1 - w4)=1+w4):(1 - w4)*(p*p+x*q*q)=(1 - w4)*(p*p)+(1+w4)*(q*q):=by grobner
theorem add_t {x w4 p q:Fq}(hx:x*(1 - w4)=1+w4):(1 - w4)*(p*p - x*q*q)=(1 - w4)*(p*p) - (1+w4)*(q*q):=by grobner
theorem add_v {w4 E G w1 w2:Fq}:(1 - w4)*((w2*G*E+G*(w1*E))*(w2*G*E+G*(w1*E)))+(1+w4)*((w2*G*E - G*(w1*E))*(w2*G*E - G*(w1*E)))=(2*(G*G*(E*E)))*((w1*w1+w2*w2) - 2*w1*w2*w4):=by grobner
theorem add_x {w4 E G w1 w2:Fq}:(1 - w4)*((w2*G*E+G*(w1*E))*(w2*G*E+G*(w1*E))) - (1+w4)*((w2*G*E - G*(w1*E))*(w2*G*E - G*(w1*E)))=(2*(G*G*(E*E)))*(2*w1*w2 - w4*(w1*w1+w2*w2)):=by grobner
def Rep (a c w:Fq):Prop:=a+c≠0/\a - c=w*(a+c)
theorem one_min {δ:Fq}(hd:NonSq δ){w:Fq}:1 - δ*w*w≠0:=fun e=>by
 have w0:w≠0:=by rintro rfl;exact absurd (show (1:Fq)=0 by grobner) (by decide)
 have:=mul_fi w0;generalize fi w=i at *;exact hd i (by grobner)
theorem rep_dbl {α δ:Fq}(hd:NonSq δ) (hα:δ*(α+1)=α) (h1:α+1≠0){a c u1 w1:Fq}(hp:On δ (u1,w1)) (h:Rep a c w1):
 Rep ((a+c)*(a+c)*((a - c)*(a - c))) (((a+c)*(a+c) - (a - c)*(a - c))*((a+c)*(a+c)+α*((a+c)*(a+c) - (a - c)*(a - c)))) (add δ (u1,w1) (u1,w1)).2:=by
 obtain ⟨x,y,e,_,hy⟩:=add_eq hd hp hp;have dm:=den_m hd hp hp;have om:=one_min hd (w:=w1);rw [e];obtain ⟨he,hf⟩:=h;rw [hf];generalize a+c=E at *;simp only [On] at hp;have hS:E*E*(w1*E*(w1*E))+(E*E - w1*E*(w1*E))*(E*E+α*(E*E - w1*E*(w1*E)))=(E*E*(E*E)*(α+1))*((1 - δ*u1*u1*w1*w1)*(1 - δ*w1*w1)):=by
  clear hy dm om he hf e
  grobner
 refine ⟨?_,?_⟩
 ·rw [hS];exact mul_ne (mul_ne (mul_ne (mul_ne he he) (mul_ne he he)) h1) (mul_ne dm om)
 ·show _=y*_
  rw [hS];clear hS dm om he hf e
  grobner
theorem rep_add {δ:Fq}(hd:NonSq δ){a c b d u1 w1 u2 w2 x:Fq}(hp:On δ (u1,w1)) (hq:On δ (u2,w2)) (h:Rep a c w1) (k:Rep b d w2){w4:Fq}(h4:w4*(1+δ*u1*u2*w1*w2)=w1*w2+u1*u2) (hx:x*(1 - w4)=1+w4) (hx1:1 - w4≠0) (hx2:1+w4≠0):
 Rep (((b - d)*(a+c)+(b+d)*(a - c))*((b - d)*(a+c)+(b+d)*(a - c))) (x*((b - d)*(a+c) - (b+d)*(a - c))*((b - d)*(a+c) - (b+d)*(a - c))) (add δ (u1,w1) (u2,w2)).2:=by
 obtain ⟨s,y,e,_,hy⟩:=add_eq hd hp hq;have dm:=den_m hd hp hq;have dp:=den_p hd hp hq;rw [e];obtain ⟨he,hf⟩:=h;obtain ⟨hg,hh⟩:=k;rw [hf,hh];generalize a+c=E at *;generalize b+d=G at *;simp only [On] at hp hq;have key:(y+w4)*(w1*w1+w2*w2)=2*w1*w2*(1+y*w4):=cancel (mul_ne dm dp) (key_cut h4 hy (poly_d u1 w1 u2 w2 δ hp hq));have ka:=add_a key;have nz:(w1*w1+w2*w2) - 2*w1*w2*w4≠0:=fun q=>by
  have q2:2*w1*w2 - w4*(w1*w1+w2*w2)=0:=by rw [ka,q,Fin.mul_zero]
  have q4:w1*w1+w2*w2=0:=jpM fun z=>mul_ne (mul_ne hx1 hx2) z (add_b q q2)
  have q5:=add_c q4 q2;have q6:w1*w2=0:=jpM fun z=>mul_ne two_ne z (by rw [<-q5];grobner)
  have z1:=zero_of_sq (zero_of_sq (add_d q4 q6));have z2:w2=0:=zero_of_sq (by rw [z1] at q4;clear h4 hy hp hq hx key ka hf hh e q q2 q5 q6;grobner);subst z1 z2;exact mul_ne hx1 hx2 (add_e hp hq h4)
 have hS:=(add_s (p:=w2*G*E+G*(w1*E)) (q:=w2*G*E - G*(w1*E)) hx).trans add_v;have hL:=(add_t (p:=w2*G*E+G*(w1*E)) (q:=w2*G*E - G*(w1*E)) hx).trans add_x;generalize (w2*G*E+G*(w1*E))*(w2*G*E+G*(w1*E))=pp at *;generalize x*(w2*G*E - G*(w1*E))*(w2*G*E - G*(w1*E))=qq at *;refine ⟨fun z=> ?_,?_⟩
 ·rw [z,Fin.mul_zero] at hS;exact mul_ne (mul_ne two_ne (mul_ne (mul_ne hg hg) (mul_ne he he))) nz hS.symm
 ·show _=y*_
  refine cancel hx1 ?_;rw [hL,ka];generalize w1*w1+w2*w2 - 2*w1*w2*w4=V at *;generalize 2*(G*G*(E*E))=U at *;clear ka key hL nz h4 hy hp hq hx hf hh e dm dp he hg
  grobner
end Go.Edw
