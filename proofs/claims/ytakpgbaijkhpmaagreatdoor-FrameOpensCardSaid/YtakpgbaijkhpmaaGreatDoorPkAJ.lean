import Derived.Test.YtakpgbaijkhpmaaGreatDoorPkAH
open List renaming forall_mem_cons→jqO,not_mem_nil→jqz
open Nat renaming add_zero→jpP,le_refl→jpo,lt_of_lt_of_le→jpq,mod_lt→jp3,pow_succ→jqN
set_option maxHeartbeats 64000000
set_option linter.unusedSimpArgs false
set_option linter.unusedVariables false
namespace Go.Pratt
theorem w11:Prm 11:=prm_small (n:=2) (by decide) (by decide) (by decide+kernel)
theorem w23:Prm 23:=prm_small (n:=3) (by decide) (by decide) (by decide+kernel)
theorem w34123:Prm 34123:=prm_small (n:=183) (by decide) (by decide) (by decide+kernel)
theorem w409477:Prm 409477:=(root_cert (n:=19) (L:= [2,2,3,34123]) (by decide+kernel) (by simp only [jqO,jqz,false_implies,implies_true,and_true];exact ⟨q2,q2,q3,w34123⟩):Root 409477 2).prime
theorem wl6:Prm 14741173:=(root_cert (n:=24) (L:= [2,2,3,3,409477]) (by decide+kernel) (by simp only [jqO,jqz,false_implies,implies_true,and_true];exact ⟨q2,q2,q3,q3,w409477⟩):Root 14741173 2).prime
theorem wl7:Prm 58964693:=(root_cert (n:=26) (L:= [2,2,14741173]) (by decide+kernel) (by simp only [jqO,jqz,false_implies,implies_true,and_true];exact ⟨q2,q2,wl6⟩):Root 58964693 2).prime
theorem w30703:Prm 30703:=prm_small (n:=174) (by decide) (by decide) (by decide+kernel)
theorem w82163:Prm 82163:=prm_small (n:=285) (by decide) (by decide) (by decide+kernel)
theorem w132667:Prm 132667:=prm_small (n:=363) (by decide) (by decide) (by decide+kernel)
theorem w137849:Prm 137849:=prm_small (n:=370) (by decide) (by decide) (by decide+kernel)
theorem wl12:Prm 3044861653679985063343:=(root_cert (n:=72) (L:= [2,3,11,30703,82163,132667,137849]) (by decide+kernel) (by simp only [jqO,jqz,false_implies,implies_true,and_true];exact ⟨q2,q3,w11,w30703,w82163,w132667,w137849⟩):Root 3044861653679985063343 5).prime
theorem wl13:Prm 198211423230930754013084525763697:=(root_cert (n:=108) (L:= [2,2,2,2,3,23,58964693,3044861653679985063343]) (by decide+kernel) (by simp only [jqO,jqz,false_implies,implies_true,and_true];exact ⟨q2,q2,q2,q2,q3,w23,wl7,wl12⟩):Root 198211423230930754013084525763697 5).prime
theorem w269:Prm 269:=prm_small (n:=15) (by decide) (by decide) (by decide+kernel)
theorem w73:Prm 73:=prm_small (n:=7) (by decide) (by decide) (by decide+kernel)
theorem w307:Prm 307:=prm_small (n:=16) (by decide) (by decide) (by decide+kernel)
theorem w5879:Prm 5879:=prm_small (n:=75) (by decide) (by decide) (by decide+kernel)
theorem wl20:Prm 292386187:=(root_cert (n:=29) (L:= [2,3,3,3,3,307,5879]) (by decide+kernel) (by simp only [jqO,jqz,false_implies,implies_true,and_true];exact ⟨q2,q3,q3,q3,q3,w307,w5879⟩):Root 292386187 2).prime
theorem wl21:Prm 213441916511:=(root_cert (n:=38) (L:= [2,5,73,292386187]) (by decide+kernel) (by simp only [jqO,jqz,false_implies,implies_true,and_true];exact ⟨q2,q5,w73,wl20⟩):Root 213441916511 13).prime
theorem w1361:Prm 1361:=prm_small (n:=35) (by decide) (by decide) (by decide+kernel)
theorem w2851:Prm 2851:=prm_small (n:=52) (by decide) (by decide) (by decide+kernel)
theorem w41:Prm 41:=prm_small (n:=5) (by decide) (by decide) (by decide+kernel)
theorem w3797:Prm 3797:=prm_small (n:=60) (by decide) (by decide) (by decide+kernel)
theorem w531581:Prm 531581:=(root_cert (n:=20) (L:= [2,2,5,7,3797]) (by decide+kernel) (by simp only [jqO,jqz,false_implies,implies_true,and_true];exact ⟨q2,q2,q5,q7,w3797⟩):Root 531581 2).prime
theorem w2551:Prm 2551:=prm_small (n:=49) (by decide) (by decide) (by decide+kernel)
theorem w1224481:Prm 1224481:=(root_cert (n:=21) (L:= [2,2,2,2,2,3,5,2551]) (by decide+kernel) (by simp only [jqO,jqz,false_implies,implies_true,and_true];exact ⟨q2,q2,q2,q2,q2,q3,q5,w2551⟩):Root 1224481 13).prime
theorem wl30:Prm 1257559732178653:=(root_cert (n:=51) (L:= [2,2,3,7,23,531581,1224481]) (by decide+kernel) (by simp only [jqO,jqz,false_implies,implies_true,and_true];exact ⟨q2,q2,q3,q7,w23,w531581,w1224481⟩):Root 1257559732178653 2).prime
theorem wl31:Prm 4434155615661930479:=(root_cert (n:=62) (L:= [2,41,43,1257559732178653]) (by decide+kernel) (by simp only [jqO,jqz,false_implies,implies_true,and_true];exact ⟨q2,w41,q43,wl30⟩):Root 4434155615661930479 17).prime
theorem wl32:Prm 172054593956031949258510691:=(root_cert (n:=88) (L:= [2,5,1361,2851,4434155615661930479]) (by decide+kernel) (by simp only [jqO,jqz,false_implies,implies_true,and_true];exact ⟨q2,q5,w1361,w2851,wl31⟩):Root 172054593956031949258510691 2).prime
theorem wl33:Prm 19757330305831588566944191468367130476339:=(root_cert (n:=134) (L:= [2,269,213441916511,172054593956031949258510691]) (by decide+kernel) (by simp only [jqO,jqz,false_implies,implies_true,and_true];exact ⟨q2,w269,wl21,wl32⟩):Root 19757330305831588566944191468367130476339 2).prime
theorem wl34:Prm 276602624281642239937218680557139826668747:=(root_cert (n:=138) (L:= [2,7,19757330305831588566944191468367130476339]) (by decide+kernel) (by simp only [jqO,jqz,false_implies,implies_true,and_true];exact ⟨q2,q7,wl33⟩):Root 276602624281642239937218680557139826668747 2).prime
theorem prmL:Prm 7237005577332262213973186563042994240857116359379907606001950938285454250989:=(root_cert (n:=253) (L:= [2,2,3,11,198211423230930754013084525763697,276602624281642239937218680557139826668747]) (by decide+kernel) (by simp only [jqO,jqz,false_implies,implies_true,and_true];exact ⟨q2,q2,q3,w11,wl13,wl34⟩):Root 7237005577332262213973186563042994240857116359379907606001950938285454250989 2).prime
end Go.Pratt
namespace Go.Proofs.YtakpgbaijkhpmaaGreatDoor
open Go.ChangeShapes Go.WideShapes Go.ChangeAt Go.RowKit Go.Deep
open Go.Edw
open Go.Pratt (Prm prmL)
set_option maxRecDepth 100000
abbrev Qj:Nat:=7237005577332262213973186563042994240857116359379907606001950938285454250989
def jc3 (m:Nat):Bool:=Qj.testBit (254 - m)
theorem jkg:kF jc3 255=Qj:=by decide+kernel
theorem ji1:(Zg 9 jc3 255).2.2.1=0/\(Zg 9 jc3 255).1≠0:=by decide+kernel
theorem jeB {q:Fq×Fq}(hq:On dT q):xw q.2≠ -9:=fun e=>by
 obtain ⟨u,w⟩:=q;have w1:w≠1:=fun z=>by
  subst z;rw [xw_one] at e;exact absurd e (by decide)
 have h:=xw_eq w1;dsimp only at e;rw [e] at h;have hw:w=5*fi 4:=by
  have f4:=mul_fi (show (4:Fq)≠0 by decide);generalize fi 4=i at *
  grobner
 have fi4:fi 4=43422033463993573283839119378257965444976244249615211514796594002967423614962:=fi_uniq (by decide+kernel);rw [fi4] at hw;have hn:NonSq ((1 - w*w)*(1 - dT*w*w)):=by
  rw [hw];exact nonsq_of (by decide+kernel) (by decide+kernel)
 refine hn (u*(1 - dT*w*w)) ?_;simp only [On] at hq;clear hn hw fi4 h e w1;generalize dT=D at *
 grobner
theorem jeA:∃ q:Fq×Fq,On dI q/\xw q.2=9:=by
 rcases point_of 9 with h | ⟨q,h1,h2⟩
 ·exact h
 ·exact absurd h2 (jeB h1)
theorem jkI {q:Fq×Fq}(hq:On dI q) (hx:xw q.2=9):sm dI q Qj=(0,1):=by
 have w1:q.2≠1:=fun z=>by rw [z,xw_one] at hx;exact absurd hx (by decide)
 have hw:=xw_eq w1;rw [hx] at hw;have wm:(1:Fq)+q.2≠0:=fun z=>by
  have e1:q.2= -1:=by generalize q.2=v at *;grobner
  rw [e1] at hw;exact absurd hw (by decide)
 have wp:(1:Fq) - q.2≠0:=fun z=>w1 (by generalize q.2=v at *;grobner)
 obtain ⟨u,v⟩:=q;have inv:=(lad_inv dI_non dI_eq (by decide+kernel) hq hw wp wm jc3 255).1;rw [jkg] at inv;have h9:(9:Fq)=toF 9:=by decide+kernel
 rw [h9,<-jcL (by decide+kernel) jc3 255] at inv;obtain ⟨l1,l2⟩:=ji1;obtain ⟨i1,i2⟩:=inv;have hc:(toS (Zg 9 jc3 255)).2.2.1=0:=by
  show toF (Zg 9 jc3 255).2.2.1=0
  rw [l1];rfl
 rw [hc] at i1 i2;have on:=sm_on dI_non hq Qj;generalize hs:sm dI (u,v) Qj=s at *;obtain ⟨a,b⟩:=s;generalize (toS (Zg 9 jc3 255)).1=z at *;have hb:b=1:=by
  have z0:z≠0:=fun e=>i1 (by rw [e];decide)
  have:=mul_fi z0;dsimp only at i2;generalize fi z=i at *;clear hc on hs hq hw wp wm hx w1 i1 l1 l2
  grobner
 subst hb;have:=on_one dI_non on (by decide);rw [this]
theorem jgH {δ:Fq}(hd:NonSq δ){q:Fq×Fq}(h:On δ q){n:Nat}(e:sm δ q n=(0,1)) (k:Nat):sm δ q (n*k)=(0,1):=by
 rw [<-sm_sm hd h,e,sm_id]
theorem ji0 {q:Fq×Fq}(hq:On dI q) (hx:xw q.2=9){n:Nat}(h:sm dI q n=(0,1)):Qj∣n:=by
 have he:=jkI hq hx;have hg:∀ (k a b:Nat),a<=k->sm dI q a=(0,1)->sm dI q b=(0,1)->sm dI q (Nat.gcd a b)=(0,1):=by
  intro k
  induction k with
  | zero=>
    intro a b ha _ h2;obtain rfl:a=0:=by omega
    rw [Nat.gcd_zero_left];exact h2
  | succ k ih=>
    intro a b ha h1 h2;by_cases a0:a=0
    ·subst a0;rw [Nat.gcd_zero_left];exact h2
    ·rw [Nat.gcd_rec];have hlt:b % a < a:=jp3 _ (by omega);refine ih _ _ (by omega) ?_ h1;have e:sm dI q b=add dI (sm dI q (a*(b / a))) (sm dI q (b % a)):=by rw [<-sm_add dI_non hq,Nat.div_add_mod]
     rw [jgH dI_non hq h1,id_add] at e;rw [<-e];exact h2
 have:=hg Qj Qj n (jpo _) he h;rcases prmL.2 _ (Nat.gcd_dvd_left Qj n) with h1 | h1
 ·exfalso
  rw [h1] at this;have e1:sm dI q 1=q:=id_add dI q;rw [e1] at this;rw [this,xw_one] at hx;exact absurd hx (by decide)
 ·have d:=Nat.gcd_dvd_right Qj n;rw [h1] at d;exact d
theorem jjY (bits:Nat->Bool):∀ m,kF bits m < 2 ^ m
 | 0=>by show 0 < 1;omega
 | m+1=>by
   have:=jjY bits m;have e:kF bits (m+1)=2*kF bits m+if bits m then 1 else 0:=rfl
   rw [e,jqN]
   split <;> omega
theorem jhD (ks:List UInt8):∃ m,kF (fun m=>yk ks (254 - m)) 255=8*m/\0 < m/\m < Qj:=by
 have e:∀ m,kF (fun m=>yk ks (254 - m)) (m+1)=2*kF (fun m=>yk ks (254 - m)) m+if yk ks (254 - m) then 1 else 0:=fun m=>rfl
 have b0:yk ks 0=false:=rfl;have b1:yk ks 1=false:=rfl;have b2:yk ks 2=false:=rfl;have e3:=e 254;have e2:=e 253;have e1:=e 252;rw [show 254 - 254=0 from rfl,b0] at e3;rw [show 254 - 253=1 from rfl,b1] at e2;rw [show 254 - 252=2 from rfl,b2] at e1;have lt:=jjY (fun m=>yk ks (254 - m)) 252;have pos:∀ m,0 < kF (fun m=>yk ks (254 - m)) (m+1):=by
  intro m
  induction m with
  | zero=>
    have b:yk ks (254 - 0)=true:=rfl;rw [e 0,b];exact jpq (by decide:0 < 1) (Nat.le_add_left _ _)
  | succ m ih=>
    have:=e (m+1);omega
 refine ⟨kF (fun m=>yk ks (254 - m)) 252,?_,pos 251,jpq lt (by decide+kernel)⟩;simp only [Bool.false_eq_true,if_false,jpP] at e1 e2 e3;rw [e3,e2,e1];omega
theorem jcn (ks ls:List UInt8):jY ls (jY ks 9)≠0:=fun h=>by
 obtain ⟨q,hq,hx⟩:=jeA;have h9:(9:Fq)=toF 9:=by decide+kernel
 have hl:=YN ls (yL ks 9);rw [h,YN ks (by decide+kernel),<-h9,<-hx,res_point dI_non dI_eq (by decide+kernel) hq rfl rfl,res_point dI_non dI_eq (by decide+kernel) (sm_on dI_non hq _) rfl rfl,sm_sm dI_non hq] at hl;obtain ⟨m,e1,m0,m1⟩:=jhD ks;obtain ⟨n,e2,n0,n1⟩:=jhD ls;rw [e1,e2] at hl;have on:=sm_on dI_non hq (8*m*(8*n));have h1:=ji0 hq hx (n:=8*m*(8*n)+8*m*(8*n)) (by
  rw [sm_add dI_non hq];generalize hs:sm dI q (8*m*(8*n))=s at *;obtain ⟨a,b⟩:=s;have hb:b*b=1:=by
   have z:xw b=0:=hl.symm;by_cases hb1:b=1
   ·subst hb1;decide
   ·have:=xw_eq hb1;rw [z] at this;clear hl on hs hx hq h9 h
    grobner
  have ha:=on_one dI_non on hb;subst ha;have o2:On dI (0,b):=on;obtain ⟨x,y,e,hx',hy'⟩:=add_eq dI_non o2 o2;rw [e];generalize dI=D at *;have ex:x=0:=by clear on o2 e hy' hl hs hx hq;grobner
  have ey:y=1:=by clear on o2 e hx' hl hs hx hq ex;grobner
  rw [ex,ey])
 have pd:=prmL;have no:∀ k,0 < k->k < Qj-> ¬ Qj∣k:=fun k k0 k1 d=>by have:=Nat.le_of_dvd k0 d;omega
 have s8: ¬ Qj∣8:=no 8 (by decide) (by decide+kernel);have s2: ¬ Qj∣2:=no 2 (by decide) (by decide+kernel);rw [show 8*m*(8*n)+8*m*(8*n)=2*((8*m)*(8*n)) by omega] at h1;rcases pd.dvd_or h1 with z | z
 ·exact s2 z
 rcases pd.dvd_or z with z | z
 ·rcases pd.dvd_or z with z | z
  ·exact s8 z
  ·exact no m m0 m1 z
 ·rcases pd.dvd_or z with z | z
  ·exact s8 z
  ·exact no n n0 n1 z
end Go.Proofs.YtakpgbaijkhpmaaGreatDoor
