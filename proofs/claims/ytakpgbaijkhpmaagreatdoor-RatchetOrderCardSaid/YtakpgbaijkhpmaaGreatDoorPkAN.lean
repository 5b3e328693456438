import Derived.Test.YtakpgbaijkhpmaaGreatDoorPkAG
namespace Go.Pratt
end Go.Pratt
namespace Go.Proofs.YtakpgbaijkhpmaaGreatDoor
open Go.ChangeShapes Go.WideShapes Go.ChangeAt Go.RowKit Go.Deep
open Go.Edw
open Go.Pratt (Prm prmL)
set_option maxRecDepth 100000
abbrev Qj:Nat:=7237005577332262213973186563042994240857116359379907606001950938285454250989
def jc4(m:Nat):Bool:=Qj.testBit(254 - m)
theorem jkh:kF jc4 255=Qj:=by decide +kernel
theorem ji2:(Zg 9 jc4 255).2.2.1=0∧(Zg 9 jc4 255).1≠0:=by decide +kernel
theorem jeC{q:Fq×Fq}(hq:On dT q):xw q.2≠ -9:=fun e=>by
 obtain⟨u,w⟩ :=q
 have w1:w≠1:=fun z=>by
  subst z
  rw [xw_one] at e
  exact absurd e(by decide)
 have h:=xw_eq w1
 dsimp only at e
 rw [e] at h
 have hw:w=5 *fi 4:=by
  have f4:=mul_fi(show(4:Fq)≠0 by decide)
  generalize fi 4=i at *
  grobner
 have fi4:fi 4=43422033463993573283839119378257965444976244249615211514796594002967423614962:=fi_uniq(by decide +kernel)
 rw [fi4] at hw
 have hn:NonSq((1 - w *w)*(1 - dT *w *w)):=by
  rw [hw]
  exact nonsq_of(by decide +kernel)(by decide +kernel)
 refine hn(u *(1 - dT *w *w))?_
 simp only [On] at hq
 clear hn hw fi4 h e w1
 generalize dT=D at *
 grobner
theorem jeB:∃q:Fq×Fq,On dI q∧xw q.2=9:=by
 rcases point_of 9 with h | ⟨q,h1,h2⟩
 ·exact h
 ·exact absurd h2(jeC h1)
theorem jkJ{q:Fq×Fq}(hq:On dI q)(hx:xw q.2=9):sm dI q Qj=(0,1):=by
 have w1:q.2≠1:=fun z=>by rw [z,xw_one] at hx;exact absurd hx(by decide)
 have hw:=xw_eq w1
 rw [hx] at hw
 have wm:(1:Fq)+q.2≠0:=fun z=>by
  have e1:q.2= -1:=by generalize q.2=v at *;grobner
  rw [e1] at hw
  exact absurd hw(by decide)
 have wp:(1:Fq) - q.2≠0:=fun z=>w1(by generalize q.2=v at *;grobner)
 obtain⟨u,v⟩ :=q
 have inv:=(lad_inv dI_non dI_eq(by decide +kernel)hq hw wp wm jc4 255).1
 rw [jkh] at inv
 have h9:(9:Fq)=toF 9:=by decide +kernel
 rw [h9,← jcM(by decide +kernel)jc4 255] at inv
 obtain⟨l1,l2⟩ :=ji2
 obtain⟨i1,i2⟩ :=inv
 have hc:(toS(Zg 9 jc4 255)).2.2.1=0:=by
  show toF(Zg 9 jc4 255).2.2.1=0
  rw [l1];rfl
 rw [hc] at i1 i2
 have on:=sm_on dI_non hq Qj
 generalize hs:sm dI(u,v)Qj=s at *
 obtain⟨a,b⟩ :=s
 generalize(toS(Zg 9 jc4 255)).1=z at *
 have hb:b=1:=by
  have z0:z≠0:=fun e=>i1(by rw [e];decide)
  have:=mul_fi z0
  dsimp only at i2
  generalize fi z=i at *
  clear hc on hs hq hw wp wm hx w1 i1 l1 l2
  grobner
 subst hb
 have:=on_one dI_non on(by decide)
 rw [this]
theorem jgI{δ:Fq}(hd:NonSq δ){q:Fq×Fq}(h:On δ q){n:Nat}(e:sm δ q n=(0,1))(k:Nat):sm δ q(n *k)=(0,1):=by
 rw [← sm_sm hd h,e,sm_id]
theorem ji1{q:Fq×Fq}(hq:On dI q)(hx:xw q.2=9){n:Nat}(h:sm dI q n=(0,1)):Qj ∣ n:=by
 have he:=jkJ hq hx
 have hg:∀(k a b:Nat),a≤k→sm dI q a=(0,1)→sm dI q b=(0,1)→sm dI q(Nat.gcd a b)=(0,1):=by
  intro k
  induction k with
  |zero =>
   intro a b ha _ h2
   obtain rfl:a=0:=by omega
   rw [Nat.gcd_zero_left];exact h2
  |succ k ih =>
   intro a b ha h1 h2
   by_cases a0:a=0
   ·subst a0;rw [Nat.gcd_zero_left];exact h2
   ·rw [Nat.gcd_rec]
    have hlt:b % a < a:=Nat.mod_lt _(by omega)
    refine ih _ _(by omega)?_ h1
    have e:sm dI q b=add dI(sm dI q(a *(b / a)))(sm dI q(b % a)):=by rw [← sm_add dI_non hq,Nat.div_add_mod]
    rw [jgI dI_non hq h1,id_add] at e
    rw [← e];exact h2
 have:=hg Qj Qj n(Nat.le_refl _)he h
 rcases prmL.2 _(Nat.gcd_dvd_left Qj n)with h1 |h1
 ·exfalso
  rw [h1] at this
  have e1:sm dI q 1=q:=id_add dI q
  rw [e1] at this
  rw [this,xw_one] at hx
  exact absurd hx(by decide)
 ·have d:=Nat.gcd_dvd_right Qj n
  rw [h1] at d
  exact d
theorem jjZ(bits:Nat→Bool):∀m,kF bits m < 2 ^ m
 |0=>by show 0 < 1;omega
 |m+1=>by
  have:=jjZ bits m
  have e:kF bits(m+1)=2 *kF bits m+if bits m then 1 else 0:=rfl
  rw [e,Nat.pow_succ]
  split <;> omega
theorem jhE(ks:List UInt8):∃m,kF(fun m=>yj ks(254 - m))255=8 *m∧0 < m∧m < Qj:=by
 have e:∀m,kF(fun m=>yj ks(254 - m))(m+1)=2 *kF(fun m=>yj ks(254 - m))m+if yj ks(254 - m)then 1 else 0:=fun m=>rfl
 have b0:yj ks 0=false:=rfl
 have b1:yj ks 1=false:=rfl
 have b2:yj ks 2=false:=rfl
 have e3:=e 254
 have e2:=e 253
 have e1:=e 252
 rw [show 254 - 254=0 from rfl,b0] at e3
 rw [show 254 - 253=1 from rfl,b1] at e2
 rw [show 254 - 252=2 from rfl,b2] at e1
 have lt:=jjZ(fun m=>yj ks(254 - m))252
 have pos:∀m,0 < kF(fun m=>yj ks(254 - m))(m+1):=by
  intro m
  induction m with
  |zero =>
   have b:yj ks(254 - 0)=true:=rfl
   rw [e 0,b]
   exact Nat.lt_of_lt_of_le(by decide:0 < 1)(Nat.le_add_left _ _)
  |succ m ih =>
   have:=e(m+1)
   omega
 refine⟨kF(fun m=>yj ks(254 - m))252,?_,pos 251,Nat.lt_of_lt_of_le lt(by decide +kernel)⟩
 simp only [Bool.false_eq_true,if_false,Nat.add_zero] at e1 e2 e3
 rw [e3,e2,e1]
 omega
theorem jcn(ks ls:List UInt8):jY ls(jY ks 9)≠0:=fun h=>by
 obtain⟨q,hq,hx⟩ :=jeB
 have h9:(9:Fq)=toF 9:=by decide +kernel
 have hl:=YN ls(yK ks 9)
 rw [h,YN ks(by decide +kernel),← h9,← hx,res_point dI_non dI_eq(by decide +kernel)hq rfl rfl,res_point dI_non dI_eq(by decide +kernel)(sm_on dI_non hq _)rfl rfl,sm_sm dI_non hq] at hl
 obtain⟨m,e1,m0,m1⟩ :=jhE ks
 obtain⟨n,e2,n0,n1⟩ :=jhE ls
 rw [e1,e2] at hl
 have on:=sm_on dI_non hq(8 *m *(8 *n))
 have h1:=ji1 hq hx(n:=8 *m *(8 *n)+8 *m *(8 *n))(by
  rw [sm_add dI_non hq]
  generalize hs:sm dI q(8 *m *(8 *n))=s at *
  obtain⟨a,b⟩ :=s
  have hb:b *b=1:=by
   have z:xw b=0:=hl.symm
   by_cases hb1:b=1
   ·subst hb1;decide
   ·have:=xw_eq hb1
    rw [z] at this
    clear hl on hs hx hq h9 h
    grobner
  have ha:=on_one dI_non on hb
  subst ha
  have o2:On dI(0,b):=on
  obtain⟨x,y,e,hx',hy'⟩ :=add_eq dI_non o2 o2
  rw [e]
  generalize dI=D at *
  have ex:x=0:=by clear on o2 e hy' hl hs hx hq;grobner
  have ey:y=1:=by clear on o2 e hx' hl hs hx hq ex;grobner
  rw [ex,ey])
 have pd:=prmL
 have no:∀k,0 < k→k < Qj→¬ Qj ∣ k:=fun k k0 k1 d=>by have:=Nat.le_of_dvd k0 d;omega
 have s8: ¬ Qj ∣ 8:=no 8(by decide)(by decide +kernel)
 have s2: ¬ Qj ∣ 2:=no 2(by decide)(by decide +kernel)
 rw [show 8 *m *(8 *n)+8 *m *(8 *n)=2 *((8 *m)*(8 *n))by omega] at h1
 rcases pd.dvd_or h1 with z |z
 ·exact s2 z
 rcases pd.dvd_or z with z |z
 ·rcases pd.dvd_or z with z |z
  ·exact s8 z
  ·exact no m m0 m1 z
 ·rcases pd.dvd_or z with z |z
  ·exact s8 z
  ·exact no n n0 n1 z
end Go.Proofs.YtakpgbaijkhpmaaGreatDoor
