import Derived.Test.YtakpgbaijkhpmaaGreatDoorRows
open Bool renaming and_eq_true→jpK
open Classical renaming byContradiction→jpM
open List renaming all_eq_true→jp2,forall_mem_cons→jqO,mem_cons_of_mem→jqC,mem_cons_self→jqB,not_mem_nil→jqz,range→jp1
open List.Nodup renaming length_le_of_subset→jpJ
open Nat renaming le_refl→jpo,lt_of_le_of_lt→jp4,lt_or_ge→jpu,mod_eq_of_lt→jqM,mod_lt→jp3,mul_assoc→jqJ,mul_comm→jqI,mul_mod→jqL,pow_add→jqK,pow_succ→jqN
set_option maxHeartbeats 64000000
set_option linter.unusedSimpArgs false
set_option linter.unusedVariables false
namespace Go.Pratt
def Prm (q:Nat):Prop:=2<=q/\∀ m,m∣q->m=1\/m=q
theorem Prm.dvd_or {q a b:Nat}(hq:Prm q) (h:q∣a*b):q∣a\/q∣b:=by
 rcases hq.2 (Nat.gcd q a) (Nat.gcd_dvd_left q a) with h1 | h1
 ·right;exact Nat.Coprime.dvd_of_dvd_mul_left h1 h
 ·left;rw [<-h1];exact Nat.gcd_dvd_right q a
def prodL:List Nat->Nat
 | []=>1
 | q::l=>q*prodL l
theorem prod_hit:∀ (L:List Nat),(∀ q∈L,Prm q)->∀ d m,prodL L=d*m->1 < m->∃ q∈L,q∣m
 | [],_,d,m,h,hm=>by
   have:m∣1:=⟨d,by rw [jqI];exact h⟩;have:=Nat.le_of_dvd (by omega) this;omega
 | q::L,hL,d,m,h,hm=>by
   have hq:=hL q (jqB ..);have hd:q∣d*m:=⟨prodL L,h.symm⟩;rcases hq.dvd_or hd with ⟨d',rfl⟩ | h1
   ·have hc:prodL L=d'*m:=by
     have:q*prodL L=q*(d'*m):=by rw [<-jqJ];exact h
     exact Nat.eq_of_mul_eq_mul_left (by have:=hq.1;omega) this
    obtain ⟨r,hr,hrm⟩:=prod_hit L (fun q h=>hL q (jqC _ h)) d' m hc hm;exact ⟨r,jqC _ hr,hrm⟩
   ·exact ⟨q,jqB ..,h1⟩
theorem pow_mod_of {N g a k:Nat}(h:g ^ a % N=1):g ^ (a*k) % N=1 % N:=by
 rw [Nat.pow_mul,Nat.pow_mod,h,Nat.one_pow]
theorem gcd_hit {N g:Nat}:∀ (n a b:Nat),a<=n->g ^ a % N=1->g ^ b % N=1->g ^ (Nat.gcd a b) % N=1:=by
 intro n
 induction n with
 | zero=>
   intro a b ha h1 h2;obtain rfl:a=0:=by omega
   rw [Nat.gcd_zero_left];exact h2
 | succ n ih=>
   intro a b ha h1 h2;by_cases a0:a=0
   ·subst a0;rw [Nat.gcd_zero_left];exact h2
   ·rw [Nat.gcd_rec];have hlt:b % a < a:=jp3 _ (by omega);refine ih _ _ (by omega) ?_ h1;have e:g ^ b=g ^ (a*(b / a))*g ^ (b % a):=by rw [<-jqK,Nat.div_add_mod]
    rw [e,jqL,pow_mod_of h1,<-jqL,Nat.one_mul] at h2;exact h2
structure Root (N g:Nat):Prop where
 big:1 < N
 back:g ^ (N - 1) % N=1
 no:∀ i,0 < i->i < N - 1->g ^ i % N≠1
theorem root_of {N g:Nat}(L:List Nat) (hN:1 < N) (hL:∀ q∈L,Prm q) (hp:prodL L=N - 1) (hb:g ^ (N - 1) % N=1) (hq:∀ q∈L,g ^ ((N - 1) / q) % N≠1):Root N g:=by
 refine ⟨hN,hb,fun i h0 hi h1=> ?_⟩;have hg:=gcd_hit i i (N - 1) (jpo _) h1 hb;obtain ⟨m,hm⟩:=Nat.gcd_dvd_right i (N - 1);have hd:Nat.gcd i (N - 1)<=i:=Nat.le_of_dvd h0 (Nat.gcd_dvd_left _ _);generalize Nat.gcd i (N - 1)=d at *;have hm1:1 < m:=by
  rcases jpu 1 m with h | h
  ·exact h
  ·exfalso
   have:d*m<=d*1:=Nat.mul_le_mul_left _ h;omega
 obtain ⟨q,hqL,k,rfl⟩:=prod_hit L hL d m (by rw [hp,hm]) hm1;refine hq q hqL ?_;have q0:0 < q:=by have:=(hL q hqL).1;omega
 have e:(N - 1) / q=d*k:=by
  rw [hm,show d*(q*k)=q*(d*k) by rw [<-jqJ,jqI d q,jqJ],Nat.mul_div_cancel_left _ q0]
 rw [e,pow_mod_of hg,jqM hN]
section
variable {N g:Nat}(R:Root N g)
include R
theorem Root.ne_zero (i:Nat) (hi:i<=N - 1):g ^ i % N≠0:=by
 intro h;have e:g ^ (N - 1)=g ^ i*g ^ (N - 1 - i):=by rw [<-jqK];congr 1;omega
 have:=R.back;rw [e,jqL,h,Nat.zero_mul,Nat.zero_mod] at this;omega
theorem Root.inj {i j:Nat}(hij:i < j) (hj:j < N - 1):g ^ i % N≠g ^ j % N:=by
 intro h;have e1:g ^ (N - 1)=g ^ i*g ^ (N - 1 - i):=by rw [<-jqK];congr 1;omega
 have e2:g ^ j*g ^ (N - 1 - i)=g ^ (N - 1)*g ^ (j - i):=by rw [<-jqK,<-jqK];congr 1;omega
 have h1:=R.back;have h2:g ^ j*g ^ (N - 1 - i) % N=1:=by rw [jqL,<-h,<-jqL,<-e1];exact h1
 rw [e2,jqL,h1,Nat.one_mul,Nat.mod_mod] at h2;exact R.no (j - i) (by omega) (by omega) h2
theorem Root.hit {x:Nat}(h0:0 < x) (hx:x < N):∃ i,i < N - 1/\g ^ i % N=x:=by
 refine jpM fun hno=> ?_
 have hnd:((jp1 (N - 1)).map fun i=>g ^ i % N).Nodup:=by
  rw [List.Nodup,List.pairwise_map];exact List.Pairwise.imp_of_mem (fun {a b} ha hb hab=>R.inj hab (by simpa using hb)) (List.pairwise_lt_range (n:=N - 1))
 have hnd2:(x::((jp1 (N - 1)).map fun i=>g ^ i % N)).Nodup:=by
  rw [List.nodup_cons];refine ⟨fun hm=> ?_,hnd⟩;obtain ⟨i,hi,he⟩:=List.mem_map.mp hm;exact hno ⟨i,by simpa using hi,he⟩
 have hs:(x::((jp1 (N - 1)).map fun i=>g ^ i % N)) ⊆ List.range' 1 (N - 1):=by
  intro y hy;rw [List.mem_range'_1];rcases List.mem_cons.mp hy with rfl | hm
  ·omega
  ·obtain ⟨i,hi,rfl⟩:=List.mem_map.mp hm;have hi':i < N - 1:=by simpa using hi
   have:=R.ne_zero i (by omega);have:=jp3 (g ^ i) (show 0 < N by have:=R.big;omega);omega
 have:=jpJ hnd2 hs;simp at this
 have:=R.big;omega
theorem Root.fermat {x:Nat}(h0:0 < x) (hx:x < N):x ^ (N - 1) % N=1:=by
 obtain ⟨i,hi,rfl⟩:=R.hit h0 hx;rw [<-Nat.pow_mod,<-Nat.pow_mul,jqI,pow_mod_of R.back,jqM R.big]
theorem Root.prime:Prm N:=by
 have hb:=R.big;refine ⟨hb,fun m hm=> ?_⟩;by_cases h:m < N
 ·have m0:0 < m:=Nat.pos_of_dvd_of_pos hm (by omega);have hf:=R.fermat m0 h
  left
  rcases Nat.eq_zero_or_pos (N - 1) with z | z
  ·omega
  have h1:m∣m ^ (N - 1):=Nat.dvd_trans (Nat.dvd_refl m) (by
   have:=Nat.pow_dvd_pow m (show 1<=N - 1 by omega)
   rwa [Nat.pow_one] at this)
  have h2:m∣m ^ (N - 1) % N:=(Nat.dvd_mod_iff hm).mpr h1;rw [hf] at h2;exact Nat.dvd_one.mp h2
 ·right
  have:=Nat.le_of_dvd (by omega) hm;omega
end
def pm (N g:Nat):Nat->Nat->Nat
 | 0,_=>1 % N
 | n+1,e=>let h:=pm N g n (e / 2);if e % 2=1 then h*h % N*g % N else h*h % N
theorem pm_eq (N g:Nat):∀ n e,e < 2 ^ n->pm N g n e=g ^ e % N
 | 0,e,h=>by
   obtain rfl:e=0:=by simpa using h
   rfl
 | n+1,e,h=>by
   have ih:=pm_eq N g n (e / 2) (by rw [jqN] at h;omega);simp only [pm,ih];have e1:g ^ (e / 2) % N*(g ^ (e / 2) % N) % N=g ^ (2*(e / 2)) % N:=by
    rw [<-jqL,<-jqK,show e / 2+e / 2=2*(e / 2) by omega]
   rw [e1]
   split
   ·rw [Nat.mod_mul_mod,<-jqN,show (2*(e / 2)).succ=e by omega]
   ·rw [show 2*(e / 2)=e by omega]
def noDiv (q:Nat):Nat->Nat->Bool
 | 0,_=>true
 | n+1,k=>q % k !=0&&noDiv q n (k+1)
theorem noDiv_of (q:Nat):∀ n k,noDiv q n k=true->∀ m,k<=m->m < k+n-> ¬ m∣q
 | 0,_,_=>fun m h1 h2=>by omega
 | n+1,k,h=>fun m h1 h2 hm=>by
   simp [noDiv] at h
   by_cases e:m=k
   ·subst e;exact h.1 (Nat.mod_eq_zero_of_dvd hm)
   ·exact noDiv_of q n (k+1) h.2 m (by omega) (by omega) hm
theorem prm_small {q n:Nat}(h2:2<=q) (hn:q < (n+2)*(n+2)) (h:noDiv q n 2=true):Prm q:=by
 refine ⟨h2,fun m hm=> ?_⟩;obtain ⟨k,rfl⟩:=hm;have nd:=noDiv_of _ n 2 h;by_cases h1:m=1
 ·exact .inl h1
 ·right
  by_cases hk:k=1
  ·rw [hk,Nat.mul_one]
  ·exfalso
   have m0:m≠0:=by rintro rfl;simp at h2
   have k0:k≠0:=by rintro rfl;simp at h2
   by_cases hs:m < n+2
   ·exact nd m (by omega) (by omega) ⟨k,rfl⟩
   ·by_cases ht:k < n+2
    ·exact nd k (by omega) (by omega) ⟨m,jqI _ _⟩
    ·have:(n+2)*(n+2)<=m*k:=Nat.mul_le_mul (by omega) (by omega);omega
def certB (N g n:Nat) (L:List Nat):Bool:=decide (1 < N)&&(N - 1 < 2 ^ n)&&prodL L==N - 1&&pm N g n (N - 1)==1&&L.all fun q=>pm N g n ((N - 1) / q)!=1
theorem root_cert {N g n:Nat}{L:List Nat}(h:certB N g n L=true) (hL:∀ q∈L,Prm q):Root N g:=by
 simp only [certB,jpK,decide_eq_true_eq,beq_iff_eq,jp2,bne_iff_ne,ne_eq] at h;obtain ⟨⟨⟨⟨h1,h2⟩,h3⟩,h4⟩,h5⟩:=h;refine root_of L h1 hL h3 (by rw [<-pm_eq N g n _ h2];exact h4) fun q hq=> ?_
 rw [<-pm_eq N g n _ (jp4 (Nat.div_le_self _ _) h2)];exact h5 q hq
theorem q2:Prm 2:=prm_small (n:=0) (by decide) (by decide) (by decide+kernel)
theorem q3:Prm 3:=prm_small (n:=0) (by decide) (by decide) (by decide+kernel)
theorem q65147:Prm 65147:=prm_small (n:=254) (by decide) (by decide) (by decide+kernel)
theorem q353:Prm 353:=prm_small (n:=17) (by decide) (by decide) (by decide+kernel)
theorem q57467:Prm 57467:=prm_small (n:=238) (by decide) (by decide) (by decide+kernel)
theorem q7:Prm 7:=prm_small (n:=1) (by decide) (by decide) (by decide+kernel)
theorem q131:Prm 131:=prm_small (n:=10) (by decide) (by decide) (by decide+kernel)
theorem q132049:Prm 132049:=(root_cert (n:=18) (L:= [2,2,2,2,3,3,7,131]) (by decide+kernel) (by simp only [jqO,jqz,false_implies,implies_true,and_true];exact ⟨q2,q2,q2,q2,q3,q3,q7,q131⟩):Root 132049 26).prime
theorem q43:Prm 43:=prm_small (n:=5) (by decide) (by decide) (by decide+kernel)
theorem q3727:Prm 3727:=prm_small (n:=60) (by decide) (by decide) (by decide+kernel)
theorem q1923133:Prm 1923133:=(root_cert (n:=21) (L:= [2,2,3,43,3727]) (by decide+kernel) (by simp only [jqO,jqz,false_implies,implies_true,and_true];exact ⟨q2,q2,q3,q43,q3727⟩):Root 1923133 2).prime
theorem q31:Prm 31:=prm_small (n:=4) (by decide) (by decide) (by decide+kernel)
theorem q107:Prm 107:=prm_small (n:=9) (by decide) (by decide) (by decide+kernel)
theorem q223:Prm 223:=prm_small (n:=13) (by decide) (by decide) (by decide+kernel)
theorem q4153:Prm 4153:=prm_small (n:=63) (by decide) (by decide) (by decide+kernel)
theorem q5:Prm 5:=prm_small (n:=1) (by decide) (by decide) (by decide+kernel)
theorem q1723:Prm 1723:=prm_small (n:=40) (by decide) (by decide) (by decide+kernel)
theorem q430751:Prm 430751:=(root_cert (n:=19) (L:= [2,5,5,5,1723]) (by decide+kernel) (by simp only [jqO,jqz,false_implies,implies_true,and_true];exact ⟨q2,q5,q5,q5,q1723⟩):Root 430751 17).prime
theorem qb0:Prm 31757755568855353:=(root_cert (n:=55) (L:= [2,2,2,3,31,107,223,4153,430751]) (by decide+kernel) (by simp only [jqO,jqz,false_implies,implies_true,and_true];exact ⟨q2,q2,q2,q3,q31,q107,q223,q4153,q430751⟩):Root 31757755568855353 10).prime
theorem q75707:Prm 75707:=prm_small (n:=274) (by decide) (by decide) (by decide+kernel)
theorem q13:Prm 13:=prm_small (n:=2) (by decide) (by decide) (by decide+kernel)
theorem q2437:Prm 2437:=prm_small (n:=48) (by decide) (by decide) (by decide+kernel)
theorem q97:Prm 97:=prm_small (n:=8) (by decide) (by decide) (by decide+kernel)
theorem q419:Prm 419:=prm_small (n:=19) (by decide) (by decide) (by decide+kernel)
theorem q569003:Prm 569003:=(root_cert (n:=20) (L:= [2,7,97,419]) (by decide+kernel) (by simp only [jqO,jqz,false_implies,implies_true,and_true];exact ⟨q2,q7,q97,q419⟩):Root 569003 2).prime
theorem qb1:Prm 2773320623:=(root_cert (n:=32) (L:= [2,2437,569003]) (by decide+kernel) (by simp only [jqO,jqz,false_implies,implies_true,and_true];exact ⟨q2,q2437,q569003⟩):Root 2773320623 5).prime
theorem qb2:Prm 72106336199:=(root_cert (n:=37) (L:= [2,13,2773320623]) (by decide+kernel) (by simp only [jqO,jqz,false_implies,implies_true,and_true];exact ⟨q2,q13,qb1⟩):Root 72106336199 7).prime
theorem q19:Prm 19:=prm_small (n:=3) (by decide) (by decide) (by decide+kernel)
theorem q47:Prm 47:=prm_small (n:=5) (by decide) (by decide) (by decide+kernel)
theorem q127:Prm 127:=prm_small (n:=10) (by decide) (by decide) (by decide+kernel)
theorem q103:Prm 103:=prm_small (n:=9) (by decide) (by decide) (by decide+kernel)
theorem q991:Prm 991:=prm_small (n:=30) (by decide) (by decide) (by decide+kernel)
theorem q8574133:Prm 8574133:=(root_cert (n:=24) (L:= [2,2,3,7,103,991]) (by decide+kernel) (by simp only [jqO,jqz,false_implies,implies_true,and_true];exact ⟨q2,q2,q3,q7,q103,q991⟩):Root 8574133 2).prime
theorem qb3:Prm 1919519569386763:=(root_cert (n:=51) (L:= [2,3,7,19,47,47,127,8574133]) (by decide+kernel) (by simp only [jqO,jqz,false_implies,implies_true,and_true];exact ⟨q2,q3,q7,q19,q47,q47,q127,q8574133⟩):Root 1919519569386763 2).prime
theorem qb4:Prm 75445702479781427272750846543864801:=(root_cert (n:=116) (L:= [2,2,2,2,2,3,3,5,5,75707,72106336199,1919519569386763]) (by decide+kernel) (by simp only [jqO,jqz,false_implies,implies_true,and_true];exact ⟨q2,q2,q2,q2,q2,q3,q3,q5,q5,q75707,qb2,qb3⟩):Root 75445702479781427272750846543864801 7).prime
theorem qb5:Prm 74058212732561358302231226437062788676166966415465897661863160754340907:=(root_cert (n:=236) (L:= [2,3,353,57467,132049,1923133,31757755568855353,75445702479781427272750846543864801]) (by decide+kernel) (by simp only [jqO,jqz,false_implies,implies_true,and_true];exact ⟨q2,q3,q353,q57467,q132049,q1923133,qb0,qb4⟩):Root 74058212732561358302231226437062788676166966415465897661863160754340907 2).prime
theorem rootP:Root 57896044618658097711785492504343953926634992332820282019728792003956564819949 2:=root_cert (n:=255) (L:= [2,2,3,65147,74058212732561358302231226437062788676166966415465897661863160754340907]) (by decide+kernel) (by simp only [jqO,jqz,false_implies,implies_true,and_true];exact ⟨q2,q2,q3,q65147,qb5⟩)
end Go.Pratt
