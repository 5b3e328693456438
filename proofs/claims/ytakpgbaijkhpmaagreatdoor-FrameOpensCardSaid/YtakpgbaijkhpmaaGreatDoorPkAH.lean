import Derived.Test.YtakpgbaijkhpmaaGreatDoorPkAA
import Derived.Great.FillDense
import Derived.Laws.BitsAllLaws
import Derived.Test.YtakpgbaijkhpmaaGreatDoorPkAC
import Derived.Test.YtakpgbaijkhpmaaGreatDoorPkAG
import Derived.Test.YtakpgbaijkhpmaaGreatDoorPkAB
import Derived.Great.BuildSlice
import Derived.WalkMore
open And renaming intro→jqS
open Array renaming getElem?_toList→jpU
open Go renaming Program→jpB,TypeId→jpC,below_setRow→jqb,bodyPost_ret→jqW,cell_of_row→jqe,execOp→jpY,heap_alloc_new→jqq,results_cell_row→jqX,run_underlying→jql,setRow_heap→jqc,setRow_other→jqy,splice→jp9,wp_store_row→jrf,zeroValue→jpI
open Go.Exit renaming inBlock→jqV
open Go.Instr renaming fill→jqo,index→jqh
open Go.IntKind renaming wrap_u32→jp6,wrap_u64→jqT
open Go.IntWalk renaming i64_in→jq0
open Go.Obj renaming cells→jqY
open Go.Proofs.Tryz renaming prog→jpx,underlying23→jqD
open Go.Result renaming andThen_ok→jqk
open Go.RowKit.Below renaming heap_alloc→jqg,heap_setCell→jp7,refl→jpm,trans→jpn
open Go.Sem renaming run_bind→jqi,run_pure→jqj
open Go.Value renaming agg→jqp,bool→jri,int→jpA,ownBlock→jrb
open Go.World.ownsRow renaming lt→jrc
open Int renaming tdiv_eq_ediv_of_nonneg→jq3,tmod_eq_emod_of_nonneg→jq4
open List renaming append_assoc→jqd,drop_of_length_le→jrg,ext_getElem→jp8,getD→jpr,getElem?_append_left→jqs,getElem?_append_right→jqr,getElem?_cons_zero→jpO,getElem?_eq_none→jqa,getElem?_eq_some_iff→jqx,getElem?_replicate→jq5,getElem?_take→jqf,getElem?_toArray→jqt,length_append→jpG,length_set→jp5,length_take→jps,map_cons→jqA,map_nil→jqF,map_toArray→jqE,mem_append→jpH,mem_cons→jpE,mem_map→jpN,mem_singleton→jpF,nil_append→jq8,not_mem_nil→jqz,range→jp1,replicate→jqn,size_toArray→jqu,take_left'→jqv,take_of_length_le→jqm
open Nat renaming add_mul→jqZ,add_mul_mod_self_left→jq1,add_zero→jpP,div_div_eq_div_mul→jqQ,div_eq_of_lt→jqR,div_lt_of_lt_mul→jq2,le_of_eq→jre,le_of_lt→jqU,le_refl→jpo,le_trans→jp0,lt_of_le_of_lt→jp4,lt_of_lt_of_le→jpq,lt_or_ge→jpu,mod_eq_of_lt→jqM,mod_lt→jp3,mul_assoc→jqJ,mul_comm→jqI,mul_mod→jqL,pow_add→jqK,pow_succ→jqN,zero_add→jpz,zero_le→jpp
open Option.some renaming inj→jpD
open UInt8 renaming ofNat→jpt
namespace Go.Proofs.YtakpgbaijkhpmaaGreatDoor
set_option maxHeartbeats 64000000
set_option linter.unusedSimpArgs false
set_option linter.unusedVariables false
set_option maxRecDepth 100000
section
def lb (x i:Nat):Nat:=x / 4294967296 ^ i % 4294967296
def lbs (n x:Nat):List Nat:=(jp1 n).map (lb x)
theorem yK (x i:Nat):lb x i < 4294967296:=jp3 _ (by decide)
theorem jnz (n x:Nat):(lbs n x).length=n:=by simp [lbs]
theorem yi {n x i:Nat}(h:i < n):wd (lbs n x) i=lb x i:=by simp [wd,lbs,jpr,h]
theorem yn (x i:Nat):x / 4294967296 ^ (i+1)=x / 4294967296 ^ i / 4294967296:=by rw [jqN,jqQ]
def cA (x y:Nat):Nat->Nat
 | 0=>0
 | i+1=>(lb x i+lb y i+cA x y i) / 4294967296
theorem jjU (x y:Nat):∀ i,cA x y i<=1
 | 0=>jpp _
 | i+1=>by have:=jjU x y i;have h1:=yK x i;have h2:=yK y i;rw [cA];omega
theorem jfr (x y:Nat):∀ i,(x+y) / 4294967296 ^ i=x / 4294967296 ^ i+y / 4294967296 ^ i+cA x y i
 | 0=>by simp [cA]
 | i+1=>by
   rw [yn,jfr x y i,yn x,yn y,cA];unfold lb;generalize x / 4294967296 ^ i=X;generalize y / 4294967296 ^ i=Y;generalize cA x y i=c;omega
theorem jkn (x y i:Nat):lb (x+y) i=(lb x i+lb y i+cA x y i) % 4294967296:=by
 unfold lb;rw [jfr];generalize x / 4294967296 ^ i=X;generalize y / 4294967296 ^ i=Y;generalize cA x y i=c;omega
def bS (x y:Nat):Nat->Nat
 | 0=>0
 | i+1=>if lb x i < lb y i+bS x y i then 1 else 0
theorem jcX (x y:Nat):∀ i,bS x y i<=1
 | 0=>jpp _
 | i+1=>by rw [bS];split <;> omega
theorem jcI {x y:Nat}(hy:y < 4294967296 ^ 8):∀ k i,i+k=8->(x+4294967296 ^ 8 - y) / 4294967296 ^ i+y / 4294967296 ^ i+bS x y i=x / 4294967296 ^ i+4294967296 ^ k
 | k,0,h=>by
   obtain rfl:k=8:=by omega
   simp only [Nat.pow_zero,Nat.div_one,bS];generalize 4294967296 ^ 8=M at *;omega
 | k,i+1,h=>by
   have ih:=jcI (x:=x) hy (k+1) i (by omega);have hb:=jcX x y i;rw [show (4294967296:Nat) ^ (k+1)=4294967296 ^ k*4294967296 from jqN _ _] at ih;rw [yn,yn x,yn y,bS];unfold lb;generalize (x+4294967296 ^ 8 - y) / 4294967296 ^ i=D at *;generalize x / 4294967296 ^ i=X at *;generalize y / 4294967296 ^ i=Y at *;generalize bS x y i=b at *;obtain ⟨M,hM⟩:=ex_ (4294967296 ^ k);rw [<-hM] at ih ⊢;clear hM hy
   split <;> omega
theorem jkq {x y:Nat}(hy:y < 4294967296 ^ 8){i:Nat}(hi:i < 8):lb (x+4294967296 ^ 8 - y) i=(lb x i+4294967296 - lb y i - bS x y i) % 4294967296:=by
 have h:=jcI (x:=x) hy (8 - i) i (by omega);have hb:=jcX x y i;obtain ⟨k,hk⟩:∃ k,8 - i=k+1:=⟨8 - i - 1,by omega⟩;rw [hk,show (4294967296:Nat) ^ (k+1)=4294967296 ^ k*4294967296 from jqN _ _] at h;unfold lb;generalize (x+4294967296 ^ 8 - y) / 4294967296 ^ i=D at *;generalize x / 4294967296 ^ i=X at *;generalize y / 4294967296 ^ i=Y at *;generalize bS x y i=b at *;obtain ⟨M,hM⟩:=ex_ (4294967296 ^ k);rw [<-hM] at h;clear hM hy;omega
theorem jg7 {x y:Nat}(hx:x < 4294967296 ^ 8) (hy:y < 4294967296 ^ 8):bS x y 8=if x < y then 1 else 0:=by
 have h:=jcI (x:=x) hy 0 8 rfl;have hb:=jcX x y 8;rw [jqR hx,jqR hy,Nat.pow_zero] at h;by_cases q:x < y
 ·rw [if_pos q];rw [jqR (show x+4294967296 ^ 8 - y < 4294967296 ^ 8 by omega)] at h;omega
 ·rw [if_neg q];have:(x+4294967296 ^ 8 - y) / 4294967296 ^ 8=1:=by
   generalize hM:4294967296 ^ 8=M at *;have:0 < M:=by omega
   rw [show x+M - y=(x - y)+M by omega,Nat.add_div_right _ this,jqR (by omega)]
  omega
def yR:List Nat->Nat
 | []=>0
 | d::ds=>d+4294967296*yR ds
theorem jcl:∀ (vs:List Nat),(∀ i,i < vs.length->wd vs i < 4294967296)->∀ i,lb (yR vs) i=wd vs i
 | [],_,i=>by simp [lb,yR,wd]
 | d::ds,h,0=>by
   have:=h 0 (by simp);simp only [wd,jpr,jpO,Option.getD_some] at this;simp [lb,yR,wd];omega
 | d::ds,h,i+1=>by
   have h0:=h 0 (by simp);simp only [wd,jpr,jpO,Option.getD_some] at h0;have ih:=jcl ds (fun j hj=>by
    have:=h (j+1) (by simp;omega)
    simpa [wd,jpr] using this) i
   rw [show wd (d::ds) (i+1)=wd ds i by simp [wd,jpr],<-ih];unfold lb;rw [yR,Nat.pow_succ',<-jqQ,show (d+4294967296*yR ds) / 4294967296=yR ds by omega]
theorem Ju {vs:List Nat}{n:Nat}(hl:vs.length=n) (h:∀ i,i < n->wd vs i < 4294967296):vs=lbs n (yR vs):=by
 subst hl;refine jp8 (by rw [jnz]) fun i h1 h2=> ?_
 have:=jcl vs h i;simp [wd,jpr,h1] at this
 simp [lbs,this]
theorem ja3:∀ {vs:List Nat}{k z:Nat},k < vs.length->yR (vs.set k z)+wd vs k*4294967296 ^ k=yR vs+z*4294967296 ^ k
 | [],k,z,h=>absurd h (by simp)
 | d::ds,0,z,_=>by simp [yR,wd,jpr];omega
 | d::ds,k+1,z,h=>by
   have ih:=ja3 (vs:=ds) (k:=k) (z:=z) (by simpa using h);rw [show wd (d::ds) (k+1)=wd ds k by simp [wd,jpr],List.set_cons_succ,yR,yR,jqN];have e1:wd ds k*(4294967296 ^ k*4294967296)=4294967296*(wd ds k*4294967296 ^ k):=by rw [<-jqJ,jqI]
   have e2:z*(4294967296 ^ k*4294967296)=4294967296*(z*4294967296 ^ k):=by rw [<-jqJ,jqI]
   rw [e1,e2];generalize wd ds k*4294967296 ^ k=a at *;generalize z*4294967296 ^ k=b at *;omega
theorem jap (x i:Nat):x % 4294967296 ^ (i+1)=x % 4294967296 ^ i+lb x i*4294967296 ^ i:=by
 unfold lb;rw [jqN,Nat.mod_mul];rw [jqI (4294967296 ^ i)]
theorem jbR:∀ (vs:List Nat) (z:Nat),yR (vs++ [z])=yR vs+z*4294967296 ^ vs.length
 | [],z=>by simp [yR]
 | d::ds,z=>by
   rw [List.cons_append,yR,jbR ds z,yR,List.length_cons,jqN];have e2:z*(4294967296 ^ ds.length*4294967296)=4294967296*(z*4294967296 ^ ds.length):=by rw [<-jqJ,jqI]
   rw [e2,Nat.mul_add,Nat.add_assoc]
theorem jhK (n x:Nat):lbs (n+1) x=lbs n x++ [lb x n]:=by simp [lbs,List.range_succ]
theorem JE (x:Nat):∀ n,yR (lbs n x)=x % 4294967296 ^ n
 | 0=>by rw [Nat.pow_zero,Nat.mod_one];rfl
 | n+1=>by rw [jhK,jbR,JE x n,jnz,jap]
theorem ZC (n x:Nat):lbs n (x+4294967296 ^ n)=lbs n x:=by
 have h:=Ju (vs:=lbs n (x+4294967296 ^ n)) (jnz _ _) (fun i hi=>by rw [yi hi];exact yK _ _);have h':=Ju (vs:=lbs n x) (jnz _ _) (fun i hi=>by rw [yi hi];exact yK _ _);rw [h,h',JE,JE,Nat.add_mod_right]
theorem jfJ (n x:Nat):lbs n (x % 4294967296 ^ n)=lbs n x:=by
 have h:=Ju (vs:=lbs n (x % 4294967296 ^ n)) (jnz _ _) (fun i hi=>by rw [yi hi];exact yK _ _);have h':=Ju (vs:=lbs n x) (jnz _ _) (fun i hi=>by rw [yi hi];exact yK _ _);rw [h,h',JE,JE,Nat.mod_mod]
end
section
open Go.ChangeShapes Go.WideShapes Go.ChangeAt Go.RowKit Go.Deep
def zw8:List Nat:=jqn 8 0
theorem yy (w:World):(jpI 218).run jpx w= .ok (.agg (jb zw8).toArray) w:=by kernel_rfl
theorem Wr.new (w:World) (t:jpC) (vs:List Nat):Wr (w.alloc (.cells (jb vs).toArray t)) w.heap.size t vs:=jqq _ _
theorem Ye {vs:List Nat}{n x:Nat}(hl:vs.length=n) (h:∀ j,j < n->wd vs j=lb x j):vs=lbs n x:=by
 refine jp8 (by rw [hl,jnz]) fun i h1 h2=> ?_
 have:=h i (by omega);simp [wd,jpr,h1] at this
 simp [lbs,this]
theorem Yy {vs:List Nat}{j k z:Nat}(hk:k < vs.length):wd (vs.set k z) j=if j=k then z else wd vs j:=by
 unfold wd;by_cases h:j=k
 ·subst h;simp [jpr,hk]
 ·simp [jpr,h,List.getElem?_set_ne (Ne.symm h)]
theorem Zu {x y:Nat}{w:World}:
 Calls jpx 177 #[.agg (jb (lbs 8 x)).toArray, .agg (jb (lbs 8 y)).toArray] w fun e w'=>e= .returned (.agg (jb (lbs 8 (x+y))).toArray)/\Ext w w':=by
 have hal:=yy;have ZL:zw8.length=8:=rfl;generalize zw8=zs at *;have XA:Hid (∀ (o1 o2 o3 o4:Obj),((((w.alloc o1).alloc o2).alloc o3).alloc o4).heap[w.heap.size]? =some o1/\((((w.alloc o1).alloc o2).alloc o3).alloc o4).heap[w.heap.size+1]? =some o2/\((((w.alloc o1).alloc o2).alloc o3).alloc o4).heap[w.heap.size+1+1]? =some o3/\((((w.alloc o1).alloc o2).alloc o3).alloc o4).heap[w.heap.size+1+1+1]? =some o4):=fun o1 o2 o3 o4=>by
  have e:Ext (((w.alloc o1).alloc o2).alloc o3) ((((w.alloc o1).alloc o2).alloc o3).alloc o4):=(jnQ _).alloc _;refine ⟨(e.block _ ?_).trans (jF _ _ _ _),(e.block _ ?_).trans (jH _ _ _ _),(e.block _ ?_).trans (jB _ _ _ _),?_⟩
  ·rw [je,je,je];omega
  ·rw [je,je,je];omega
  ·rw [je,je,je];omega
  ·have:=jqq (((w.alloc o1).alloc o2).alloc o3) o4
   rwa [je,je,je] at this
 have B0:Hid (∀ o1 o2 o3 o4,Ext w ((((w.alloc o1).alloc o2).alloc o3).alloc o4)):=fun o1 o2 o3 o4=>((((jnQ w).alloc _).alloc _).alloc _).alloc _
 have XL:=jnz 8 x;have YL:=jnz 8 y;have WX:Hid (∀ j,j < 8->wd (lbs 8 x) j=lb x j):=fun j hj=>yi hj
 have WY:Hid (∀ j,j < 8->wd (lbs 8 y) j=lb y j):=fun j hj=>yi hj
 have RQ:Hid (∀ vs:List Nat,vs.length=8->(∀ j,j < 8->wd vs j=lb (x+y) j)->vs=lbs 8 (x+y)):=fun vs h1 h2=>Ye h1 h2
 generalize lbs 8 (x+y)=rs at *;generalize lbs 8 x=xs at *;generalize lbs 8 y=ys at *;go_enter Tryz.func177,Tryz.ntmps177
 go_upto_region 2 with fail;refine jg (fun W=>Wr W w.heap.size 218 xs/\Wr W (w.heap.size+1) 218 ys/\Wr W (w.heap.size+1+1) 218 zs/\Wr W (w.heap.size+1+1+1) 218 zs/\Ext w W) ⟨(XA.out _ _ _ _).1,(XA.out _ _ _ _).2.1,(XA.out _ _ _ _).2.2.1,(XA.out _ _ _ _).2.2.2,B0.out _ _ _ _⟩ ?_;clear XA B0;rintro W0 ⟨wa,wb,wc4,wc5,e0⟩;replace wa:=Hj wa;replace wb:=Hj wb;replace wc4:=Hj wc4;replace wc5:=Hj wc5;replace e0:=Hj e0;go_wp2_with fail;go_loopw [6,9] (fun cv iv wr=>∃ (k:Nat) (vs:List Nat),k<=8/\iv= .int .i64 (k:Int)/\cv= .int .u64 (cA x y k:Int)/\vs.length=8/\(∀ j,j < k->wd vs j=lb (x+y) j)/\Below (w.heap.size+1+1+1) W0 wr/\Wr wr (w.heap.size+1+1+1) 218 vs) (fun _ iv _=>8 - (intOf iv).toNat)
 case atStart=>exact ⟨0,zs,jpp _,rfl,rfl,ZL,fun j hj=>absurd hj (by omega),jpm _ _,wc5.out⟩
 case round=>
  obtain ⟨k,vs,hk,rfl,rfl,vl,hv,hB,hw⟩:=hrel;clear wc5;by_cases hlt:k < 8
  ·have ka:=Hj (wa.out.kept hB (by omega));have kb:=Hj (wb.out.kept hB (by omega));have ca:Hid (∀ s,Ext wr s->s.cell? ⟨w.heap.size,k,none⟩=some (.int .u32 (lb x k:Int))/\s.cell? ⟨w.heap.size+1,k,none⟩=some (.int .u32 (lb y k:Int))):=fun s e=>by
    have h1:=(ka.out.kept e ka.out.lt).cell (i:=k) (by rw [XL];exact hlt);have h2:=(kb.out.kept e kb.out.lt).cell (i:=k) (by rw [YL];exact hlt);rw [WX.out k hlt] at h1;rw [WY.out k hlt] at h2;exact jqS h1 h2
   have h1:=yK x k;have h2:=yK y k;have h3:=jjU x y k;have hz:Hid (lb (x+y) k=(lb x k+lb y k+cA x y k) % 4294967296):=jkn x y k;have hc:Hid (cA x y (k+1)=(lb x k+lb y k+cA x y k) / 4294967296):=rfl;generalize lb x k=a at *;generalize lb y k=b at *;generalize cA x y k=c at *;obtain ⟨s,hs⟩:=ex_ (a+b);obtain ⟨T,hT⟩:=ex_ (a+b+c);obtain ⟨z,hzz⟩:=ex_ (T % 4294967296);obtain ⟨d,hd⟩:=ex_ (T / 4294967296);rw [<-hT,<-hzz] at hz;rw [<-hT,<-hd] at hc;have f1:IntKind.u64.wrap (a:Int)=(a:Int):=by rw [jqT];omega
   have f2:IntKind.u64.wrap (b:Int)=(b:Int):=by rw [jqT];omega
   have f3:(a:Int)+(b:Int)=(s:Int):=by omega
   have f3w:IntKind.u64.wrap (s:Int)=(s:Int):=by rw [jqT];omega
   have f4:(s:Int)+(c:Int)=(T:Int):=by omega
   have f4w:IntKind.u64.wrap (T:Int)=(T:Int):=by rw [jqT];omega
   have f5:IntKind.u32.wrap (T:Int)=(z:Int):=by rw [jp6];omega
   have f5m:(T:Int) % 4294967296=(z:Int):=by omega
   have f6:(T:Int) / 4294967296=(d:Int):=by omega
   have f6':(T:Int) / 2 ^ 32=(d:Int):=f6;have Tlt:T < 18446744073709551616:=by omega
   have q1:Op.shift .shr .u64 (T:Int) .u64 32=pure (.int .u64 (d:Int)):=by
    have:=shift_shr .u64 .u64 (T:Int) 32 (by omega) (by decide);rw [this]
    congr 2
   have ik:(k:Int) < 8:=by omega
   have ik0:(0:Int)<=(k:Int):=by omega
   have cv:=hw.cell (i:=k) (by omega);have fv:=hw.frozen k;replace hs:=Hj hs;replace hT:=Hj hT;replace hzz:=Hj hzz;replace hd:=Hj hd;replace hv:=Hj hv;replace hB:=Hj hB;replace hw:=Hj hw;clear h1 h2 h3;go_wp2_with fail;refine qgE [0,1,2,3,4,5,6,7,8,9,10,11] [] ?_;repeat ((first | refine qR _ (fun w' e=>ca.out w' ((jnQ _).drew.trans e)) ?_ | refine qS ?_);go_frame)
   refine jp ?_;have hw2:=Hj (hw.out.kept (jnQ wr).drew hw.out.lt);have hB2:Hid (Below (w.heap.size+1+1+1) W0 wr.drew):=jpn hB.out ((jnQ wr).drew.mono (jqU hw.out.lt));have cv2:=hw2.out.cell (i:=k) (by omega);have fv2:=hw2.out.frozen k;clear cv fv hw hB ca ka kb;generalize wr.drew=w2 at *;go_wp2_with fail;refine ⟨⟨k+1,vs.set k z,by omega,by go_num,by rw [hc.out],by rw [jp5];exact vl,fun j hj=> ?_,Below.setCell hB2.out (jpo _) _,hw2.out.set⟩,by simp [intOf];omega⟩;rw [Yy (by omega)];by_cases e:j=k
   ·rw [if_pos e,e];exact hz.out.symm
   ·rw [if_neg e];exact hv.out j (by omega)
  ·obtain rfl:k=8:=by omega
   have he:=RQ.out vs vl hv;subst he;have RS:=jf vl;have R1:=jo vs;have r4:=Hj (wc4.out.kept hB (by omega));have ZS:=jf ZL;have EE:Hid (Ext w wr):=jpn e0.out (hB.mono (by omega));replace hw:=Hj hw;clear hv hB wc4 e0 wa wb;go_wp2_with (first
    | (refine wl_ rfl 218 rfl (w.heap.size+1+1+1) rfl hw.out rfl rfl (by rw [RS];rfl) ?_;go_frame)
    | (refine ws_ rfl 218 rfl (w.heap.size+1+1) (jb vs).toArray rfl rfl r4.out (by rw [RS];rfl) (by rw [RS,ZS]) R1 ?_;go_frame))
   (try simp only [jqV,Exit.then]);refine jqW (jqX rfl _ _ (w.heap.size+1+1) 218 (jb vs).toArray (0,0) _ rfl (jqc _ _ _ _ _ _ r4.out) rfl rfl (by rw [RS];rfl)) rfl ?_;exact ⟨rfl,jqb EE.out (by omega) _⟩
def jbW (x y:Nat) (w:World) (e:Ending) (w':World):Prop:=e= .returned (.tuple #[.agg (jb (lbs 8 (x+4294967296 ^ 8 - y))).toArray, .int .u64 (bS x y 8:Int)])/\Ext w w'
theorem YJ {x y:Nat}{w:World}(hy:y < 4294967296 ^ 8):
 Calls jpx 176 #[.agg (jb (lbs 8 x)).toArray, .agg (jb (lbs 8 y)).toArray] w (jbW x y w):=by
 have hal:=yy;have ZL:zw8.length=8:=rfl;generalize zw8=zs at *;have XA:Hid (∀ (o1 o2 o3:Obj),(((w.alloc o1).alloc o2).alloc o3).heap[w.heap.size]? =some o1/\(((w.alloc o1).alloc o2).alloc o3).heap[w.heap.size+1]? =some o2/\(((w.alloc o1).alloc o2).alloc o3).heap[w.heap.size+1+1]? =some o3):=fun o1 o2 o3=>⟨jF _ _ _ _,jH _ _ _ _,jB _ _ _ _⟩
 have B0:Hid (∀ o1 o2 o3,Ext w (((w.alloc o1).alloc o2).alloc o3)):=fun o1 o2 o3=>(((jnQ w).alloc _).alloc _).alloc _
 have XL:=jnz 8 x;have YL:=jnz 8 y;have WX:Hid (∀ j,j < 8->wd (lbs 8 x) j=lb x j):=fun j hj=>yi hj
 have WY:Hid (∀ j,j < 8->wd (lbs 8 y) j=lb y j):=fun j hj=>yi hj
 obtain ⟨m,hm⟩:=ex_ (x+4294967296 ^ 8 - y);have LS:Hid (∀ i,i < 8->lb m i=(lb x i+4294967296 - lb y i - bS x y i) % 4294967296):=fun i hi=>by rw [hm];exact jkq hy hi
 unfold jbW;rw [<-hm];clear hm hy;have RQ:Hid (∀ vs:List Nat,vs.length=8->(∀ j,j < 8->wd vs j=lb m j)->vs=lbs 8 m):=fun vs h1 h2=>Ye h1 h2
 generalize lbs 8 m=rs at *;generalize lbs 8 x=xs at *;generalize lbs 8 y=ys at *;have BN:Hid (∀ i,bS x y (i+1)=if lb x i < lb y i+bS x y i then 1 else 0):=fun i=>rfl
 have BLE:Hid (∀ i,bS x y i<=1):=jcX x y;obtain ⟨b8,hb8⟩:=ex_ (bS x y 8);rw [<-hb8];replace hb8:=Hj hb8;go_enter Tryz.func176,Tryz.ntmps176
 go_upto_region 1 with fail;refine jg (fun W=>Wr W w.heap.size 218 xs/\Wr W (w.heap.size+1) 218 ys/\Wr W (w.heap.size+1+1) 218 zs/\Ext w W) ⟨(XA.out _ _ _).1,(XA.out _ _ _).2.1,(XA.out _ _ _).2.2,B0.out _ _ _⟩ ?_;clear XA B0;rintro W0 ⟨wa,wb,wc4,e0⟩;replace wa:=Hj wa;replace wb:=Hj wb;replace wc4:=Hj wc4;replace e0:=Hj e0;go_wp2_with fail;go_loopw [5,8] (fun cv iv wr=>∃ (k:Nat) (vs:List Nat),k<=8/\iv= .int .i64 (k:Int)/\cv= .int .u64 (bS x y k:Int)/\vs.length=8/\(∀ j,j < k->wd vs j=lb m j)/\Below (w.heap.size+1+1) W0 wr/\Wr wr (w.heap.size+1+1) 218 vs) (fun _ iv _=>8 - (intOf iv).toNat)
 case atStart=>exact ⟨0,zs,jpp _,rfl,rfl,ZL,fun j hj=>absurd hj (by omega),jpm _ _,wc4.out⟩
 case round=>
  obtain ⟨k,vs,hk,rfl,rfl,vl,hv,hB,hw⟩:=hrel;clear wc4;by_cases hlt:k < 8
  ·have ka:=Hj (wa.out.kept hB (by omega));have kb:=Hj (wb.out.kept hB (by omega));have ca:Hid (∀ s,Ext wr s->s.cell? ⟨w.heap.size,k,none⟩=some (.int .u32 (lb x k:Int))/\s.cell? ⟨w.heap.size+1,k,none⟩=some (.int .u32 (lb y k:Int))):=fun s e=>by
    have h1:=(ka.out.kept e ka.out.lt).cell (i:=k) (by rw [XL];exact hlt);have h2:=(kb.out.kept e kb.out.lt).cell (i:=k) (by rw [YL];exact hlt);rw [WX.out k hlt] at h1;rw [WY.out k hlt] at h2;exact jqS h1 h2
   have h1:=yK x k;have h2:=yK y k;have h3:=BLE.out k;have hz:=Hj (LS.out k hlt);have hc:=Hj (BN.out k);generalize lb x k=a at *;generalize lb y k=b at *;generalize bS x y k=c at *;obtain ⟨s,hs⟩:=ex_ ((if a < b then a+18446744073709551616 - b else a - b));obtain ⟨T,hT⟩:=ex_ ((if a < b+c then a+18446744073709551616 - b - c else a - b - c));obtain ⟨z,hzz⟩:=ex_ (T % 4294967296);obtain ⟨d,hd⟩:=ex_ ((if a < b+c then 1 else 0));have hz':Hid (lb m k=z):=by
    unfold Hid;rw [hz.out,hzz,hT]
    split <;> omega
   rw [<-hd] at hc;have f1:IntKind.u64.wrap (a:Int)=(a:Int):=by rw [jqT];omega
   have f2:IntKind.u64.wrap (b:Int)=(b:Int):=by rw [jqT];omega
   have f3:IntKind.u64.wrap ((a:Int) - (b:Int))=(s:Int):=by rw [jqT,hs];split <;> omega
   have f4:IntKind.u64.wrap ((s:Int) - (c:Int))=(T:Int):=by rw [jqT,hs,hT];split <;> split <;> omega
   have f3m:((a:Int) - (b:Int)) % 18446744073709551616=(s:Int):=by rw [hs];split <;> omega
   have f4m:((s:Int) - (c:Int)) % 18446744073709551616=(T:Int):=by rw [hs,hT];split <;> split <;> omega
   have f5:IntKind.u32.wrap (T:Int)=(z:Int):=by rw [jp6];omega
   have f5m:(T:Int) % 4294967296=(z:Int):=by omega
   have Tlt:T < 18446744073709551616:=by rw [hT];split <;> omega
   have f6:(T:Int) / 9223372036854775808=(d:Int):=by rw [hT,hd];split <;> omega
   have f6':(T:Int) / 2 ^ 63=(d:Int):=f6;have q1:Op.shift .shr .u64 (T:Int) .u64 63=pure (.int .u64 (d:Int)):=by
    have:=shift_shr .u64 .u64 (T:Int) 63 (by omega) (by decide);rw [this]
    congr 2
   have ik:(k:Int) < 8:=by omega
   have ik0:(0:Int)<=(k:Int):=by omega
   have cv:=hw.cell (i:=k) (by omega);have fv:=hw.frozen k;replace hs:=Hj hs;replace hT:=Hj hT;replace hzz:=Hj hzz;replace hd:=Hj hd;replace hv:=Hj hv;replace hB:=Hj hB;replace hw:=Hj hw;clear h1 h2 h3;go_wp2_with fail;refine qgE [0,1,2,3,4,5,6,7,8,9,10,11] [] ?_;repeat ((first | refine qR _ (fun w' e=>ca.out w' ((jnQ _).drew.trans e)) ?_ | refine qS ?_);go_frame)
   refine jp ?_;have hw2:=Hj (hw.out.kept (jnQ wr).drew hw.out.lt);have hB2:Hid (Below (w.heap.size+1+1) W0 wr.drew):=jpn hB.out ((jnQ wr).drew.mono (jqU hw.out.lt));have cv2:=hw2.out.cell (i:=k) (by omega);have fv2:=hw2.out.frozen k;clear cv fv hw hB ca ka kb;generalize wr.drew=w2 at *;go_wp2_with fail;refine ⟨⟨k+1,vs.set k z,by omega,by go_num,by rw [hc.out],by rw [jp5];exact vl,fun j hj=> ?_,Below.setCell hB2.out (jpo _) _,hw2.out.set⟩,by simp [intOf];omega⟩;rw [Yy (by omega)];by_cases e:j=k
   ·rw [if_pos e,e];exact hz'.out.symm
   ·rw [if_neg e];exact hv.out j (by omega)
  ·obtain rfl:k=8:=by omega
   have he:=RQ.out vs vl hv;subst he;rw [<-hb8.out];have RS:=jf vl;have R1:=jo vs;have EE:Hid (Ext w wr):=jpn e0.out (hB.mono (by omega));replace hw:=Hj hw;clear hv hB e0 wa wb;go_wp2_with (first
    | (refine wl_ rfl 218 rfl (w.heap.size+1+1) rfl hw.out rfl rfl (by rw [RS];rfl) ?_;go_frame)
    | (refine ws_ rfl 218 rfl (w.heap.size+1+1) (jb vs).toArray rfl rfl hw.out (by rw [RS];rfl) (by rw [RS]) R1 ?_;go_frame))
   (try simp only [jqV,Exit.then]);refine jqW (v:= .tuple #[.agg (jb vs).toArray, .int .u64 (b8:Int)]) ?_ rfl ?_
   ·exact qj rfl _ _ (w.heap.size+1+1) 218 (jb vs).toArray (0,0) _ _ rfl rfl (jqc _ _ _ _ _ _ hw.out) rfl rfl (by rw [RS];rfl)
   ·exact ⟨rfl,jqb EE.out (by omega) _⟩
def P25:Nat:=57896044618658097711785492504343953926634992332820282019728792003956564819949
def jkx:List Nat:= [4294967277,4294967295,4294967295,4294967295,4294967295,4294967295,4294967295,2147483647]
theorem jgy:jkx=lbs 8 P25:=by decide+kernel
theorem jea:P25 < 4294967296 ^ 8:=by decide+kernel
def Gp (w:World) (tg:jpC×Nat×Nat):Prop:=w.heap[1]? =some (.cells (jb (lbs 8 P25)).toArray tg.1 tg.2)
theorem Gp.lt {w:World}{tg:jpC×Nat×Nat}(h:Gp w tg):1 < w.heap.size:=jh h
theorem Gp.ext {w w':World}{tg:jpC×Nat×Nat}(h:Gp w tg) (e:Ext w w'):Gp w' tg:=(e.block _ h.lt).trans h
theorem jge {n:Nat}{K Z:Array Value}(hn:0 < n) (pl:Nat->Option (Nat×Nat)) (hp:pl 0=some (0,n)) (hK:K.size=n) (hZ:Z.size=n):jqo pl Z [(0, .agg K)]=some K:=by
 have hc:(jqp K).cells=K:=rfl;simp only [jqo,hp,hc,hK,hZ];simp only [ne_eq,not_true_eq_false,decide_false,Bool.false_or,jpz,Nat.lt_irrefl,decide_false,Bool.false_eq_true,if_false];have:=Great.fill_whole (s:=n) hn [jqp K] Z (fun v hv=>by
  simp only [jpF] at hv;subst hv;exact hK) (by simp [hZ])
 simp only [List.zipIdx_cons,List.zipIdx_nil,jqA,jqF,List.flatMap_cons,List.flatMap_nil,List.append_nil,jqo,hc,hK,hZ,Nat.zero_mul] at this
 simpa using this
theorem vr (w:World):(jpI 233).run jpx w= .ok (.agg (jb zw8).toArray) w:=by kernel_rfl
theorem jiO:(jb zw8).toArray.size=8:=rfl
theorem Qq {K:Array Value}(hK:K.size=8):Tryz.prog.built 233 [(0, .agg K)]=some K:=by
 have h:∃ pl:Nat->Option (Nat×Nat),pl 0=some (0,8)/\∀ ps,Tryz.prog.built 233 ps=jqo pl (jb zw8).toArray ps:=⟨(#[(0,8)][·]?),rfl,fun ps=>by kernel_rfl⟩;obtain ⟨pl,h0,h1⟩:=h;rw [h1,jge (by omega) pl h0 hK jiO]
theorem jkB {x:Nat}(hx:x < 2*P25):lbs 8 (x % P25)=if bS x P25 8=0 then lbs 8 (x+4294967296 ^ 8 - P25) else lbs 8 x:=by
 have h1:x < 4294967296 ^ 8:=Nat.lt_trans hx (by decide+kernel);rw [jg7 h1 jea];by_cases q:x < P25
 ·rw [if_pos q,if_neg (by omega),jqM q]
 ·rw [if_neg q,if_pos rfl];have h2:x % P25=x - P25:=by
   rw [Nat.mod_eq_sub_mod (by omega),jqM (by omega)]
  have e:x - P25+4294967296 ^ 8=x+4294967296 ^ 8 - P25:=by
   generalize P25=p at *;generalize 4294967296 ^ 8=M at *;omega
  rw [h2,<-ZC 8 (x - P25),e]
theorem zG {x:Nat}{w:World}(hx:x < 2*P25){tg:jpC×Nat×Nat}(hG:Gp w tg):
 Calls jpx 160 #[.agg (jb (lbs 8 x)).toArray] w fun e w'=>e= .returned (.agg (jb (lbs 8 (x % P25))).toArray)/\Ext w w':=by
 have SUB:Hid (∀ W,Calls jpx 176 #[.agg (jb (lbs 8 x)).toArray, .agg (jb (lbs 8 P25)).toArray] W (jbW x P25 W)):=fun W=>YJ jea
 have HR:=Hj (jkB hx);unfold jbW at SUB;obtain ⟨r,hr⟩:=ex_ (lbs 8 (x % P25));rw [<-hr] at HR ⊢;have RL:r.length=8:=by rw [hr];exact jnz _ _
 clear hr;have XL:=jnz 8 x;have PL:=jnz 8 P25;have DL:=jnz 8 (x+4294967296 ^ 8 - P25);have BB:Hid (bS x P25 8<=1):=jcX _ _ 8;have GP:Hid (∀ W,Ext w W->W.heap[1]? =some (.cells (jb (lbs 8 P25)).toArray tg.1 tg.2)):=fun W e=>hG.ext e
 clear hG hx;generalize lbs 8 (x+4294967296 ^ 8 - P25)=ds at *;generalize bS x P25 8=b at *;generalize lbs 8 P25=ps at *;generalize lbs 8 x=xs at *;have XS:=jf XL;have PS:=jf PL;have DS:=jf DL;have D1:=jo ds;have X1:=jo xs;have hal:=yy;have hal2:=vr;have bD:Hid (Tryz.prog.built 233 [(0, .agg (jb ds).toArray)]=some (jb ds).toArray):=Qq DS;have bX:Hid (Tryz.prog.built 233 [(0, .agg (jb xs).toArray)]=some (jb xs).toArray):=Qq XS;have ZL:zw8.length=8:=rfl;generalize zw8=zs at *;have ZS:=jf ZL;have B0:Hid (∀ s,Ext ((w.alloc (jqY (jb xs).toArray 218)).alloc (jqY (jb zs).toArray 233)) s->s.heap[w.heap.size]? =some (.cells (jb xs).toArray 218 (0,0))/\s.heap[w.heap.size+1]? =some (.cells (jb zs).toArray 233 (0,0))/\Ext w s):=fun s e=>⟨(e.block _ (by rw [je,je];omega)).trans (jQ _ _ _),(e.block _ (by rw [je,je];omega)).trans (jK _ _ _),(((jnQ w).alloc _).alloc _).trans e⟩
 go_enter Tryz.func160,Tryz.ntmps160
 go_upto_region 1 with fail;have k0:=Hj (B0.out _ (jnQ _)).1;have kp:=Hj (GP.out _ (B0.out _ (jnQ _)).2.2);go_wp2_with (first
  | (refine wl_ rfl 218 rfl w.heap.size rfl k0.out rfl rfl (by rw [XS];rfl) ?_;go_frame)
  | (refine wpList_load_row rfl 218 _ rfl 1 rfl tg.1 (jb ps).toArray tg.2 _ kp.out rfl rfl (by rw [PS];rfl) ?_;go_frame))
 refine (SUB.out _).mono ?_;rintro e v ⟨rfl,e1⟩;have B1:Hid (∀ s,Ext v s->s.heap[w.heap.size]? =some (.cells (jb xs).toArray 218 (0,0))/\s.heap[w.heap.size+1]? =some (.cells (jb zs).toArray 233 (0,0))/\Ext w s):=fun s e=>B0.out s (e1.trans e)
 clear B0 k0 kp GP SUB e1;have a1:Hid ((v.alloc (jqY (jb zs).toArray 218)).heap[v.heap.size]? =some (.cells (jb zs).toArray 218 (0,0))):=jqq _ _;have e5:Ext v ((v.alloc (jqY (jb zs).toArray 218)).setRow v.heap.size (jb ds).toArray):=jqb ((jnQ v).alloc _) (jpo _) _;go_upto_region 2 with (refine ws_ rfl 218 rfl v.heap.size (jb ds).toArray rfl rfl a1.out (by rw [DS];rfl) (by rw [DS,ZS]) D1 ?_;go_frame)
 obtain ⟨f,hf⟩:=ex_ v.heap.size;refine jg (fun W=>W.heap[w.heap.size]? =some (.cells (jb xs).toArray 218 (0,0))/\W.heap[w.heap.size+1]? =some (.cells (jb zs).toArray 233 (0,0))/\Ext w W/\W.heap[f]? =some (.cells (jb ds).toArray 218 (0,0))) (by
  have p:=B1.out _ e5;exact ⟨p.1,p.2.1,p.2.2,by rw [hf];exact jqc _ _ _ _ _ _ a1.out⟩) ?_
 rw [<-hf];clear hf a1 e5 B1;rintro w2 ⟨k0,k1,x2,kd⟩;replace k0:=Hj k0;replace k1:=Hj k1;replace x2:=Hj x2;replace kd:=Hj kd;have BC:b=0\/b=1:=by have:=BB.out;omega
 rcases BC with rfl | rfl
 ·obtain rfl:r=ds:=by have:=HR.out;rw [if_pos rfl] at this;exact this
  go_wp2_with (first
   | (refine wl_ rfl 218 rfl f rfl kd.out rfl rfl (by rw [DS];rfl) ?_;go_frame)
   | (refine jm rfl _ _ rfl (jb r).toArray (by simp only [jqE,jqA,jqF];exact bD.out) ?_;go_frame)
   | (refine ws_ rfl 233 rfl (w.heap.size+1) (jb r).toArray rfl rfl k1.out (by rw [DS];rfl) (by rw [DS,ZS]) D1 ?_;go_frame))
  (try simp only [jqV,Exit.then]);refine jqW (jqX rfl _ _ (w.heap.size+1) 233 (jb r).toArray (0,0) _ rfl (jqc _ _ _ _ _ _ k1.out) rfl rfl (by rw [DS];rfl)) rfl ?_;exact ⟨rfl,jqb x2.out (by omega) _⟩
 ·obtain rfl:r=xs:=by have:=HR.out;rw [if_neg (by omega)] at this;exact this
  go_wp2_with (first
   | (refine wl_ rfl 218 rfl w.heap.size rfl k0.out rfl rfl (by rw [XS];rfl) ?_;go_frame)
   | (refine jm rfl _ _ rfl (jb r).toArray (by simp only [jqE,jqA,jqF];exact bX.out) ?_;go_frame)
   | (refine ws_ rfl 233 rfl (w.heap.size+1) (jb r).toArray rfl rfl k1.out (by rw [XS];rfl) (by rw [XS,ZS]) X1 ?_;go_frame))
  (try simp only [jqV,Exit.then]);refine jqW (jqX rfl _ _ (w.heap.size+1) 233 (jb r).toArray (0,0) _ rfl (jqc _ _ _ _ _ _ k1.out) rfl rfl (by rw [XS];rfl)) rfl ?_;exact ⟨rfl,jqb x2.out (by omega) _⟩
def cP (x n:Nat):Nat->Nat
 | 0=>n
 | i+1=>(lb x i+cP x n i) / 4294967296
theorem jjW {x n:Nat}(hn:n < 4294967296):∀ i,cP x n i < 4294967296
 | 0=>hn
 | i+1=>by have:=jjW (x:=x) hn i;have h1:=yK x i;rw [cP];omega
theorem jaC (x n:Nat):∀ i,(x+n) / 4294967296 ^ i=x / 4294967296 ^ i+cP x n i
 | 0=>by simp [cP]
 | i+1=>by
   rw [yn,jaC x n i,yn x,cP];unfold lb;generalize x / 4294967296 ^ i=X;generalize cP x n i=c;omega
theorem jjc (x n i:Nat):lb (x+n) i=(lb x i+cP x n i) % 4294967296:=by
 unfold lb;rw [jaC];generalize x / 4294967296 ^ i=X;generalize cP x n i=c;omega
theorem jhe {x n:Nat}(hx:x < 4294967296 ^ 8):cP x n 8=(x+n) / 4294967296 ^ 8:=by
 rw [jaC,jqR hx,jpz]
def jbV (x n:Nat) (w:World) (e:Ending) (w':World):Prop:=e= .returned (.tuple #[.agg (jb (lbs 8 (x+n))).toArray, .int .u64 (cP x n 8:Int)])/\Ext w w'
theorem jeQ {x n:Nat}{w:World}(hn:n < 4294967296):
 Calls jpx 178 #[.agg (jb (lbs 8 x)).toArray, .int .u64 (n:Int)] w (jbV x n w):=by
 have hal:=yy;have ZL:zw8.length=8:=rfl;generalize zw8=zs at *;have XA:Hid (∀ (o1 o2:Obj),((w.alloc o1).alloc o2).heap[w.heap.size]? =some o1/\((w.alloc o1).alloc o2).heap[w.heap.size+1]? =some o2):=fun o1 o2=>⟨jQ _ _ _,jK _ _ _⟩
 have B0:Hid (∀ o1 o2,Ext w ((w.alloc o1).alloc o2)):=fun o1 o2=>((jnQ w).alloc _).alloc _
 have XL:=jnz 8 x;have WX:Hid (∀ j,j < 8->wd (lbs 8 x) j=lb x j):=fun j hj=>yi hj
 obtain ⟨m,hm⟩:=ex_ (x+n);have LS:Hid (∀ i,lb m i=(lb x i+cP x n i) % 4294967296):=fun i=>by rw [hm];exact jjc x n i
 unfold jbV;rw [<-hm];clear hm;have RQ:Hid (∀ vs:List Nat,vs.length=8->(∀ j,j < 8->wd vs j=lb m j)->vs=lbs 8 m):=fun vs h1 h2=>Ye h1 h2
 generalize lbs 8 m=rs at *;generalize lbs 8 x=xs at *;have BN:Hid (∀ i,cP x n (i+1)=(lb x i+cP x n i) / 4294967296):=fun i=>rfl
 have BLE:Hid (∀ i,cP x n i < 4294967296):=jjW hn;obtain ⟨b8,hb8⟩:=ex_ (cP x n 8);rw [<-hb8];replace hb8:=Hj hb8;go_enter Tryz.func178,Tryz.ntmps178
 go_upto_region 2 with fail;refine jg (fun W=>Wr W w.heap.size 218 xs/\Wr W (w.heap.size+1) 218 zs/\Ext w W) ⟨(XA.out _ _).1,(XA.out _ _).2,B0.out _ _⟩ ?_;clear XA B0;rintro W0 ⟨wa,wc4,e0⟩;replace wa:=Hj wa;replace wc4:=Hj wc4;replace e0:=Hj e0;go_wp2_with fail;go_loopw [5,9] (fun cv iv wr=>∃ (k:Nat) (vs:List Nat),k<=8/\iv= .int .i64 (k:Int)/\cv= .int .u64 (cP x n k:Int)/\vs.length=8/\(∀ j,j < k->wd vs j=lb m j)/\Below (w.heap.size+1) W0 wr/\Wr wr (w.heap.size+1) 218 vs) (fun _ iv _=>8 - (intOf iv).toNat)
 case atStart=>exact ⟨0,zs,jpp _,rfl,rfl,ZL,fun j hj=>absurd hj (by omega),jpm _ _,wc4.out⟩
 case round=>
  obtain ⟨k,vs,hk,rfl,rfl,vl,hv,hB,hw⟩:=hrel;clear wc4;by_cases hlt:k < 8
  ·have ka:=wa.out.kept hB (by omega);have ca:=ka.cell (i:=k) (by rw [XL];exact hlt);rw [WX.out k hlt] at ca;have h1:=yK x k;have h3:=BLE.out k;have hz:=Hj (LS.out k);have hc:=Hj (BN.out k);generalize lb x k=a at *;generalize cP x n k=c at *;obtain ⟨T,hT⟩:=ex_ (a+c);obtain ⟨z,hzz⟩:=ex_ (T % 4294967296);obtain ⟨d,hd⟩:=ex_ (T / 4294967296);rw [<-hT,<-hzz] at hz;rw [<-hT,<-hd] at hc;have f1:IntKind.u64.wrap (a:Int)=(a:Int):=by rw [jqT];omega
   have f4:(a:Int)+(c:Int)=(T:Int):=by omega
   have f4w:IntKind.u64.wrap (T:Int)=(T:Int):=by rw [jqT];omega
   have f5:IntKind.u32.wrap (T:Int)=(z:Int):=by rw [jp6];omega
   have f5m:(T:Int) % 4294967296=(z:Int):=by omega
   have f6:(T:Int) / 4294967296=(d:Int):=by omega
   have f6':(T:Int) / 2 ^ 32=(d:Int):=f6;have Tlt:T < 18446744073709551616:=by omega
   have q1:Op.shift .shr .u64 (T:Int) .u64 32=pure (.int .u64 (d:Int)):=by
    have:=shift_shr .u64 .u64 (T:Int) 32 (by omega) (by decide);rw [this]
    congr 2
   have ik:(k:Int) < 8:=by omega
   have ik0:(0:Int)<=(k:Int):=by omega
   have cv:=hw.cell (i:=k) (by omega);have fv:=hw.frozen k;replace hT:=Hj hT;replace hzz:=Hj hzz;replace hd:=Hj hd;replace hv:=Hj hv;replace hB:=Hj hB;replace hw:=Hj hw;clear h1 h3 ka;go_wp2_with fail;refine ⟨⟨k+1,vs.set k z,by omega,by go_num,by rw [hc.out],by rw [jp5];exact vl,fun j hj=> ?_,Below.setCell hB.out (jpo _) _,hw.out.set⟩,by simp [intOf];omega⟩;rw [Yy (by omega)];by_cases e:j=k
   ·rw [if_pos e,e];exact hz.out.symm
   ·rw [if_neg e];exact hv.out j (by omega)
  ·obtain rfl:k=8:=by omega
   have he:=RQ.out vs vl hv;subst he;rw [<-hb8.out];have RS:=jf vl;have R1:=jo vs;have EE:Hid (Ext w wr):=jpn e0.out (hB.mono (by omega));replace hw:=Hj hw;clear hv hB e0 wa;go_wp2_with (first
    | (refine wl_ rfl 218 rfl (w.heap.size+1) rfl hw.out rfl rfl (by rw [RS];rfl) ?_;go_frame)
    | (refine ws_ rfl 218 rfl (w.heap.size+1) (jb vs).toArray rfl rfl hw.out (by rw [RS];rfl) (by rw [RS]) R1 ?_;go_frame))
   (try simp only [jqV,Exit.then]);refine jqW (v:= .tuple #[.agg (jb vs).toArray, .int .u64 (b8:Int)]) ?_ rfl ?_
   ·exact qj rfl _ _ (w.heap.size+1) 218 (jb vs).toArray (0,0) _ _ rfl rfl (jqc _ _ _ _ _ _ hw.out) rfl rfl (by rw [RS];rfl)
   ·exact ⟨rfl,jqb EE.out (by omega) _⟩
theorem jgz {us:List Nat}{k l a b c u T R Yl:Nat}(hq:k+l < us.length) (hu:wd us (k+l)=u) (hT:T=a*b+u+c) (h:yR us+c*4294967296 ^ (k+l)=R+a*Yl*4294967296 ^ k):
 yR (us.set (k+l) (T % 4294967296))+T / 4294967296*4294967296 ^ (k+(l+1))=R+a*(Yl+b*4294967296 ^ l)*4294967296 ^ k:=by
 have h1:=ja3 (vs:=us) (k:=k+l) (z:=T % 4294967296) hq;rw [hu] at h1;have e1:(4294967296:Nat) ^ (k+(l+1))=4294967296 ^ (k+l)*4294967296:=by rw [<-Nat.add_assoc,jqN]
 have e2:a*(Yl+b*4294967296 ^ l)*4294967296 ^ k=a*Yl*4294967296 ^ k+a*b*4294967296 ^ (k+l):=by
  rw [Nat.mul_add,jqZ,jqK,jqI (4294967296 ^ k),<-jqJ a b,jqJ (a*b)]
 rw [e1,e2];generalize (4294967296:Nat) ^ (k+l)=P at *;generalize a*Yl*4294967296 ^ k=Q at *;have e3:T % 4294967296*P+T / 4294967296*(P*4294967296)=a*b*P+u*P+c*P:=by
  have:T % 4294967296*P+T / 4294967296*(P*4294967296)=T*P:=by
   rw [jqI P,<-jqJ,<-jqZ]
   congr 1
   omega
  rw [this,hT,jqZ,jqZ]
 generalize T % 4294967296*P=X2 at *;generalize T / 4294967296*(P*4294967296)=X3 at *;generalize a*b*P=X5 at *;generalize u*P=X1 at *;generalize c*P=X4 at *;omega
theorem jh4 {us:List Nat}{k c x y:Nat}(hq:k+8 < us.length) (hu:wd us (k+8)=0) (hy:y < 4294967296 ^ 8) (h:yR us+c*4294967296 ^ (k+8)=x % 4294967296 ^ k*y+lb x k*(y % 4294967296 ^ 8)*4294967296 ^ k):
 yR (us.set (k+8) c)=x % 4294967296 ^ (k+1)*y:=by
 have h1:=ja3 (vs:=us) (k:=k+8) (z:=c) hq;rw [hu,Nat.zero_mul,jpP] at h1;rw [h1,h,jqM hy,jap,jqZ,jqJ,jqJ,jqI y]
theorem jgA {vs:List Nat}{k x y:Nat}(hb:∀ i,i < vs.length->wd vs i < 4294967296) (hy:y < 4294967296 ^ 8) (h:yR vs=x % 4294967296 ^ k*y):wd vs (k+8)=0:=by
 rw [<-jcl vs hb,h];unfold lb;have h1:x % 4294967296 ^ k < 4294967296 ^ k:=jp3 _ (Nat.pow_pos (by decide));have h2:x % 4294967296 ^ k*y < 4294967296 ^ (k+8):=by
  rw [jqK];exact Nat.mul_lt_mul'' h1 hy
 rw [jqR h2]
theorem jbS {vs:List Nat}{k z:Nat}(h:∀ i,i < vs.length->wd vs i < 4294967296) (hz:z < 4294967296) (hk:k < vs.length):∀ i,i < (vs.set k z).length->wd (vs.set k z) i < 4294967296:=fun i hi=>by
 rw [jp5] at hi;rw [Yy hk]
 split
 ·exact hz
 ·exact h i hi
def jfo:List Nat:=jqn 16 0
theorem jfk (w:World):(jpI 246).run jpx w= .ok (.agg (jb jfo).toArray) w:=by kernel_rfl
theorem jjR:∀ i,i < jfo.length->wd jfo i < 4294967296:=fun i hi=>by
 have h:∀ i,i < 16->wd jfo i < 4294967296:=by decide
 exact h i hi
theorem jiN:yR jfo=0:=by decide
theorem jbk {x y:Nat}{w:World}(hx:x < 4294967296 ^ 8) (hy:y < 4294967296 ^ 8):
 Calls jpx 165 #[.agg (jb (lbs 8 x)).toArray, .agg (jb (lbs 8 y)).toArray] w fun e w'=>e= .returned (.agg (jb (lbs 16 (x*y))).toArray)/\Ext w w':=by
 have hal:=jfk;have ZL:jfo.length=16:=rfl;have ZB:=Hj jjR;have ZV:=Hj (fun _:Unit=>jiN);generalize jfo=zs at *;have XA:Hid (∀ (o1 o2 o3 o4:Obj),((((w.alloc o1).alloc o2).alloc o3).alloc o4).heap[w.heap.size]? =some o1/\((((w.alloc o1).alloc o2).alloc o3).alloc o4).heap[w.heap.size+1]? =some o2/\((((w.alloc o1).alloc o2).alloc o3).alloc o4).heap[w.heap.size+1+1]? =some o3/\((((w.alloc o1).alloc o2).alloc o3).alloc o4).heap[w.heap.size+1+1+1]? =some o4):=fun o1 o2 o3 o4=>by
  have e:Ext (((w.alloc o1).alloc o2).alloc o3) ((((w.alloc o1).alloc o2).alloc o3).alloc o4):=(jnQ _).alloc _;refine ⟨(e.block _ ?_).trans (jF _ _ _ _),(e.block _ ?_).trans (jH _ _ _ _),(e.block _ ?_).trans (jB _ _ _ _),?_⟩
  ·rw [je,je,je];omega
  ·rw [je,je,je];omega
  ·rw [je,je,je];omega
  ·have:=jqq (((w.alloc o1).alloc o2).alloc o3) o4
   rwa [je,je,je] at this
 have B0:Hid (∀ o1 o2 o3 o4,Ext w ((((w.alloc o1).alloc o2).alloc o3).alloc o4)):=fun o1 o2 o3 o4=>((((jnQ w).alloc _).alloc _).alloc _).alloc _
 have XL:=jnz 8 x;have YL:=jnz 8 y;have WX:Hid (∀ j,j < 8->wd (lbs 8 x) j=lb x j):=fun j hj=>yi hj
 have WY:Hid (∀ j,j < 8->wd (lbs 8 y) j=lb y j):=fun j hj=>yi hj
 have RQ:Hid (∀ vs:List Nat,vs.length=16->(∀ j,j < vs.length->wd vs j < 4294967296)->yR vs=x % 4294967296 ^ 8*y->vs=lbs 16 (x*y)):=fun vs h1 h2 h3=>by
  rw [jqM hx] at h3;rw [<-h3];exact Ju h1 (fun i hi=>h2 i (by omega))
 generalize lbs 16 (x*y)=rs at *;generalize lbs 8 x=xs at *;generalize lbs 8 y=ys at *;have PE:Hid (∀ (us:List Nat) (k c:Nat),k+8 < us.length->wd us (k+8)=0->yR us+c*4294967296 ^ (k+8)=x % 4294967296 ^ k*y+lb x k*(y % 4294967296 ^ 8)*4294967296 ^ k->yR (us.set (k+8) c)=x % 4294967296 ^ (k+1)*y):=fun us k c h1 h2 h3=>jh4 h1 h2 hy h3
 have PZ:Hid (∀ (vs:List Nat) (k:Nat),(∀ i,i < vs.length->wd vs i < 4294967296)->yR vs=x % 4294967296 ^ k*y->wd vs (k+8)=0):=fun vs k h1 h2=>jgA h1 hy h2
 have LX:Hid (∀ i,lb x i < 4294967296):=yK x;have LY:Hid (∀ i,lb y i < 4294967296):=yK y;clear hx hy;go_enter Tryz.func165,Tryz.ntmps165
 go_upto_region 2 with fail;refine jg (fun W=>Wr W w.heap.size 218 xs/\Wr W (w.heap.size+1) 218 ys/\Wr W (w.heap.size+1+1) 246 zs/\Wr W (w.heap.size+1+1+1) 246 zs/\Ext w W) ⟨(XA.out _ _ _ _).1,(XA.out _ _ _ _).2.1,(XA.out _ _ _ _).2.2.1,(XA.out _ _ _ _).2.2.2,B0.out _ _ _ _⟩ ?_;clear XA B0;rintro W0 ⟨wa,wb,wc4,wc5,e0⟩;replace wa:=Hj wa;replace wb:=Hj wb;replace wc4:=Hj wc4;replace wc5:=Hj wc5;replace e0:=Hj e0;go_wp2_with fail;go_loopw [10] (fun iv wr=>∃ (k:Nat) (vs:List Nat),k<=8/\iv= .int .i64 (k:Int)/\vs.length=16/\(∀ j,j < vs.length->wd vs j < 4294967296)/\yR vs=x % 4294967296 ^ k*y/\Below (w.heap.size+1+1+1) W0 wr/\Wr wr (w.heap.size+1+1+1) 246 vs) (fun iv _=>8 - (intOf iv).toNat)
 case atStart=>exact ⟨0,zs,jpp _,rfl,ZL,ZB.out,by rw [ZV.out ()];simp [Nat.mod_one],jpm _ _,wc5.out⟩
 case round=>
  obtain ⟨k,vs,hk,rfl,vl,vb,vv,hB,hw⟩:=hrel;clear wc5;by_cases hlt:k < 8
  ·have ik:(k:Int) < 8:=by omega
   have ik0:(0:Int)<=(k:Int):=by omega
   have v0:=Hj (PZ.out vs k vb vv);replace vv:=Hj (fun _:Unit=>vv);replace vb:=Hj vb;replace hB:=Hj hB;replace hw:=Hj hw;go_wp2_with fail;go_loopw [7,13] (fun cv jv wr=>∃ (l c:Nat) (us:List Nat),l<=8/\jv= .int .i64 (l:Int)/\cv= .int .u64 (c:Int)/\c < 4294967296/\us.length=16/\(∀ j,j < us.length->wd us j < 4294967296)/\yR us+c*4294967296 ^ (k+l)=x % 4294967296 ^ k*y+lb x k*(y % 4294967296 ^ l)*4294967296 ^ k/\wd us (k+8)=0/\Below (w.heap.size+1+1+1) W0 wr/\Wr wr (w.heap.size+1+1+1) 246 us) (fun _ jv _=>8 - (intOf jv).toNat)
   case atStart=>exact ⟨0,0,vs,jpp _,rfl,rfl,by omega,vl,vb.out,by rw [vv.out ()];simp [Nat.mod_one],v0.out,hB.out,hw.out⟩
   case round=>
    obtain ⟨l,c,us,hl,rfl,rfl,hc,ul,ub,uv,u0,hB2,hw2⟩:=hrel;clear vv vb v0 hB hw;by_cases hlt2:l < 8
    ·have ka:=Hj (wa.out.kept hB2 (by omega));have kb:=Hj (wb.out.kept hB2 (by omega));obtain ⟨q,hq⟩:=ex_ (k+l);obtain ⟨u,hu⟩:∃ u,wd us (k+l)=u:=⟨_,rfl⟩;have u32:u < 4294967296:=by rw [<-hu];exact ub _ (by omega)
     have ca:Hid (∀ s,Ext wr s->s.cell? ⟨w.heap.size,k,none⟩=some (.int .u32 (lb x k:Int))/\s.cell? ⟨w.heap.size+1,l,none⟩=some (.int .u32 (lb y l:Int))/\s.cell? ⟨w.heap.size+1+1+1,q,none⟩=some (.int .u32 (u:Int))):=fun s e=>by
      have h1:=(ka.out.kept e ka.out.lt).cell (i:=k) (by rw [XL];exact hlt);have h2:=(kb.out.kept e kb.out.lt).cell (i:=l) (by rw [YL];exact hlt2);have h3:=(hw2.kept e hw2.lt).cell (i:=q) (by omega);rw [WX.out k hlt] at h1;rw [WY.out l hlt2] at h2;rw [hq,hu,<-hq] at h3;exact jqS h1 (jqS h2 h3)
     have h1:=LX.out k;have h2:=LY.out l;obtain ⟨T,hT⟩:=ex_ (lb x k*lb y l+u+c);have hstep:=Hj (fun _:Unit=>jgz (us:=us) (by omega) hu hT uv);have hmod:Hid (∀ _:Unit,y % 4294967296 ^ (l+1)=y % 4294967296 ^ l+lb y l*4294967296 ^ l):=fun _=>jap y l
     have hm1:lb x k*lb y l<=18446744065119617025:=Nat.mul_le_mul (by omega:lb x k<=4294967295) (by omega:lb y l<=4294967295);generalize lb x k=a at *;generalize lb y l=b at *;obtain ⟨m,hm⟩:=ex_ (a*b);rw [<-hm] at hT hm1;obtain ⟨s,hs⟩:=ex_ (m+u);obtain ⟨z,hzz⟩:=ex_ (T % 4294967296);obtain ⟨d,hd⟩:=ex_ (T / 4294967296);rw [<-hzz,<-hd] at hstep;have f1:IntKind.u64.wrap (a:Int)=(a:Int):=by rw [jqT];omega
     have f2:IntKind.u64.wrap (b:Int)=(b:Int):=by rw [jqT];omega
     have f2u:IntKind.u64.wrap (u:Int)=(u:Int):=by rw [jqT];omega
     have f0:(a:Int)*(b:Int)=(m:Int):=by rw [hm];exact (Int.natCast_mul a b).symm
     have f0w:IntKind.u64.wrap (m:Int)=(m:Int):=by rw [jqT];omega
     have f3:(m:Int)+(u:Int)=(s:Int):=by omega
     have f3w:IntKind.u64.wrap (s:Int)=(s:Int):=by rw [jqT];omega
     have f4:(s:Int)+(c:Int)=(T:Int):=by omega
     have f4w:IntKind.u64.wrap (T:Int)=(T:Int):=by rw [jqT];omega
     have f5:IntKind.u32.wrap (T:Int)=(z:Int):=by rw [jp6];omega
     have f5m:(T:Int) % 4294967296=(z:Int):=by omega
     have f6:(T:Int) / 4294967296=(d:Int):=by omega
     have f6':(T:Int) / 2 ^ 32=(d:Int):=f6;have Tlt:T < 18446744073709551616:=by omega
     have q1:Op.shift .shr .u64 (T:Int) .u64 32=pure (.int .u64 (d:Int)):=by
      have:=shift_shr .u64 .u64 (T:Int) 32 (by omega) (by decide);rw [this]
      congr 2
     have fq:(k:Int)+(l:Int)=(q:Int):=by omega
     have fqw:IntKind.i64.wrap (q:Int)=(q:Int):=jq0 _ (by omega);have q16:(q:Int) < 16:=by omega
     have q0:(0:Int)<=(q:Int):=by omega
     have il:(l:Int) < 8:=by omega
     have il0:(0:Int)<=(l:Int):=by omega
     have z32:Hid (z < 4294967296):=by unfold Hid;omega
     have d32:d < 4294967296:=by omega
     have ql:Hid (q < us.length):=by unfold Hid;omega
     have cv:=hw2.cell (i:=q) (by omega);have fv:=hw2.frozen q;rw [<-hq] at hstep;replace hq:=Hj hq;replace hu:=Hj hu;replace hT:=Hj hT;replace hm:=Hj hm;replace hs:=Hj hs;replace hzz:=Hj hzz;replace hd:=Hj hd;replace ub:=Hj ub;replace u0:=Hj u0;replace hB2:=Hj hB2;replace hw2:=Hj hw2;clear h1 h2 uv u32 hm1;go_wp2_with fail;refine qgE [0,1,2,3,4,5,6,7,8,9,10,11,12,13,14,15,16,17,18] [] ?_;repeat ((first | refine qR _ (fun w' e=>ca.out w' ((jnQ _).drew.trans e)) ?_ | refine qS ?_);go_frame)
     refine jp ?_;have hw3:=Hj (hw2.out.kept (jnQ wr).drew hw2.out.lt);have hB3:Hid (Below (w.heap.size+1+1+1) W0 wr.drew):=jpn hB2.out ((jnQ wr).drew.mono (jqU hw2.out.lt));have cv2:=hw3.out.cell (i:=q) ql.out;have fv2:=hw3.out.frozen q;clear cv fv hw2 hB2 ca ka kb;generalize wr.drew=w2 at *;go_wp2_with fail;refine ⟨⟨l+1,d,us.set q z,by omega,by go_num,rfl,d32,by rw [jp5];exact ul,jbS ub.out z32.out ql.out,?_,?_,Below.setCell hB3.out (jpo _) _,hw3.out.set⟩,by simp [intOf];omega⟩
     ·rw [hmod.out ()];exact hstep.out ()
     ·rw [Yy ql.out,if_neg (by have:=hq.out;omega)];exact u0.out
    ·obtain rfl:l=8:=by omega
     obtain ⟨r,hr⟩:=ex_ (k+8);have hend:=Hj (fun _:Unit=>PE.out us k c (by omega) u0 uv);rw [<-hr] at hend u0;have fr:(k:Int)+8=(r:Int):=by omega
     have frw:IntKind.i64.wrap (r:Int)=(r:Int):=jq0 _ (by omega);have r16:(r:Int) < 16:=by omega
     have r0:(0:Int)<=(r:Int):=by omega
     have rl:Hid (r < us.length):=by unfold Hid;omega
     have fc:IntKind.u32.wrap (c:Int)=(c:Int):=by rw [jp6];omega
     have fcm:(c:Int) % 4294967296=(c:Int):=by omega
     have cv:=hw2.cell (i:=r) (by omega);have fv:=hw2.frozen r;replace hr:=Hj hr;replace ub:=Hj ub;replace hB2:=Hj hB2;replace hw2:=Hj hw2;have hc':=Hj hc;clear uv u0 hlt2 hl;go_wp2_with fail;refine ⟨⟨k+1,us.set r c,by omega,by go_num,by rw [jp5];exact ul,jbS ub.out hc'.out rl.out,hend.out (),Below.setCell hB2.out (jpo _) _,hw2.out.set⟩,by simp [intOf];omega⟩
  ·obtain rfl:k=8:=by omega
   have he:=RQ.out vs vl vb vv;subst he;have RS:=jf vl;have R1:=jo vs;have r4:=Hj (wc4.out.kept hB (by omega));have ZS:=jf ZL;have EE:Hid (Ext w wr):=jpn e0.out (hB.mono (by omega));replace hw:=Hj hw;clear vb vv hB wc4 e0 wa wb;go_wp2_with (first
    | (refine wl_ rfl 246 rfl (w.heap.size+1+1+1) rfl hw.out rfl rfl (by rw [RS];rfl) ?_;go_frame)
    | (refine ws_ rfl 246 rfl (w.heap.size+1+1) (jb vs).toArray rfl rfl r4.out (by rw [RS];rfl) (by rw [RS,ZS]) R1 ?_;go_frame))
   (try simp only [jqV,Exit.then]);refine jqW (jqX rfl _ _ (w.heap.size+1+1) 246 (jb vs).toArray (0,0) _ rfl (jqc _ _ _ _ _ _ r4.out) rfl rfl (by rw [RS];rfl)) rfl ?_;exact ⟨rfl,jqb EE.out (by omega) _⟩
def M8:Nat:=4294967296 ^ 8
theorem jkS:M8=38+P25*2:=by decide+kernel
theorem Z7:0 < M8:=by decide+kernel
theorem jiq (n:Nat):(n % M8+38*(n / M8)) % P25=n % P25:=by
 have key:∀ q r:Nat,M8*q+r=(r+38*q)+P25*(2*q):=fun q r=>by
  rw [jkS,jqZ,jqJ P25 2 q];generalize P25*(2*q)=s;omega
 have e:=(Nat.div_add_mod n M8).symm.trans (key _ _);have h:=congrArg (fun t=>t % P25) e;simp only [jq1] at h;exact h.symm
def H8:Nat:=57896044618658097711785492504343953926634992332820282019728792003956564819968
theorem jkR:H8=19+P25:=by decide+kernel
theorem jk5 (n:Nat):(n % H8+19*(n / H8)) % P25=n % P25:=by
 have key:∀ q r:Nat,H8*q+r=(r+19*q)+P25*q:=fun q r=>by
  rw [jkR,jqZ];generalize P25*q=s;omega
 have e:=(Nat.div_add_mod n H8).symm.trans (key _ _);have h:=congrArg (fun t=>t % P25) e;simp only [jq1] at h;exact h.symm
def fA (z:Nat):Nat:=z % M8+38*(z / M8)
def fB (z:Nat):Nat:=z % H8+19*(z / H8)
theorem jhs (z:Nat):fB (fA (fA (fA z))) % P25=z % P25:=by
 unfold fB;rw [jk5];unfold fA;rw [jiq,jiq,jiq]
theorem jkh {z:Nat}(hz:z < M8*M8):fA z < 39*M8:=by
 unfold fA;have h1:=jp3 z Z7;have h2:z / M8 < M8:=jq2 hz;generalize z / M8=q at *;generalize z % M8=r at *;omega
theorem jki {z:Nat}(hz:z < 39*M8):fA z < M8+1444+1/\z / M8<=38:=by
 have h2:z / M8<=38:=by
  have:z / M8 < 39:=jq2 (by rw [jqI];exact hz);omega
 unfold fA;have h1:=jp3 z Z7;generalize z / M8=q at *;generalize z % M8=r at *;omega
theorem jhq {z:Nat}(hz:z < M8+1445):fA z < M8/\z / M8<=1:=by
 have hM:100000 < M8:=by decide+kernel
 unfold fA;by_cases q:z < M8
 ·rw [jqM q,jqR q];omega
 ·have e1:z / M8=1:=by
   rw [show z=(z - M8)+M8 by omega,Nat.add_div_right _ Z7,jqR (by omega)]
  have e2:z % M8=z - M8:=by
   rw [Nat.mod_eq_sub_mod (by omega),jqM (by omega)]
  rw [e1,e2];omega
theorem jkX {z:Nat}(hz:z < M8):fB z < 2*P25:=by
 have hM:M8=2*H8:=by decide+kernel
 have hP:H8+19 < 2*P25:=by decide+kernel
 have hH:0 < H8:=by decide+kernel
 unfold fB;have h1:=jp3 z hH;have h2:z / H8 < 2:=jq2 (by rw [jqI,<-hM];exact hz);generalize z / H8=q at *;generalize z % H8=r at *;omega
def cM (x y:Nat):Nat->Nat
 | 0=>0
 | i+1=>(lb x i+38*lb y i+cM x y i) / 4294967296
theorem jjV (x y:Nat):∀ i,cM x y i<=38
 | 0=>jpp _
 | i+1=>by have:=jjV x y i;have h1:=yK x i;have h2:=yK y i;rw [cM];omega
theorem jcm (x y:Nat):∀ i,(x+38*y) / 4294967296 ^ i=x / 4294967296 ^ i+38*(y / 4294967296 ^ i)+cM x y i
 | 0=>by simp [cM]
 | i+1=>by
   rw [yn,jcm x y i,yn x,yn y,cM];unfold lb;generalize x / 4294967296 ^ i=X;generalize y / 4294967296 ^ i=Y;generalize cM x y i=c;omega
theorem jkp (x y i:Nat):lb (x+38*y) i=(lb x i+38*lb y i+cM x y i) % 4294967296:=by
 unfold lb;rw [jcm];generalize x / 4294967296 ^ i=X;generalize y / 4294967296 ^ i=Y;generalize cM x y i=c;omega
theorem jko {z i:Nat}(h:i < 8):lb (z % M8) i=lb z i:=by
 have h1:=congrArg (fun l=>wd l i) (jfJ 8 z);simp only [yi h] at h1;exact h1
theorem jjb (z i:Nat):lb (z / M8) i=lb z (i+8):=by
 unfold lb M8;rw [jqQ,<-jqK,Nat.add_comm 8 i]
theorem jhc {z:Nat}(hz:z < M8*M8):cM (z % M8) (z / M8) 8=fA z / M8:=by
 have h:=jcm (z % M8) (z / M8) 8;have h1:(z % M8) / 4294967296 ^ 8=0:=jqR (jp3 z Z7);have h2:(z / M8) / 4294967296 ^ 8=0:=jqR (jq2 hz);rw [h1,h2] at h;unfold fA M8 at *;omega
theorem jcM {z:Nat}(hz:z < M8):lb z 7 / 2147483648=z / H8/\(lbs 8 z).set 7 (lb z 7 % 2147483648)=lbs 8 (z % H8):=by
 have e0:lb z 7=z / 4294967296 ^ 7:=by
  unfold lb;exact jqM (jq2 (by rw [<-jqN];exact hz))
 have eH:H8=4294967296 ^ 7*2147483648:=by decide+kernel
 refine ⟨by rw [e0,jqQ,<-eH],?_⟩;refine Ye (by rw [jp5,jnz]) fun j hj=> ?_
 rw [Yy (by rw [jnz];omega)];by_cases q:j=7
 ·rw [if_pos q,q,e0];unfold lb;rw [eH,Nat.mod_mul_right_div_self];exact (jqM (Nat.lt_trans (jp3 _ (by decide)) (by decide))).symm
 ·rw [if_neg q,yi hj];have h6:j+(7 - j)=7:=by omega
  unfold lb;have e1:H8=4294967296 ^ j*(4294967296*(4294967296 ^ (7 - j - 1)*2147483648)):=by
   rw [eH,<-jqJ 4294967296,<-Nat.pow_succ',<-jqJ,<-jqK]
   congr 2
   omega
  rw [e1,Nat.mod_mul_right_div_self,Nat.mod_mul_right_mod]
theorem jh2 {z n:Nat}{w:World}(hn:n < 4294967296):Calls jpx 178 #[.agg (jb (lbs 8 z)).toArray, .int .u64 (n:Int)] w fun e w'=>e= .returned (.tuple #[.agg (jb (lbs 8 (z % M8+n))).toArray, .int .u64 ((z % M8+n) / M8:Nat)])/\Ext w w':=by
 have:=jeQ (x:=z % M8) (n:=n) (w:=w) hn;unfold jbV at this;rw [show cP (z % M8) n 8=(z % M8+n) / M8 from jhe (jp3 z Z7),show lbs 8 (z % M8)=lbs 8 z from jfJ 8 z] at this;exact this
theorem jcd {z:Nat}{w:World}(hz:z < M8*M8){tg:jpC×Nat×Nat}(hG:Gp w tg):
 Calls jpx 164 #[.agg (jb (lbs 16 z)).toArray] w fun e w'=>e= .returned (.agg (jb (lbs 8 (z % P25))).toArray)/\Ext w w':=by
 have hS:=jkh hz;obtain ⟨hS1,hh1⟩:=jki hS;obtain ⟨hS2,hh2⟩:=jhq (show fA (fA z) < M8+1445 from hS1);have hS3:=jkX hS2;have htop:=(jcM hS2).1;have hset:=(jcM hS2).2;have hq:fA (fA (fA z)) / H8 < 2:=jq2 (by rw [jqI];exact Nat.lt_of_lt_of_eq hS2 (by decide+kernel));have PL1:Hid (∀ (W:World) (n:Nat),n=38*(fA z / M8)->Calls jpx 178 #[.agg (jb (lbs 8 (fA z))).toArray, .int .u64 (n:Int)] W fun e w'=>e= .returned (.tuple #[.agg (jb (lbs 8 (fA (fA z)))).toArray, .int .u64 (fA (fA z) / M8:Nat)])/\Ext W w'):=fun W n hn=>by
  subst hn;exact jh2 (by omega)
 have PL2:Hid (∀ (W:World) (n:Nat),n=38*(fA (fA z) / M8)->Calls jpx 178 #[.agg (jb (lbs 8 (fA (fA z)))).toArray, .int .u64 (n:Int)] W fun e w'=>e= .returned (.tuple #[.agg (jb (lbs 8 (fA (fA (fA z))))).toArray, .int .u64 (fA (fA (fA z)) / M8:Nat)])/\Ext W w'):=fun W n hn=>by
  subst hn;exact jh2 (by omega)
 have PL3:Hid (∀ (W:World) (n:Nat),n=19*(fA (fA (fA z)) / H8)->Calls jpx 178 #[.agg (jb (lbs 8 (fA (fA (fA z)) % H8))).toArray, .int .u64 (n:Int)] W fun e w'=>∃ c:Nat,e= .returned (.tuple #[.agg (jb (lbs 8 (fB (fA (fA (fA z)))))).toArray, .int .u64 (c:Int)])/\Ext W w'):=fun W n hn=>by
  subst hn;refine (jh2 (w:=W) (z:=fA (fA (fA z)) % H8) (n:=19*(fA (fA (fA z)) / H8)) (by omega)).mono ?_;rintro e w' ⟨rfl,x⟩;rw [jqM (show fA (fA (fA z)) % H8 < M8 from jp4 (Nat.mod_le _ _) hS2)];exact ⟨_,rfl,x⟩
 have RED:Hid (∀ (W:World),Ext w W->Calls jpx 160 #[.agg (jb (lbs 8 (fB (fA (fA (fA z)))))).toArray] W fun e w'=>e= .returned (.agg (jb (lbs 8 (z % P25))).toArray)/\Ext W w'):=fun W e=>by
  rw [<-jhs z];exact zG hS3 (hG.ext e)
 have ZX:Hid (∀ j,j < 16->wd (lbs 16 z) j=lb z j):=fun j hj=>yi hj
 have XL:=jnz 16 z;obtain ⟨x,hx⟩:=ex_ (z % M8);obtain ⟨y,hy⟩:=ex_ (z / M8);have LX:Hid (∀ j,j < 8->lb z j=lb x j):=fun j hj=>by rw [hx];exact (jko hj).symm
 have LY:Hid (∀ j,lb z (j+8)=lb y j):=fun j=>by rw [hy];exact (jjb z j).symm
 have C8:Hid (cM x y 8=fA z / M8):=by unfold Hid;rw [hx,hy];exact jhc hz
 have LS:Hid (∀ i,lb (fA z) i=(lb x i+38*lb y i+cM x y i) % 4294967296):=fun i=>by unfold fA;rw [<-hx,<-hy];exact jkp x y i
 have RQ:Hid (∀ vs:List Nat,vs.length=8->(∀ j,j < 8->wd vs j=lb (fA z) j)->vs=lbs 8 (fA z)):=fun vs h1 h2=>Ye h1 h2
 have L0:=jnz 8 (fA z);have L1:=jnz 8 (fA (fA z));have L2:=jnz 8 (fA (fA (fA z)));have L2b:=jnz 8 (fA (fA (fA z)) % H8);have L3:=jnz 8 (fB (fA (fA (fA z))));have LR:=jnz 8 (z % P25);have W7:Hid (wd (lbs 8 (fA (fA (fA z)))) 7=lb (fA (fA (fA z))) 7):=yi (by omega);have h7:=yK (fA (fA (fA z))) 7;clear hG hS hS1 hS2 hS3 hx hy hz;generalize lbs 8 (fB (fA (fA (fA z))))=l3 at *;generalize lbs 8 (fA (fA (fA z)) % H8)=l2b at *;generalize fA (fA (fA z)) / H8=tp at *;generalize lb (fA (fA (fA z))) 7=w7 at *;generalize lbs 8 (fA (fA (fA z)))=l2 at *;generalize fA (fA (fA z)) / M8=h3 at *;generalize fA (fA z) / M8=h2 at *;generalize lbs 8 (fA (fA z))=l1 at *;generalize fA z / M8=h1 at *;generalize hm:fA z=m at *;clear hm;generalize lbs 8 m=l0 at *;generalize lbs 8 (z % P25)=lr at *;generalize lbs 16 z=zz at *;have BN:Hid (∀ i,cM x y (i+1)=(lb x i+38*lb y i+cM x y i) / 4294967296):=fun i=>rfl
 have BLE:Hid (∀ i,cM x y i<=38):=jjV x y;replace htop:=Hj htop;replace hset:=Hj hset;have hal:=yy;have hal2:=vr;have ZL:zw8.length=8:=rfl;generalize zw8=zs at *;have ZS:=jf ZL;have XA:Hid (∀ (o1 o2 o3:Obj),(((w.alloc o1).alloc o2).alloc o3).heap[w.heap.size]? =some o1/\(((w.alloc o1).alloc o2).alloc o3).heap[w.heap.size+1]? =some o2/\(((w.alloc o1).alloc o2).alloc o3).heap[w.heap.size+1+1]? =some o3):=fun o1 o2 o3=>⟨jF _ _ _ _,jH _ _ _ _,jB _ _ _ _⟩
 have B0:Hid (∀ o1 o2 o3,Ext w (((w.alloc o1).alloc o2).alloc o3)):=fun o1 o2 o3=>(((jnQ w).alloc _).alloc _).alloc _
 go_enter Tryz.func164,Tryz.ntmps164
 go_upto_region 2 with fail;refine jg (fun W=>Wr W w.heap.size 246 zz/\Wr W (w.heap.size+1) 233 zs/\Wr W (w.heap.size+1+1) 218 zs/\Ext w W) ⟨(XA.out _ _ _).1,(XA.out _ _ _).2.1,(XA.out _ _ _).2.2,B0.out _ _ _⟩ ?_;clear XA B0;rintro W0 ⟨wa,we,wc4,e0⟩;replace wa:=Hj wa;replace we:=Hj we;replace wc4:=Hj wc4;replace e0:=Hj e0;go_wp2_with fail;go_loopw [4,8] (fun cv iv wr=>∃ (k:Nat) (vs:List Nat),k<=8/\iv= .int .i64 (k:Int)/\cv= .int .u64 (cM x y k:Int)/\vs.length=8/\(∀ j,j < k->wd vs j=lb m j)/\Below (w.heap.size+1+1) W0 wr/\Wr wr (w.heap.size+1+1) 218 vs) (fun _ iv _=>8 - (intOf iv).toNat)
 case atStart=>exact ⟨0,zs,jpp _,rfl,rfl,ZL,fun j hj=>absurd hj (by omega),jpm _ _,wc4.out⟩
 case round=>
  obtain ⟨k,vs,hk,rfl,rfl,vl,hv,hB,hw⟩:=hrel;clear wc4;by_cases hlt:k < 8
  ·have ka:=Hj (wa.out.kept hB (by omega));obtain ⟨q,hqq⟩:=ex_ (k+8);have ca:Hid (∀ s,Ext wr s->s.cell? ⟨w.heap.size,k,none⟩=some (.int .u32 (lb x k:Int))/\s.cell? ⟨w.heap.size,q,none⟩=some (.int .u32 (lb y k:Int))):=fun s e=>by
    have g1:=(ka.out.kept e ka.out.lt).cell (i:=k) (by omega);have g2:=(ka.out.kept e ka.out.lt).cell (i:=q) (by omega);rw [ZX.out k (by omega),LX.out k hlt] at g1;rw [ZX.out q (by omega),hqq,LY.out k,<-hqq] at g2;exact jqS g1 g2
   have g1:=yK x k;have g2:=yK y k;have g3:=BLE.out k;have hzq:=Hj (LS.out k);have hc:=Hj (BN.out k);generalize lb x k=a at *;generalize lb y k=b at *;generalize cM x y k=c at *;obtain ⟨n38,hn38⟩:=ex_ (38*b);obtain ⟨s,hs⟩:=ex_ (a+n38);obtain ⟨T,hT⟩:=ex_ (a+38*b+c);obtain ⟨v,hvv⟩:=ex_ (T % 4294967296);obtain ⟨d,hd⟩:=ex_ (T / 4294967296);rw [<-hT,<-hvv] at hzq;rw [<-hT,<-hd] at hc;have f1:IntKind.u64.wrap (a:Int)=(a:Int):=by rw [jqT];omega
   have f2:IntKind.u64.wrap (b:Int)=(b:Int):=by rw [jqT];omega
   have f0:(38:Int)*(b:Int)=(n38:Int):=by omega
   have f0w:IntKind.u64.wrap (n38:Int)=(n38:Int):=by rw [jqT];omega
   have f3:(a:Int)+(n38:Int)=(s:Int):=by omega
   have f3w:IntKind.u64.wrap (s:Int)=(s:Int):=by rw [jqT];omega
   have f4:(s:Int)+(c:Int)=(T:Int):=by omega
   have f4w:IntKind.u64.wrap (T:Int)=(T:Int):=by rw [jqT];omega
   have f5:IntKind.u32.wrap (T:Int)=(v:Int):=by rw [jp6];omega
   have f5m:(T:Int) % 4294967296=(v:Int):=by omega
   have f6:(T:Int) / 4294967296=(d:Int):=by omega
   have f6':(T:Int) / 2 ^ 32=(d:Int):=f6;have Tlt:T < 18446744073709551616:=by omega
   have q1:Op.shift .shr .u64 (T:Int) .u64 32=pure (.int .u64 (d:Int)):=by
    have:=shift_shr .u64 .u64 (T:Int) 32 (by omega) (by decide);rw [this]
    congr 2
   have fq:(k:Int)+8=(q:Int):=by omega
   have fqw:IntKind.i64.wrap (q:Int)=(q:Int):=jq0 _ (by omega);have q16:(q:Int) < 16:=by omega
   have q0:(0:Int)<=(q:Int):=by omega
   have ik:(k:Int) < 8:=by omega
   have ik16:(k:Int) < 16:=by omega
   have ik0:(0:Int)<=(k:Int):=by omega
   have cv:=hw.cell (i:=k) (by omega);have fv:=hw.frozen k;replace hqq:=Hj hqq;replace hn38:=Hj hn38;replace hs:=Hj hs;replace hT:=Hj hT;replace hvv:=Hj hvv;replace hd:=Hj hd;replace hv:=Hj hv;replace hB:=Hj hB;replace hw:=Hj hw;clear g1 g2 g3;go_wp2_with fail;refine qgE [0,1,2,3,4,5,6,7,8,9,10,11,12,13] [] ?_;repeat ((first | refine qR _ (fun w' e=>ca.out w' ((jnQ _).drew.trans e)) ?_ | refine qS ?_);go_frame)
   refine jp ?_;have hw2:=Hj (hw.out.kept (jnQ wr).drew hw.out.lt);have hB2:Hid (Below (w.heap.size+1+1) W0 wr.drew):=jpn hB.out ((jnQ wr).drew.mono (jqU hw.out.lt));have cv2:=hw2.out.cell (i:=k) (by omega);have fv2:=hw2.out.frozen k;clear cv fv hw hB ca ka;generalize wr.drew=w2 at *;go_wp2_with fail;refine ⟨⟨k+1,vs.set k v,by omega,by go_num,by rw [hc.out],by rw [jp5];exact vl,fun j hj=> ?_,Below.setCell hB2.out (jpo _) _,hw2.out.set⟩,by simp [intOf];omega⟩;rw [Yy (by omega)];by_cases e:j=k
   ·rw [if_pos e,e];exact hzq.out.symm
   ·rw [if_neg e];exact hv.out j (by omega)
  ·obtain rfl:k=8:=by omega
   have he:=RQ.out vs vl hv;subst he;rw [C8.out];have r4:=Hj (we.out.kept hB (by omega));have EE:Hid (Ext w wr):=jpn e0.out (hB.mono (by omega));clear hv hB e0 wa we C8 LS BN BLE LX LY ZX RQ XL hk hlt;have S0:=jf vl;have S1:=jf L1;have S2:=jf L2;have S2b:=jf L2b;have S3:=jf L3;have SR:=jf LR;have O1:=jo l1;have O2:=jo l2;have O3:=jo l3;have OR:=jo lr;obtain ⟨n1,hn1⟩:=ex_ (38*h1);have g1:(38:Int)*(h1:Int)=(n1:Int):=by omega
   have g1w:IntKind.u64.wrap (n1:Int)=(n1:Int):=by rw [jqT];omega
   obtain ⟨n2,hn2⟩:=ex_ (38*h2);have g2:(38:Int)*(h2:Int)=(n2:Int):=by omega
   have g2w:IntKind.u64.wrap (n2:Int)=(n2:Int):=by rw [jqT];omega
   obtain ⟨n3,hn3⟩:=ex_ (19*tp);have g3:(19:Int)*(tp:Int)=(n3:Int):=by omega
   have g3w:IntKind.u64.wrap (n3:Int)=(n3:Int):=by rw [jqT];omega
   have t1:(w7:Int) / 2147483648=(tp:Int):=by have:=htop.out;omega
   have t1':(w7:Int) / 2 ^ 31=(tp:Int):=t1;have t1w:IntKind.u64.wrap (tp:Int)=(tp:Int):=by rw [jqT];omega
   have q1:Op.shift .shr .u32 (w7:Int) .u64 31=pure (.int .u32 (tp:Int)):=by
    have:=shift_shr .u32 .u64 (w7:Int) 31 (by omega) (by decide);rw [this]
    congr 2
   obtain ⟨v7,hv7⟩:=ex_ (w7 % 2147483648);rw [<-hv7] at hset;have t2:bits .andNot .u32 (w7:Int) 2147483648=(v7:Int):=by
    have:=u32_andNot_nat w7 2147483648 (by omega) (by omega);rw [hv7,<-Nat.and_two_pow_sub_one_eq_mod w7 31];exact this
   replace hn1:=Hj hn1;replace hn2:=Hj hn2;replace hn3:=Hj hn3;replace hv7:=Hj hv7;replace hw:=Hj hw;have K0:Hid (Wr wr (w.heap.size+1+1) 218 vs/\Wr wr (w.heap.size+1) 233 zs/\Ext w wr):=⟨hw.out,r4.out,EE.out⟩;clear hw r4 EE;have k0:=Hj K0.out.1;go_wp2_with (refine wl_ rfl 218 rfl (w.heap.size+1+1) rfl k0.out rfl rfl (by rw [S0];rfl) ?_;go_frame)
   refine (PL1.out _ n1 hn1.out).mono ?_;rintro e v1 ⟨rfl,e1⟩;have r1:=Hj ((e1.block _ k0.out.lt).trans k0.out);have re1:=Hj (K0.out.2.1.kept e1 K0.out.2.1.lt);have rx1:Hid (Ext w v1):=K0.out.2.2.trans e1;clear K0 k0 e1;go_upto_region 11 with (refine ws_ rfl 218 rfl (w.heap.size+1+1) (jb l1).toArray rfl rfl r1.out (by rw [S1];rfl) (by rw [S1,S0]) O1 ?_;go_frame)
   refine jg (fun W=>Wr W (w.heap.size+1+1) 218 l1/\Wr W (w.heap.size+1) 233 zs/\Ext w W) ⟨jqc _ _ _ _ _ _ r1.out,(jqy _ _ _ _ (by omega)).trans re1.out,jqb rx1.out (by omega) _⟩ ?_;clear r1 re1 rx1;rintro u1 K1';have K1:=Hj K1';clear K1';have k0:=Hj K1.out.1;go_wp2_with (refine wl_ rfl 218 rfl (w.heap.size+1+1) rfl k0.out rfl rfl (by rw [S1];rfl) ?_;go_frame)
   refine (PL2.out _ n2 hn2.out).mono ?_;rintro e v2 ⟨rfl,e1⟩;have r2:=Hj ((e1.block _ k0.out.lt).trans k0.out);have re2:=Hj (K1.out.2.1.kept e1 K1.out.2.1.lt);have rx2:Hid (Ext w v2):=K1.out.2.2.trans e1;clear K1 k0 e1;go_upto_region 12 with (refine ws_ rfl 218 rfl (w.heap.size+1+1) (jb l2).toArray rfl rfl r2.out (by rw [S2];rfl) (by rw [S2,S1]) O2 ?_;go_frame)
   refine jg (fun W=>Wr W (w.heap.size+1+1) 218 l2/\Wr W (w.heap.size+1) 233 zs/\Ext w W) ⟨jqc _ _ _ _ _ _ r2.out,(jqy _ _ _ _ (by omega)).trans re2.out,jqb rx2.out (by omega) _⟩ ?_;clear r2 re2 rx2;rintro u2 K2';have K2:=Hj K2';clear K2';have c7:=K2.out.1.cell (i:=7) (by omega);have z7:=K2.out.1.frozen 7;rw [W7.out] at c7;have KB:Hid (Wr (u2.setCell ⟨w.heap.size+1+1,7,none⟩ (.int .u32 (v7:Int))) (w.heap.size+1+1) 218 l2b/\Wr (u2.setCell ⟨w.heap.size+1+1,7,none⟩ (.int .u32 (v7:Int))) (w.heap.size+1) 233 zs/\Ext w (u2.setCell ⟨w.heap.size+1+1,7,none⟩ (.int .u32 (v7:Int)))):=by
    refine ⟨?_,(jp7 _ _ _ _ (show w.heap.size+1≠w.heap.size+1+1 by omega)).trans K2.out.2.1,K2.out.2.2.setCell (show w.heap.size<=w.heap.size+1+1 by omega) _⟩;have:=K2.out.1.set (k:=7) (x:=v7)
    rwa [hset.out] at this
   go_upto_region 14 with fail;refine jg (fun W=>Wr W (w.heap.size+1+1) 218 l2b/\Wr W (w.heap.size+1) 233 zs/\Ext w W) KB.out ?_;clear KB c7 z7 K2;rintro u2 K2';have K2:=Hj K2';clear K2';have k0:=Hj K2.out.1;go_wp2_with (refine wl_ rfl 218 rfl (w.heap.size+1+1) rfl k0.out rfl rfl (by rw [S2b];rfl) ?_;go_frame)
   refine (PL3.out _ n3 hn3.out).mono ?_;rintro e v3 ⟨cc,rfl,e1⟩;have r3:=Hj ((e1.block _ k0.out.lt).trans k0.out);have re3:=Hj (K2.out.2.1.kept e1 K2.out.2.1.lt);have rx3:Hid (Ext w v3):=K2.out.2.2.trans e1;clear K2 k0 e1;go_upto_region 15 with (refine ws_ rfl 218 rfl (w.heap.size+1+1) (jb l3).toArray rfl rfl r3.out (by rw [S3];rfl) (by rw [S3,S2b]) O3 ?_;go_frame)
   refine jg (fun W=>Wr W (w.heap.size+1+1) 218 l3/\Wr W (w.heap.size+1) 233 zs/\Ext w W) ⟨jqc _ _ _ _ _ _ r3.out,(jqy _ _ _ _ (by omega)).trans re3.out,jqb rx3.out (by omega) _⟩ ?_;clear r3 re3 rx3;rintro u3 K3';have K3:=Hj K3';clear K3';have k0:=Hj K3.out.1;go_wp2_with (refine wl_ rfl 218 rfl (w.heap.size+1+1) rfl k0.out rfl rfl (by rw [S3];rfl) ?_;go_frame)
   refine (RED.out _ K3.out.2.2).mono ?_;rintro e v4 ⟨rfl,e1⟩;have re:=Hj (K3.out.2.1.kept e1 K3.out.2.1.lt);have rx:Hid (Ext w v4):=K3.out.2.2.trans e1;clear K3 k0 e1;go_wp2_with (refine ws_ rfl 233 rfl (w.heap.size+1) (jb lr).toArray rfl rfl re.out (by rw [SR];rfl) (by rw [SR,ZS]) OR ?_;go_frame)
   (try simp only [jqV,Exit.then]);refine jqW (jqX rfl _ _ (w.heap.size+1) 233 (jb lr).toArray (0,0) _ rfl (jqc _ _ _ _ _ _ re.out) rfl rfl (by rw [SR];rfl)) rfl ?_;exact ⟨rfl,jqb rx.out (by omega) _⟩
def eV (x:Nat):Value:= .agg (jb (lbs 8 x)).toArray
theorem YO:0 < P25:=by decide+kernel
theorem jg0:P25 < M8:=by decide+kernel
theorem YW {x y:Nat}{w:World}(hx:x < P25) (hy:y < P25){tg:jpC×Nat×Nat}(hG:Gp w tg):
 Calls jpx 161 #[eV x,eV y] w fun e w'=>e= .returned (eV ((x+y) % P25))/\Ext w w':=by
 have C1:Hid (∀ W,Calls jpx 177 #[.agg (jb (lbs 8 x)).toArray, .agg (jb (lbs 8 y)).toArray] W fun e w'=>e= .returned (.agg (jb (lbs 8 (x+y))).toArray)/\Ext W w'):=fun W=>Zu
 have C2:Hid (∀ W,Ext w W->Calls jpx 160 #[.agg (jb (lbs 8 (x+y))).toArray] W fun e w'=>e= .returned (.agg (jb (lbs 8 ((x+y) % P25))).toArray)/\Ext W w'):=fun W e=>zG (by omega) (hG.ext e)
 clear hG;unfold eV;have XL:=jnz 8 x;have YL:=jnz 8 y;have RL:=jnz 8 ((x+y) % P25);generalize lbs 8 ((x+y) % P25)=rr at *;generalize lbs 8 x=xs at *;generalize lbs 8 y=ys at *;generalize lbs 8 (x+y)=ms at *;have XS:=jf XL;have YS:=jf YL;have RS:=jf RL;have OR:=jo rr;have hal2:=vr;have hal:=yy;have ZL:zw8.length=8:=rfl;generalize zw8=zs at *;have ZS:=jf ZL;have B0:Hid (∀ s,Ext (((w.alloc (jqY (jb xs).toArray 233)).alloc (jqY (jb ys).toArray 233)).alloc (jqY (jb zs).toArray 233)) s->Wr s w.heap.size 233 xs/\Wr s (w.heap.size+1) 233 ys/\Wr s (w.heap.size+1+1) 233 zs/\Ext w s):=fun s e=>⟨(e.block _ (by rw [je,je,je];omega)).trans (jF _ _ _ _),(e.block _ (by rw [je,je,je];omega)).trans (jH _ _ _ _),(e.block _ (by rw [je,je,je];omega)).trans (jB _ _ _ _),((((jnQ w).alloc _).alloc _).alloc _).trans e⟩
 go_enter Tryz.func161,Tryz.ntmps161
 go_upto_region 1 with fail;refine jg (fun W=>∀ s,Ext W s->Wr s w.heap.size 233 xs/\Wr s (w.heap.size+1) 233 ys/\Wr s (w.heap.size+1+1) 233 zs/\Ext w s) B0.out ?_;clear B0;rintro w0 B0;replace B0:=Hj B0;have ka:=Hj (B0.out _ (jnQ _)).1;have kb:=Hj (B0.out _ (jnQ _)).2.1;go_wp2_with (first
  | (refine wpList_load_row rfl 218 _ rfl w.heap.size rfl 233 (jb xs).toArray (0,0) _ ka.out rfl rfl (by rw [XS];rfl) ?_;go_frame)
  | (refine wpList_load_row rfl 218 _ rfl (w.heap.size+1) rfl 233 (jb ys).toArray (0,0) _ kb.out rfl rfl (by rw [YS];rfl) ?_;go_frame))
 refine (C1.out _).mono ?_;rintro e w1 ⟨rfl,e1⟩;go_wp2_with fail;refine (C2.out _ (B0.out _ e1).2.2.2).mono ?_;rintro e w2 ⟨rfl,e2⟩;obtain ⟨-, -,kr,kx⟩:=B0.out _ (e1.trans e2);replace kr:=Hj kr;replace kx:=Hj kx;clear B0 ka kb C1 C2 e1 e2;go_wp2_with (refine ws_ rfl 233 rfl (w.heap.size+1+1) (jb rr).toArray rfl rfl kr.out (by rw [RS];rfl) (by rw [RS,ZS]) OR ?_;go_frame)
 (try simp only [jqV,Exit.then]);refine jqW (jqX rfl _ _ (w.heap.size+1+1) 233 (jb rr).toArray (0,0) _ rfl (jqc _ _ _ _ _ _ kr.out) rfl rfl (by rw [RS];rfl)) rfl ?_;exact ⟨rfl,jqb kx.out (by omega) _⟩
theorem qP {x y:Nat}{w:World}(hx:x < P25) (hy:y < P25){tg:jpC×Nat×Nat}(hG:Gp w tg):
 Calls jpx 141 #[eV x,eV y] w fun e w'=>e= .returned (eV (x*y % P25))/\Ext w w':=by
 have hxM:=Nat.lt_trans hx jg0;have hyM:=Nat.lt_trans hy jg0;have C1:Hid (∀ W,Calls jpx 165 #[.agg (jb (lbs 8 x)).toArray, .agg (jb (lbs 8 y)).toArray] W fun e w'=>e= .returned (.agg (jb (lbs 16 (x*y))).toArray)/\Ext W w'):=fun W=>jbk hxM hyM
 have C2:Hid (∀ W,Ext w W->Calls jpx 164 #[.agg (jb (lbs 16 (x*y))).toArray] W fun e w'=>e= .returned (.agg (jb (lbs 8 (x*y % P25))).toArray)/\Ext W w'):=fun W e=>jcd (Nat.mul_lt_mul'' hxM hyM) (hG.ext e)
 clear hG;unfold eV;have XL:=jnz 8 x;have YL:=jnz 8 y;have RL:=jnz 8 (x*y % P25);generalize lbs 8 (x*y % P25)=rr at *;generalize lbs 8 x=xs at *;generalize lbs 8 y=ys at *;generalize lbs 16 (x*y)=ms at *;have XS:=jf XL;have YS:=jf YL;have RS:=jf RL;have OR:=jo rr;have hal2:=vr;have hal:=yy;have ZL:zw8.length=8:=rfl;generalize zw8=zs at *;have ZS:=jf ZL;have B0:Hid (∀ s,Ext (((w.alloc (jqY (jb xs).toArray 233)).alloc (jqY (jb ys).toArray 233)).alloc (jqY (jb zs).toArray 233)) s->Wr s w.heap.size 233 xs/\Wr s (w.heap.size+1) 233 ys/\Wr s (w.heap.size+1+1) 233 zs/\Ext w s):=fun s e=>⟨(e.block _ (by rw [je,je,je];omega)).trans (jF _ _ _ _),(e.block _ (by rw [je,je,je];omega)).trans (jH _ _ _ _),(e.block _ (by rw [je,je,je];omega)).trans (jB _ _ _ _),((((jnQ w).alloc _).alloc _).alloc _).trans e⟩
 go_enter Tryz.func141,Tryz.ntmps141
 go_upto_region 1 with fail;refine jg (fun W=>∀ s,Ext W s->Wr s w.heap.size 233 xs/\Wr s (w.heap.size+1) 233 ys/\Wr s (w.heap.size+1+1) 233 zs/\Ext w s) B0.out ?_;clear B0;rintro w0 B0;replace B0:=Hj B0;have ka:=Hj (B0.out _ (jnQ _)).1;have kb:=Hj (B0.out _ (jnQ _)).2.1;go_wp2_with (first
  | (refine wpList_load_row rfl 218 _ rfl w.heap.size rfl 233 (jb xs).toArray (0,0) _ ka.out rfl rfl (by rw [XS];rfl) ?_;go_frame)
  | (refine wpList_load_row rfl 218 _ rfl (w.heap.size+1) rfl 233 (jb ys).toArray (0,0) _ kb.out rfl rfl (by rw [YS];rfl) ?_;go_frame))
 refine (C1.out _).mono ?_;rintro e w1 ⟨rfl,e1⟩;go_wp2_with fail;refine (C2.out _ (B0.out _ e1).2.2.2).mono ?_;rintro e w2 ⟨rfl,e2⟩;obtain ⟨-, -,kr,kx⟩:=B0.out _ (e1.trans e2);replace kr:=Hj kr;replace kx:=Hj kx;clear B0 ka kb C1 C2 e1 e2;go_wp2_with (refine ws_ rfl 233 rfl (w.heap.size+1+1) (jb rr).toArray rfl rfl kr.out (by rw [RS];rfl) (by rw [RS,ZS]) OR ?_;go_frame)
 (try simp only [jqV,Exit.then]);refine jqW (jqX rfl _ _ (w.heap.size+1+1) 233 (jb rr).toArray (0,0) _ rfl (jqc _ _ _ _ _ _ kr.out) rfl rfl (by rw [RS];rfl)) rfl ?_;exact ⟨rfl,jqb kx.out (by omega) _⟩
theorem YX {x y:Nat}{w:World}(hx:x < P25) (hy:y < P25){tg:jpC×Nat×Nat}(hG:Gp w tg):
 Calls jpx 162 #[eV x,eV y] w fun e w'=>e= .returned (eV ((x+(P25 - y)) % P25))/\Ext w w':=by
 have C0:Hid (∀ W,Calls jpx 176 #[.agg (jb (lbs 8 P25)).toArray, .agg (jb (lbs 8 y)).toArray] W fun e w'=>∃ c:Nat,e= .returned (.tuple #[.agg (jb (lbs 8 (P25 - y))).toArray, .int .u64 (c:Int)])/\Ext W w'):=fun W=>by
  refine (YJ (x:=P25) (y:=y) (w:=W) (Nat.lt_trans hy jea)).mono ?_;rintro e w' ⟨rfl,ex⟩;have hd:lbs 8 (P25+4294967296 ^ 8 - y)=lbs 8 (P25 - y):=by
   have h1:P25+4294967296 ^ 8 - y=P25 - y+4294967296 ^ 8:=by
    generalize 4294967296 ^ 8=M;omega
   rw [h1,ZC]
  rw [hd];exact ⟨bS P25 y 8,rfl,ex⟩
 have C1:Hid (∀ W,Calls jpx 177 #[.agg (jb (lbs 8 x)).toArray, .agg (jb (lbs 8 (P25 - y))).toArray] W fun e w'=>e= .returned (.agg (jb (lbs 8 (x+(P25 - y)))).toArray)/\Ext W w'):=fun W=>Zu
 have C2:Hid (∀ W,Ext w W->Calls jpx 160 #[.agg (jb (lbs 8 (x+(P25 - y)))).toArray] W fun e w'=>e= .returned (.agg (jb (lbs 8 ((x+(P25 - y)) % P25))).toArray)/\Ext W w'):=fun W e=>zG (by omega) (hG.ext e)
 have GP:Hid (∀ W,Ext w W->W.heap[1]? =some (.cells (jb (lbs 8 P25)).toArray tg.1 tg.2)):=fun W e=>hG.ext e
 have PL:=jnz 8 P25;have DL:=jnz 8 (P25 - y);clear hG;unfold eV;have XL:=jnz 8 x;have YL:=jnz 8 y;have RL:=jnz 8 ((x+(P25 - y)) % P25);generalize lbs 8 ((x+(P25 - y)) % P25)=rr at *;generalize lbs 8 x=xs at *;generalize lbs 8 y=ys at *;generalize lbs 8 (x+(P25 - y))=ms at *;generalize lbs 8 (P25 - y)=ds at *;generalize lbs 8 P25=ps at *;have PS:=jf PL;have DS:=jf DL;have OD:=jo ds;have XS:=jf XL;have YS:=jf YL;have RS:=jf RL;have OR:=jo rr;have hal2:=vr;have hal:=yy;have ZL:zw8.length=8:=rfl;generalize zw8=zs at *;have ZS:=jf ZL;have B0:Hid (∀ s,Ext (((w.alloc (jqY (jb xs).toArray 233)).alloc (jqY (jb ys).toArray 233)).alloc (jqY (jb zs).toArray 233)) s->Wr s w.heap.size 233 xs/\Wr s (w.heap.size+1) 233 ys/\Wr s (w.heap.size+1+1) 233 zs/\Ext w s):=fun s e=>⟨(e.block _ (by rw [je,je,je];omega)).trans (jF _ _ _ _),(e.block _ (by rw [je,je,je];omega)).trans (jH _ _ _ _),(e.block _ (by rw [je,je,je];omega)).trans (jB _ _ _ _),((((jnQ w).alloc _).alloc _).alloc _).trans e⟩
 go_enter Tryz.func162,Tryz.ntmps162
 go_upto_region 1 with fail;refine jg (fun W=>∀ s,Ext W s->Wr s w.heap.size 233 xs/\Wr s (w.heap.size+1) 233 ys/\Wr s (w.heap.size+1+1) 233 zs/\Ext w s) B0.out ?_;clear B0;rintro w0 B0;replace B0:=Hj B0;have kb:=Hj (B0.out _ (jnQ _)).2.1;have kp:=Hj (GP.out _ (B0.out _ (jnQ _)).2.2.2);go_wp2_with (first
  | (refine wpList_load_row rfl 218 _ rfl 1 rfl tg.1 (jb ps).toArray tg.2 _ kp.out rfl rfl (by rw [PS];rfl) ?_;go_frame)
  | (refine wpList_load_row rfl 218 _ rfl (w.heap.size+1) rfl 233 (jb ys).toArray (0,0) _ kb.out rfl rfl (by rw [YS];rfl) ?_;go_frame))
 refine (C0.out _).mono ?_;rintro e v ⟨c,rfl,e1⟩;have a1:Hid ((v.alloc (jqY (jb zs).toArray 218)).heap[v.heap.size]? =some (.cells (jb zs).toArray 218 (0,0))):=jqq _ _;have e5:Ext v ((v.alloc (jqY (jb zs).toArray 218)).setRow v.heap.size (jb ds).toArray):=jqb ((jnQ v).alloc _) (jpo _) _;go_upto_region 2 with (refine ws_ rfl 218 rfl v.heap.size (jb ds).toArray rfl rfl a1.out (by rw [DS];rfl) (by rw [DS,ZS]) OD ?_;go_frame)
 obtain ⟨f,hf⟩:=ex_ v.heap.size;refine jg (fun W=>∀ s,Ext W s->Wr s w.heap.size 233 xs/\Wr s f 218 ds/\Wr s (w.heap.size+1+1) 233 zs/\Ext w s) (fun s e=>by
  obtain ⟨p1, -,p3,p4⟩:=B0.out s (e1.trans (e5.trans e));exact ⟨p1,(e.block _ (by simp [hf])).trans (by rw [hf];exact jqc _ _ _ _ _ _ a1.out),p3,p4⟩) ?_
 rw [<-hf];clear hf a1 e5 e1 B0 kb kp GP C0;rintro w1 B0;replace B0:=Hj B0;have ka:=Hj (B0.out _ (jnQ _)).1;have kb:=Hj (B0.out _ (jnQ _)).2.1;go_wp2_with (first
  | (refine wpList_load_row rfl 218 _ rfl w.heap.size rfl 233 (jb xs).toArray (0,0) _ ka.out rfl rfl (by rw [XS];rfl) ?_;go_frame)
  | (refine wl_ rfl 218 rfl f rfl kb.out rfl rfl (by rw [DS];rfl) ?_;go_frame))
 refine (C1.out _).mono ?_;rintro e w2 ⟨rfl,e1⟩;go_wp2_with fail;refine (C2.out _ (B0.out _ e1).2.2.2).mono ?_;rintro e w3 ⟨rfl,e2⟩;obtain ⟨-, -,kr,kx⟩:=B0.out _ (e1.trans e2);replace kr:=Hj kr;replace kx:=Hj kx;clear B0 ka kb C1 C2 e1 e2;go_wp2_with (refine ws_ rfl 233 rfl (w.heap.size+1+1) (jb rr).toArray rfl rfl kr.out (by rw [RS];rfl) (by rw [RS,ZS]) OR ?_;go_frame)
 (try simp only [jqV,Exit.then]);refine jqW (jqX rfl _ _ (w.heap.size+1+1) 233 (jb rr).toArray (0,0) _ rfl (jqc _ _ _ _ _ _ kr.out) rfl rfl (by rw [RS];rfl)) rfl ?_;exact ⟨rfl,jqb kx.out (by omega) _⟩
theorem Za {xs:List UInt8}{j i x:Nat}(hj:j < xs.length) (hx:x < 256):bt (xs.set j (jpt x)) i=if i=j then x else bt xs i:=by
 unfold bt;by_cases h:i=j
 ·subst h;simp [jpr,hj]
  omega
 ·simp [jpr,h,List.getElem?_set_ne (Ne.symm h)]
def kL (x:Nat):List UInt8:=qX (lbs 8 x)
theorem zx (x:Nat):(kL x).length=32:=by unfold kL;rw [ya,jnz]
theorem jjT {x k:Nat}(h:k < 32):bt (kL x) k=lb x (k / 4) / 256 ^ (k % 4) % 256:=by
 unfold kL;rw [JK (by rw [jnz];omega),yi (by omega)]
theorem Ky.setB6 {w:World}{g j x:Nat}{xs:List UInt8}(h:Ky w g xs) (hj:j < 32) (hx:x < 256):Ky (w.setCell ⟨g,j,none⟩ (.int .u8 (x:Int))) g (xs.set j (jpt x)):=by
 refine ⟨?_,by rw [jp5];exact h.2⟩;rw [setCell_eq_setRow w g j _ _ (0,0) _ h.1,jqc w g _ _ _ _ h.1]
 congr 2
 have hl:=h.2
 apply Array.ext'
 rw [Array.toList_setIfInBounds]
 apply List.ext_getElem?
 intro i;simp only [List.getElem?_set,ja];by_cases hi:i < 32
 ·rw [jZ (xs:=xs.set j (jpt x)) (by rw [jp5];omega),Za (by omega) hx];by_cases e:j=i
  ·subst e;simp [show j < xs.length by omega]
  ·rw [if_neg e,if_neg (Ne.symm e)];have:=jZ (xs:=xs) (j:=i) (by omega)
   simpa using this
 ·have h1:(cellsOf xs)[i]? =none:=jqa (by rw [ja];omega);have h2:(cellsOf (xs.set j (jpt x)))[i]? =none:=jqa (by rw [ja,jp5];omega);rw [if_neg (by omega)];simp only [h2]
  simpa using h1
theorem jen {x:Nat}{w:World}:
 Calls jpx 143 #[eV x] w fun e w'=>e= .returned (.agg (cellsOf (kL x)).toArray)/\Ext w w':=by
 have XW:Hid (∀ j,j < 8->wd (lbs 8 x) j=lb x j):=fun j hj=>yi hj
 have XL:=jnz 8 x;have RB:Hid (∀ k,k < 32->bt (kL x) k=lb x (k / 4) / 256 ^ (k % 4) % 256):=fun k hk=>jjT hk
 have RL:=zx x;have LB:Hid (∀ i,lb x i < 4294967296):=yK x;unfold eV;generalize kL x=rr at *;generalize lbs 8 x=xs at *;have hal:=j2;have hz:=jU;have zl:(jqn 32 (0:UInt8)).length=32:=rfl;rw [<-hz] at hal;clear hz;generalize jqn 32 (0:UInt8)=zs at *;have ZS:(cellsOf zs).toArray.size=32:=by simp [ja,zl]
 have B0:Hid (Wr (((w.alloc (jqY (jb xs).toArray 233)).alloc (jqY (cellsOf zs).toArray 23)).alloc (jqY (cellsOf zs).toArray 23)) w.heap.size 233 xs/\Ky (((w.alloc (jqY (jb xs).toArray 233)).alloc (jqY (cellsOf zs).toArray 23)).alloc (jqY (cellsOf zs).toArray 23)) (w.heap.size+1) zs/\Ky (((w.alloc (jqY (jb xs).toArray 233)).alloc (jqY (cellsOf zs).toArray 23)).alloc (jqY (cellsOf zs).toArray 23)) (w.heap.size+1+1) zs/\Ext w (((w.alloc (jqY (jb xs).toArray 233)).alloc (jqY (cellsOf zs).toArray 23)).alloc (jqY (cellsOf zs).toArray 23))):=⟨jF _ _ _ _,⟨jH _ _ _ _,zl⟩,⟨jB _ _ _ _,zl⟩,(((jnQ w).alloc _).alloc _).alloc _⟩;go_enter Tryz.func143,Tryz.ntmps143
 go_upto_region 2 with fail;refine jg (fun W=>Wr W w.heap.size 233 xs/\Ky W (w.heap.size+1) zs/\Ky W (w.heap.size+1+1) zs/\Ext w W) B0.out ?_;clear B0;rintro W0 ⟨wa,k1,k2,e0⟩;replace wa:=Hj wa;replace k1:=Hj k1;replace k2:=Hj k2;replace e0:=Hj e0;go_wp2_with fail;go_loopw [5] (fun v wr=>∃ (k:Nat) (ys:List UInt8),k<=32/\v= .int .i64 (k:Int)/\ys.length=32/\(∀ j,j < k->bt ys j=bt rr j)/\Below (w.heap.size+1+1) W0 wr/\Ky wr (w.heap.size+1+1) ys) (fun v _=>32 - (intOf v).toNat)
 case atStart=>exact ⟨0,zs,jpp _,rfl,zl,fun j hj=>absurd hj (by omega),jpm _ _,k2.out⟩
 case round=>
  obtain ⟨k,ys,hk,rfl,yl,hv,hB,ky⟩:=hrel;clear k2;by_cases hlt:k < 32
  ·obtain ⟨a,ha⟩:=ex_ (k / 4);obtain ⟨b,hb⟩:=ex_ (k % 4);obtain ⟨sh,hs⟩:=ex_ (8*b);have ia:(k:Int) / 4=(a:Int):=by omega
   have ib:(k:Int) % 4=(b:Int):=by omega
   have ia':Int.tdiv (k:Int) 4=(a:Int):=by rw [jq3 (by omega)];omega
   have ib':Int.tmod (k:Int) 4=(b:Int):=by rw [jq4 (by omega)];omega
   have is:(8:Int)*(b:Int)=(sh:Int):=by omega
   have a8:a < 8:=by omega
   have a8':(a:Int) < 8:=by omega
   have b4:(b:Int) < 4:=by omega
   have s32:(sh:Int)<=32:=by omega
   have cv:=(wa.out.kept hB (by omega)).cell (i:=a) (by omega);rw [XW.out a a8] at cv;have yb:bt rr k=lb x a / 2 ^ sh % 256:=by
    rw [RB.out k hlt,<-ha,<-hb,hs,show (256:Nat)=2 ^ 8 from rfl,<-Nat.pow_mul]
   have hl:=LB.out a;generalize lb x a=u at *;obtain ⟨y,hy⟩:=ex_ (u / 2 ^ sh);have q1:Op.shift .shr .u32 (u:Int) .i64 (sh:Int)=pure (.int .u32 (y:Int)):=by
    have:=shift_shr .u32 .i64 (u:Int) (sh:Int) (by omega) (by show (sh:Int)<=32;exact s32);rw [this,hy];simp
   have y8:IntKind.u8.wrap (y:Int)=((y % 256:Nat):Int):=by rw [IntKind.wrap_u8];omega
   have y8':(y:Int) % 256=((y % 256:Nat):Int):=by omega
   rw [<-hy] at yb;have hlt8:y % 256 < 256:=jp3 _ (by decide);generalize y % 256=z at *;have g1:=ky.cell hlt;have g2:=ky.frozen k;have ik:(k:Int) < 32:=by omega
   replace yb:=Hj yb;replace hy:=Hj hy;replace ha:=Hj ha;replace hb:=Hj hb;replace hs:=Hj hs;replace hv:=Hj hv;replace hB:=Hj hB;replace ky:=Hj ky;clear hlt8;go_wp2_with fail;have hz:(u:Int) / 2 ^ sh % 256=(z:Int):=by
    rw [<-y8',hy.out,Int.natCast_ediv,Int.natCast_pow];rfl
   rw [hz];have z256:z < 256:=by rw [<-yb.out];exact vL _ _
   refine ⟨⟨k+1,ys.set k (jpt z),by omega,by go_num,by rw [jp5];exact yl,fun j hj=> ?_,Below.setCell hB.out (jpo _) _,ky.out.setB6 hlt z256⟩,by simp [intOf];omega⟩;rw [Za (by omega) z256];by_cases e:j=k
   ·rw [if_pos e,e];exact yb.out.symm
   ·rw [if_neg e];exact hv.out j (by omega)
  ·obtain rfl:k=32:=by omega
   have hy:ys=rr:=Y0 (by rw [yl,RL]) fun j hj=>hv j (by omega)
   subst hy;have KK:Hid (Ky wr (w.heap.size+1) zs):=⟨(hB.block _ (by omega)).trans k1.out.1,zl⟩;have EE:Hid (Ext w wr):=jpn e0.out (hB.mono (by omega));have RS:(cellsOf ys).toArray.size=32:=by simp [ja,yl]
   have R1:=ji ys;replace ky:=Hj ky;clear hv hB RB k1 wa e0;go_wp2_with (first
    | (refine wl_ rfl 23 rfl (w.heap.size+1+1) rfl ky.out.1 rfl rfl (by rw [RS];rfl) ?_;go_frame)
    | refine ws_ rfl 23 rfl (w.heap.size+1) (cellsOf ys).toArray rfl rfl KK.out.1 (by rw [RS];rfl) (by rw [RS,ZS]) R1 ?_)
   (try simp only [jqV,Exit.then]);refine jqW (jqX rfl _ _ (w.heap.size+1) 23 (cellsOf ys).toArray (0,0) _ rfl (jqc _ _ _ _ _ _ KK.out.1) rfl rfl (by rw [RS];rfl)) rfl ?_;exact ⟨rfl,jqb EE.out (by omega) _⟩
def ofN (ks:List UInt8):Nat->Nat
 | 0=>0
 | i+1=>ofN ks i+bt ks i*256 ^ i
theorem jcr (ks:List UInt8):∀ i,ofN ks i < 256 ^ i
 | 0=>by simp [ofN]
 | i+1=>by
   have ih:=jcr ks i;have hb:=vL ks i;rw [ofN,jqN];have:bt ks i*256 ^ i<=255*256 ^ i:=Nat.mul_le_mul_right _ (by omega);generalize bt ks i*256 ^ i=t at *;generalize 256 ^ i=P at *;omega
theorem jaD (a b:Nat):256 ^ (4*a+b)=4294967296 ^ a*256 ^ b:=by rw [jqK,Nat.pow_mul]
theorem jku {ks:List UInt8}{i a b:Nat}(hi:i=4*a+b) (hb:b < 4):lb (ofN ks (i+1)) a=lb (ofN ks i) a+bt ks i*256 ^ b/\lb (ofN ks i) a < 256 ^ b:=by
 have h1:=jcr ks i;have hp:0 < 4294967296 ^ a:=Nat.pow_pos (by decide);have e:256 ^ i=4294967296 ^ a*256 ^ b:=by rw [hi];exact jaD a b
 rw [e] at h1;have h2:ofN ks i / 4294967296 ^ a < 256 ^ b:=jq2 h1;have h3:256 ^ b<=16777216:=by
  have:b=0\/b=1\/b=2\/b=3:=by omega
  rcases this with rfl | rfl | rfl | rfl <;> decide
 have hbt:=vL ks i;have h4:bt ks i*256 ^ b<=255*256 ^ b:=Nat.mul_le_mul_right _ (by omega);have e2:ofN ks (i+1) / 4294967296 ^ a=ofN ks i / 4294967296 ^ a+bt ks i*256 ^ b:=by
  rw [ofN,e,Nat.mul_left_comm,Nat.add_mul_div_left _ _ hp]
 unfold lb;rw [e2];generalize ofN ks i / 4294967296 ^ a=X at *;generalize bt ks i*256 ^ b=t at *;generalize 256 ^ b=Q at *;omega
theorem jkv {ks:List UInt8}{i a b j:Nat}(hi:i=4*a+b) (hj:j < a):lb (ofN ks (i+1)) j=lb (ofN ks i) j:=by
 have hp:0 < 4294967296 ^ j:=Nat.pow_pos (by decide);obtain ⟨d,hd⟩:∃ d,a=j+1+d:=⟨a - (j+1),by omega⟩;have e:bt ks i*256 ^ i=4294967296 ^ j*(4294967296*(4294967296 ^ d*256 ^ b*bt ks i)):=by
  rw [hi,jaD,hd,jqK,jqN,jqI (bt _ _)];simp only [jqJ]
 unfold lb;rw [ofN,e,Nat.add_mul_div_left _ _ hp,jq1]
theorem jjg {ks:List UInt8}{i a b j:Nat}(hi:i<=4*a+b) (hb:b<=4) (hj:a < j):lb (ofN ks i) j=0:=by
 have h1:=jcr ks i;have h2:256 ^ i<=4294967296 ^ j:=by
  have:(4294967296:Nat) ^ j=256 ^ (4*j):=by rw [Nat.pow_mul]
  rw [this];exact Nat.pow_le_pow_right (by decide) (by omega)
 unfold lb;rw [jqR (jpq h1 h2)]
def ofV (ks:List UInt8):Nat:=ofN ks 32 % H8 % P25
theorem jkt (ks:List UInt8):ofV ks < P25:=jp3 _ YO
theorem jew {xs:List UInt8}{w:World}{k:Nat}(hl:xs.length=32) (hk:k < 32):
 (jqh 23 (.agg (cellsOf xs).toArray) (.int .i64 (k:Int))).run jpx w= .ok (.int .u8 (bt xs k:Int)) w:=by
 have h1:(0:Int)<=(k:Int)/\(k:Int) < ((32:Nat):Int):=by omega
 have hs:(sizeOf 5).run jpx w= .ok 1 w:=rfl;have hg:(cellsOf xs).toArray[k]? =some (.int .u8 (bt xs k:Int)):=by
  rw [jqt];exact jZ (by omega)
 have ht:Tryz.prog.underlying 23=some (.array 32 5):=rfl;unfold jqh;simp only [jqi,asIntOf,jqj,jqk,jql ht];rw [if_pos h1];simp only [jqi,hs,jqk];have ha:(isAgg 5).run jpx w= .ok false w:=rfl;unfold part;simp only [jqi,ha,jqk,Int.toNat_natCast,Nat.mul_one,Bool.false_eq_true,if_false,hg,jqj]
theorem jav {ks:List UInt8}{w:World}(hk:ks.length=32){tg:jpC×Nat×Nat}(hG:Gp w tg):
 Calls jpx 136 #[.agg (cellsOf ks).toArray] w fun e w'=>e= .returned (eV (ofV ks))/\Ext w w':=by
 have hN:ofN ks 32 < M8:=by
  have:=jcr ks 32
  rwa [show (256:Nat) ^ 32=M8 by decide+kernel] at this
 have hset:=(jcM hN).2;have h7:=yK (ofN ks 32) 7;have RED:Hid (∀ (W:World),Ext w W->Calls jpx 160 #[.agg (jb (lbs 8 (ofN ks 32 % H8))).toArray] W fun e w'=>e= .returned (.agg (jb (lbs 8 (ofV ks))).toArray)/\Ext W w'):=fun W e=>by
  refine zG ?_ (hG.ext e);have h1:=jp3 (ofN ks 32) (show 0 < H8 by decide+kernel);have h2:H8 < 2*P25:=by decide+kernel
  omega
 have RQ:Hid (∀ vs:List Nat,vs.length=8->(∀ j,j < 8->wd vs j=lb (ofN ks 32) j)->vs=lbs 8 (ofN ks 32)):=fun vs h1 h2=>Ye h1 h2
 have W7:Hid (wd (lbs 8 (ofN ks 32)) 7=lb (ofN ks 32) 7):=yi (by omega);have L0:=jnz 8 (ofN ks 32);have L1:=jnz 8 (ofN ks 32 % H8);have LR:=jnz 8 (ofV ks);have HIT:Hid (∀ i a b,i=4*a+b->b < 4->lb (ofN ks (i+1)) a=lb (ofN ks i) a+bt ks i*256 ^ b/\lb (ofN ks i) a < 256 ^ b):=fun i a b h1 h2=>jku h1 h2
 have LOW:Hid (∀ i a b j,i=4*a+b->j < a->lb (ofN ks (i+1)) j=lb (ofN ks i) j):=fun i a b j h1 h2=>jkv h1 h2
 have HIGH:Hid (∀ i a b j,i<=4*a+b->b<=4->a < j->lb (ofN ks i) j=0):=fun i a b j h1 h2 h3=>jjg h1 h2 h3
 unfold eV;clear hG hN;generalize lbs 8 (ofN ks 32 % H8)=l1 at *;generalize lbs 8 (ofV ks)=lr at *;have hix:=fun (w:World) (k:Nat) (h:k < 32)=>jew (xs:=ks) (w:=w) hk h
 have IX:=Hj hix;clear hix;have KS:(cellsOf ks).toArray.size=32:=by simp [ja,hk]
 have hal:=yy;have hal2:=vr;have ZL:zw8.length=8:=rfl;have ZZ:Hid (∀ j,wd zw8 j=lb (ofN ks 0) j):=fun j=>by
  rw [show lb (ofN ks 0) j=0 by simp [lb,ofN]];by_cases q:j < 8
  ·have h:∀ j,j < 8->wd zw8 j=0:=by decide
   exact h j q
  ·unfold wd zw8;simp [jpr,jq5,q]
 generalize zw8=zs at *;have ZS:=jf ZL;generalize hKK:(cellsOf ks).toArray=KA at *;replace hKK:=Hj hKK;have B0:Hid ((((w.alloc (jqY KA 23)).alloc (jqY (jb zs).toArray 233)).alloc (jqY (jb zs).toArray 218)).heap[w.heap.size]? =some (.cells KA 23 (0,0))/\Wr (((w.alloc (jqY KA 23)).alloc (jqY (jb zs).toArray 233)).alloc (jqY (jb zs).toArray 218)) (w.heap.size+1) 233 zs/\Wr (((w.alloc (jqY KA 23)).alloc (jqY (jb zs).toArray 233)).alloc (jqY (jb zs).toArray 218)) (w.heap.size+1+1) 218 zs/\Ext w (((w.alloc (jqY KA 23)).alloc (jqY (jb zs).toArray 233)).alloc (jqY (jb zs).toArray 218))):=⟨jF _ _ _ _,jH _ _ _ _,jB _ _ _ _,(((jnQ w).alloc _).alloc _).alloc _⟩;go_enter Tryz.func136,Tryz.ntmps136
 go_upto_region 2 with fail;refine jg (fun W=>W.heap[w.heap.size]? =some (.cells KA 23 (0,0))/\Wr W (w.heap.size+1) 233 zs/\Wr W (w.heap.size+1+1) 218 zs/\Ext w W) B0.out ?_;clear B0;rintro W0 ⟨kk,we,wc4,e0⟩;replace kk:=Hj kk;replace we:=Hj we;replace wc4:=Hj wc4;replace e0:=Hj e0;go_wp2_with (refine wl_ rfl 23 rfl w.heap.size rfl kk.out rfl rfl (by rw [KS];rfl) ?_;go_frame)
 go_loopw [7] (fun iv wr=>∃ (k:Nat) (vs:List Nat),k<=32/\iv= .int .i64 (k:Int)/\vs.length=8/\(∀ j,j < 8->wd vs j=lb (ofN ks k) j)/\Below (w.heap.size+1+1) W0 wr/\Wr wr (w.heap.size+1+1) 218 vs) (fun iv _=>32 - (intOf iv).toNat)
 case atStart=>exact ⟨0,zs,jpp _,rfl,ZL,fun j hj=>ZZ.out j,jpm _ _,wc4.out⟩
 case round=>
  obtain ⟨k,vs,hk',rfl,vl,hv,hB,hw⟩:=hrel;clear wc4 ZZ;by_cases hlt:k < 32
  ·obtain ⟨a,ha⟩:=ex_ (k / 4);obtain ⟨b,hb⟩:=ex_ (k % 4);obtain ⟨sh,hs⟩:=ex_ (8*b);have kab:k=4*a+b:=by omega
   have ia:(k:Int) / 4=(a:Int):=by omega
   have ib:(k:Int) % 4=(b:Int):=by omega
   have ia':Int.tdiv (k:Int) 4=(a:Int):=by rw [jq3 (by omega)];omega
   have ib':Int.tmod (k:Int) 4=(b:Int):=by rw [jq4 (by omega)];omega
   have iaw:IntKind.i64.wrap (a:Int)=(a:Int):=jq0 _ (by omega);have is:(8:Int)*(b:Int)=(sh:Int):=by omega
   have isw:IntKind.i64.wrap (sh:Int)=(sh:Int):=jq0 _ (by omega);have sh0:(0:Int)<=(sh:Int):=by omega
   have a8:a < 8:=by omega
   have a8':(a:Int) < 8:=by omega
   have a0:(0:Int)<=(a:Int):=by omega
   have b4:b < 4:=by omega
   obtain ⟨hit,hlw⟩:=HIT.out k a b kab b4;have hvL:=fun j (hj:j < a)=>LOW.out k a b j kab hj
   have hvH:=fun j (hj:a < j)=>HIGH.out (k+1) a (b+1) j (by omega) (by omega) hj
   have hvH':=fun j (hj:a < j)=>HIGH.out k a b j (by omega) (by omega) hj
   have hbt:=vL ks k;have ix:=IX.out;have ixk:∀ w:World,(jqh 23 (.agg KA) (.int .i64 (k:Int))).run jpx w= .ok (.int .u8 (bt ks k:Int)) w:=fun w=>IX.out w k hlt
   clear ix;have cl:Hid (∀ s,Ext wr s->s.cell? ⟨w.heap.size+1+1,a,none⟩=some (.int .u32 (lb (ofN ks k) a:Int))):=fun s e=>by
    have g1:=(hw.kept e hw.lt).cell (i:=a) (by omega)
    rwa [hv a a8] at g1
   have h3:256 ^ b<=16777216:=by
    have:b=0\/b=1\/b=2\/b=3:=by omega
    rcases this with rfl | rfl | rfl | rfl <;> decide
   have e256:(256:Nat) ^ b=2 ^ sh:=by rw [hs,show (256:Nat)=2 ^ 8 from rfl,<-Nat.pow_mul]
   have hh:Hid (∀ j,j < 8->j≠a->lb (ofN ks k) j=lb (ofN ks (k+1)) j):=fun j hj hne=>by
    rcases jpu j a with q | q
    ·exact (hvL j q).symm
    ·rw [hvH j (by omega),hvH' j (by omega)]
   obtain ⟨t,ht⟩:=ex_ (bt ks k*256 ^ b);have ht4:t<=255*256 ^ b:=by rw [ht];exact Nat.mul_le_mul_right _ (by omega)
   rw [<-ht] at hit;generalize lb (ofN ks k) a=u at *;generalize bt ks k=c at *;obtain ⟨v,hvv⟩:=ex_ (u+t);rw [<-hvv] at hit;have f1:IntKind.u32.wrap (c:Int)=(c:Int):=by rw [jp6];omega
   have q1:Op.shift .shl .u32 (c:Int) .i64 (sh:Int)=pure (.int .u32 (t:Int)):=by
    have h9:=shift_shl .u32 .i64 (c:Int) (sh:Int) (by omega) (by show (sh:Int)<=32;omega);rw [h9]
    congr 2
    have:((c:Int)*2 ^ (sh:Int).toNat)=(t:Int):=by
     rw [Int.toNat_natCast,ht,e256];simp
    rw [this,jp6];omega
   have f5:bits .or .u32 (u:Int) (t:Int)=(v:Int):=by
    rw [u32_or_nat u t (by omega) (by omega)]
    congr 1
    rw [hvv,ht,Nat.or_comm,jqI,e256,<-Nat.two_pow_add_eq_or_of_lt (by rw [<-e256];exact hlw),Nat.add_comm]
   have t32:t < 4294967296:=by omega
   have cv:=hw.cell (i:=a) (by omega);have fv:=hw.frozen a;rw [hv a a8] at cv;have ik:(k:Int) < 32:=by omega
   replace hit:=Hj hit;replace kab:=Hj kab;replace ha:=Hj ha;replace hb:=Hj hb;replace hs:=Hj hs;replace ht:=Hj ht;replace hvv:=Hj hvv;replace e256:=Hj e256;replace hv:=Hj hv;replace hB:=Hj hB;replace hw:=Hj hw;clear hvL hvH hvH' hlw h3 ht4;go_wp2_with fail;refine ym 12 [0,1,2,3,4,5,6,7,8,9,10,11,12] [12] ?_;repeat (refine qzR _ (fun w' e=>cl.out w' ((jnQ _).drew.trans e)) ?_;go_frame)
   refine qzD fun K1 hK1=> ?_
   go_simp;refine hK1.out _ _ (.inl rfl) ?_;clear hK1 K1;refine jN ?_;go_wp2_with fail;have hz2:(c:Int)*2 ^ sh % 4294967296=(t:Int):=by
    have e1:(c:Int)*2 ^ sh=(t:Int):=by rw [ht.out,e256.out];simp
    rw [e1];omega
   rw [hz2,f5];refine ⟨⟨k+1,vs.set a v,by omega,by go_num,by rw [jp5];exact vl,fun j hj=> ?_,Below.setCell (jpn hB.out ((jnQ wr).drew.mono (jqU hw.out.lt))) (jpo _) _,(hw.out.set).kept (jnQ _).drew hw.out.set.lt⟩,by simp [intOf];omega⟩;rw [Yy (by omega)];by_cases e:j=a
   ·rw [if_pos e,e];exact hit.out.symm
   ·rw [if_neg e,hv.out j hj];exact hh.out j hj e
  ·obtain rfl:k=32:=by omega
   have he:=RQ.out vs vl hv;have we1:=Hj (we.out.kept hB (by omega));have EE:Hid (Ext w wr):=jpn e0.out (hB.mono (by omega));rw [<-he] at W7 hset;clear hv hB e0 we kk IX RQ HIT LOW HIGH he L0;generalize lb (ofN ks 32) 7=w7 at *;obtain ⟨v7,hv7⟩:=ex_ (w7 % 2147483648);rw [<-hv7] at hset;have t2:bits .andNot .u32 (w7:Int) 2147483648=(v7:Int):=by
    have:=u32_andNot_nat w7 2147483648 (by omega) (by omega);rw [hv7,<-Nat.and_two_pow_sub_one_eq_mod w7 31];exact this
   have c7:=hw.cell (i:=7) (by omega);have z7:=hw.frozen 7;rw [W7.out] at c7;replace hset:=Hj hset;replace hv7:=Hj hv7;have S1:=jf L1;have SR:=jf LR;have OR:=jo lr;have KB:Hid (Wr (wr.setCell ⟨w.heap.size+1+1,7,none⟩ (.int .u32 (v7:Int))) (w.heap.size+1+1) 218 l1/\Wr (wr.setCell ⟨w.heap.size+1+1,7,none⟩ (.int .u32 (v7:Int))) (w.heap.size+1) 233 zs/\Ext w (wr.setCell ⟨w.heap.size+1+1,7,none⟩ (.int .u32 (v7:Int)))):=by
    refine ⟨?_,(jp7 _ _ _ _ (show w.heap.size+1≠w.heap.size+1+1 by omega)).trans we1.out,EE.out.setCell (show w.heap.size<=w.heap.size+1+1 by omega) _⟩;have:=hw.set (k:=7) (x:=v7)
    rwa [hset.out] at this
   replace hw:=Hj hw;go_upto_region 8 with fail;refine jg (fun W=>Wr W (w.heap.size+1+1) 218 l1/\Wr W (w.heap.size+1) 233 zs/\Ext w W) KB.out ?_;clear KB c7 z7 hw we1 EE t2 hset;rintro u2 K2';have K2:=Hj K2';clear K2';have k0:=Hj K2.out.1;go_wp2_with (refine wl_ rfl 218 rfl (w.heap.size+1+1) rfl k0.out rfl rfl (by rw [S1];rfl) ?_;go_frame)
   refine (RED.out _ K2.out.2.2).mono ?_;rintro e v4 ⟨rfl,e1⟩;have re:=Hj (K2.out.2.1.kept e1 K2.out.2.1.lt);have rx:Hid (Ext w v4):=K2.out.2.2.trans e1;clear K2 k0 e1;go_wp2_with (refine ws_ rfl 233 rfl (w.heap.size+1) (jb lr).toArray rfl rfl re.out (by rw [SR];rfl) (by rw [SR,ZS]) OR ?_;go_frame)
   (try simp only [jqV,Exit.then]);refine jqW (jqX rfl _ _ (w.heap.size+1) 233 (jb lr).toArray (0,0) _ rfl (jqc _ _ _ _ _ _ re.out) rfl rfl (by rw [SR];rfl)) rfl ?_;exact ⟨rfl,jqb rx.out (by omega) _⟩
def iA (x:Nat):Nat->Nat
 | 0=>1
 | m+1=>if m=252\/m=250 then iA x m*iA x m % P25 else iA x m*iA x m % P25*x % P25
theorem jhB (x:Nat):∀ m,iA x m < P25
 | 0=>by rw [iA];decide+kernel
 | m+1=>by rw [iA];split <;> exact jp3 _ YO
def zL (x:Nat):Nat:=iA x 255
theorem ji5 (x:Nat):zL x < P25:=jhB x 255
def jhX:List Nat:= [1,0,0,0,0,0,0,0]
theorem jjj:jhX=lbs 8 1:=by decide
theorem jeL:Tryz.prog.built 218 [(0, .int .u32 1)]=some (jb jhX).toArray:=by kernel_rfl
theorem jgk {x:Nat}{w:World}(hx:x < P25){tg:jpC×Nat×Nat}(hG:Gp w tg):
 Calls jpx 142 #[eV x] w fun e w'=>e= .returned (eV (zL x))/\Ext w w':=by
 have SQ:Hid (∀ (W:World) m,Ext w W->Calls jpx 141 #[.agg (jb (lbs 8 (iA x m))).toArray, .agg (jb (lbs 8 (iA x m))).toArray] W fun e w'=>e= .returned (.agg (jb (lbs 8 (iA x m*iA x m % P25))).toArray)/\Ext W w'):=fun W m e=>qP (jhB x m) (jhB x m) (hG.ext e)
 have MX:Hid (∀ (W:World) m,Ext w W->Calls jpx 141 #[.agg (jb (lbs 8 (iA x m*iA x m % P25))).toArray, .agg (jb (lbs 8 x)).toArray] W fun e w'=>e= .returned (.agg (jb (lbs 8 (iA x m*iA x m % P25*x % P25))).toArray)/\Ext W w'):=fun W m e=>qP (jp3 _ YO) hx (hG.ext e)
 have IS:Hid (∀ m,(m=252\/m=250)->lbs 8 (iA x (m+1))=lbs 8 (iA x m*iA x m % P25)):=fun m h=>by rw [iA,if_pos h]
 have IN:Hid (∀ m, ¬ (m=252\/m=250)->lbs 8 (iA x (m+1))=lbs 8 (iA x m*iA x m % P25*x % P25)):=fun m h=>by rw [iA,if_neg h]
 have LL:Hid (∀ m,(lbs 8 (iA x m)).length=8):=fun m=>jnz _ _
 have LS:Hid (∀ m,(lbs 8 (iA x m*iA x m % P25)).length=8):=fun m=>jnz _ _
 have LN:Hid (∀ m,(lbs 8 (iA x m*iA x m % P25*x % P25)).length=8):=fun m=>jnz _ _
 obtain ⟨f,hf⟩:∃ f:Nat->List Nat,f=fun m=>lbs 8 (iA x m):=⟨_,rfl⟩
 obtain ⟨g,hg⟩:∃ g:Nat->List Nat,g=fun m=>lbs 8 (iA x m*iA x m % P25):=⟨_,rfl⟩
 obtain ⟨h,hh⟩:∃ h:Nat->List Nat,h=fun m=>lbs 8 (iA x m*iA x m % P25*x % P25):=⟨_,rfl⟩
 have f0:Hid (f 0=jhX):=by unfold Hid;rw [hf,jjj];rfl
 have f255:Hid (f 255=lbs 8 (zL x)):=by unfold Hid;rw [hf];rfl
 have SQ':Hid (∀ (W:World) m,Ext w W->Calls jpx 141 #[.agg (jb (f m)).toArray, .agg (jb (f m)).toArray] W fun e w'=>e= .returned (.agg (jb (g m)).toArray)/\Ext W w'):=by rw [hf,hg];exact SQ
 have MX':Hid (∀ (W:World) m,Ext w W->Calls jpx 141 #[.agg (jb (g m)).toArray, .agg (jb (lbs 8 x)).toArray] W fun e w'=>e= .returned (.agg (jb (h m)).toArray)/\Ext W w'):=by rw [hg,hh];exact MX
 have IS':Hid (∀ m,(m=252\/m=250)->f (m+1)=g m):=by rw [hf,hg];exact IS
 have IN':Hid (∀ m, ¬ (m=252\/m=250)->f (m+1)=h m):=by rw [hf,hh];exact IN
 have FL:Hid (∀ m,(f m).length=8):=by rw [hf];exact LL
 have GL:Hid (∀ m,(g m).length=8):=by rw [hg];exact LS
 have HL:Hid (∀ m,(h m).length=8):=by rw [hh];exact LN
 clear SQ MX IS IN LL LS LN hf hg hh hG hx;unfold eV;have XL:=jnz 8 x;have RL:=jnz 8 (zL x);generalize lbs 8 (zL x)=rr at *;generalize lbs 8 x=xs at *;have XS:=jf XL;have RS:=jf RL;have OR:=jo rr;have O1L:jhX.length=8:=rfl;have hb1:=Hj jeL;generalize jhX=ow at *;have OS:=jf O1L;have O1:=jo ow;have hb2:Hid (Tryz.prog.built 233 [(0, .agg (jb ow).toArray)]=some (jb ow).toArray):=Qq OS;have hal2:=vr;have ZL:zw8.length=8:=rfl;generalize zw8=zs at *;have ZS:=jf ZL;have B0:Hid (Wr (((w.alloc (jqY (jb xs).toArray 233)).alloc (jqY (jb zs).toArray 233)).alloc (jqY (jb zs).toArray 233)) w.heap.size 233 xs/\Wr (((w.alloc (jqY (jb xs).toArray 233)).alloc (jqY (jb zs).toArray 233)).alloc (jqY (jb zs).toArray 233)) (w.heap.size+1) 233 zs/\Wr (((w.alloc (jqY (jb xs).toArray 233)).alloc (jqY (jb zs).toArray 233)).alloc (jqY (jb zs).toArray 233)) (w.heap.size+1+1) 233 zs/\Ext w (((w.alloc (jqY (jb xs).toArray 233)).alloc (jqY (jb zs).toArray 233)).alloc (jqY (jb zs).toArray 233))):=⟨jF _ _ _ _,jH _ _ _ _,jB _ _ _ _,(((jnQ w).alloc _).alloc _).alloc _⟩;go_enter Tryz.func142,Tryz.ntmps142
 go_upto_region 2 with (first
  | (refine jm rfl _ _ rfl (jb ow).toArray (by simp only [jqE,jqA,jqF];first | exact hb1.out | exact hb2.out) ?_;go_frame)
  | (refine ws_ rfl 233 rfl (w.heap.size+1+1) (jb ow).toArray rfl rfl B0.out.2.2.1 (by rw [OS];rfl) (by rw [OS,ZS]) O1 ?_;go_frame))
 refine jg (fun W=>Wr W w.heap.size 233 xs/\Wr W (w.heap.size+1) 233 zs/\Wr W (w.heap.size+1+1) 233 ow/\Ext w W) ⟨(jqy _ _ _ _ (by omega)).trans B0.out.1,(jqy _ _ _ _ (by omega)).trans B0.out.2.1,jqc _ _ _ _ _ _ B0.out.2.2.1,jqb B0.out.2.2.2 (by omega) _⟩ ?_;clear B0;rintro W0 ⟨wa,we,wc4,e0⟩;replace wa:=Hj wa;replace we:=Hj we;replace wc4:=Hj wc4;replace e0:=Hj e0;go_wp2_with fail;go_loopw [4] (fun iv wr=>∃ m:Nat,m<=255/\iv= .int .i64 (254 - (m:Int))/\Below (w.heap.size+1+1) W0 wr/\Wr wr (w.heap.size+1+1) 233 (f m)) (fun iv _=>(intOf iv+1).toNat)
 case atStart=>exact ⟨0,jpp _,rfl,jpm _ _,by rw [f0.out];exact wc4.out⟩
 case round=>
  obtain ⟨m,hm,rfl,hB,hw⟩:=hrel;clear wc4;by_cases hlt:m < 255
  ·obtain ⟨b,hb⟩:∃ b:Int,b=254 - (m:Int):=⟨_,rfl⟩;rw [<-hb];have b0:(0:Int)<=b:=by omega
   have b1:b<=254:=by omega
   have bw:IntKind.i64.wrap (b - 1)=b - 1:=jq0 _ (by omega);have hbn:Hid (b - 1=254 - ((m+1:Nat):Int)):=by unfold Hid;omega
   have hme:Hid ((b - 1+1).toNat < (b+1).toNat):=by unfold Hid;omega
   have FM:=FL.out m;have GM:=GL.out m;have HM:=HL.out m;have SQm:=Hj (fun W e=>SQ'.out W m e);have MXm:=Hj (fun W e=>MX'.out W m e);have FS:=jf FM;have GS:=jf GM;have HS:=jf HM;have G1:=jo (g m);have H1:=jo (h m);have CASE:Hid (((b=2\/b=4)/\f (m+1)=g m)\/((¬ b=2/\ ¬ b=4)/\f (m+1)=h m)):=by
    unfold Hid;by_cases q:m=252\/m=250
    ·exact .inl ⟨by omega,IS'.out m q⟩
    ·exact .inr ⟨by omega,IN'.out m q⟩
   generalize f m=fm at *;generalize g m=gm at *;generalize h m=hm' at *;obtain ⟨fn,hfn⟩:=ex_ (f (m+1));rw [<-hfn] at CASE;replace hfn:=Hj hfn;replace hb:=Hj hb;have xw:Hid (Ext w wr):=jpn e0.out (hB.mono (by omega));replace hB:=Hj hB;replace hw:=Hj hw;go_wp2_with (refine wl_ rfl 233 rfl (w.heap.size+1+1) rfl hw.out rfl rfl (by rw [FS];rfl) ?_;go_frame)
   refine (SQm.out _ xw.out).mono ?_;rintro e w1 ⟨rfl,e1⟩;have r1:=Hj (hw.out.kept e1 hw.out.lt);have hB1:Hid (Below (w.heap.size+1+1) W0 w1):=jpn hB.out (e1.mono (jqU hw.out.lt));go_upto_region 6 with (refine ws_ rfl 233 rfl (w.heap.size+1+1) (jb gm).toArray rfl rfl r1.out (by rw [GS];rfl) (by rw [GS,FS]) G1 ?_;go_frame)
   refine jg (fun W=>Wr W (w.heap.size+1+1) 233 gm/\Below (w.heap.size+1+1) W0 W) ⟨jqc _ _ _ _ _ _ r1.out,jqb hB1.out (jpo _) _⟩ ?_;clear r1 hB1 e1 hw hB xw;rintro w2 ⟨hw,hB⟩;have xw:Hid (Ext w w2):=jpn e0.out (hB.mono (by omega));have ka:=Hj (wa.out.kept hB (by omega));replace hB:=Hj hB;replace hw:=Hj hw;rcases CASE.out with ⟨hbb,rfl⟩ | ⟨⟨n2,n4⟩,rfl⟩
   ·clear CASE;rcases hbb with rfl | rfl
    ·go_wp2_with fail;refine ⟨⟨m+1,by omega,by rw [<-hbn.out];rfl,hB.out,by rw [<-hfn.out];exact hw.out⟩,by simp [intOf]⟩
    ·go_wp2_with fail;refine ⟨⟨m+1,by omega,by rw [<-hbn.out];rfl,hB.out,by rw [<-hfn.out];exact hw.out⟩,by simp [intOf]⟩
   ·clear CASE;have n2b:(b !=2)=true:=by simpa using n2
    have n4b:(b !=4)=true:=by simpa using n4
    go_wp2_with (first
     | (refine wl_ rfl 233 rfl (w.heap.size+1+1) rfl hw.out rfl rfl (by rw [GS];rfl) ?_;go_frame)
     | (refine wl_ rfl 233 rfl w.heap.size rfl ka.out rfl rfl (by rw [XS];rfl) ?_;go_frame))
    refine (MXm.out _ xw.out).mono ?_;rintro e w3 ⟨rfl,e1⟩;have r1:=Hj (hw.out.kept e1 hw.out.lt);have hB1:Hid (Below (w.heap.size+1+1) W0 w3):=jpn hB.out (e1.mono (jqU hw.out.lt));go_wp2_with (refine ws_ rfl 233 rfl (w.heap.size+1+1) (jb fn).toArray rfl rfl r1.out (by rw [HS];rfl) (by rw [HS,GS]) H1 ?_;go_frame)
    refine ⟨⟨m+1,by omega,by rw [<-hbn.out],jqb hB1.out (jpo _) _,by rw [<-hfn.out];exact jqc _ _ _ _ _ _ r1.out⟩,by simp [intOf];omega⟩
  ·obtain rfl:m=255:=by omega
   rw [f255.out] at hw;have we1:=Hj (we.out.kept hB (by omega));have EE:Hid (Ext w wr):=jpn e0.out (hB.mono (by omega));replace hw:=Hj hw;clear hB e0 we wa;go_wp2_with (first
    | (refine wl_ rfl 233 rfl (w.heap.size+1+1) rfl hw.out rfl rfl (by rw [RS];rfl) ?_;go_frame)
    | (refine ws_ rfl 233 rfl (w.heap.size+1) (jb rr).toArray rfl rfl we1.out (by rw [RS];rfl) (by rw [RS,ZS]) OR ?_;go_frame))
   (try simp only [jqV,Exit.then]);refine jqW (jqX rfl _ _ (w.heap.size+1) 233 (jb rr).toArray (0,0) _ rfl (jqc _ _ _ _ _ _ we1.out) rfl rfl (by rw [RS];rfl)) rfl ?_;exact ⟨rfl,jqb EE.out (by omega) _⟩
def eA:Nat->Nat
 | 0=>0
 | m+1=>if m=252\/m=250 then eA m+eA m else eA m+eA m+1
theorem jev (x:Nat):∀ m,iA x m=x ^ eA m % P25
 | 0=>by rw [iA,eA,Nat.pow_zero];decide+kernel
 | m+1=>by
   rw [iA,eA,jev x m]
   split
   ·rw [jqK,<-jqL]
   ·rw [jqN,jqK,<-jqL,Nat.mod_mul_mod]
theorem jhm:eA 255=P25 - 2:=by decide+kernel
theorem jd9:P25=57896044618658097711785492504343953926634992332820282019728792003956564819949:=by decide+kernel
theorem jjA:Go.Pratt.Root P25 2:=by rw [jd9];exact Go.Pratt.rootP
theorem jgj:zL 0=0:=by
 rw [zL,jev,jhm];rw [Nat.zero_pow (by decide+kernel)];exact Nat.zero_mod _
theorem jhS {x:Nat}(h0:x≠0) (hx:x < P25):x*zL x % P25=1:=by
 rw [zL,jev,jhm,Nat.mul_mod_mod,jqI,<-jqN];have:=jjA.fermat (by omega) hx
 rwa [show (P25 - 2).succ=P25 - 1 by rw [jd9]]
end
section
open Go.ChangeShapes Go.WideShapes Go.ChangeAt Go.RowKit Go.Deep
open Go.Edw (Fq Q25 stepF swapF ladF resF)
def jnw (x y:Nat):Nat:=(x+y) % P25
def zO (x y:Nat):Nat:=(x+(P25 - y)) % P25
def qs (x y:Nat):Nat:=x*y % P25
theorem Z3 (x y:Nat):jnw x y < P25:=jp3 _ YO
theorem Z6 (x y:Nat):zO x y < P25:=jp3 _ YO
theorem vU (x y:Nat):qs x y < P25:=jp3 _ YO
abbrev StN:=Nat×Nat×Nat×Nat
def yM (x:Nat) (s:StN):StN:=
 let e:=jnw s.1 s.2.2.1;let f:=zO s.1 s.2.2.1;let g:=jnw s.2.1 s.2.2.2;let h:=zO s.2.1 s.2.2.2
 let u:=qs e e;let v:=qs f f;let w:=zO u v;let y:=qs h e;let z:=qs g f
 (qs u v,qs (jnw y z) (jnw y z),qs w (jnw u (qs 121665 w)),qs (qs x (zO y z)) (zO y z))
def YM (t:Bool) (s:StN):StN:=if t then (s.2.1,s.1,s.2.2.2,s.2.2.1) else s
def Zg (x:Nat) (bits:Nat->Bool):Nat->StN
 | 0=>(1,x,0,1)
 | m+1=>YM (bits m) (yM x (YM (bits m) (Zg x bits m)))
def yk (ks:List UInt8) (i:Nat):Bool:=if i < 3\/i=255 then false else if i=254 then true else decide (bt ks (i / 8) / 2 ^ (i % 8) % 2=1)
def jY (ks:List UInt8) (x:Nat):Nat:=qs (Zg x (fun m=>yk ks (254 - m)) 255).1 (zL (Zg x (fun m=>yk ks (254 - m)) 255).2.2.1)
theorem yL (ks:List UInt8) (x:Nat):jY ks x < P25:=vU _ _
def LtS (s:StN):Prop:=s.1 < P25/\s.2.1 < P25/\s.2.2.1 < P25/\s.2.2.2 < P25
theorem jaX {t:Bool}{s:StN}(h:LtS s):LtS (YM t s):=by
 cases t
 ·exact h
 ·exact ⟨h.2.1,h.1,h.2.2.2,h.2.2.1⟩
theorem jiC (x:Nat) (s:StN):LtS (yM x s):=⟨vU _ _,vU _ _,vU _ _,vU _ _⟩
theorem jcj {x:Nat}(hx:x < P25) (bits:Nat->Bool):∀ m,LtS (Zg x bits m)
 | 0=>⟨by show 1 < P25;decide+kernel,hx,YO,by show 1 < P25;decide+kernel⟩
 | _+1=>jaX (jiC _ _)
theorem jcA:Q25=P25:=jd9.symm
def toF (n:Nat):Fq:=⟨n % Q25,jp3 _ (by decide)⟩
theorem zo (n:Nat):(toF n).val=n % P25:=by show n % Q25=_;rw [jcA]
theorem jjH {x y:Nat}(hx:x < P25) (hy:y < P25) (h:toF x=toF y):x=y:=by
 have:=congrArg Fin.val h
 rwa [zo,zo,jqM hx,jqM hy] at this
theorem jjG (x y:Nat):toF (jnw x y)=toF x+toF y:=Fin.ext (by
 rw [Fin.val_add,zo,zo,zo,jnw,Nat.mod_mod,jcA,<-Nat.add_mod])
theorem jcJ (x y:Nat):toF (qs x y)=toF x*toF y:=Fin.ext (by
 rw [Fin.val_mul,zo,zo,zo,qs,Nat.mod_mod,jcA,<-jqL])
theorem jcK (x:Nat){y:Nat}(hy:y < P25):toF (zO x y)=toF x - toF y:=Fin.ext (by
 rw [Fin.sub_def]
 show (toF (zO x y)).val=(Q25 - (toF y).val+(toF x).val) % Q25
 rw [zo,zo,zo,zO,Nat.mod_mod,jcA,jqM hy,Nat.add_mod_mod,Nat.add_comm])
theorem jjI {c:Nat}(hc:c < P25):toF (zL c)=Go.Edw.fi (toF c):=by
 by_cases h:c=0
 ·subst h;rw [jgj];have:toF 0=0:=rfl;rw [this,Go.Edw.fi_zero]
 ·refine (Go.Edw.fi_uniq ?_).symm;rw [<-jcJ];have:qs c (zL c)=1:=jhS h hc;rw [this]
  decide+kernel
def toS (s:StN):Fq×Fq×Fq×Fq:=(toF s.1,toF s.2.1,toF s.2.2.1,toF s.2.2.2)
theorem jd5 (t:Bool) (s:StN):toS (YM t s)=swapF t (toS s):=by cases t <;> rfl
theorem jiF {x:Nat}{s:StN}(h:LtS s):toS (yM x s)=stepF 121665 (toF x) (toS s):=by
 obtain ⟨a,b,c,d⟩:=s;obtain ⟨h1,h2,h3,h4⟩:=h;have k:toF 121665=121665:=by decide+kernel
 simp only [toS,yM,stepF,jcJ,jjG,jcK _ h3,jcK _ h4,jcK _ (vU _ _),k]
theorem jcL {x:Nat}(hx:x < P25) (bits:Nat->Bool):∀ m,toS (Zg x bits m)=ladF 121665 (toF x) bits m
 | 0=>by
   show ((toF 1,toF x,toF 0,toF 1):Fq×Fq×Fq×Fq)=(1,toF x,0,1)
   rw [show toF 1=1 by decide+kernel,show toF 0=0 from rfl]
 | m+1=>by
   show toS (YM (bits m) (yM x (YM (bits m) (Zg x bits m))))=swapF (bits m) (stepF 121665 (toF x) (swapF (bits m) (ladF 121665 (toF x) bits m)))
   rw [jd5,jiF (jaX (jcj hx bits m)),jd5,jcL hx bits m]
theorem YN (ks:List UInt8){x:Nat}(hx:x < P25):toF (jY ks x)=resF 121665 (toF x) (fun m=>yk ks (254 - m)):=by
 have h:=jcL hx (fun m=>yk ks (254 - m)) 255;have hl:=jcj hx (fun m=>yk ks (254 - m)) 255;unfold jY resF;rw [<-h,jcJ,jjI hl.2.2.1]
 rfl
theorem jgr (ks ls:List UInt8){x:Nat}(hx:x < P25):jY ls (jY ks x)=jY ks (jY ls x):=by
 refine jjH (yL _ _) (yL _ _) ?_;rw [YN _ (yL _ _),YN _ hx,YN _ (yL _ _),YN _ hx];exact Go.Edw.res_comm _ rfl rfl rfl rfl
end
section
open Go.ChangeShapes Go.WideShapes Go.ChangeAt Go.RowKit Go.Deep
def j3 (xs:List UInt8):List UInt8:=jC [] xs++kL (jY (jC [] xs) 9)
theorem yU (xs:List UInt8):(j3 xs).length=64:=by unfold j3;rw [jpG,qr,zx]
def zu (s p:List UInt8):List UInt8:=kL (jY s (ofV p))
def jej (k:List UInt8):Int:=if k=jqn 32 0 then 12 else 0
theorem jfg {w:World}{z m:Int}:Calls jpx 145 #[.int .i64 z, .int .i64 m] w fun e w'=>e= .returned (.bool (upB z m))/\Ext w w':=by
 by_cases h1:0<=z
 ·have d1:decide (z≥0)=true:=decide_eq_true h1;by_cases h2:z<=m
  ·have d2:decide (z<=m)=true:=decide_eq_true h2;have hb:Hid (upB z m=true):=by unfold Hid upB;rw [decide_eq_true h1,d2];rfl
   go_enter Tryz.func145,Tryz.ntmps145
   go_wp2_with fail;go_ret;exact ⟨by rw [hb.out];rfl,jnQ _⟩
  ·have d2:decide (z<=m)=false:=decide_eq_false h2;have hb:Hid (upB z m=false):=by unfold Hid upB;rw [decide_eq_true h1,d2];rfl
   go_enter Tryz.func145,Tryz.ntmps145
   go_wp2_with fail;go_ret;exact ⟨by rw [hb.out];rfl,jnQ _⟩
 ·have d1:decide (z≥0)=false:=decide_eq_false h1;have hb:Hid (upB z m=false):=by unfold Hid upB;rw [decide_eq_false h1];rfl
  go_enter Tryz.func145,Tryz.ntmps145
  go_wp2_with fail;go_ret;exact ⟨by rw [hb.out];rfl,jnQ _⟩
def okH (p n:Int):Bool:=upB p 1000000&&upB n 1000000
theorem Jh {w:World}{pk:List UInt8}{p n:Int}(lp:pk.length=32):Calls jpx 115 #[.agg (hdC pk p n).toArray] w fun e w'=>e= .returned (.bool (okH p n))/\Ext w w':=by
 have UP:Hid (∀ (W:World) (z:Int),Calls jpx 145 #[.int .i64 z, .int .i64 1000000] W fun e w'=>e= .returned (.bool (upB z 1000000))/\Ext W w'):=fun W z=>jfg
 have c32:Hid ((hdC pk p n)[32]? =some (.int .i64 p)):=by unfold Hid hdC;rw [jqr (by rw [ja,lp];omega)];simp [ja,lp]
 have c33:Hid ((hdC pk p n)[33]? =some (.int .i64 n)):=by unfold Hid hdC;rw [jqr (by rw [ja,lp];omega)];simp [ja,lp]
 have hR:Hid (okH p n=(upB p 1000000&&upB n 1000000)):=rfl;generalize okH p n=ok at *;generalize hdC pk p n=hd at *;have B0:Hid (Cb (w.alloc (jqY hd.toArray 47)) w.heap.size 47 hd/\Ext w (w.alloc (jqY hd.toArray 47))):=⟨Cb.new _ _ _,(jnQ w).alloc _⟩;go_enter Tryz.func115,Tryz.ntmps115
 go_upto_region 1 with fail;refine jg (fun W=>Cb W w.heap.size 47 hd/\Ext w W) B0.out ?_;clear B0;rintro w0 ⟨k0,x0⟩;have b0:=k0.cell c32.out;replace k0:=Hj k0;replace x0:=Hj x0;go_wp2_with fail;refine (UP.out _ _).mono ?_;rintro e w1 ⟨rfl,e1⟩;have b1:=(k0.out.ext e1).cell c33.out;have x1:=Hj (x0.out.trans e1);clear b0 k0 x0 e1;by_cases hp:upB p 1000000=true
 ·rw [hp] at hR ⊢;go_wp2_with fail;refine (UP.out _ _).mono ?_;rintro e w2 ⟨rfl,e2⟩;have x2:=Hj (x1.out.trans e2);have hR2:Hid (upB n 1000000=ok):=by unfold Hid;rw [hR.out];rfl
  rw [hR2.out];clear b1 x1 e2 hR;go_wp2_with fail;go_ret;exact ⟨rfl,x2.out⟩
 ·rw [Bool.not_eq_true] at hp;have hR2:Hid (ok=false):=by unfold Hid;rw [hR.out,hp];rfl
  rw [hp];clear b1 hR;go_wp2_with fail;go_ret;exact ⟨by rw [hR2.out];rfl,x1.out⟩
def Qd (n:Nat):List UInt8:=(J3 n 4).reverse
theorem Ze (n:Nat):(Qd n).length=4:=by rw [Qd,List.length_reverse,vM]
def zq (pk:List UInt8) (p n:Nat):List UInt8:=(pk++Qd p)++Qd n
theorem Zd {pk:List UInt8}(h:pk.length=32) (p n:Nat):(zq pk p n).length=40:=by simp [zq,Ze,h]
theorem jc8 {pk:List UInt8}(lp:pk.length=32) (p n:Int):hdC pk p n= []++(cellsOf pk++ [.int .i64 p, .int .i64 n])/\(hdC pk p n)[32]? =some (.int .i64 p)/\(hdC pk p n)[33]? =some (.int .i64 n):=by
 refine ⟨by simp [hdC],?_,?_⟩
 ·unfold hdC;rw [jqr (by rw [ja,lp];omega)];simp [ja,lp]
 ·unfold hdC;rw [jqr (by rw [ja,lp];omega)];simp [ja,lp]
theorem Qc {w:World}{pk:List UInt8}{p n:Int}(lp:pk.length=32) (hb:okH p n=false):Calls jpx 78 #[.agg (hdC pk p n).toArray] w fun e w'=>e= .returned (.tuple #[.slice none 0 0, .int .i64 1])/\Ext w w':=by
 have VH:=Hj (fun (W:World)=>Jh (w:=W) (p:=p) (n:=n) lp);rw [hb] at VH;have L_hd:=yz lp p n;generalize hdC pk p n=hd at *;have S_hd:hd.toArray.size=34:=by rw [jqu,L_hd]
 have B0:Hid (Cb (w.alloc (jqY hd.toArray 47)) w.heap.size 47 hd/\Ext w (w.alloc (jqY hd.toArray 47))):=⟨Cb.new _ _ _,(jnQ w).alloc _⟩;go_enter Tryz.func78,Tryz.ntmps78
 go_upto_region 1 with fail;refine jg (fun W=>Cb W w.heap.size 47 hd/\Ext w W) B0.out ?_;clear B0;rintro w0 ⟨k0,x0⟩;replace k0:=Hj k0;replace x0:=Hj x0;go_wp2_with (refine wl_ rfl 47 rfl w.heap.size rfl k0.out rfl rfl (by rw [S_hd];rfl) ?_;go_frame)
 refine (VH.out _).mono ?_;rintro e w1 ⟨rfl,e1⟩;go_wp2_with fail;go_ret2;exact ⟨rfl,x0.out.trans e1⟩
theorem QF {w:World}{pk:List UInt8}{p n:Nat}(lp:pk.length=32) (hp:p<=1000000) (hn:n<=1000000):Calls jpx 78 #[.agg (hdC pk (p:Int) (n:Int)).toArray] w (YP (zq pk p n) 0 w):=by
 have hb:okH (p:Int) (n:Int)=true:=by
  unfold okH upB;rw [decide_eq_true (show (0:Int)<=(p:Int) by omega),decide_eq_true (show (p:Int)<=1000000 by omega),decide_eq_true (show (0:Int)<=(n:Int) by omega),decide_eq_true (show (n:Int)<=1000000 by omega)]
  rfl
 have VH:=Hj (fun (W:World)=>Jh (w:=W) (p:=(p:Int)) (n:=(n:Int)) lp);rw [hb] at VH;have HP:Hid (∀ W,Calls jpx 116 #[.int .u64 (p:Int), .int .i64 4] W (Qw (Qd p) W)):=fun W=>Yj (by omega) (by omega) (by omega) (by omega) rfl
 have HN:Hid (∀ W,Calls jpx 116 #[.int .u64 (n:Int), .int .i64 4] W (Qw (Qd n) W)):=fun W=>Yj (by omega) (by omega) (by omega) (by omega) rfl
 have u1:IntKind.u64.wrap (p:Int)=(p:Int):=IntWalk.u64_in _ (by omega);have u2:IntKind.u64.wrap (n:Int)=(n:Int):=IntWalk.u64_in _ (by omega);obtain ⟨c0,c32,c33⟩:=jc8 lp (p:Int) (n:Int);have L_hd:=yz lp (p:Int) (n:Int);have hR:Hid ((pk++Qd p)++Qd n=zq pk p n):=rfl;replace c0:=Hj (fun _:Unit=>c0);replace c32:=Hj c32;replace c33:=Hj c33;generalize zq pk p n=hl at *;generalize hdC pk (p:Int) (n:Int)=hd at *;have lP:=Ze p;have lN:=Ze n;generalize Qd p=hp4 at *;generalize Qd n=hn4 at *;clear hb hp hn;have S_hd:hd.toArray.size=34:=by rw [jqu,L_hd]
 obtain ⟨r,hr⟩:=ex_ w.heap.size;have B0:Hid (Cb (w.alloc (jqY hd.toArray 47)) r 47 hd/\Ext w (w.alloc (jqY hd.toArray 47))):=by rw [hr];exact ⟨Cb.new _ _ _,(jnQ w).alloc _⟩
 go_enter Tryz.func78,Tryz.ntmps78
 go_upto_region 1 with fail;refine jg (fun W=>Cb W r 47 hd/\Ext w W) B0.out ?_;rw [<-hr];have wr:w.heap.size<=r:=jre hr.symm;clear B0;replace hr:=Hj hr;rintro w0 ⟨k0,x0⟩;replace k0:=Hj k0;replace x0:=Hj x0;go_wp2_with (refine wl_ rfl 47 rfl r rfl k0.out rfl rfl (by rw [S_hd];rfl) ?_;go_frame)
 refine (VH.out _).mono ?_;rintro e w1 ⟨rfl,e1⟩;have k1:=Hj (k0.out.ext e1);have x1:=Hj (x0.out.trans e1);have r1:r+1<=w1.heap.size:=(k0.out.ext e1).lt;have b1:=Hj (k1.out.bs (c0.out ()) rfl lp (by omega));clear k0 x0 e1 VH;go_upto_region 4 with (at_builtin;(with_reducible refine jJ rfl (B:=r+1) (s:= .const (.slice none 0 0)) (x:= .tmp 9) rfl rfl rfl (Own.nil _ _) b1.out (by omega) r1 ?_);intro A2 c2 w2 o2 g2 b2;simp only [jpz,jq8] at o2 ⊢;replace o2:=Hj o2;clear g2;replace b2:=Hj b2;go_frame)
 refine jg (fun W=>Own (r+1) W A2 32 c2 pk/\Cb W r 47 hd/\Ext w W) ⟨o2.out,k1.out.kept b2.out (by omega),jpn x1.out (b2.out.mono (by omega))⟩ ?_;clear o2 b2 b1 k1 x1 r1;rintro w3 ⟨o3,k3,x3⟩;have b3:=k3.cell c32.out;replace o3:=Hj o3;replace k3:=Hj k3;replace x3:=Hj x3;go_wp2_with fail;refine (HP.out _).mono ?_;rintro e w4 ⟨A4,n4,c4,rfl,b4,e4⟩;obtain rfl:n4=4:=by rw [<-b4.len,lP]
 have o4:=Hj (o3.out.ext e4);have k4:=Hj (k3.out.ext e4);have x4:=Hj (x3.out.trans e4);have r4:r+1<=w4.heap.size:=(k3.out.ext e4).lt;replace b4:=Hj b4;clear b3 o3 k3 x3 e4 HP;go_upto_region 5 with (at_builtin;(with_reducible refine jJ rfl (B:=r+1) (s:= .tmp 11) (x:= .tmp 15) rfl rfl rfl o4.out b4.out (by omega) r4 ?_);intro A5 c5 w5 o5 g5 b5;replace o5:=Hj o5;clear g5;replace b5:=Hj b5;go_frame)
 refine jg (fun W=>Own (r+1) W A5 (32+4) c5 (pk++hp4)/\Cb W r 47 hd/\Ext w W) ⟨o5.out,k4.out.kept b5.out (by omega),jpn x4.out (b5.out.mono (by omega))⟩ ?_;clear o5 b5 o4 b4 k4 x4 r4;rintro w6 ⟨o6,k6,x6⟩;have b6:=k6.cell c33.out;replace o6:=Hj o6;replace k6:=Hj k6;replace x6:=Hj x6;go_wp2_with fail;refine (HN.out _).mono ?_;rintro e w7 ⟨A7,n7,c7,rfl,b7,e7⟩;obtain rfl:n7=4:=by rw [<-b7.len,lN]
 have o7:=Hj (o6.out.ext e7);have x7:=Hj (x6.out.trans e7);have r7:r+1<=w7.heap.size:=(k6.out.ext e7).lt;replace b7:=Hj b7;clear b6 o6 k6 x6 e7 HN;go_wp2_with (at_builtin;(with_reducible refine jJ rfl (B:=r+1) (s:= .tmp 17) (x:= .tmp 21) rfl rfl rfl o7.out b7.out (by omega) r7 ?_);intro A8 c8 w8 o8 g8 b8;replace o8:=Hj o8;clear g8;replace b8:=Hj b8;go_frame)
 go_ret2;exact ⟨A8,_,c8,rfl,by rw [<-hR.out];exact o8.out.bs,jpn x7.out (b8.out.mono (by omega))⟩
def qd:List UInt8:= [109,101,115,115,97,103,101]
def vI:List UInt8:= [99,104,97,105,110]
def Qk (k0 k1:List UInt8) (w:World) (e:Ending) (w':World):Prop:=e= .returned (.tuple #[.agg (cellsOf k0).toArray, .agg (cellsOf k1).toArray])/\Ext w w'
set_option maxRecDepth 100000 in
theorem jaU {ks:List UInt8}{w:World}(hk:ks.length=32){tg:jpC×Nat×Nat}(hG:Gl w tg):
 Calls jpx 80 #[.agg (cellsOf ks).toArray] w (Qk (jM ks qd) (jM ks vI) w):=by
 have KEYS:Hid (∀ (W:World) t,Ext w W->Calls jpx 113 #[.agg (cellsOf ks).toArray, .slice (some ⟨W.heap.size,0,none⟩) 2 2] (W.alloc (.cells #[.string (vR qd), .string (vR vI)] t)) (jfp [jM ks qd,jM ks vI] (W.alloc (.cells #[.string (vR qd), .string (vR vI)] t)))):=fun W t e=>
  Qt (ks:=ks) (l:= [qd,vI]) hk (jcH rfl) (by omega) (fun j=>by
   match j with
   | 0=>show qd.length<=_;decide
   | 1=>show vI.length<=_;decide
   | j+2=>simp [jpr]) (hG.kept (e.alloc _) hG.lt)
 have hA:Hid ((⟨#[109,101,115,115,97,103,101]⟩:ByteArray)=vR qd):=rfl;have hB:Hid ((⟨#[99,104,97,105,110]⟩:ByteArray)=vR vI):=rfl;generalize vR qd=sA at *;generalize vR vI=sB at *;clear hG;have K0:=jR ks qd;have K1:=jR ks vI;generalize jM ks qd=k0 at *;generalize jM ks vI=k1 at *;have KS:(cellsOf ks).toArray.size=32:=by simp [ja,hk]
 have C0:(cellsOf k0).length=32:=by rw [ja,K0]
 have C1:(cellsOf k1).length=32:=by rw [ja,K1]
 have S0:(cellsOf k0).toArray.size=32:=C0;have S1:(cellsOf k1).toArray.size=32:=C1;have O0:=ji k0;have O1:=ji k1;have hal:=j2;have hz0:=j7;generalize jr=Z at *;have B0:Hid ((Ky (((w.alloc (jqY (cellsOf ks).toArray 23)).alloc (jqY Z 23)).alloc (jqY Z 23)) w.heap.size ks)/\(((w.alloc (jqY (cellsOf ks).toArray 23)).alloc (jqY Z 23)).alloc (jqY Z 23)).heap[w.heap.size+1]? =some (.cells Z 23 (0,0))/\(((w.alloc (jqY (cellsOf ks).toArray 23)).alloc (jqY Z 23)).alloc (jqY Z 23)).heap[w.heap.size+1+1]? =some (.cells Z 23 (0,0))/\Ext w (((w.alloc (jqY (cellsOf ks).toArray 23)).alloc (jqY Z 23)).alloc (jqY Z 23))):=
  ⟨⟨jF _ _ _ _,hk⟩,jH _ _ _ _,jB _ _ _ _,(((jnQ w).alloc _).alloc _).alloc _⟩
 go_enter Tryz.func80,Tryz.ntmps80
 go_upto_region 1 with fail;refine jg (fun W=>Ky W w.heap.size ks/\W.heap[w.heap.size+1]? =some (.cells Z 23 (0,0))/\W.heap[w.heap.size+1+1]? =some (.cells Z 23 (0,0))/\Ext w W) B0.out ?_;clear B0;rintro w0 b0;replace b0:=Hj b0;go_wp2_with (refine wl_ rfl 23 rfl w.heap.size rfl b0.out.1.1 rfl rfl (by rw [KS];rfl) ?_;go_frame)
 rw [hA.out,hB.out];refine (KEYS.out _ _ b0.out.2.2.2).mono ?_;rintro e w1 ⟨g,rfl,hg,kr,e1⟩;have zg:w.heap.size+1+1 < g:=by
  have:=jh b0.out.2.2.1;rw [je] at hg;omega
 have e2:Ext w0 w1:=((jnQ _).alloc _).trans e1;have b1:Hid (Ky w1 w.heap.size ks/\w1.heap[w.heap.size+1]? =some (.cells Z 23 (0,0))/\w1.heap[w.heap.size+1+1]? =some (.cells Z 23 (0,0))/\Ext w w1):=⟨b0.out.1.ext e2,(e2.block _ (jh b0.out.2.1)).trans b0.out.2.1,(e2.block _ (jh b0.out.2.2.1)).trans b0.out.2.2.1,b0.out.2.2.2.trans e2⟩;clear b0 KEYS e1 e2 hg;have R0:Hid (∀ w',Two (w.heap.size+1) (w.heap.size+1+1) w1 w'->∀ i v,(cellsOf k0)[i]? =some v->w'.cell? ⟨g,0+i,none⟩=some v):=fun w' e=>Kr.row (l:= [k0,k1]) (j:=0) ⟨e.block kr.1 (by omega) (by omega),kr.2⟩ (by simp)
 have R1:Hid (∀ w',Two (w.heap.size+1) (w.heap.size+1+1) w1 w'->∀ i v,(cellsOf k1)[i]? =some v->w'.cell? ⟨g,32+i,none⟩=some v):=fun w' e=>Kr.row (l:= [k0,k1]) (j:=1) ⟨e.block kr.1 (by omega) (by omega),kr.2⟩ (by simp)
 clear kr;go_wp2_with fail;refine qgR (R:=Two (w.heap.size+1) (w.heap.size+1+1)) (Two.refl _ _) (fun _ _ _=>Two.trans) [0,1,2,3,4,5,6,7] [6,7] ?_;repeat ((first | refine qR0 ?_ | refine qS ?_);go_frame)
 refine qV rfl (fun w'=>∀ q_ v,(cellsOf k0)[q_]? =some v->w'.cell? ⟨g,0+q_,none⟩=some v) (fun w' e=>R0.out w' ((Two.of_ext (jnQ _).drew).trans e)) (.agg (cellsOf k0).toArray) (fun w' hF=>jy rfl rfl hF rfl rfl (by rw [C0];rfl)) ?_;go_frame
 repeat ((first | refine qR0 ?_ | refine qS ?_);go_frame)
 refine qV rfl (fun w'=>∀ q_ v,(cellsOf k1)[q_]? =some v->w'.cell? ⟨g,32+q_,none⟩=some v) (fun w' e=>R1.out w' ((Two.of_ext (jnQ _).drew).trans e)) (.agg (cellsOf k1).toArray) (fun w' hF=>jy rfl rfl hF rfl rfl (by rw [C1];rfl)) ?_;go_frame
 have b2:Hid (w1.drew.heap[w.heap.size+1]? =some (.cells Z 23 (0,0))/\w1.drew.heap[w.heap.size+1+1]? =some (.cells Z 23 (0,0))/\Ext w w1.drew):=⟨b1.out.2.1,b1.out.2.2.1,b1.out.2.2.2.drew⟩;generalize w1.drew=W at *;refine qD fun K hK=> ?_
 refine jrf _ _ _ rfl (w.heap.size+1) (cellsOf k0).toArray rfl rfl 23 Z b2.out.1 (by rw [S0];rfl) (by rw [S0];exact hz0) O0 ?_;refine hK.out _ _ (Two.row _ _) ?_;clear hK K;try go_frame
 refine qD fun K hK=> ?_
 refine jrf _ _ _ rfl (w.heap.size+1+1) (cellsOf k1).toArray rfl rfl 23 Z ((jqy _ _ _ _ (by omega)).trans b2.out.2.1) (by rw [S1];rfl) (by rw [S1];exact hz0) O1 ?_;refine hK.out _ _ (Two.row' _ _) ?_;clear hK K;try go_frame
 refine jp ?_;have f0:Hid (((W.setRow (w.heap.size+1) (cellsOf k0).toArray).setRow (w.heap.size+1+1) (cellsOf k1).toArray).heap[w.heap.size+1]? =some (.cells (cellsOf k0).toArray 23 (0,0))):=(jqy _ _ _ _ (by omega)).trans (jqc _ _ _ _ _ _ b2.out.1);have f1:Hid (((W.setRow (w.heap.size+1) (cellsOf k0).toArray).setRow (w.heap.size+1+1) (cellsOf k1).toArray).heap[w.heap.size+1+1]? =some (.cells (cellsOf k1).toArray 23 (0,0))):=jqc _ _ _ _ _ _ ((jqy _ _ _ _ (by omega)).trans b2.out.2.1);have f2:Hid (Ext w ((W.setRow (w.heap.size+1) (cellsOf k0).toArray).setRow (w.heap.size+1+1) (cellsOf k1).toArray)):=jqb (jqb b2.out.2.2 (by omega) _) (by omega) _;go_wp2_with fail;(try simp only [jqV,Exit.then]);refine jqW (v:= .tuple #[.agg (cellsOf k0).toArray, .agg (cellsOf k1).toArray]) ?_ rfl ?_
 ·exact jaJ rfl _ _ (w.heap.size+1) (w.heap.size+1+1) 23 23 (cellsOf k0).toArray (cellsOf k1).toArray (0,0) (0,0) _ rfl rfl f0.out f1.out rfl rfl (by rw [S0];rfl) (by rw [S1];rfl)
 ·exact ⟨rfl,f2.out⟩
def Kl (w:World) (A:Option Addr) (n:Nat) (l:List (List UInt8)):Prop:=
 l.length=n/\(∀ x∈l,x.length=32)/\(0 < n->∃ b,A=some ⟨b,0,none⟩/\b < w.heap.size/\∀ j,j < n->∀ i v,(cellsOf (l.getD j []))[i]? =some v->w.cell? ⟨b,32*j+i,none⟩=some v)
theorem Kl.ext {w w':World}{A:Option Addr}{n:Nat}{l:List (List UInt8)}(h:Kl w A n l) (e:Ext w w'):Kl w' A n l:=
 ⟨h.1,h.2.1,fun h0=>by
   obtain ⟨b,q,hb,hc⟩:=h.2.2 h0;exact ⟨b,q,jpq hb e.size,fun j hj i v hv=>(e.cell hb).trans (hc j hj i v hv)⟩⟩
def OwnK (B:Nat) (w:World) (A:Option Addr) (n c:Nat) (l:List (List UInt8)):Prop:=w.ownsRow B 23 32 (.slice A n c) n (cellsOf l.flatten)/\(∀ x∈l,x.length=32)/\l.length=n
theorem OwnK.nil (B:Nat) (w:World):OwnK B w none 0 0 []:=⟨World.ownsRow_nil w B _ 32,fun x hx=>by simp at hx,rfl⟩
theorem OwnK.kept {B:Nat}{w w':World}{A:Option Addr}{n c:Nat}{l:List (List UInt8)}{row:Option Nat}(h:OwnK B w A n c l) (hg:w.grownBy w' row) (hne:jrb (.slice A n c)=none\/jrb (.slice A n c)≠row):OwnK B w' A n c l:=⟨World.ownsRow.kept h.1 hg hne,h.2⟩
theorem OwnK.ge {B:Nat}{w:World}{A:Option Addr}{n c:Nat}{l:List (List UInt8)}(h:OwnK B w A n c l):∀ g,jrb (.slice A n c)=some g->B<=g:=fun g hg=>(jrc h.1 g hg).1
theorem OwnK.ext {B:Nat}{w w':World}{A:Option Addr}{n c:Nat}{l:List (List UInt8)}(h:OwnK B w A n c l) (e:Ext w w'):OwnK B w' A n c l:=by
 refine ⟨⟨h.1.1,?_⟩,h.2⟩;rcases h.1.2 with h | ⟨g,cap,cur,hv,hb,hg,r⟩
 ·exact .inl h
 ·exact .inr ⟨g,cap,cur,hv,hb,(e.block g (jh hg)).trans hg,r⟩
theorem OwnK.cap {B:Nat}{w:World}{A:Option Addr}{n c:Nat}{l:List (List UInt8)}(h:OwnK B w A n c l):n<=c/\c<=9223372036854775807:=by
 rcases h.1.2 with ⟨hv,hn⟩ | ⟨g,cap,cur,hv,hb,hg,hnc,hcm,_⟩
 ·injection hv with _ _ q
  omega
 ·injection hv with _ _ q
  subst q;exact ⟨hnc,hcm⟩
theorem OwnK.kl {B:Nat}{w:World}{A:Option Addr}{n c:Nat}{l:List (List UInt8)}(h:OwnK B w A n c l):Kl w A n l:=by
 refine ⟨h.2.2,h.2.1,fun h0=> ?_⟩;rcases h.1.2 with ⟨hv,hn⟩ | ⟨g,cap,cur,hv,hb,hg,hnc,hcm,hcs,htk⟩
 ·omega
 ·injection hv with h1 h2 h3
  subst h1;refine ⟨g,rfl,jh hg,fun j hj i v hv=> ?_⟩;have hlen:(l.getD j []).length=32:=h.2.1 _ (by have:=h.2.2;simp [jpr,show j < l.length by omega]);have hi:i < 32:=by
   have:=(jqx.1 hv).1;rw [ja] at this;omega
  rw [jZ (by omega)] at hv;have hf:=jai h.2.1;have hc:=jZ (xs:=l.flatten) (j:=32*j+i) (by have:=h.2.2;omega);rw [jfD h.2.1 (by have:=h.2.2;omega) hi,hv,<-htk,jqf,if_pos (by omega),jpU] at hc;rw [jqe w g _ _ _ _ hg];exact hc
theorem OwnK.fresh {B:Nat}{w:World}{A:Option Addr}{n c:Nat}{l:List (List UInt8)}(h:OwnK B w A n c l){b:Nat}(hA:A=some ⟨b,0,none⟩):B<=b:=by
 rcases h.1.2 with ⟨hv,hn⟩ | ⟨g,cap,cur,hv,hb,_⟩
 ·injection hv with h1 h2 h3
  rw [hA] at h1
  cases h1
 ·injection hv with h1 h2 h3
  rw [hA] at h1
  injection h1 with h1
  injection h1 with h1
  omega
theorem jnF {w:World}{ops:Array Oper}{rest:List Oper}{o:Oper}{a:Act}{Q:Exit->Act->World->Prop}(hgd:o.guard=none){B:Nat}{A:Option Addr}{n c g:Nat}{l:List (List UInt8)}{k:List UInt8}{fr:Nat×Nat}{s x:Operand}
 (ho:o.op= .call {callee:= .builtin .append,args:= #[s,x],argTypes:= #[209,209]}) (hs:a.eval s= .slice A n c) (hx:a.eval x= .slice (some ⟨g,0,none⟩) 1 1)
 (h:OwnK B w A n c l) (hg:w.heap[g]? =some (.cells (cellsOf k).toArray 23 fr)) (hk:k.length=32) (hm:n<=1000) (hB:B<=w.heap.size)
 (hK:∀ A'' c'' w',OwnK B w' A'' (n+1) c'' (l++ [k])->w.grownBy w' (jrb (.slice A n c))->Below B w w'->wpList jpx ops Q rest (a.put o.dst (.slice A'' (n+1) c'')) w'):wpList jpx ops Q (o::rest) a w:=by
 refine wpList_plain hgd fun K hK'=> ?_
 obtain ⟨i,hi,hz0,hz1,hz2⟩:=info_parts jfG;obtain ⟨v',w',hr,hown,hgr,_,_⟩:=run_append_own_at (P:=jpx) w B 209 o.type 23 i (.agg jr) 32 32 Tryz.underlying209 hi hz0 hz1 hz2 (show (jqp jr).cells.size=32 from j7) (by decide) (.slice A n c) n (cellsOf l.flatten) h.1 ⟨g,0,none⟩ 1 1 (cellsOf k) (by rw [ja,hk]) (fun j u hu=>by
  have hadd:(⟨g,0,none⟩:Addr).add j=⟨g,j,none⟩:=by unfold Addr.add;split <;> simp_all
  rw [hadd,jqe w g j _ _ _ hg]
  simpa using hu) (fun u hu=>by
  obtain ⟨_,_,rfl⟩:=jpN.1 hu
  rfl) (by unfold maxLen;omega) (by omega) hB
 have e:cellsOf l.flatten++cellsOf k=cellsOf (l++ [k]).flatten:=by
  rw [qp,qp,qp,List.flatten_append];simp
 rw [e] at hown;have hl1:∀ x∈l++ [k],x.length=32:=fun x hx=>by
  rcases jpH.1 hx with q | q
  ·exact h.2.1 x q
  ·simp at q;subst q;exact hk
 have hl2:(l++ [k]).length=n+1:=by rw [jpG,h.2.2];rfl
 have hform:∃ A'' c'',v'= .slice A'' (n+1) c'':=by
  rcases hown.2 with ⟨hv,hn⟩ | ⟨g',cap,cur,hv,_⟩
  ·omega
  ·exact ⟨_,_,hv⟩
 obtain ⟨A'',c'',rfl⟩:=hform;unfold Oper.wp jpY;simp only [ho,resolve,invoke,builtin,jqi,jqj,jqk,jqE,jqA,jqF,hs,hx,hr];exact hK' _ _ (hK A'' c'' w' ⟨hown,hl1,hl2⟩ hgr ((jpm B w).grown hgr hB h.ge))
theorem ja8 {w:World}{ops:Array Oper}{rest:List Oper}{o:Oper}{a:Act}{Q:Exit->Act->World->Prop}(hgd:o.guard=none){k:List UInt8}{x:Operand}{g:Nat}(hk:k.length=32) (hg:w.heap.size=g)
 (ho:o.op= .buildSlice 209 1 #[(0,x)]) (hx:a.eval x= .agg (cellsOf k).toArray)
 (h:wpList jpx ops Q rest (a.put o.dst (.slice (some ⟨g,0,none⟩) 1 1)) (w.alloc (.cells (cellsOf k).toArray 23))):wpList jpx ops Q (o::rest) a w:=by
 subst hg;obtain ⟨i,hi,hz0,hz1,hz2⟩:=info_parts jfG;refine wpList_buildSlice hgd 209 23 1 _ ho (cellsOf k).toArray i _ Tryz.underlying209 hi hz0 (by rw [hz1];omega) (by rw [hz1];omega) ?_ h;rw [hz1];simp only [jqE,jqA,jqF,hx];have:=Great.fill_whole (s:=32) (by omega) [jqp (cellsOf k).toArray] ((Array.range (1*32)).map ((jqp jr).cells[·% (jqp jr).cells.size]!)) (fun v hv=>by
  simp only [jpF] at hv;subst hv
  show (cellsOf k).toArray.size=32
  simp [ja,hk]) (by simp)
 simp only [List.zipIdx_cons,List.zipIdx_nil,jqA,jqF,List.flatMap_cons,List.flatMap_nil,List.append_nil] at this;exact this
def Yg (ks:List UInt8):Nat->List UInt8
 | 0=>ks
 | i+1=>jM (Yg ks i) vI
def Y2 (ks:List UInt8) (m:Nat):List (List UInt8):=(jp1 m).map fun i=>jM (Yg ks i) qd
theorem Jn {ks:List UInt8}(h:ks.length=32):∀ i,(Yg ks i).length=32
 | 0=>h
 | i+1=>jR _ _
theorem jgq (ks:List UInt8) (m:Nat):Y2 ks (m+1)=Y2 ks m++ [jM (Yg ks m) qd]:=by simp [Y2,List.range_succ]
def YQ (l:List (List UInt8)) (last:List UInt8) (er:Int) (w:World) (e:Ending) (w':World):Prop:=
 ∃ A c,e= .returned (.tuple #[.slice A l.length c, .agg (cellsOf last).toArray, .int .i64 er])/\Kl w' A l.length l/\l.length<=c/\c<=9223372036854775807/\Ext w w'/\∀ b,A=some ⟨b,0,none⟩->w.heap.size<=b
set_option maxRecDepth 100000 in
theorem jiJ {ks:List UInt8}{m:Int}{w:World}(h:m < 0\/8 < m):
 Calls jpx 120 #[.agg (cellsOf ks).toArray, .int .i64 m] w (YQ [] (jqn 32 0) 6 w):=by
 have hal:=j2;have hb:=zJ;have hs:=j7;have ho:=JI;have hc:=Hj jU;have hz:Hid (((w.alloc (jqY (cellsOf ks).toArray 23)).alloc (jqY jr 23)).heap[w.heap.size+1]? =some (jqY jr 23)):=jK _ _ _;have he:Hid (∀ C,Ext w (((w.alloc (jqY (cellsOf ks).toArray 23)).alloc (jqY jr 23)).setRow (w.heap.size+1) C)):=fun C=>jqb (((jnQ w).alloc _).alloc _) (Nat.le_succ _) _
 unfold YQ;rw [hc.out];clear hc;generalize jr=Z at *;by_cases q1:m < 0
 ·have q1':decide (m < 0)=true:=decide_eq_true q1;clear h;go_enter Tryz.func120,Tryz.ntmps120
  go_wp2_with fail;go_step3
  go_wp2_with (first
   | refine jm rfl _ _ rfl Z hb ?_
   | refine ws_ rfl 23 rfl (w.heap.size+1) Z rfl rfl (by with_reducible exact hz.out) (by rw [hs];rfl) rfl ho ?_)
  (try simp only [jqV,Exit.then]);rw [Exit.noGoto_ret];refine jqW (v:= .tuple #[.slice none 0 0, .agg Z, .int .i64 6]) ?_ rfl ?_
  ·exact Yx rfl _ _ (w.heap.size+1) 23 Z (0,0) _ _ _ rfl rfl rfl (jqc _ _ _ _ _ _ hz.out) rfl rfl (by rw [hs];rfl)
  ·exact ⟨none,0,rfl,⟨rfl,fun x hx=>by simp at hx,fun h=>absurd h (by simp)⟩,by simp,by omega,he.out _,fun b h=>by cases h⟩
 ·have q1':decide (m < 0)=false:=decide_eq_false q1;have q2':decide (8 < m)=true:=decide_eq_true (by omega);clear h;go_enter Tryz.func120,Tryz.ntmps120
  go_wp2_with fail;go_step3
  go_wp2_with (first
   | refine jm rfl _ _ rfl Z hb ?_
   | refine ws_ rfl 23 rfl (w.heap.size+1) Z rfl rfl (by with_reducible exact hz.out) (by rw [hs];rfl) rfl ho ?_)
  (try simp only [jqV,Exit.then]);rw [Exit.noGoto_ret];refine jqW (v:= .tuple #[.slice none 0 0, .agg Z, .int .i64 6]) ?_ rfl ?_
  ·exact Yx rfl _ _ (w.heap.size+1) 23 Z (0,0) _ _ _ rfl rfl rfl (jqc _ _ _ _ _ _ hz.out) rfl rfl (by rw [hs];rfl)
  ·exact ⟨none,0,rfl,⟨rfl,fun x hx=>by simp at hx,fun h=>absurd h (by simp)⟩,by simp,by omega,he.out _,fun b h=>by cases h⟩
set_option maxRecDepth 100000 in
theorem jfi {ks:List UInt8}{m:Nat}{w:World}(hk:ks.length=32) (hm:m<=8){tg:jpC×Nat×Nat}(hG:Gl w tg):
 Calls jpx 120 #[.agg (cellsOf ks).toArray, .int .i64 (m:Int)] w (YQ (Y2 ks m) (Yg ks m) 0 w):=by
 have q1':decide ((m:Int) < 0)=false:=decide_eq_false (by omega);have q2':decide ((8:Int) < (m:Int))=false:=decide_eq_false (by omega);have HG:=Hj (fun W (e:Ext w W)=>Gl.kept hG (w':=W) e hG.lt);clear hG;have hal:=j2;have hz0:=j7;have LM:(Y2 ks m).length=m:=by simp [Y2]
 generalize jr=Z at *;have B0:Hid (Ky ((w.alloc (jqY (cellsOf ks).toArray 23)).alloc (jqY Z 23)) w.heap.size ks/\((w.alloc (jqY (cellsOf ks).toArray 23)).alloc (jqY Z 23)).heap[w.heap.size+1]? =some (.cells Z 23 (0,0))/\Ext w ((w.alloc (jqY (cellsOf ks).toArray 23)).alloc (jqY Z 23))):=
  ⟨⟨jQ _ _ _,hk⟩,jK _ _ _,((jnQ w).alloc _).alloc _⟩
 go_enter Tryz.func120,Tryz.ntmps120
 go_wp2_with fail;go_step3
 go_wp2_with fail;go_step3
 go_wp2_with fail;go_loopw [7,18] (fun mv v wr=>∃ (k:Nat) (D:Option Addr) (cc:Nat),k<=m/\v= .int .i64 (k:Int)/\mv= .slice D k cc/\OwnK (w.heap.size+1+1) wr D k cc (Y2 ks k)/\Ky wr w.heap.size (Yg ks k)/\wr.heap[w.heap.size+1]? =some (.cells Z 23 (0,0))/\Ext w wr) (fun _ v _=>8 - (intOf v).toNat)
 case atStart=>exact ⟨0,none,0,jpp _,rfl,rfl,OwnK.nil _ _,B0.out.1,B0.out.2.1,B0.out.2.2⟩
 case round=>
  obtain ⟨k,D,cc,hkm,rfl,rfl,own,ky,rr,he⟩:=hrel;clear B0;have CS:(cellsOf (Yg ks k)).toArray.size=32:=by simp [ja,Jn hk]
  by_cases hlt:k < m
  ·have e0:((k:Int)==(m:Int))=false:=by simp;omega
   have e1:(k==m)=false:=by simp;omega
   have k8:(k:Int) < 8:=by omega
   have zr:=jh rr;have STEP:=Hj (jaU (Jn hk k) (HG.out _ he));have M0:=jR (Yg ks k) qd;have M1:=jR (Yg ks k) vI;have MS:Hid (Y2 ks (k+1)=Y2 ks k++ [jM (Yg ks k) qd]):=jgq ks k;have CH:Hid (Yg ks (k+1)=jM (Yg ks k) vI):=rfl;generalize jM (Yg ks k) qd=k0 at *;generalize jM (Yg ks k) vI=k1 at *;generalize Yg ks k=ck at *;have S0:(cellsOf k0).toArray.size=32:=by simp [ja,M0]
   have S1:(cellsOf k1).toArray.size=32:=by simp [ja,M1]
   have O0:=ji k0;have O1:=ji k1;replace own:=Hj own;replace ky:=Hj ky;replace rr:=Hj rr;replace he:=Hj he;replace LM:=Hj LM;go_wp2_with (refine wl_ rfl 23 rfl w.heap.size rfl ky.out.1 rfl rfl (by rw [CS];rfl) ?_;go_frame)
   refine STEP.out.mono ?_;rintro e w1 ⟨rfl,x1⟩;have a1:Hid (((w1.alloc (jqY Z 23)).alloc (jqY Z 23)).heap[w1.heap.size]? =some (.cells Z 23 (0,0))):=jQ _ _ _;have a2:Hid ((((w1.alloc (jqY Z 23)).alloc (jqY Z 23)).setRow w1.heap.size (cellsOf k0).toArray).heap[w1.heap.size+1]? =some (.cells Z 23 (0,0))):=(jqy _ _ _ _ (by omega)).trans (jK _ _ _);clear STEP;go_upto_region 9 with (first
    | (refine ws_ rfl 23 rfl w1.heap.size (cellsOf k0).toArray rfl rfl a1.out (by rw [S0];rfl) (by rw [S0];exact hz0) O0 ?_;go_frame)
    | (refine ws_ rfl 23 rfl (w1.heap.size+1) (cellsOf k1).toArray rfl rfl a2.out (by rw [S1];rfl) (by rw [S1];exact hz0) O1 ?_;go_frame))
   obtain ⟨g,hg⟩:=ex_ w1.heap.size;have zg:wr.heap.size<=g:=by rw [hg];exact x1.size
   refine jg (fun W=>Ext wr W/\Ky W g k0/\Ky W (g+1) k1) ⟨x1.trans (jqb (jqb (((jnQ w1).alloc _).alloc _) (jpo _) _) (Nat.le_succ _) _),⟨by rw [hg];exact (jqy _ _ _ _ (by omega)).trans (jqc _ _ _ _ _ _ a1.out),M0⟩,⟨by rw [hg];exact jqc _ _ _ _ _ _ a2.out,M1⟩⟩ ?_;rw [<-hg];clear hg a1 a2 x1;rintro w2 ⟨x2,y0,y1⟩;have b2:Hid (OwnK (w.heap.size+1+1) w2 D k cc (Y2 ks k)):=own.out.ext x2;have OB:Hid (∀ q,jrb (.slice D k cc)=some q->q < wr.heap.size):=fun q hq=>(jrc own.out.1 q hq).2
   have KB:Hid (Ky w2 w.heap.size ck):=ky.out.ext x2;have RB:Hid (w2.heap[w.heap.size+1]? =some (.cells Z 23 (0,0))):=(x2.block _ zr).trans rr.out;replace y0:=Hj y0;replace y1:=Hj y1;have zz:=jp0 (show w.heap.size+1+1<=wr.heap.size from zr) x2.size;replace x2:=Hj x2;clear own;have ys:=jh y1.out.1;go_upto_region 10 with (first
    | (refine wl_ rfl 23 rfl g rfl y0.out.1 rfl rfl (by rw [S0];rfl) ?_;go_frame)
    | (refine ja8 rfl (g:=w2.heap.size) (k:=k0) (x:= .tmp 28) M0 rfl rfl rfl ?_;go_frame)
    | (at_builtin;(with_reducible refine jnF rfl (g:=w2.heap.size) (k:=k0) (fr:=(0,0)) (B:=w.heap.size+1+1) (s:= .tmp 27) (x:= .tmp 29) rfl rfl rfl (b2.out.ext ((jnQ _).alloc _)) (jqq _ _) M0 (by omega) (jp0 zz (by simp)) ?_);intro A5 c5 w5 o5 g5 b5;replace o5:=Hj o5;replace b5:=Hj b5;replace g5:=Hj g5;go_frame))
   have K5:Hid (Ky w5 (g+1) k1):=⟨(g5.out.block (g+1) (by simp;omega) (fun q=>by have:=OB.out (g+1) q.symm;omega)).trans ((y1.out.ext ((jnQ _).alloc _)).1),M1⟩;have C5:Hid (Ky w5 w.heap.size ck):=⟨(b5.out.block _ (by omega)).trans (KB.out.ext ((jnQ _).alloc _)).1,KB.out.2⟩;have R5:Hid (w5.heap[w.heap.size+1]? =some (.cells Z 23 (0,0))):=(b5.out.block _ (by omega)).trans ((jqg _ _ _ (by omega)).trans RB.out);have E5:Hid (Ext w w5):=jpn ((he.out.trans x2).alloc _) (b5.out.mono (by omega));clear y0 y1 b2 b5 g5 KB RB he OB;go_wp2_with (first
    | (refine wl_ rfl 23 rfl (g+1) rfl K5.out.1 rfl rfl (by rw [S1];rfl) ?_;go_frame)
    | (refine ws_ rfl 23 rfl w.heap.size (cellsOf k1).toArray rfl rfl C5.out.1 (by rw [S1];rfl) (by rw [S1,CS]) O1 ?_;go_frame))
   refine ⟨⟨k+1,A5,c5,by omega,by go_num,rfl,?_,?_,?_,?_⟩,by simp [intOf];omega⟩
   ·rw [MS.out];exact o5.out.kept ⟨rfl,rfl,rfl,by simp,fun i hi hne=>jqy _ _ _ _ (fun q=>hne (by rw [q]))⟩ (.inr (fun q=>by have:=o5.out.ge _ q;omega))
   ·rw [CH.out];exact C5.out.put M1
   ·exact (jqy _ _ _ _ (by omega)).trans R5.out
   ·exact jqb E5.out (jpo _) _
  ·have hkk:k=m:=by omega
   subst hkk;have O:Hid (OwnK (w.heap.size+1+1) wr D k cc (Y2 ks k)):=own;have Kc:=Hj ky;have Rc:=Hj rr;have Ec:=Hj he;have LMc:=Hj LM;have zr:=jh rr;clear own ky rr he LM HG hkm hm hlt;have M1:(Yg ks k).length=32:=Jn hk k;generalize Yg ks k=ck at *;have S1:=CS;have O1:=ji ck;have FIN:Hid (∀ C:Array Value,YQ (Y2 ks k) ck 0 w (.returned (.tuple #[.slice D k cc, .agg (cellsOf ck).toArray, .int .i64 0])) (wr.drew.setRow (w.heap.size+1) C)):=fun C=>
    ⟨D,cc,by rw [LMc.out],by
      rw [LMc.out];exact OwnK.kl ((O.out.ext (jnQ _).drew).kept ⟨rfl,rfl,rfl,by simp,fun i hi hne=>jqy _ _ _ _ (fun q=>hne (by rw [q]))⟩ (.inr (fun q=>by have:=O.out.ge _ q;omega))),by rw [LMc.out];exact O.out.cap.1,O.out.cap.2,jqb Ec.out.drew (Nat.le_succ _) _,fun b hb=>by have:=O.out.fresh hb;omega⟩
   generalize YQ (Y2 ks k) ck 0 w=RW at *;have KEEPC:Hid (∀ w',wr.grownBy w' (some (w.heap.size+1))->Ky w' w.heap.size ck):=fun w' e=>⟨(e.block w.heap.size (by omega) (fun q=>by injection q with q;omega)).trans Kc.out.1,M1⟩
   by_cases h8:k < 8
   ·have e0:((k:Int)==(k:Int))=true:=by simp
    have i8:(k:Int) < 8:=by omega
    clear h8;go_wp2_with fail;refine qgW ((w.heap.size+1)) [0,1,2,3,4] [3] ?_;repeat ((first | refine qR0 ?_ | refine qS ?_);go_frame)
    refine qV rfl (fun w'=>w'.heap[w.heap.size]? =some (.cells (cellsOf ck).toArray 23 (0,0))) (fun w' e=>(KEEPC.out w' (jj (jV (jnQ _).drew _) e)).1) (.agg (cellsOf ck).toArray) (fun w' hF=>jd rfl rfl hF rfl rfl (by rw [S1];rfl)) ?_;go_frame
    repeat ((first | refine qR0 ?_ | refine qS ?_);go_frame)
    refine qD fun K1 hK1=> ?_
    refine jrf _ _ _ rfl (w.heap.size+1) (cellsOf ck).toArray rfl rfl 23 _ Rc.out (by rw [S1];rfl) (by rw [S1,hz0]) O1 ?_;refine hK1.out _ _ (jet _ _ _) ?_;clear hK1 K1;try go_frame
    repeat ((first | refine qR0 ?_ | refine qS ?_);go_frame)
    refine jp ?_;go_wp2_with fail;(try simp only [jqV,Exit.then]);rw [Exit.noGoto_ret];refine jqW (v:= .tuple #[.slice D k cc, .agg (cellsOf ck).toArray, .int .i64 0]) ?_ rfl (FIN.out _);exact Yx rfl _ _ (w.heap.size+1) 23 (cellsOf ck).toArray (0,0) _ _ _ rfl rfl rfl (jqc _ _ _ _ _ _ Rc.out) rfl rfl (by rw [S1];rfl)
   ·have i8: ¬ ((k:Int) < 8):=by omega
    clear h8;go_wp2_with fail;refine qgW ((w.heap.size+1)) [0,1,2,3,4] [3] ?_;repeat ((first | refine qR0 ?_ | refine qS ?_);go_frame)
    refine qV rfl (fun w'=>w'.heap[w.heap.size]? =some (.cells (cellsOf ck).toArray 23 (0,0))) (fun w' e=>(KEEPC.out w' (jj (jV (jnQ _).drew _) e)).1) (.agg (cellsOf ck).toArray) (fun w' hF=>jd rfl rfl hF rfl rfl (by rw [S1];rfl)) ?_;go_frame
    repeat ((first | refine qR0 ?_ | refine qS ?_);go_frame)
    refine qD fun K1 hK1=> ?_
    refine jrf _ _ _ rfl (w.heap.size+1) (cellsOf ck).toArray rfl rfl 23 _ Rc.out (by rw [S1];rfl) (by rw [S1,hz0]) O1 ?_;refine hK1.out _ _ (jet _ _ _) ?_;clear hK1 K1;try go_frame
    repeat ((first | refine qR0 ?_ | refine qS ?_);go_frame)
    refine jp ?_;go_wp2_with fail;(try simp only [jqV,Exit.then]);rw [Exit.noGoto_ret];refine jqW (v:= .tuple #[.slice D k cc, .agg (cellsOf ck).toArray, .int .i64 0]) ?_ rfl (FIN.out _);exact Yx rfl _ _ (w.heap.size+1) 23 (cellsOf ck).toArray (0,0) _ _ _ rfl rfl rfl (jqc _ _ _ _ _ _ Rc.out) rfl rfl (by rw [S1];rfl)
def yG:List UInt8:= [114,111,111,116]
theorem jhM (W:World):Ss (W.alloc (.cells #[.string ⟨#[114,111,111,116]⟩, .string ⟨#[99,104,97,105,110]⟩] 9)) (some ⟨W.heap.size,0,none⟩) 2 [yG,vI]:=jcH rfl
set_option maxRecDepth 100000 in
theorem jaL {rs cs:List UInt8}{w:World}(hr:rs.length=32) (hc:cs.length=32){tg:jpC×Nat×Nat}(hG:Gl w tg):
 Calls jpx 77 #[.agg (cellsOf rs).toArray, .agg (cellsOf cs).toArray] w (Qk (jM (jC rs cs) yG) (jM (jC rs cs) vI) w):=by
 have ML:=qr rs cs;have DRAW:Hid (∀ (W:World) (g:Nat),Ext w W->Ky W g cs->Calls jpx 114 #[.agg (cellsOf rs).toArray, .slice (some ⟨g,0,none⟩) 32 32] W fun e w'=>e= .returned (.agg (cellsOf (jC rs cs)).toArray)/\Ext W w'):=fun W g e k=>Qp hr k.bs (hG.kept e hG.lt)
 have KEYS:Hid (∀ (W:World) (g:Nat),Ext w W->Ss W (some ⟨g,0,none⟩) 2 [yG,vI]->Calls jpx 113 #[.agg (cellsOf (jC rs cs)).toArray, .slice (some ⟨g,0,none⟩) 2 2] W (jfp [jM (jC rs cs) yG,jM (jC rs cs) vI] W)):=fun W g e s=>
  Qt (ks:=jC rs cs) (l:= [yG,vI]) ML s (by omega) (fun j=>by
   match j with
   | 0=>show yG.length<=_;decide
   | 1=>show vI.length<=_;decide
   | j+2=>simp [jpr]) (hG.kept e hG.lt)
 clear hG;have K0:=jR (jC rs cs) yG;have K1:=jR (jC rs cs) vI;generalize jM (jC rs cs) yG=k0 at *;generalize jM (jC rs cs) vI=k1 at *;generalize (cellsOf (jC rs cs)).toArray=D at *;have RS:(cellsOf rs).toArray.size=32:=by simp [ja,hr]
 have C0:(cellsOf k0).length=32:=by rw [ja,K0]
 have C1:(cellsOf k1).length=32:=by rw [ja,K1]
 have S0:(cellsOf k0).toArray.size=32:=C0;have S1:(cellsOf k1).toArray.size=32:=C1;have O0:=ji k0;have O1:=ji k1;have hal:=j2;have hz0:=j7;generalize jr=Z at *;have B0:Hid (Ky ((((w.alloc (jqY (cellsOf rs).toArray 23)).alloc (jqY (cellsOf cs).toArray 23)).alloc (jqY Z 23)).alloc (jqY Z 23)) w.heap.size rs/\Ky ((((w.alloc (jqY (cellsOf rs).toArray 23)).alloc (jqY (cellsOf cs).toArray 23)).alloc (jqY Z 23)).alloc (jqY Z 23)) (w.heap.size+1) cs/\((((w.alloc (jqY (cellsOf rs).toArray 23)).alloc (jqY (cellsOf cs).toArray 23)).alloc (jqY Z 23)).alloc (jqY Z 23)).heap[w.heap.size+1+1]? =some (.cells Z 23 (0,0))/\((((w.alloc (jqY (cellsOf rs).toArray 23)).alloc (jqY (cellsOf cs).toArray 23)).alloc (jqY Z 23)).alloc (jqY Z 23)).heap[w.heap.size+1+1+1]? =some (.cells Z 23 (0,0))/\Ext w ((((w.alloc (jqY (cellsOf rs).toArray 23)).alloc (jqY (cellsOf cs).toArray 23)).alloc (jqY Z 23)).alloc (jqY Z 23))):=
  ⟨⟨jcT _ _ _ _ _,hr⟩,⟨jcU _ _ _ _ _,hc⟩,jcV _ _ _ _ _,jcW _ _ _ _ _,((((jnQ w).alloc _).alloc _).alloc _).alloc _⟩
 go_enter Tryz.func77,Tryz.ntmps77
 go_upto_region 1 with fail;refine jg (fun W=>Ky W w.heap.size rs/\Ky W (w.heap.size+1) cs/\W.heap[w.heap.size+1+1]? =some (.cells Z 23 (0,0))/\W.heap[w.heap.size+1+1+1]? =some (.cells Z 23 (0,0))/\Ext w W) B0.out ?_;clear B0;rintro w0 ⟨b0,b1,b2,b3,E0⟩;have z0:=jh b3;replace E0:=Hj E0;have B0:Hid (∀ w',Ext w0 w'->Ky w' w.heap.size rs/\Ky w' (w.heap.size+1) cs/\w'.heap[w.heap.size+1+1]? =some (.cells Z 23 (0,0))/\w'.heap[w.heap.size+1+1+1]? =some (.cells Z 23 (0,0))/\Ext w w'):=fun w' e=>⟨b0.ext e,b1.ext e,(e.block _ (jh b2)).trans b2,(e.block _ (jh b3)).trans b3,E0.out.trans e⟩
 clear b0 b1 b2 b3 E0;go_wp2_with fail;go_cut [6] (fun s6 wx=>∃ g:Nat,s6= .slice (some ⟨g,0,none⟩) 2 2/\Ext w0 wx/\Kr wx g [k0,k1]/\w0.heap.size<=g)
 case first=>
  refine qgT (R:=Ext) jnQ (fun _ _ _=>Ext.trans) (.rd 0 (.rd 1 (.alt 2 (.alt 3 (.alt 4 (.rd 5 .nil) .stop) .stop) (.alt 3 (.alt 2 (.alt 4 (.rd 5 .nil) .stop) .stop) .stop)))) 6 ?_;refine qtV rfl (fun w'=>w'.heap[w.heap.size]? =some (.cells (cellsOf rs).toArray 23 (0,0))) (fun w' e=>(B0.out w' ((jnQ _).drew.trans e)).1.1) (.agg (cellsOf rs).toArray) (fun w' hF=>jd rfl rfl hF rfl rfl (by rw [RS];rfl)) ?_;go_frame
  repeat ((first | refine vN ?_ | refine qtS ?_);go_frame)
  have SE:Hid (Ext w0 w0.drew):=(jnQ w0).drew;generalize w0.drew=WC at *;repeat' (first
   | exact yD
   | (refine qc (i:=2) _ rfl ?_ ?_ (fun K1 hK1=> ?_)
      (·rfl)
      rotate_left;go_simp;refine (DRAW.out _ _ (B0.out _ SE.out).2.2.2.2 (B0.out _ SE.out).2.1).mono ?_;rintro e0 WC ⟨rfl,e⟩;refine hK1.out _ _ e ?_;clear hK1 K1;(try replace hS:=Hj (hS.out.ext e));replace SE:=Hj (SE.out.trans e);clear e;(try go_frame);repeat ((first | refine vN ?_ | refine qtS ?_);go_frame)
      skip)
   | (refine qc (i:=3) _ rfl ?_ ?_ (fun K1 hK1=> ?_)
      (·rfl)
      rotate_left;go_simp;have hS:=Hj (jhM WC);have e:=(jnQ WC).alloc (jqY #[.string ⟨#[114,111,111,116]⟩, .string ⟨#[99,104,97,105,110]⟩] 9);obtain ⟨gS,hgS⟩:∃ g,g=WC.heap.size:=⟨_,rfl⟩;rw [<-hgS] at hS ⊢;refine hK1.out _ _ e ?_;clear hK1 K1;replace hgS:=Hj hgS;replace SE:=Hj (SE.out.trans e);clear e;generalize WC.alloc (jqY #[.string ⟨#[114,111,111,116]⟩, .string ⟨#[99,104,97,105,110]⟩] 9)=WC at *;(try go_frame);repeat ((first | refine vN ?_ | refine qtS ?_);go_frame)
      skip)
   | (refine qc (i:=4) _ rfl ?_ ?_ (fun K1 hK1=> ?_)
      (·rfl)
      rotate_left;go_simp;have hz:=SE.out.size;refine (KEYS.out _ _ (B0.out _ SE.out).2.2.2.2 hS.out).mono ?_;rintro e0 WC ⟨g,rfl,hg,kr,e⟩;refine hK1.out _ _ e ?_;clear hK1 K1 hS;replace hg:=Hj (jp0 hz hg);replace SE:=Hj (SE.out.trans e);replace kr:=Hj kr;clear e hz;(try go_frame);repeat ((first | refine vN ?_ | refine qtS ?_);go_frame)
      refine yC ?_;go_wp2_with fail;go_meet
      exact ⟨g,rfl,SE.out,kr.out,hg.out⟩)
   )
 case rest=>
  obtain ⟨g,rfl,E1,kr,hg⟩:=hcut;have b1:Hid (wc.heap[w.heap.size+1+1]? =some (.cells Z 23 (0,0))/\wc.heap[w.heap.size+1+1+1]? =some (.cells Z 23 (0,0))/\Ext w wc):=(B0.out _ E1).2.2;have zg:w.heap.size+1+1+1 < g:=by omega
  clear DRAW KEYS E1 hg B0;have R0:Hid (∀ w',Two (w.heap.size+1+1) (w.heap.size+1+1+1) wc w'->∀ i v,(cellsOf k0)[i]? =some v->w'.cell? ⟨g,0+i,none⟩=some v):=fun w' e=>Kr.row (l:= [k0,k1]) (j:=0) ⟨e.block kr.1 (by omega) (by omega),kr.2⟩ (by simp)
  have R1:Hid (∀ w',Two (w.heap.size+1+1) (w.heap.size+1+1+1) wc w'->∀ i v,(cellsOf k1)[i]? =some v->w'.cell? ⟨g,32+i,none⟩=some v):=fun w' e=>Kr.row (l:= [k0,k1]) (j:=1) ⟨e.block kr.1 (by omega) (by omega),kr.2⟩ (by simp)
  clear kr;go_wp2_with fail;refine qgR (R:=Two (w.heap.size+1+1) (w.heap.size+1+1+1)) (Two.refl _ _) (fun _ _ _=>Two.trans) [0,1,2,3,4,5,6,7] [6,7] ?_;repeat ((first | refine qR0 ?_ | refine qS ?_);go_frame)
  refine qV rfl (fun w'=>∀ q_ v,(cellsOf k0)[q_]? =some v->w'.cell? ⟨g,0+q_,none⟩=some v) (fun w' e=>R0.out w' ((Two.of_ext (jnQ _).drew).trans e)) (.agg (cellsOf k0).toArray) (fun w' hF=>jy rfl rfl hF rfl rfl (by rw [C0];rfl)) ?_;go_frame
  repeat ((first | refine qR0 ?_ | refine qS ?_);go_frame)
  refine qV rfl (fun w'=>∀ q_ v,(cellsOf k1)[q_]? =some v->w'.cell? ⟨g,32+q_,none⟩=some v) (fun w' e=>R1.out w' ((Two.of_ext (jnQ _).drew).trans e)) (.agg (cellsOf k1).toArray) (fun w' hF=>jy rfl rfl hF rfl rfl (by rw [C1];rfl)) ?_;go_frame
  have b2:Hid (wc.drew.heap[w.heap.size+1+1]? =some (.cells Z 23 (0,0))/\wc.drew.heap[w.heap.size+1+1+1]? =some (.cells Z 23 (0,0))/\Ext w wc.drew):=⟨b1.out.1,b1.out.2.1,b1.out.2.2.drew⟩;generalize wc.drew=W at *;refine qD fun K hK=> ?_
  refine jrf _ _ _ rfl (w.heap.size+1+1) (cellsOf k0).toArray rfl rfl 23 Z b2.out.1 (by rw [S0];rfl) (by rw [S0];exact hz0) O0 ?_;refine hK.out _ _ (Two.row _ _) ?_;clear hK K;try go_frame
  refine qD fun K hK=> ?_
  refine jrf _ _ _ rfl (w.heap.size+1+1+1) (cellsOf k1).toArray rfl rfl 23 Z ((jqy _ _ _ _ (by omega)).trans b2.out.2.1) (by rw [S1];rfl) (by rw [S1];exact hz0) O1 ?_;refine hK.out _ _ (Two.row' _ _) ?_;clear hK K;try go_frame
  refine jp ?_;have f0:Hid (((W.setRow (w.heap.size+1+1) (cellsOf k0).toArray).setRow (w.heap.size+1+1+1) (cellsOf k1).toArray).heap[w.heap.size+1+1]? =some (.cells (cellsOf k0).toArray 23 (0,0))):=(jqy _ _ _ _ (by omega)).trans (jqc _ _ _ _ _ _ b2.out.1);have f1:Hid (((W.setRow (w.heap.size+1+1) (cellsOf k0).toArray).setRow (w.heap.size+1+1+1) (cellsOf k1).toArray).heap[w.heap.size+1+1+1]? =some (.cells (cellsOf k1).toArray 23 (0,0))):=jqc _ _ _ _ _ _ ((jqy _ _ _ _ (by omega)).trans b2.out.2.1);have f2:Hid (Ext w ((W.setRow (w.heap.size+1+1) (cellsOf k0).toArray).setRow (w.heap.size+1+1+1) (cellsOf k1).toArray)):=jqb (jqb b2.out.2.2 (by omega) _) (by omega) _;go_wp2_with fail;(try simp only [jqV,Exit.then]);refine jqW (v:= .tuple #[.agg (cellsOf k0).toArray, .agg (cellsOf k1).toArray]) ?_ rfl ?_
  ·exact jaJ rfl _ _ (w.heap.size+1+1) (w.heap.size+1+1+1) 23 23 (cellsOf k0).toArray (cellsOf k1).toArray (0,0) (0,0) _ rfl rfl f0.out f1.out rfl rfl (by rw [S0];rfl) (by rw [S1];rfl)
  ·exact ⟨rfl,f2.out⟩
def zi (ks bs:List UInt8):List UInt8:=yY (jM ks Jg) jgu 0 bs
def YI (ks bs ts:List UInt8):List UInt8:=jC (jM ks Z0) (qz [ks,bs,ts])
def qA (ks bs ts:List UInt8):List UInt8:=zi ks ts++YI ks bs (zi ks ts)
theorem JW (ks bs:List UInt8):(zi ks bs).length=bs.length:=yE _ _ _ _
theorem Zn (ks bs ts:List UInt8):(YI ks bs ts).length=32:=qr _ _
theorem JV (ks bs ts:List UInt8):(qA ks bs ts).length=ts.length+32:=by unfold qA;rw [jpG,JW,Zn]
theorem QM {A:Option Addr}{n c:Nat}{ks bs:List UInt8}{w:World}(h:Bs w A n c bs) (hn:n<=100000000):
 Calls jpx 82 #[.agg (cellsOf (Qv ks)).toArray, .slice A n c] w (YA (zi ks bs) w):=jd1 (jR _ _) rfl h hn
theorem QO {A B:Option Addr}{n c m d:Nat}{ks bs ts:List UInt8}{w:World}(hk:ks.length=32) (h:Bs w A n c bs) (h':Bs w B m d ts) (hn:n<=1000000) (hm:m<=1000000){tg:jpC×Nat×Nat}(hG:Gl w tg):
 Calls jpx 83 #[.agg (cellsOf (Qv ks)).toArray, .slice A n c, .slice B m d] w fun e w'=>e= .returned (.agg (cellsOf (YI ks bs ts)).toArray)/\Ext w w':=jd4 (jR _ _) (jR _ _) hk rfl h h' hn hm hG
theorem jc0 {A B:Option Addr}{n c m d:Nat}{ks bs ts:List UInt8}{w:World}(hk:ks.length=32) (h:Bs w A n c bs) (h':Bs w B m d ts) (hn:n<=1000000) (hm:m<=1000000){tg:jpC×Nat×Nat}(hG:Gl w tg):
 Calls jpx 47 #[.agg (cellsOf ks).toArray, .slice A n c, .slice B m d] w (YA (qA ks bs ts) w):=by
 have SEAL:Hid (∀ W,Ext w W->Calls jpx 81 #[.agg (cellsOf ks).toArray] W fun e w'=>e= .returned (.agg (cellsOf (Qv ks)).toArray)/\Ext W w'):=fun W e=>JA hk (hG.kept e hG.lt)
 have TURN:Hid (∀ W,Ext w W->Calls jpx 82 #[.agg (cellsOf (Qv ks)).toArray, .slice B m d] W (YA (zi ks ts) W)):=fun W e=>QM (h'.ext e) (by omega)
 have TAG:Hid (∀ W C d',Ext w W->Bs W C m d' (zi ks ts)->Calls jpx 83 #[.agg (cellsOf (Qv ks)).toArray, .slice A n c, .slice C m d'] W fun e w'=>e= .returned (.agg (cellsOf (YI ks bs (zi ks ts))).toArray)/\Ext W w'):=fun W C d' e b=>QO hk (h.ext e) b hn hm (hG.kept e hG.lt)
 have TL:=(JW ks ts).trans h'.len;have ML:=Zn ks bs (zi ks ts);have SL:=jaP hk;have z1:=h.le;have z2:=h.cap;have z3:=h'.le;have z4:=h'.cap;clear hG h h';unfold qA;generalize YI ks bs (zi ks ts)=M at *;generalize zi ks ts=T at *;generalize Qv ks=S at *;have KS:(cellsOf ks).toArray.size=32:=by simp [ja,hk]
 have MS:(cellsOf M).toArray.size=32:=by simp [ja,ML]
 have M1:=ji M;have SS:(cellsOf S).toArray.size=96:=by simp [ja,SL]
 have S1:=ji S;have ha1:=jnC;have hz1:=Qx;generalize Z96=Y at *;have ha2:=jbN;have hz2:=j7;generalize jr=Z at *;have P0:Hid (∀ s,Ext (w.alloc (jqY (cellsOf ks).toArray 23)) s->Ky s w.heap.size ks/\Ext w s):=fun s e=>⟨(Ky.boxed w hk).ext e,((jnQ w).alloc _).trans e⟩
 go_enter Tryz.func47,Tryz.ntmps47
 go_upto_region 1 with fail;have k0:=Hj (P0.out _ (jnQ _)).1;go_wp2_with (refine wl_ rfl 23 rfl w.heap.size rfl k0.out.1 rfl rfl (by rw [KS];rfl) ?_;go_frame)
 refine (SEAL.out _ (P0.out _ (jnQ _)).2).mono ?_;rintro e v ⟨rfl,e1⟩;have x1:=Hj (P0.out _ e1).2;clear P0 k0 SEAL e1;have a1:Hid ((v.alloc (jqY Y 174)).heap[v.heap.size]? =some (.cells Y 174 (0,0))):=jqq _ _;go_upto_region 2 with (refine ws_ rfl 174 rfl v.heap.size (cellsOf S).toArray rfl rfl a1.out (by rw [SS];rfl) (by rw [SS];exact hz1) S1 ?_;go_frame)
 obtain ⟨g,hg⟩:=ex_ v.heap.size;have e5:Ext v ((v.alloc (jqY Y 174)).setRow v.heap.size (cellsOf S).toArray):=jqb ((jnQ v).alloc _) (jpo _) _;refine jg (fun W=>w.heap.size<=g/\∀ s,Ext W s->s.heap[g]? =some (.cells (cellsOf S).toArray 174 (0,0))/\Ext w s) ⟨by rw [hg];exact x1.out.size,fun s e=>⟨(e.block _ (by simp [hg])).trans (by rw [hg];exact jqc _ _ _ _ _ _ a1.out),x1.out.trans (e5.trans e)⟩⟩ ?_;rw [<-hg];clear hg a1 x1 e5;rintro w1 ⟨gg,P1⟩;replace P1:=Hj P1;have k0:=Hj (P1.out _ (jnQ _)).1;go_wp2_with (refine wl_ rfl 174 rfl g rfl k0.out rfl rfl (by rw [SS];rfl) ?_;go_frame)
 refine (TURN.out _ (P1.out _ (jnQ _)).2).mono ?_;rintro e w2 ⟨A2,n2,c2,rfl,o2,e2⟩;obtain rfl:n2=m:=by rw [<-o2.len,TL]
 have zs:=(P1.out _ (jnQ _)).2.size;replace o2:=Hj (o2.lower zs);have P2:Hid (∀ s,Ext w2 s->s.heap[g]? =some (.cells (cellsOf S).toArray 174 (0,0))/\Ext w s):=fun s e=>P1.out s (e2.trans e)
 clear P1 k0 TURN e2 zs;have k0:=Hj (P2.out _ (jnQ _)).1;go_wp2_with (refine wl_ rfl 174 rfl g rfl k0.out rfl rfl (by rw [SS];rfl) ?_;go_frame)
 refine (TAG.out _ _ _ (P2.out _ (jnQ _)).2 o2.out.bs).mono ?_;rintro e v ⟨rfl,e3⟩;have o3:=Hj (o2.out.ext e3);have x3:=Hj (P2.out _ e3).2;clear P2 k0 TAG e3 o2;have a1:Hid ((v.alloc (jqY Z 178)).heap[v.heap.size]? =some (.cells Z 178 (0,0))):=jqq _ _;go_upto_region 4 with (refine ws_ rfl 178 rfl v.heap.size (cellsOf M).toArray rfl rfl a1.out (by rw [MS];rfl) (by rw [MS];exact hz2) M1 ?_;go_frame)
 obtain ⟨f,hf⟩:=ex_ v.heap.size;have e4:Ext v ((v.alloc (jqY Z 178)).setRow v.heap.size (cellsOf M).toArray):=jqb ((jnQ v).alloc _) (jpo _) _;refine jg (fun W=>Ext w W/\Own w.heap.size W A2 n2 c2 T/\Bs W (some ⟨f,0,none⟩) 32 32 M) ⟨x3.out.trans e4,o3.out.ext e4,jcw (t:=178) (p:= []) (q:= []) (by rw [hf];exact jqc _ _ _ _ _ _ a1.out) (by simp) rfl ML (by omega)⟩ ?_;rw [<-hf];clear hf a1 e4 x3 o3;rintro w4 ⟨x4,o4,b4⟩;replace x4:=Hj x4;replace o4:=Hj o4;replace b4:=Hj b4;go_wp2_with (at_builtin;(with_reducible refine jJ rfl (B:=w.heap.size) (s:= .tmp 19) (x:= .tmp 21) rfl rfl rfl o4.out b4.out (by omega) x4.out.size ?_);intro A5 c5 w5 o5 g5 b5;replace o5:=Hj o5;clear g5;replace b5:=Hj b5;go_frame)
 go_ret;exact ⟨_,_,_,rfl,o5.out,jpn x4.out b5.out⟩
theorem jgc {w:World}{o:Oper}{a:Act}{x lo:Operand}{A:Option Addr}{n c k:Nat}{kd:IntKind}(ho:o.op= .slice 33 x (some lo) none none) (hx:a.eval x= .slice A n c) (hl:a.eval lo= .int kd (k:Int)) (hk:k<=n) (hnc:n<=c):
 (jpY a.eval o).run jpx w= .ok (.value (.slice (if c=k then A else A.map (·.add k)) (n - k) (c - k))) w:=by
 obtain ⟨dst,op,ty,pos,af,gd⟩:=o;simp only at ho;subst ho;obtain ⟨i,hi',hsz⟩:=Option.map_eq_some_iff.1 jfV;have q1:(k:Int)<=(n:Int):=by omega
 simp only [jpY,hx,hl,Option.map,Instr.sliceAt];go_simp
 cases A <;> rfl
theorem ji3 {w:World}{o:Oper}{a:Act}{x hi:Operand}{A:Option Addr}{n c k:Nat}{kd:IntKind}(ho:o.op= .slice 33 x none (some hi) none) (hx:a.eval x= .slice A n c) (hl:a.eval hi= .int kd (k:Int)) (hk:k<=c):
 (jpY a.eval o).run jpx w= .ok (.value (.slice A k c)) w:=by
 obtain ⟨dst,op,ty,pos,af,gd⟩:=o;simp only at ho;subst ho;obtain ⟨i,hi',hsz⟩:=Option.map_eq_some_iff.1 jfV;have q1:(k:Int)<=(c:Int):=by omega
 have q2:(if c=0 then A else A.map (·.add 0))=A:=by
  split
  ·rfl
  ·cases A <;> simp [Addr.add]
 simp only [jpY,hx,hl,Option.map,Instr.sliceAt];go_simp
theorem qL {P:jpB}{fn:Func}{u p v:Tmp}{ty:jpC}(h:fn.results= #[.cell p ty, .tmp u, .tmp v]) (tmps:Array Value) (w:World) (g:Nat) (t:jpC) (cs:Array Value) (fr:Nat×Nat) (d:TypeDesc) (x y:Value)
 (hx:tmps.getD u undef=x) (hp:tmps.getD p undef= .pointer (some ⟨g,0,none⟩)) (hy:tmps.getD v undef=y) (hg:w.heap[g]? =some (.cells cs t fr))
 (hu:P.underlying ty=some d) (hd:(match d with | .struct _ | .array _ _=>true | _=>false)=true) (hi:(P.info? ty).map (·.size)=some cs.size):
 (results fn tmps).run P w= .ok (.tuple #[.agg cs,x,y]) w:=by
 have hp':tmps[p]?.getD undef= .pointer (some ⟨g,0,none⟩):=by simpa using hp
 have hx':tmps[u]?.getD undef=x:=by simpa using hx
 have hy':tmps[v]?.getD undef=y:=by simpa using hy
 simp [results,h,hp',hx',hy',asAddr,run_loadVar_row w g t ty cs fr d hg hu hd hi,jqi,Result.andThen]
theorem jbn {o:Oper}{a:Act}{K:Act->World->Prop}{Q:Exit->Act->World->Prop}{W:World}{g dCap:Nat}{cur:Array Value}{t dT sT ty:jpC}{A:Option Addr}{n c:Nat}{xs:List UInt8}(hu:Tryz.prog.underlying dT=some (.slice 5)) (hg:W.heap[g]? =some (.cells cur t (0,0))) (h:Bs W A n c xs) (hn:32<=n) (hc:cur.size=32)
 (H:Oper.upon jpx o a K Q (.ok (Next.value (goInt 32)) (W.setRow g (cellsOf (xs.take 32)).toArray))):
 Oper.upon jpx o a K Q (((Builtin.copy_ #[dT,sT] ty #[.slice (some ⟨g,0,none⟩) 32 dCap, .slice A n c]).run jpx W).andThen fun a w'=> .ok (Next.value a) w'):=by
 have hl:=h.len;obtain ⟨b,o',rfl,hb,hcl⟩:=h.pos (by omega);have hsz:(Tryz.prog.info? 5).map (·.size)=some 1:=rfl;have hL:(cellsOf (xs.take 32)).length=32:=by rw [ja,jps];omega
 have hr:=run_copy_row jpx W dT sT ty _ g 0 32 dCap ⟨b,o',none⟩ n c cur t (cellsOf (xs.take 32)) hu hsz hg (by rw [hL];exact (Nat.min_eq_right hn).symm) (fun j v hv=>by
  have hj:j < 32:=by
   have:=(jqx.1 hv).1
   rwa [hL] at this
  rw [jZ (by rw [jps];omega),YU hj] at hv
  injection hv with hv
  subst hv;have:(⟨b,o',none⟩:Addr).add j=⟨b,o'+j,none⟩:=by unfold Addr.add;split <;> simp_all
  rw [this];exact hcl j (by omega)) (by rw [hL];omega) (fun v hv=>by
  obtain ⟨j,_,rfl⟩:=jpN.1 hv
  rfl)
 have he:(cur.toList.take 0++cellsOf (xs.take 32)++cur.toList.drop (0+(cellsOf (xs.take 32)).length))=cellsOf (xs.take 32):=by
  rw [hL,jrg (by simp [hc])];simp
 rw [he,hL] at hr;rw [hr];exact H
def Z8 (xs:List UInt8) (er:Int) (w:World) (e:Ending) (w':World):Prop:=e= .returned (.tuple #[.agg (cellsOf xs).toArray, .int .i64 er])/\Ext w w'
theorem jjF {A:Option Addr}{n c:Nat}{bs:List UInt8}{w:World}(h:Bs w A n c bs) (hn:n < 32):
 Calls jpx 119 #[.slice A n c] w (Z8 (jqn 32 0) 3 w):=by
 have c1:=h.le;have c2:=h.cap;have hal:=j2;have hb:=zJ;have hs:=j7;have ho:=JI;have hc:=Hj jU;have hz:Hid ((w.alloc (jqY jr 23)).heap[w.heap.size]? =some (jqY jr 23)):=jqq _ _;have he:Hid (∀ C,Ext w ((w.alloc (jqY jr 23)).setRow w.heap.size C)):=fun C=>jqb ((jnQ w).alloc _) (jpo _) _
 unfold Z8;rw [hc.out];clear hc;generalize jr=Z at *;have q1':decide ((n:Int) < 32)=true:=decide_eq_true (by omega);clear h;go_enter Tryz.func119,Tryz.ntmps119
 go_wp2_with (first
  | refine jm rfl _ _ rfl Z hb ?_
  | refine ws_ rfl 23 rfl w.heap.size Z rfl rfl (by with_reducible exact hz.out) (by rw [hs];rfl) rfl ho ?_)
 (try simp only [jqV,Exit.then]);refine jqW (v:= .tuple #[.agg Z, .int .i64 3]) ?_ rfl ?_
 ·exact qj rfl _ _ w.heap.size 23 Z (0,0) _ _ rfl rfl (jqc _ _ _ _ _ _ hz.out) rfl rfl (by rw [hs];rfl)
 ·exact ⟨rfl,he.out _⟩
theorem jgM {A:Option Addr}{n c m:Nat}{bs:List UInt8}{w:World}(h:Bs w A n c bs) (hn:n=m+32) (hm:n<=100000000):
 Calls jpx 119 #[.slice A n c] w (Z8 (bs.drop m) 0 w):=by
 have q1':decide ((n:Int) < 32)=false:=decide_eq_false (by omega);have hd:(n:Int) - 32=(m:Int):=by omega
 have c1:=h.le;have c2:=h.cap;have hl:=h.len;have mn:m<=n:=by omega
 have CUT:=Hj (h.cut (k:=m) mn);have XL:(bs.drop m).length=32:=by rw [List.length_drop];omega
 have nm:n - m=32:=by omega
 rw [nm] at CUT;have m1:m<=100000000:=by omega
 have hw:IntKind.i64.wrap (m:Int)=(m:Int):=jq0 _ (by omega);replace hn:=Hj hn;clear h hl;replace nm:=Hj nm;generalize bs.drop m=xs at *;have XS:(cellsOf xs).toArray.size=32:=by simp [ja,XL]
 have X1:=ji xs;have hal:=j2;have hz0:=j7;generalize jr=Z at *;have B0:Hid (((w.alloc (jqY Z 23)).alloc (jqY Z 23)).heap[w.heap.size]? =some (.cells Z 23 (0,0))/\((w.alloc (jqY Z 23)).alloc (jqY Z 23)).heap[w.heap.size+1]? =some (.cells Z 23 (0,0))/\Ext w ((w.alloc (jqY Z 23)).alloc (jqY Z 23))):=⟨jQ _ _ _,jK _ _ _,((jnQ w).alloc _).alloc _⟩;go_enter Tryz.func119,Tryz.ntmps119
 go_upto_region 4 with fail;refine jg (fun W=>W.heap[w.heap.size]? =some (.cells Z 23 (0,0))/\W.heap[w.heap.size+1]? =some (.cells Z 23 (0,0))/\Ext w W) B0.out ?_;clear B0;rintro w0 ⟨b0,b1,e0⟩;have h0:=Hj (CUT.out.ext (e0.trans (jnQ w0).drew));have b0':Hid (w0.drew.heap[w.heap.size]? =some (.cells Z 23 (0,0))):=b0;have b1':Hid (w0.drew.heap[w.heap.size+1]? =some (.cells Z 23 (0,0))):=b1;have e0':Hid (Ext w w0.drew):=e0.drew;clear b0 b1 e0 CUT;go_wp2_with fail;refine qgB w.heap.size [0,1,2,3,4,5,6] [6] ?_;iterate 5 ((first | refine qR0 ?_ | refine qS ?_);go_frame)
 refine qV rfl (fun _=>True) (fun _ _=>trivial) (.slice (if c=m then A else A.map (·.add m)) (n - m) (c - m)) (fun w' _=>jgc rfl rfl rfl mn c1) ?_;go_frame
 generalize w0.drew=W at *;rw [nm.out];generalize (if c=m then A else A.map (·.add m))=A' at *;generalize c - m=c' at *;refine qD fun K hK=> ?_
 go_simp;refine jbn (xs:=xs) rfl b1'.out h0.out (jpo _) hz0 ?_;rw [jqm (by omega)];have R1:Hid ((W.setRow (w.heap.size+1) (cellsOf xs).toArray).heap[w.heap.size+1]? =some (.cells (cellsOf xs).toArray 23 (0,0))):=jqc _ _ _ _ _ _ b1'.out;have R0:Hid ((W.setRow (w.heap.size+1) (cellsOf xs).toArray).heap[w.heap.size]? =some (.cells Z 23 (0,0))):=(jqy _ _ _ _ (by omega)).trans b0'.out;have E1:Hid (Ext w (W.setRow (w.heap.size+1) (cellsOf xs).toArray)):=jqb e0'.out (Nat.le_succ _) _;go_simp;refine hK.out _ _ (jqb (jpm _ _) (Nat.le_succ _) _) ?_;clear hK K;refine jp ?_;go_wp2_with (first
  | (refine vQ rfl (jd rfl rfl R1.out rfl rfl (by rw [XS];rfl)) ?_;go_frame)
  | (refine ws_ rfl 23 rfl w.heap.size (cellsOf xs).toArray rfl rfl R0.out (by rw [XS];rfl) (by rw [XS];exact hz0) X1 ?_;go_frame))
 (try simp only [jqV,Exit.then]);refine jqW (v:= .tuple #[.agg (cellsOf xs).toArray, .int .i64 0]) ?_ rfl ?_
 ·exact qj rfl _ _ w.heap.size 23 (cellsOf xs).toArray (0,0) _ _ rfl rfl (jqc _ _ _ _ _ _ R0.out) rfl rfl (by rw [XS];rfl)
 ·exact ⟨rfl,jqb E1.out (jpo _) _⟩
theorem jbE {w:World}{K:Array Value}(hK:K.size=32):(part 23 K 0).run jpx w= .ok (.agg K) w:=by
 obtain ⟨i,hi,hz0,hz1,hz2⟩:=info_parts jfG;have he:K.extract 0 32=K:=by rw [<-hK];exact Array.extract_size
 simp [part,isAgg,jql jqD,sizeOf,typeInfo,hi,hz1,he]
theorem jfb:∃ f:Field,(Tryz.prog.fieldsOf 178).toList= [f]∧f.type=23∧f.offset=0∧f.name≠ "_" :=by
 have h:((Tryz.prog.fieldsOf 178).toList.map fun f=>(f.name,f.type,f.offset))= [("bytes",23,0)]:=by kernel_rfl
 match hl:(Tryz.prog.fieldsOf 178).toList with
 | []=>rw [hl] at h;simp at h
 | [f]=>
   rw [hl] at h;simp only [jqA,jqF,List.cons.injEq,and_true,Prod.mk.injEq] at h;exact ⟨f,rfl,h.2.1,h.2.2,by rw [h.1];decide⟩
 | f::g::r=>rw [hl] at h;simp at h
theorem jgN {xs ys:List UInt8}(hx:xs.length=32) (hy:ys.length=32) (w:World):
 (Op.equalIn 10000 178 (.agg (cellsOf xs).toArray) (.agg (cellsOf ys).toArray)).run jpx w= .ok (decide (xs=ys)) w:=by
 have hX:(cellsOf xs).toArray.size=32:=by simp [ja,hx]
 have hY:(cellsOf ys).toArray.size=32:=by simp [ja,hy]
 have hk:(Op.equalIn 9999 23 (.agg (cellsOf xs).toArray) (.agg (cellsOf ys).toArray)).run jpx w= .ok (decide (xs=ys)) w:=by
  rw [zS,zS,run_equalIn_bytes w 9997 23 5 32 rfl rfl (fun _=>rfl) xs ys hx hy]
  congr 1
  rw [Bool.eq_iff_iff];simp
 obtain ⟨f,hf,ht,ho,hn⟩:=jfb;rw [run_equalIn_struct w 9999 178 _ _ (by kernel_rfl) (by kernel_rfl),hf];simp only [Op.eqFields,ht,ho,if_pos hn,jqi,jbE hX,jbE hY,jqk,hk]
 cases decide (xs=ys) <;> rfl
theorem jgO:Tryz.prog.eqGuardType Tryz.prog.depth 178=false:=by kernel_rfl
theorem jcb {o:Oper}{a:Act}{w:World}{x y:Operand}{t':jpC}{xs ys:List UInt8}{b:Bool}(hb:(!decide (xs=ys))=b) (lx:xs.length=32) (ly:ys.length=32) (ho:o.op= .binOp .neq 178 x y t') (hx:a.eval x= .agg (cellsOf xs).toArray) (hy:a.eval y= .agg (cellsOf ys).toArray):
 (jpY a.eval o).run jpx w= .ok (.value (.bool b)) w:=by
 unfold jpY;simp only [ho,hx,hy,jqi,run_eqGuard_agg _ _ _ _ _ _ _ jgO,jqk,run_neq_struct,jgN lx ly,jqj,hb]
def JJ (xs:List UInt8) (er:Int) (w:World) (e:Ending) (w':World):Prop:=∃ A n c,e= .returned (.tuple #[.slice A n c, .int .i64 er])/\Own w.heap.size w' A n c xs/\Ext w w'
theorem jdp {A B:Option Addr}{n c m d:Nat}{ks bs cs:List UInt8}{w:World}(h:Bs w A n c bs) (h':Bs w B m d cs) (hm:m < 32):
 Calls jpx 89 #[.agg (cellsOf ks).toArray, .slice A n c, .slice B m d] w (JJ [] 3 w):=by
 have TAG:Hid (∀ W,Ext w W->Calls jpx 119 #[.slice B m d] W (Z8 (jqn 32 0) 3 W)):=fun W e=>jjF (h'.ext e) hm
 have ZL:(jqn 32 (0:UInt8)).length=32:=by simp
 generalize jqn 32 (0:UInt8)=zs at *;have ZS:(cellsOf zs).toArray.size=32:=by simp [ja,ZL]
 have Z1:=ji zs;have hal:=j2;have hz0:=j7;generalize jr=Z at *;clear h h';generalize (cellsOf ks).toArray=KS;go_enter Tryz.func89,Tryz.ntmps89
 go_wp2_with fail;refine (TAG.out _ ((jnQ w).alloc _)).mono ?_;rintro e v ⟨rfl,e1⟩;have a1:Hid ((v.alloc (jqY Z 23)).heap[v.heap.size]? =some (.cells Z 23 (0,0))):=jqq _ _;go_wp2_with (refine ws_ rfl 23 rfl v.heap.size (cellsOf zs).toArray rfl rfl a1.out (by rw [ZS];rfl) (by rw [ZS];exact hz0) Z1 ?_;go_frame)
 go_ret2;exact ⟨none,0,0,rfl,Own.nil _ _,((jnQ w).alloc _).trans (e1.trans (jqb ((jnQ v).alloc _) (jpo _) _))⟩
theorem jeM {A B:Option Addr}{n c m d q:Nat}{ks bs cs:List UInt8}{w:World}(hk:ks.length=32) (h:Bs w A n c bs) (h':Bs w B m d cs) (hq:m=q+32) (hn:n<=1000000) (hm:m<=1000000){b:Bool}(hb:(!decide (YI ks bs (cs.take q)=cs.drop q))=b){tg:jpC×Nat×Nat}(hG:Gl w tg):
 Calls jpx 89 #[.agg (cellsOf ks).toArray, .slice A n c, .slice B m d] w (JJ (if b then [] else zi ks (cs.take q)) (if b then 4 else 0) w):=by
 obtain ⟨R,hR⟩:=ex_ ((if b then [] else zi ks (cs.take q)));obtain ⟨er,hE⟩:∃ er:Int,er=(if b then 4 else 0):=⟨_,rfl⟩;rw [<-hR,<-hE];replace hR:=Hj hR;replace hE:=Hj hE;have qm:q<=m:=by omega
 have TAG:Hid (∀ W,Ext w W->Calls jpx 119 #[.slice B m d] W (Z8 (cs.drop q) 0 W)):=fun W e=>jgM (h'.ext e) hq (by omega)
 have SEAL:Hid (∀ W,Ext w W->Calls jpx 81 #[.agg (cellsOf ks).toArray] W fun e w'=>e= .returned (.agg (cellsOf (Qv ks)).toArray)/\Ext W w'):=fun W e=>JA hk (hG.kept e hG.lt)
 have TURN:Hid (∀ W,Ext w W->Calls jpx 82 #[.agg (cellsOf (Qv ks)).toArray, .slice B q d] W (YA (zi ks (cs.take q)) W)):=fun W e=>QM ((h'.ext e).take qm) (by omega)
 have TAGOF:Hid (∀ W,Ext w W->Calls jpx 83 #[.agg (cellsOf (Qv ks)).toArray, .slice A n c, .slice B q d] W fun e w'=>e= .returned (.agg (cellsOf (YI ks bs (cs.take q))).toArray)/\Ext W w'):=fun W e=>QO hk (h.ext e) ((h'.ext e).take qm) hn (by omega) (hG.kept e hG.lt)
 have ML:=Zn ks bs (cs.take q);have SL:=jaP hk;have XL:(cs.drop q).length=32:=by rw [List.length_drop,h'.len];omega
 have z1:=h.le;have z2:=h.cap;have z3:=h'.le;have z4:=h'.cap;have hd:(m:Int) - 32=(q:Int):=by omega
 have q1:q<=1000000:=by omega
 have hw:IntKind.i64.wrap (q:Int)=(q:Int):=jq0 _ (by omega);replace hq:=Hj hq;clear hG h h';generalize YI ks bs (cs.take q)=M at *;generalize zi ks (cs.take q)=T at *;generalize cs.drop q=xs at *;generalize Qv ks=S at *;replace hb:=Hj hb;have KS:(cellsOf ks).toArray.size=32:=by simp [ja,hk]
 have XS:(cellsOf xs).toArray.size=32:=by simp [ja,XL]
 have X1:=ji xs;have SS:(cellsOf S).toArray.size=96:=by simp [ja,SL]
 have S1:=ji S;have ha1:=jnC;have hz1:=Qx;generalize Z96=Y at *;have hbd:Hid (Tryz.prog.built 178 [(0, .agg (cellsOf xs).toArray)]=some (cellsOf xs).toArray):=jbO XS;have ha2:=j2;have hz2:=j7;generalize jr=Z at *;have P0:Hid (∀ s,Ext (w.alloc (jqY (cellsOf ks).toArray 23)) s->Ky s w.heap.size ks/\Ext w s):=fun s e=>⟨(Ky.boxed w hk).ext e,((jnQ w).alloc _).trans e⟩
 go_enter Tryz.func89,Tryz.ntmps89
 go_wp2_with fail;refine (TAG.out _ (P0.out _ (jnQ _)).2).mono ?_;rintro e v ⟨rfl,e1⟩;have a1:Hid ((v.alloc (jqY Z 23)).heap[v.heap.size]? =some (.cells Z 23 (0,0))):=jqq _ _;have e5:Ext v ((v.alloc (jqY Z 23)).setRow v.heap.size (cellsOf xs).toArray):=jqb ((jnQ v).alloc _) (jpo _) _;go_upto_region 4 with (refine ws_ rfl 23 rfl v.heap.size (cellsOf xs).toArray rfl rfl a1.out (by rw [XS];rfl) (by rw [XS];exact hz2) X1 ?_;go_frame)
 obtain ⟨f,hf⟩:=ex_ v.heap.size;refine jg (fun W=>∀ s,Ext W s->Ky s w.heap.size ks/\Ky s f xs/\Ext w s) (fun s e=>by
  have p:=P0.out s (e1.trans (e5.trans e));exact ⟨p.1,(show Ky _ f xs from ⟨by rw [hf];exact jqc _ _ _ _ _ _ a1.out,XL⟩).ext e,p.2⟩) ?_
 rw [<-hf];clear hf a1 e5 e1 P0 TAG;rintro w1 P1;replace P1:=Hj P1;have k0:=Hj (P1.out _ (jnQ _)).1;go_wp2_with (refine wl_ rfl 23 rfl w.heap.size rfl k0.out.1 rfl rfl (by rw [KS];rfl) ?_;go_frame)
 refine (SEAL.out _ (P1.out _ (jnQ _)).2.2).mono ?_;rintro e v ⟨rfl,e1⟩;have a1:Hid ((v.alloc (jqY Y 174)).heap[v.heap.size]? =some (.cells Y 174 (0,0))):=jqq _ _;have e5:Ext v ((v.alloc (jqY Y 174)).setRow v.heap.size (cellsOf S).toArray):=jqb ((jnQ v).alloc _) (jpo _) _;go_upto_region 6 with (first
  | (refine ws_ rfl 174 rfl v.heap.size (cellsOf S).toArray rfl rfl a1.out (by rw [SS];rfl) (by rw [SS];exact hz1) S1 ?_;go_frame)
  | (refine vQ rfl (ji3 (k:=q) rfl rfl rfl (by omega)) ?_;go_frame))
 obtain ⟨g,hg⟩:=ex_ v.heap.size;refine jg (fun W=>∀ s,Ext W s->s.heap[g]? =some (.cells (cellsOf S).toArray 174 (0,0))/\Ky s f xs/\Ext w s) (fun s e=>by
  have p:=P1.out s (e1.trans (e5.trans e));exact ⟨(e.block _ (by simp [hg])).trans (by rw [hg];exact jqc _ _ _ _ _ _ a1.out),p.2.1,p.2.2⟩) ?_
 rw [<-hg];clear hg a1 e5 e1 P1 SEAL k0;rintro w2 P2;replace P2:=Hj P2;go_wp2_with fail;refine qgE [0,1,2,4,5,3,6] [3] ?_;refine qV rfl (fun w'=>w'.heap[g]? =some (.cells (cellsOf S).toArray 174 (0,0))) (fun w' e=>(P2.out w' ((jnQ _).drew.trans e)).1) (.agg (cellsOf S).toArray) (fun w' hF=>jd rfl rfl hF rfl rfl (by rw [SS];rfl)) ?_;go_frame
 iterate 2 ((first | refine qR0 ?_ | refine qS ?_);go_frame)
 refine qV rfl (fun w'=>w'.heap[f]? =some (.cells (cellsOf xs).toArray 23 (0,0))) (fun w' e=>(P2.out w' ((jnQ _).drew.trans e)).2.1.1) (.agg (cellsOf xs).toArray) (fun w' hF=>jd rfl rfl hF rfl rfl (by rw [XS];rfl)) ?_;go_frame
 refine qV rfl (fun _=>True) (fun _ _=>trivial) (.agg (cellsOf xs).toArray) (fun w' _=>qe rfl (by simp only [jqE,jqA,jqF];exact hbd.out)) ?_;go_frame
 refine qD fun K1 hK1=> ?_
 go_simp;refine (TAGOF.out _ (P2.out _ (jnQ _).drew).2.2).mono ?_;rintro e w3 ⟨rfl,e3⟩;refine hK1.out _ _ e3 ?_;clear hK1 K1;try go_frame
 refine qV rfl (fun _=>True) (fun _ _=>trivial) (.bool b) (fun w' _=>jcb hb.out ML XL rfl rfl rfl) ?_;go_frame
 refine jp ?_;have P3:Hid (∀ s,Ext w3 s->s.heap[g]? =some (.cells (cellsOf S).toArray 174 (0,0))/\Ky s f xs/\Ext w s):=fun s e=>P2.out s ((jnQ _).drew.trans (e3.trans e))
 clear P2 e3 TAGOF hb hbd;have k0:=Hj (P3.out _ (jnQ _)).1
 cases b
 ·obtain rfl:R=T:=hR.out;obtain rfl:er=0:=hE.out;clear hR hE;go_wp2_with (refine wl_ rfl 174 rfl g rfl k0.out rfl rfl (by rw [SS];rfl) ?_;go_frame)
  refine (TURN.out _ (P3.out _ (jnQ _)).2.2).mono ?_;rintro e w4 ⟨A4,n4,c4,rfl,o4,e4⟩;go_wp2_with fail;go_ret2;exact ⟨A4,n4,c4,rfl,o4.lower (P3.out _ (jnQ _)).2.2.size,(P3.out _ e4).2.2⟩
 ·obtain rfl:R= []:=hR.out;obtain rfl:er=4:=hE.out;clear hR hE;go_wp2_with fail;go_ret2;exact ⟨none,0,0,rfl,Own.nil _ _,(P3.out _ (jnQ _)).2.2⟩
end
section
open Go.ChangeShapes Go.WideShapes Go.ChangeAt Go.RowKit Go.Deep Go.Maps
structure Rt where
 root:List UInt8
 own:List UInt8
 ho:Bool
 ot:List UInt8
 mt:Bool
 si:Bool
 sc:List UInt8
 sm:Int
 bf:Int
 ri:Bool
 rc:List UInt8
 rm:Int
structure Rt.ok (s:Rt):Prop where
 root:s.root.length=32
 own:s.own.length=64
 ot:s.ot.length=32
 sc:s.sc.length=32
 rc:s.rc.length=32
 sm:0<=s.sm/\s.sm<=4000000
 bf:0<=s.bf/\s.bf<=4000000
 rm:0<=s.rm/\s.rm<=4000000
def Rt.C (s:Rt) (kp:Nat):List Value:=
 cellsOf s.root++(cellsOf s.own++([.bool s.ho]++(cellsOf s.ot++([.bool s.mt, .bool s.si]++(cellsOf s.sc++([.int .i64 s.sm, .int .i64 s.bf, .bool s.ri]++(cellsOf s.rc++ [.int .i64 s.rm, .pointer (some ⟨kp,0,none⟩)])))))))
theorem Rt.C_len {s:Rt}(h:s.ok) (kp:Nat):(s.C kp).length=200:=by
 simp [Rt.C,ja,h.root,h.own,h.ot,h.sc,h.rc]
theorem Rt.one (s:Rt) (kp:Nat):∀ v∈s.C kp,v.oneCell'=true:=fun v hv=>by
 simp only [Rt.C,jpH,jpE,jqz,or_false] at hv;rcases hv with h | h | rfl | h | (rfl | rfl) | h | (rfl | rfl | rfl) | h | rfl | rfl
 all_goals first | rfl | exact JT _ _ h
def Rt.sec (s:Rt):List UInt8:=s.own.take 32
def Rt.pub (s:Rt):List UInt8:=s.own.drop 32
def qE (s:Rt) (p:List UInt8):List UInt8:=zu (p.take 32) s.ot
def qh (s:Rt) (p:List UInt8):Int:=jej (qE s p)
def qg (s:Rt) (p:List UInt8):Rt:=
 if qh s p=0 then {s with own:=p,root:=jM (jC s.root (qE s p)) yG,bf:=s.sm,si:=true,sc:=jM (jC s.root (qE s p)) vI,sm:=0,mt:=false} else s
def YY (s:Rt) (q:List UInt8):List UInt8:=zu s.sec q
def YG (s:Rt) (q:List UInt8):Int:=jej (YY s q)
def za (s:Rt) (q:List UInt8):Rt:=
 if YG s q=0 then {s with root:=jM (jC s.root (YY s q)) yG,ri:=true,rc:=jM (jC s.root (YY s q)) vI,rm:=0,ho:=true,ot:=q,mt:=true} else s
structure Rz where
 s:Rt
 L:List Ke
 puts:Int
structure Rz.ok (t:Rz):Prop where
 s:t.s.ok
 L:t.L.length<=8
 puts:0<=t.puts
def jdw (L:List Ke) (puts:Int) (pk:List UInt8) (n:Int):Int:=if Jt L pk n=0 then puts+1 else puts
def yP (pk:List UInt8):List Ke->Int->Int->List (List UInt8)->List Ke×Int
 | L,p,_,[]=>(L,p)
 | L,p,n,k::r=>yP pk (jcz L ⟨pk,n,k,p⟩) (jdw L p pk n) (n+1) r
def Jf (s:Rt) (up:Int):Int:=up - s.rm
def qO (s:Rt) (up:Int):Int:=if Jf s up < 0\/8 < Jf s up then 6 else 0
def jX (t:Rz) (up:Int):Rz:=
 if qO t.s up=0 then
  let m:=(Jf t.s up).toNat
  let a:=yP t.s.ot t.L t.puts t.s.rm (Y2 t.s.rc m)
  ⟨{t.s with rc:=Yg t.s.rc m,rm:=up},a.1,a.2⟩
 else t
def J5 (k data body:List UInt8):List UInt8:=if body.length < 32 then [] else if YI k data (body.take (body.length - 32))=body.drop (body.length - 32) then zi k (body.take (body.length - 32)) else []
def J4 (k data body:List UInt8):Int:=if body.length < 32 then 3 else if YI k data (body.take (body.length - 32))=body.drop (body.length - 32) then 0 else 4
def yX (s:Rt):Rt:={s with rc:=jM s.rc vI,rm:=s.rm+1}
def jW (s:Rt):Rt:={s with sc:=jM s.sc vI,sm:=s.sm+1}
def opA (t:Rz) (pk:List UInt8) (prev:Int):Rz×Int:=
 if t.s.ho=true/\pk=t.s.ot then (t,0)
 else
  let e1:=if t.s.ri=true/\t.s.rm < prev then qO t.s prev else 0
  if e1=0 then
   let t1:=if t.s.ri=true/\t.s.rm < prev then jX t prev else t
   (⟨za t1.s pk,t1.L,t1.puts⟩,YG t1.s pk)
  else (t,e1)
def opB (t:Rz) (n:Int):Rz×Int:=
 if t.s.ri=false\/n < t.s.rm then (t,5)
 else if qO t.s n=0 then (⟨yX (jX t n).s,(jX t n).L,(jX t n).puts⟩,0) else (t,qO t.s n)
def opK (t:Rz) (n:Int):List UInt8:=jM (jX t n).s.rc qd
def vZ (t:Rz) (pk:List UInt8) (prev n:Int) (data body:List UInt8):Rz×List UInt8×Int:=
 if yZ t.L pk n then (⟨t.s,yN t.L pk n,t.puts⟩,J5 (ye t.L pk n).k data body,J4 (ye t.L pk n).k data body)
 else
  let a:=opA t pk prev
  if a.2≠0 then (a.1,[],a.2)
  else
   let b:=opB a.1 n
   if b.2≠0 then (b.1,[],b.2) else (b.1,J5 (opK a.1 n) data body,J4 (opK a.1 n) data body)
def qb (bs pk:List UInt8) (prev n:Int):List UInt8:=qz [bs,zq pk prev.toNat n.toNat]
def yt (t:Rz) (bs pk:List UInt8) (prev n:Int) (body:List UInt8):Int:=if okH prev n then (vZ t pk prev n (qb bs pk prev n) body).2.2 else 1
def Ym (t:Rz) (bs pk:List UInt8) (prev n:Int) (body:List UInt8):List UInt8:=if yt t bs pk prev n body=0 then (vZ t pk prev n (qb bs pk prev n) body).2.1 else []
def zf (t:Rz) (bs pk:List UInt8) (prev n:Int) (body:List UInt8):Rz:=if yt t bs pk prev n body=0 then (vZ t pk prev n (qb bs pk prev n) body).1 else t
def qN (s:Rt) (p:List UInt8):Rt:=if s.mt then qg s p else s
def qW (s:Rt) (p text:List UInt8):Int:=
 if s.si=false/\s.mt=false then 7 else if 300 < text.length then 1
 else if s.mt=true/\qh s p≠0 then qh s p else if okH (qN s p).bf (qN s p).sm then 0 else 1
theorem JY {p q:List Value}{a b:Value}{o:Nat}(h:p.length=o):(p++([a]++q)).set o b=p++([b]++q):=by
 rw [List.set_append_right _ _ (by omega),h,Nat.sub_self];rfl
theorem jo6 {p q:List Value}{a:Value}{o:Nat}(h:p.length=o):(p++([a]++q))[o]? =some a:=by
 rw [jqr (by omega),h,Nat.sub_self];rfl
def Rt.P_root (s:Rt):List Value:= []
def Rt.R_root (s:Rt) (kp:Nat) (q:List Value):List Value:=cellsOf s.own++([.bool s.ho]++(cellsOf s.ot++([.bool s.mt]++([.bool s.si]++(cellsOf s.sc++([.int .i64 s.sm]++([.int .i64 s.bf]++([.bool s.ri]++(cellsOf s.rc++([.int .i64 s.rm]++([.pointer (some ⟨kp,0,none⟩)]++(q))))))))))))
theorem Rt.C_root (s:Rt) (kp:Nat) (q:List Value):s.C kp++q=s.P_root++(cellsOf s.root++s.R_root kp q):=by simp [Rt.C,Rt.P_root,Rt.R_root]
theorem Rt.L_root {s:Rt}(h:s.ok):s.P_root.length=0:=by simp [Rt.P_root]
def Rt.P_own (s:Rt):List Value:=cellsOf s.root
def Rt.R_own (s:Rt) (kp:Nat) (q:List Value):List Value:= [.bool s.ho]++(cellsOf s.ot++([.bool s.mt]++([.bool s.si]++(cellsOf s.sc++([.int .i64 s.sm]++([.int .i64 s.bf]++([.bool s.ri]++(cellsOf s.rc++([.int .i64 s.rm]++([.pointer (some ⟨kp,0,none⟩)]++(q)))))))))))
theorem Rt.C_own (s:Rt) (kp:Nat) (q:List Value):s.C kp++q=s.P_own++(cellsOf s.own++s.R_own kp q):=by simp [Rt.C,Rt.P_own,Rt.R_own]
theorem Rt.L_own {s:Rt}(h:s.ok):s.P_own.length=32:=by simp [Rt.P_own,ja,h.root,h.own,h.ot,h.sc,h.rc]
def Rt.P_ho (s:Rt):List Value:=cellsOf s.root++(cellsOf s.own)
def Rt.R_ho (s:Rt) (kp:Nat) (q:List Value):List Value:=cellsOf s.ot++([.bool s.mt]++([.bool s.si]++(cellsOf s.sc++([.int .i64 s.sm]++([.int .i64 s.bf]++([.bool s.ri]++(cellsOf s.rc++([.int .i64 s.rm]++([.pointer (some ⟨kp,0,none⟩)]++(q))))))))))
theorem Rt.C_ho (s:Rt) (kp:Nat) (q:List Value):s.C kp++q=s.P_ho++([.bool s.ho]++s.R_ho kp q):=by simp [Rt.C,Rt.P_ho,Rt.R_ho]
theorem Rt.L_ho {s:Rt}(h:s.ok):s.P_ho.length=96:=by simp [Rt.P_ho,ja,h.root,h.own,h.ot,h.sc,h.rc]
theorem Rt.G_ho {s:Rt}(h:s.ok) (kp:Nat) (q:List Value):(s.C kp++q)[96]? =some (.bool s.ho):=by rw [s.C_ho];exact jo6 (Rt.L_ho h)
theorem Rt.S_ho {s:Rt}(h:s.ok) (kp:Nat) (q:List Value) (x:Bool):(s.C kp++q).set 96 (.bool x)=({s with ho:=x}:Rt).C kp++q:=by rw [s.C_ho,Rt.C_ho,JY (Rt.L_ho h)];rfl
def Rt.P_ot (s:Rt):List Value:=cellsOf s.root++(cellsOf s.own++([.bool s.ho]))
def Rt.R_ot (s:Rt) (kp:Nat) (q:List Value):List Value:= [.bool s.mt]++([.bool s.si]++(cellsOf s.sc++([.int .i64 s.sm]++([.int .i64 s.bf]++([.bool s.ri]++(cellsOf s.rc++([.int .i64 s.rm]++([.pointer (some ⟨kp,0,none⟩)]++(q)))))))))
theorem Rt.C_ot (s:Rt) (kp:Nat) (q:List Value):s.C kp++q=s.P_ot++(cellsOf s.ot++s.R_ot kp q):=by simp [Rt.C,Rt.P_ot,Rt.R_ot]
theorem Rt.L_ot {s:Rt}(h:s.ok):s.P_ot.length=97:=by simp [Rt.P_ot,ja,h.root,h.own,h.ot,h.sc,h.rc]
def Rt.P_mt (s:Rt):List Value:=cellsOf s.root++(cellsOf s.own++([.bool s.ho]++(cellsOf s.ot)))
def Rt.R_mt (s:Rt) (kp:Nat) (q:List Value):List Value:= [.bool s.si]++(cellsOf s.sc++([.int .i64 s.sm]++([.int .i64 s.bf]++([.bool s.ri]++(cellsOf s.rc++([.int .i64 s.rm]++([.pointer (some ⟨kp,0,none⟩)]++(q))))))))
theorem Rt.C_mt (s:Rt) (kp:Nat) (q:List Value):s.C kp++q=s.P_mt++([.bool s.mt]++s.R_mt kp q):=by simp [Rt.C,Rt.P_mt,Rt.R_mt]
theorem Rt.L_mt {s:Rt}(h:s.ok):s.P_mt.length=129:=by simp [Rt.P_mt,ja,h.root,h.own,h.ot,h.sc,h.rc]
theorem Rt.G_mt {s:Rt}(h:s.ok) (kp:Nat) (q:List Value):(s.C kp++q)[129]? =some (.bool s.mt):=by rw [s.C_mt];exact jo6 (Rt.L_mt h)
theorem Rt.S_mt {s:Rt}(h:s.ok) (kp:Nat) (q:List Value) (x:Bool):(s.C kp++q).set 129 (.bool x)=({s with mt:=x}:Rt).C kp++q:=by rw [s.C_mt,Rt.C_mt,JY (Rt.L_mt h)];rfl
def Rt.P_si (s:Rt):List Value:=cellsOf s.root++(cellsOf s.own++([.bool s.ho]++(cellsOf s.ot++([.bool s.mt]))))
def Rt.R_si (s:Rt) (kp:Nat) (q:List Value):List Value:=cellsOf s.sc++([.int .i64 s.sm]++([.int .i64 s.bf]++([.bool s.ri]++(cellsOf s.rc++([.int .i64 s.rm]++([.pointer (some ⟨kp,0,none⟩)]++(q)))))))
theorem Rt.C_si (s:Rt) (kp:Nat) (q:List Value):s.C kp++q=s.P_si++([.bool s.si]++s.R_si kp q):=by simp [Rt.C,Rt.P_si,Rt.R_si]
theorem Rt.L_si {s:Rt}(h:s.ok):s.P_si.length=130:=by simp [Rt.P_si,ja,h.root,h.own,h.ot,h.sc,h.rc]
theorem Rt.G_si {s:Rt}(h:s.ok) (kp:Nat) (q:List Value):(s.C kp++q)[130]? =some (.bool s.si):=by rw [s.C_si];exact jo6 (Rt.L_si h)
def Rt.P_sm (s:Rt):List Value:=cellsOf s.root++(cellsOf s.own++([.bool s.ho]++(cellsOf s.ot++([.bool s.mt]++([.bool s.si]++(cellsOf s.sc))))))
def Rt.R_sm (s:Rt) (kp:Nat) (q:List Value):List Value:= [.int .i64 s.bf]++([.bool s.ri]++(cellsOf s.rc++([.int .i64 s.rm]++([.pointer (some ⟨kp,0,none⟩)]++(q)))))
theorem Rt.C_sm (s:Rt) (kp:Nat) (q:List Value):s.C kp++q=s.P_sm++([.int .i64 s.sm]++s.R_sm kp q):=by simp [Rt.C,Rt.P_sm,Rt.R_sm]
theorem Rt.L_sm {s:Rt}(h:s.ok):s.P_sm.length=163:=by simp [Rt.P_sm,ja,h.root,h.own,h.ot,h.sc,h.rc]
theorem Rt.G_sm {s:Rt}(h:s.ok) (kp:Nat) (q:List Value):(s.C kp++q)[163]? =some (.int .i64 s.sm):=by rw [s.C_sm];exact jo6 (Rt.L_sm h)
def Rt.P_bf (s:Rt):List Value:=cellsOf s.root++(cellsOf s.own++([.bool s.ho]++(cellsOf s.ot++([.bool s.mt]++([.bool s.si]++(cellsOf s.sc++([.int .i64 s.sm])))))))
def Rt.R_bf (s:Rt) (kp:Nat) (q:List Value):List Value:= [.bool s.ri]++(cellsOf s.rc++([.int .i64 s.rm]++([.pointer (some ⟨kp,0,none⟩)]++(q))))
theorem Rt.C_bf (s:Rt) (kp:Nat) (q:List Value):s.C kp++q=s.P_bf++([.int .i64 s.bf]++s.R_bf kp q):=by simp [Rt.C,Rt.P_bf,Rt.R_bf]
theorem Rt.L_bf {s:Rt}(h:s.ok):s.P_bf.length=164:=by simp [Rt.P_bf,ja,h.root,h.own,h.ot,h.sc,h.rc]
theorem Rt.G_bf {s:Rt}(h:s.ok) (kp:Nat) (q:List Value):(s.C kp++q)[164]? =some (.int .i64 s.bf):=by rw [s.C_bf];exact jo6 (Rt.L_bf h)
theorem Rt.S_bf {s:Rt}(h:s.ok) (kp:Nat) (q:List Value) (x:Int):(s.C kp++q).set 164 (.int .i64 x)=({s with bf:=x}:Rt).C kp++q:=by rw [s.C_bf,Rt.C_bf,JY (Rt.L_bf h)];rfl
def Rt.P_ri (s:Rt):List Value:=cellsOf s.root++(cellsOf s.own++([.bool s.ho]++(cellsOf s.ot++([.bool s.mt]++([.bool s.si]++(cellsOf s.sc++([.int .i64 s.sm]++([.int .i64 s.bf]))))))))
def Rt.R_ri (s:Rt) (kp:Nat) (q:List Value):List Value:=cellsOf s.rc++([.int .i64 s.rm]++([.pointer (some ⟨kp,0,none⟩)]++(q)))
theorem Rt.C_ri (s:Rt) (kp:Nat) (q:List Value):s.C kp++q=s.P_ri++([.bool s.ri]++s.R_ri kp q):=by simp [Rt.C,Rt.P_ri,Rt.R_ri]
theorem Rt.L_ri {s:Rt}(h:s.ok):s.P_ri.length=165:=by simp [Rt.P_ri,ja,h.root,h.own,h.ot,h.sc,h.rc]
theorem Rt.G_ri {s:Rt}(h:s.ok) (kp:Nat) (q:List Value):(s.C kp++q)[165]? =some (.bool s.ri):=by rw [s.C_ri];exact jo6 (Rt.L_ri h)
def Rt.P_rc (s:Rt):List Value:=cellsOf s.root++(cellsOf s.own++([.bool s.ho]++(cellsOf s.ot++([.bool s.mt]++([.bool s.si]++(cellsOf s.sc++([.int .i64 s.sm]++([.int .i64 s.bf]++([.bool s.ri])))))))))
def Rt.R_rc (s:Rt) (kp:Nat) (q:List Value):List Value:= [.int .i64 s.rm]++([.pointer (some ⟨kp,0,none⟩)]++(q))
theorem Rt.C_rc (s:Rt) (kp:Nat) (q:List Value):s.C kp++q=s.P_rc++(cellsOf s.rc++s.R_rc kp q):=by simp [Rt.C,Rt.P_rc,Rt.R_rc]
theorem Rt.L_rc {s:Rt}(h:s.ok):s.P_rc.length=166:=by simp [Rt.P_rc,ja,h.root,h.own,h.ot,h.sc,h.rc]
def Rt.P_rm (s:Rt):List Value:=cellsOf s.root++(cellsOf s.own++([.bool s.ho]++(cellsOf s.ot++([.bool s.mt]++([.bool s.si]++(cellsOf s.sc++([.int .i64 s.sm]++([.int .i64 s.bf]++([.bool s.ri]++(cellsOf s.rc))))))))))
def Rt.R_rm (s:Rt) (kp:Nat) (q:List Value):List Value:= [.pointer (some ⟨kp,0,none⟩)]++(q)
theorem Rt.C_rm (s:Rt) (kp:Nat) (q:List Value):s.C kp++q=s.P_rm++([.int .i64 s.rm]++s.R_rm kp q):=by simp [Rt.C,Rt.P_rm,Rt.R_rm]
theorem Rt.L_rm {s:Rt}(h:s.ok):s.P_rm.length=198:=by simp [Rt.P_rm,ja,h.root,h.own,h.ot,h.sc,h.rc]
theorem Rt.G_rm {s:Rt}(h:s.ok) (kp:Nat) (q:List Value):(s.C kp++q)[198]? =some (.int .i64 s.rm):=by rw [s.C_rm];exact jo6 (Rt.L_rm h)
theorem Rt.S_rm {s:Rt}(h:s.ok) (kp:Nat) (q:List Value) (x:Int):(s.C kp++q).set 198 (.int .i64 x)=({s with rm:=x}:Rt).C kp++q:=by rw [s.C_rm,Rt.C_rm,JY (Rt.L_rm h)];rfl
theorem Rt.C_kp (s:Rt) (kp:Nat) (q:List Value):s.C kp++q=(cellsOf s.root++(cellsOf s.own++([.bool s.ho]++(cellsOf s.ot++([.bool s.mt]++([.bool s.si]++(cellsOf s.sc++([.int .i64 s.sm]++([.int .i64 s.bf]++([.bool s.ri]++(cellsOf s.rc++ [.int .i64 s.rm])))))))))))++([.pointer (some ⟨kp,0,none⟩)]++q):=by simp [Rt.C]
theorem Rt.L_kp {s:Rt}(h:s.ok):(cellsOf s.root++(cellsOf s.own++([jri s.ho]++(cellsOf s.ot++([jri s.mt]++([jri s.si]++(cellsOf s.sc++([jpA .i64 s.sm]++([jpA .i64 s.bf]++([jri s.ri]++(cellsOf s.rc++ [jpA .i64 s.rm]))))))))))).length=199:=by simp [ja,h.root,h.own,h.ot,h.sc,h.rc]
theorem Rt.G_kp {s:Rt}(h:s.ok) (kp:Nat) (q:List Value):(s.C kp++q)[199]? =some (.pointer (some ⟨kp,0,none⟩)):=by rw [s.C_kp];exact jo6 (Rt.L_kp h)
theorem Rt.S_kp {s:Rt}(h:s.ok) (kp kp':Nat) (q:List Value):(s.C kp++q).set 199 (.pointer (some ⟨kp',0,none⟩))=s.C kp'++q:=by rw [s.C_kp,s.C_kp,JY (Rt.L_kp h)]
def Sq (w:World) (g:Nat) (T:jpC) (s:Rt) (kp:Nat) (q:List Value):Prop:=Cb w g T (s.C kp++q)
section
variable {w w':World}{g kp:Nat}{T:jpC}{s:Rt}{q:List Value}
theorem Sq.lt (h:Sq w g T s kp q):g < w.heap.size:=Cb.lt h
theorem Sq.ext (h:Sq w g T s kp q) (e:Ext w w'):Sq w' g T s kp q:=Cb.ext h e
theorem Sq.keep (h:Sq w g T s kp q) (e:w'.heap[g]? =w.heap[g]?):Sq w' g T s kp q:=e.trans h
theorem Sq.other {g':Nat}(h:Sq w g T s kp q) (e:w.grownBy w' (some g')) (hne:g≠g'):Sq w' g T s kp q:=(e.block g h.lt (fun z=>hne (jpD z))).trans h
theorem Sq.frozen (h:Sq w g T s kp q) (j:Nat):w.frozen? ⟨g,j,none⟩=false:=Cb.frozen h j
theorem Sq.at_root (h:Sq w g T s kp q) (ok:s.ok):∀ j v,(cellsOf s.root)[j]? =some v->w.cell? ⟨g,0+j,none⟩=some v:=Cb.mid h (s.C_root kp q) (Rt.L_root ok)
theorem Sq.put_root (h:Sq w g T s kp q) (ok:s.ok){x:List UInt8}(hx:x.length=32):Sq (w.setCells g 0 (cellsOf x)) g T {s with root:=x} kp q:=by
 have:=Cb.put h (s.C_root kp q) (Rt.L_root ok) (z:=cellsOf x) (by rw [ja,ja,hx,ok.root]);unfold Sq;rw [Rt.C_root];exact this
theorem Sq.there_root (h:Sq w g T s kp q) (ok:s.ok):w.there g 0 32:=Cb.there h (by rw [s.C_root];simp [Rt.L_root ok,ja,ok.root] <;> omega)
theorem Sq.at_own (h:Sq w g T s kp q) (ok:s.ok):∀ j v,(cellsOf s.own)[j]? =some v->w.cell? ⟨g,32+j,none⟩=some v:=Cb.mid h (s.C_own kp q) (Rt.L_own ok)
theorem Sq.put_own (h:Sq w g T s kp q) (ok:s.ok){x:List UInt8}(hx:x.length=64):Sq (w.setCells g 32 (cellsOf x)) g T {s with own:=x} kp q:=by
 have:=Cb.put h (s.C_own kp q) (Rt.L_own ok) (z:=cellsOf x) (by rw [ja,ja,hx,ok.own]);unfold Sq;rw [Rt.C_own];exact this
theorem Sq.there_own (h:Sq w g T s kp q) (ok:s.ok):w.there g 32 64:=Cb.there h (by rw [s.C_own];simp [Rt.L_own ok,ja,ok.own] <;> omega)
theorem Sq.ho (h:Sq w g T s kp q) (ok:s.ok):w.cell? ⟨g,96,none⟩=some (.bool s.ho):=Cb.cell h (Rt.G_ho ok kp q)
theorem Sq.set_ho (h:Sq w g T s kp q) (ok:s.ok) (x:Bool):Sq (w.setCell ⟨g,96,none⟩ (.bool x)) g T {s with ho:=x} kp q:=by
 have:=Cb.setCell h (o:=96) (v:= .bool x);rw [Rt.S_ho ok] at this;exact this
theorem Sq.at_ot (h:Sq w g T s kp q) (ok:s.ok):∀ j v,(cellsOf s.ot)[j]? =some v->w.cell? ⟨g,97+j,none⟩=some v:=Cb.mid h (s.C_ot kp q) (Rt.L_ot ok)
theorem Sq.put_ot (h:Sq w g T s kp q) (ok:s.ok){x:List UInt8}(hx:x.length=32):Sq (w.setCells g 97 (cellsOf x)) g T {s with ot:=x} kp q:=by
 have:=Cb.put h (s.C_ot kp q) (Rt.L_ot ok) (z:=cellsOf x) (by rw [ja,ja,hx,ok.ot]);unfold Sq;rw [Rt.C_ot];exact this
theorem Sq.there_ot (h:Sq w g T s kp q) (ok:s.ok):w.there g 97 32:=Cb.there h (by rw [s.C_ot];simp [Rt.L_ot ok,ja,ok.ot] <;> omega)
theorem Sq.mt (h:Sq w g T s kp q) (ok:s.ok):w.cell? ⟨g,129,none⟩=some (.bool s.mt):=Cb.cell h (Rt.G_mt ok kp q)
theorem Sq.set_mt (h:Sq w g T s kp q) (ok:s.ok) (x:Bool):Sq (w.setCell ⟨g,129,none⟩ (.bool x)) g T {s with mt:=x} kp q:=by
 have:=Cb.setCell h (o:=129) (v:= .bool x);rw [Rt.S_mt ok] at this;exact this
theorem Sq.si (h:Sq w g T s kp q) (ok:s.ok):w.cell? ⟨g,130,none⟩=some (.bool s.si):=Cb.cell h (Rt.G_si ok kp q)
theorem Sq.sm (h:Sq w g T s kp q) (ok:s.ok):w.cell? ⟨g,163,none⟩=some (.int .i64 s.sm):=Cb.cell h (Rt.G_sm ok kp q)
theorem Sq.bf (h:Sq w g T s kp q) (ok:s.ok):w.cell? ⟨g,164,none⟩=some (.int .i64 s.bf):=Cb.cell h (Rt.G_bf ok kp q)
theorem Sq.set_bf (h:Sq w g T s kp q) (ok:s.ok) (x:Int):Sq (w.setCell ⟨g,164,none⟩ (.int .i64 x)) g T {s with bf:=x} kp q:=by
 have:=Cb.setCell h (o:=164) (v:= .int .i64 x);rw [Rt.S_bf ok] at this;exact this
theorem Sq.ri (h:Sq w g T s kp q) (ok:s.ok):w.cell? ⟨g,165,none⟩=some (.bool s.ri):=Cb.cell h (Rt.G_ri ok kp q)
theorem Sq.at_rc (h:Sq w g T s kp q) (ok:s.ok):∀ j v,(cellsOf s.rc)[j]? =some v->w.cell? ⟨g,166+j,none⟩=some v:=Cb.mid h (s.C_rc kp q) (Rt.L_rc ok)
theorem Sq.put_rc (h:Sq w g T s kp q) (ok:s.ok){x:List UInt8}(hx:x.length=32):Sq (w.setCells g 166 (cellsOf x)) g T {s with rc:=x} kp q:=by
 have:=Cb.put h (s.C_rc kp q) (Rt.L_rc ok) (z:=cellsOf x) (by rw [ja,ja,hx,ok.rc]);unfold Sq;rw [Rt.C_rc];exact this
theorem Sq.there_rc (h:Sq w g T s kp q) (ok:s.ok):w.there g 166 32:=Cb.there h (by rw [s.C_rc];simp [Rt.L_rc ok,ja,ok.rc] <;> omega)
theorem Sq.rm (h:Sq w g T s kp q) (ok:s.ok):w.cell? ⟨g,198,none⟩=some (.int .i64 s.rm):=Cb.cell h (Rt.G_rm ok kp q)
theorem Sq.set_rm (h:Sq w g T s kp q) (ok:s.ok) (x:Int):Sq (w.setCell ⟨g,198,none⟩ (.int .i64 x)) g T {s with rm:=x} kp q:=by
 have:=Cb.setCell h (o:=198) (v:= .int .i64 x);rw [Rt.S_rm ok] at this;exact this
theorem Sq.kpc (h:Sq w g T s kp q) (ok:s.ok):w.cell? ⟨g,199,none⟩=some (.pointer (some ⟨kp,0,none⟩)):=Cb.cell h (Rt.G_kp ok kp q)
theorem Sq.set_kp (h:Sq w g T s kp q) (ok:s.ok) (x:Nat):Sq (w.setCell ⟨g,199,none⟩ (.pointer (some ⟨x,0,none⟩))) g T s x q:=by
 have:=Cb.setCell h (o:=199) (v:= .pointer (some ⟨x,0,none⟩));rw [Rt.S_kp ok] at this;exact this
theorem Rt.C_send (s:Rt) (kp:Nat) (q:List Value):s.C kp++q=s.P_si++([.bool s.si]++(cellsOf s.sc++([.int .i64 s.sm]++s.R_sm kp q))):=by simp [Rt.C,Rt.P_si,Rt.R_sm]
theorem Rt.C_recv (s:Rt) (kp:Nat) (q:List Value):s.C kp++q=s.P_ri++([.bool s.ri]++(cellsOf s.rc++([.int .i64 s.rm]++s.R_rm kp q))):=by simp [Rt.C,Rt.P_ri,Rt.R_rm]
end
end
section
open Go.ChangeShapes Go.WideShapes Go.ChangeAt Go.RowKit Go.Deep
theorem jD {w w':World}{r:Option Nat}(h:Ext w w'):w.grownBy w' r:=⟨h.os,h.tape,h.output,h.size,fun i hi _=>h.block i hi⟩
theorem jaj {a w:World}{r:Option Nat}(h:a.grownBy w r):a.grownBy w.drew r:=⟨h.os,h.tape,h.output,h.size,h.block⟩
theorem jP {w:World}{g o:Nat}{v:Value}:w.grownBy (w.setCell ⟨g,o,none⟩ v) (some g):=ju (w:=w) (g:=g) (o:=o) (vs:= [v])
theorem jo7 {w w':World}{g i:Nat}{o:Obj}(h:w.grownBy w' (some g)) (hi:i≠g) (k:w.heap[i]? =some o):w'.heap[i]? =some o:=(h.block i (jh k) (fun e=>hi (jpD e))).trans k
theorem JQ {w0 a b:World}{g:Nat}(h:Ext w0 a) (k:a.grownBy b (some g)) (hg:w0.heap.size<=g):Ext w0 b:=
 jpn h ⟨k.os,k.tape,k.output,k.size,fun i hi=>k.block i (jpq hi h.size) (fun e=>by have:=jpD e;omega)⟩
def Zp (A:Option Addr) (n c:Nat) (d s:Int) (rt:List UInt8) (m:Nat):List Value:= [.slice A n c, .int .u32 d, .int .i32 s, .int .u32 0]++(cellsOf rt++ [.int .i64 (m:Int)])
theorem jdW {A:Option Addr}{n c m:Nat}{d s:Int}{rt:List UInt8}(h:rt.length=32):(Zp A n c d s rt m).length=37:=by simp [Zp,ja,h]
def Sb (w:World) (g:Nat) (A:Option Addr) (n c:Nat) (d s:Int) (rt:List UInt8) (m:Nat):Prop:=
 w.heap[g]? =some (.cells (Zp A n c d s rt m).toArray 143 (0,0))/\rt.length=32
section
variable {w w':World}{g n c m:Nat}{A:Option Addr}{d s:Int}{rt:List UInt8}
theorem Sb.lt (h:Sb w g A n c d s rt m):g < w.heap.size:=jh h.1
theorem Sb.ext (h:Sb w g A n c d s rt m) (e:Ext w w'):Sb w' g A n c d s rt m:=⟨(e.block g h.lt).trans h.1,h.2⟩
theorem Sb.frozen (h:Sb w g A n c d s rt m) (j:Nat):w.frozen? ⟨g,j,none⟩=false:=frozen_of_row w g j _ _ h.1
theorem Sb.cell0 (h:Sb w g A n c d s rt m):w.cell? ⟨g,0,none⟩=some (.slice A n c):=by rw [jqe w g _ _ _ _ h.1];rfl
theorem Sb.cell1 (h:Sb w g A n c d s rt m):w.cell? ⟨g,1,none⟩=some (.int .u32 d):=by rw [jqe w g _ _ _ _ h.1];rfl
theorem Sb.cell2 (h:Sb w g A n c d s rt m):w.cell? ⟨g,2,none⟩=some (.int .i32 s):=by rw [jqe w g _ _ _ _ h.1];rfl
theorem Sb.cell36 (h:Sb w g A n c d s rt m):w.cell? ⟨g,36,none⟩=some (.int .i64 (m:Int)):=by
 rw [jqe w g _ _ _ _ h.1,jqt,Zp,jqr (by simp),jqr (by simp [ja,h.2])];simp [ja,h.2]
theorem Sb.at4 (h:Sb w g A n c d s rt m):∀ j v,(cellsOf rt)[j]? =some v->w.cell? ⟨g,4+j,none⟩=some v:=fun j v hv=>by
 rw [jqe w g _ _ _ _ h.1,jqt,Zp,jqr (by simp),show 4+j - [Value.slice A n c, .int .u32 d, .int .i32 s, .int .u32 0].length=j by simp,jqs (jqx.1 hv).1,hv]
theorem zF {w:World}{g o:Nat}{v:Value}{t:jpC}{fr:Nat×Nat}{L:List Value}(h:w.heap[g]? =some (.cells L.toArray t fr)):(w.setCell ⟨g,o,none⟩ v).heap[g]? =some (.cells (L.set o v).toArray t fr):=by
 simp [World.setCell,Array.getElem?_modify,h]
theorem Sb.set0 (h:Sb w g A n c d s rt m) (A':Option Addr) (n' c':Nat):Sb (w.setCell ⟨g,0,none⟩ (.slice A' n' c')) g A' n' c' d s rt m:=⟨zF h.1,h.2⟩
theorem Sb.set1 (h:Sb w g A n c d s rt m) (d':Int):Sb (w.setCell ⟨g,1,none⟩ (.int .u32 d')) g A n c d' s rt m:=⟨zF h.1,h.2⟩
theorem Sb.set2 (h:Sb w g A n c d s rt m) (s':Int):Sb (w.setCell ⟨g,2,none⟩ (.int .i32 s')) g A n c d s' rt m:=⟨zF h.1,h.2⟩
theorem Sb.set36 (h:Sb w g A n c d s rt m) (m':Nat):Sb (w.setCell ⟨g,36,none⟩ (.int .i64 (m':Int))) g A n c d s rt m':=⟨by
 have:=zF (o:=36) (v:= .int .i64 (m':Int)) h.1;rw [this,Zp,Zp,List.set_append,if_neg (by simp),List.set_append,if_neg (by simp [ja,h.2])];simp [ja,h.2],h.2⟩
theorem Sb.setRoot (h:Sb w g A n c d s rt m){rt':List UInt8}(hr:rt'.length=32):Sb (w.setCells g 4 (cellsOf rt')) g A n c d s rt' m:=⟨by
 have:=qI (cellsOf rt') 4 w _ h.1 (by rw [jdW h.2,ja,hr];omega);rw [this];have dd:List.drop (4+32) (Zp A n c d s rt m)= [.int .i64 (m:Int)]:=by
  rw [Zp,<-jqd,List.drop_left' (by simp [ja,h.2])]
 have tt:List.take 4 (Zp A n c d s rt m)= [.slice A n c, .int .u32 d, .int .i32 s, .int .u32 0]:=by
  rw [Zp,jqv (by simp)]
 unfold jp9;rw [ja,hr,dd,tt]
 rfl,hr⟩
theorem Sb.there (h:Sb w g A n c d s rt m):w.there g 4 32:=Ja h.1 (by rw [jdW h.2];omega)
end
end
end Go.Proofs.YtakpgbaijkhpmaaGreatDoor
