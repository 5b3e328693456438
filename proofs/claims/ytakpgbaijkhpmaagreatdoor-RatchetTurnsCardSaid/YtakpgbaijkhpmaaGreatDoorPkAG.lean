import Derived.Test.YtakpgbaijkhpmaaGreatDoorPkAA
import Derived.Great.FillDense
import Derived.Laws.BitsAllLaws
import Derived.Test.YtakpgbaijkhpmaaGreatDoorPkAB
import Derived.Test.YtakpgbaijkhpmaaGreatDoorPkAF
import Derived.RegionTactic
import Derived.Deep.DeepCutAuto
import Derived.Maps.AppendAt
import Derived.Deep.RegionHeld3
import Derived.OwnWalk
import Derived.Deep.DeepMust
open And renaming intro→jpU
open Array renaming all_eq_true_iff_forall_mem→joX,getElem?_eq_none→jox,getElem?_toList→joW,replicate→joY
open Go renaming TypeId→joE,below_setRow→jpd,bodyPost_ret→jpY,cell_of_row→jpg,execOp→jo0,heap_alloc_new→jps,results_cell_row→jpZ,run_underlying→jpn,setRow_heap→jpe,setRow_other→jpA,splice→jpb,u32_xor_nat→jn6,zeroValue→joK
open Go.Builtin renaming append_→joc
open Go.Exit renaming inBlock→jpX
open Go.Instr renaming fill→jpq,index→jpj
open Go.IntKind renaming wrap_u32→jo8,wrap_u64→jpV
open Go.IntWalk renaming i64_in→jp2
open Go.Obj renaming cells→jp0
open Go.Proofs.Tryz renaming prog→joz,underlying33→joA
open Go.Result renaming andThen_ok→jpm
open Go.RowKit.Below renaming heap_alloc→jpi,heap_setCell→jo9,refl→joo,trans→jop
open Go.Sem renaming run_bind→jpk,run_pure→jpl
open Go.Value renaming agg→jpr,int→joC,ownBlock→joa
open Go.World.ownsRow renaming lt→job
open Int renaming tdiv_eq_ediv_of_nonneg→jn2,tmod_eq_emod_of_nonneg→jn3
open List renaming append_assoc→jpf,ext_getElem→jpa,getD→jot,getD_eq_getElem?_getD→jn9,getElem?_append_right→jpt,getElem?_cons_zero→joQ,getElem?_eq_getElem→jn8,getElem?_eq_none→jpc,getElem?_replicate→jn4,getElem?_take→jph,getElem?_toArray→jpv,length_append→joI,length_map→jpJ,length_set→jo7,length_take→jou,map_append→jpy,map_cons→jpC,map_nil→jpH,map_toArray→jpG,mem_map→joP,mem_singleton→joH,nil_append→jn7,range→jo3,replicate→jpp,take_succ_eq_append_getElem→jn5
open Nat renaming add_mul→jp1,add_mul_mod_self_left→jp3,add_zero→joR,div_div_eq_div_mul→jpS,div_eq_of_lt→jpT,div_lt_of_lt_mul→jn1,le_of_lt→jpW,le_refl→joq,le_trans→jo2,lt_of_le_of_lt→jo6,lt_of_lt_of_le→jos,lt_or_ge→jow,mod_eq_of_lt→jpO,mod_lt→jo5,mul_assoc→jpL,mul_comm→jpK,mul_mod→jpN,pow_add→jpM,pow_succ→jpP,zero_add→joB,zero_le→jor
open UInt8 renaming ofNat→jov
namespace Go.Proofs.YtakpgbaijkhpmaaGreatDoor
set_option maxHeartbeats 64000000
set_option linter.unusedSimpArgs false
set_option linter.unusedVariables false
set_option maxRecDepth 100000
section
def lb (x i:Nat):Nat:=x / 4294967296 ^ i % 4294967296
def lbs (n x:Nat):List Nat:=(jo3 n).map (lb x)
theorem yK (x i:Nat):lb x i < 4294967296:=jo5 _ (by decide)
theorem jnz (n x:Nat):(lbs n x).length=n:=by simp [lbs]
theorem yi {n x i:Nat}(h:i < n):wd (lbs n x) i=lb x i:=by simp [wd,lbs,jot,h]
theorem yn (x i:Nat):x / 4294967296 ^ (i+1)=x / 4294967296 ^ i / 4294967296:=by rw [jpP,jpS]
def cA (x y:Nat):Nat→Nat
 | 0=>0
 | i+1=>(lb x i+lb y i+cA x y i) / 4294967296
theorem jjU (x y:Nat):∀ i,cA x y i≤1
 | 0=>jor _
 | i+1=>by have:=jjU x y i;have h1:=yK x i;have h2:=yK y i;rw [cA];omega
theorem jfr (x y:Nat):∀ i,(x+y) / 4294967296 ^ i=x / 4294967296 ^ i+y / 4294967296 ^ i+cA x y i
 | 0=>by simp [cA]
 | i+1=>by
   rw [yn,jfr x y i,yn x,yn y,cA]
   unfold lb
   generalize x / 4294967296 ^ i=X
   generalize y / 4294967296 ^ i=Y
   generalize cA x y i=c
   omega
theorem jkn (x y i:Nat):lb (x+y) i=(lb x i+lb y i+cA x y i) % 4294967296:=by
 unfold lb
 rw [jfr]
 generalize x / 4294967296 ^ i=X
 generalize y / 4294967296 ^ i=Y
 generalize cA x y i=c
 omega
def bS (x y:Nat):Nat→Nat
 | 0=>0
 | i+1=>if lb x i < lb y i+bS x y i then 1 else 0
theorem jcX (x y:Nat):∀ i,bS x y i≤1
 | 0=>jor _
 | i+1=>by rw [bS];split <;> omega
theorem jcI {x y:Nat}(hy:y < 4294967296 ^ 8):∀ k i,i+k=8→(x+4294967296 ^ 8 - y) / 4294967296 ^ i+y / 4294967296 ^ i+bS x y i=x / 4294967296 ^ i+4294967296 ^ k
 | k,0,h=>by
   obtain rfl:k=8:=by omega
   simp only [Nat.pow_zero,Nat.div_one,bS]
   generalize 4294967296 ^ 8=M at *
   omega
 | k,i+1,h=>by
   have ih:=jcI (x:=x) hy (k+1) i (by omega)
   have hb:=jcX x y i
   rw [show (4294967296:Nat) ^ (k+1)=4294967296 ^ k*4294967296 from jpP _ _] at ih
   rw [yn,yn x,yn y,bS]
   unfold lb
   generalize (x+4294967296 ^ 8 - y) / 4294967296 ^ i=D at *
   generalize x / 4294967296 ^ i=X at *
   generalize y / 4294967296 ^ i=Y at *
   generalize bS x y i=b at *
   obtain ⟨M,hM⟩:=ex_ (4294967296 ^ k)
   rw [←hM] at ih ⊢
   clear hM hy
   split <;> omega
theorem jkq {x y:Nat}(hy:y < 4294967296 ^ 8){i:Nat}(hi:i < 8):lb (x+4294967296 ^ 8 - y) i=(lb x i+4294967296 - lb y i - bS x y i) % 4294967296:=by
 have h:=jcI (x:=x) hy (8 - i) i (by omega)
 have hb:=jcX x y i
 obtain ⟨k,hk⟩:∃ k,8 - i=k+1:=⟨8 - i - 1,by omega⟩
 rw [hk,show (4294967296:Nat) ^ (k+1)=4294967296 ^ k*4294967296 from jpP _ _] at h
 unfold lb
 generalize (x+4294967296 ^ 8 - y) / 4294967296 ^ i=D at *
 generalize x / 4294967296 ^ i=X at *
 generalize y / 4294967296 ^ i=Y at *
 generalize bS x y i=b at *
 obtain ⟨M,hM⟩:=ex_ (4294967296 ^ k)
 rw [←hM] at h
 clear hM hy
 omega
theorem jg7 {x y:Nat}(hx:x < 4294967296 ^ 8) (hy:y < 4294967296 ^ 8):bS x y 8=if x < y then 1 else 0:=by
 have h:=jcI (x:=x) hy 0 8 rfl
 have hb:=jcX x y 8
 rw [jpT hx,jpT hy,Nat.pow_zero] at h
 by_cases q:x < y
 ·rw [if_pos q]
  rw [jpT (show x+4294967296 ^ 8 - y < 4294967296 ^ 8 by omega)] at h
  omega
 ·rw [if_neg q]
  have:(x+4294967296 ^ 8 - y) / 4294967296 ^ 8=1:=by
   generalize hM:4294967296 ^ 8=M at *
   have:0 < M:=by omega
   rw [show x+M - y=(x - y)+M by omega,Nat.add_div_right _ this,jpT (by omega)]
  omega
def yR:List Nat→Nat
 | []=>0
 | d::ds=>d+4294967296*yR ds
theorem jcl:∀ (vs:List Nat),(∀ i,i < vs.length→wd vs i < 4294967296)→∀ i,lb (yR vs) i=wd vs i
 | [],_,i=>by simp [lb,yR,wd]
 | d::ds,h,0=>by
   have:=h 0 (by simp)
   simp only [wd,jot,joQ,Option.getD_some] at this
   simp [lb,yR,wd];omega
 | d::ds,h,i+1=>by
   have h0:=h 0 (by simp)
   simp only [wd,jot,joQ,Option.getD_some] at h0
   have ih:=jcl ds (fun j hj=>by
    have:=h (j+1) (by simp;omega)
    simpa [wd,jot] using this) i
   rw [show wd (d::ds) (i+1)=wd ds i by simp [wd,jot],←ih]
   unfold lb
   rw [yR,Nat.pow_succ',←jpS,show (d+4294967296*yR ds) / 4294967296=yR ds by omega]
theorem Ju {vs:List Nat}{n:Nat}(hl:vs.length=n) (h:∀ i,i < n→wd vs i < 4294967296):vs=lbs n (yR vs):=by
 subst hl
 refine jpa (by rw [jnz]) fun i h1 h2=> ?_
 have:=jcl vs h i
 simp [wd,jot,h1] at this
 simp [lbs,this]
theorem ja3:∀ {vs:List Nat}{k z:Nat},k < vs.length→yR (vs.set k z)+wd vs k*4294967296 ^ k=yR vs+z*4294967296 ^ k
 | [],k,z,h=>absurd h (by simp)
 | d::ds,0,z,_=>by simp [yR,wd,jot];omega
 | d::ds,k+1,z,h=>by
   have ih:=ja3 (vs:=ds) (k:=k) (z:=z) (by simpa using h)
   rw [show wd (d::ds) (k+1)=wd ds k by simp [wd,jot],List.set_cons_succ,yR,yR,jpP]
   have e1:wd ds k*(4294967296 ^ k*4294967296)=4294967296*(wd ds k*4294967296 ^ k):=by rw [←jpL,jpK]
   have e2:z*(4294967296 ^ k*4294967296)=4294967296*(z*4294967296 ^ k):=by rw [←jpL,jpK]
   rw [e1,e2]
   generalize wd ds k*4294967296 ^ k=a at *
   generalize z*4294967296 ^ k=b at *
   omega
theorem jap (x i:Nat):x % 4294967296 ^ (i+1)=x % 4294967296 ^ i+lb x i*4294967296 ^ i:=by
 unfold lb
 rw [jpP,Nat.mod_mul]
 rw [jpK (4294967296 ^ i)]
theorem jbR:∀ (vs:List Nat) (z:Nat),yR (vs++ [z])=yR vs+z*4294967296 ^ vs.length
 | [],z=>by simp [yR]
 | d::ds,z=>by
   rw [List.cons_append,yR,jbR ds z,yR,List.length_cons,jpP]
   have e2:z*(4294967296 ^ ds.length*4294967296)=4294967296*(z*4294967296 ^ ds.length):=by rw [←jpL,jpK]
   rw [e2,Nat.mul_add,Nat.add_assoc]
theorem jhK (n x:Nat):lbs (n+1) x=lbs n x++ [lb x n]:=by simp [lbs,List.range_succ]
theorem JE (x:Nat):∀ n,yR (lbs n x)=x % 4294967296 ^ n
 | 0=>by rw [Nat.pow_zero,Nat.mod_one];rfl
 | n+1=>by rw [jhK,jbR,JE x n,jnz,jap]
theorem ZC (n x:Nat):lbs n (x+4294967296 ^ n)=lbs n x:=by
 have h:=Ju (vs:=lbs n (x+4294967296 ^ n)) (jnz _ _) (fun i hi=>by rw [yi hi];exact yK _ _)
 have h':=Ju (vs:=lbs n x) (jnz _ _) (fun i hi=>by rw [yi hi];exact yK _ _)
 rw [h,h',JE,JE,Nat.add_mod_right]
theorem jfJ (n x:Nat):lbs n (x % 4294967296 ^ n)=lbs n x:=by
 have h:=Ju (vs:=lbs n (x % 4294967296 ^ n)) (jnz _ _) (fun i hi=>by rw [yi hi];exact yK _ _)
 have h':=Ju (vs:=lbs n x) (jnz _ _) (fun i hi=>by rw [yi hi];exact yK _ _)
 rw [h,h',JE,JE,Nat.mod_mod]
end
section
open Go.ChangeShapes Go.WideShapes Go.ChangeAt Go.RowKit Go.Deep
def zw8:List Nat:=jpp 8 0
theorem yy (w:World):(joK 218).run joz w= .ok (.agg (jb zw8).toArray) w:=by kernel_rfl
theorem Wr.new (w:World) (t:joE) (vs:List Nat):Wr (w.alloc (.cells (jb vs).toArray t)) w.heap.size t vs:=jps _ _
theorem Ye {vs:List Nat}{n x:Nat}(hl:vs.length=n) (h:∀ j,j < n→wd vs j=lb x j):vs=lbs n x:=by
 refine jpa (by rw [hl,jnz]) fun i h1 h2=> ?_
 have:=h i (by omega)
 simp [wd,jot,h1] at this
 simp [lbs,this]
theorem Yy {vs:List Nat}{j k z:Nat}(hk:k < vs.length):wd (vs.set k z) j=if j=k then z else wd vs j:=by
 unfold wd
 by_cases h:j=k
 ·subst h
  simp [jot,hk]
 ·simp [jot,h,List.getElem?_set_ne (Ne.symm h)]
theorem Zu {x y:Nat}{w:World}:
 Calls joz 177 #[.agg (jb (lbs 8 x)).toArray, .agg (jb (lbs 8 y)).toArray] w fun e w'=>e= .returned (.agg (jb (lbs 8 (x+y))).toArray)∧Ext w w':=by
 have hal:=yy
 have ZL:zw8.length=8:=rfl
 generalize zw8=zs at *
 have XA:Hid (∀ (o1 o2 o3 o4:Obj),((((w.alloc o1).alloc o2).alloc o3).alloc o4).heap[w.heap.size]? =some o1∧((((w.alloc o1).alloc o2).alloc o3).alloc o4).heap[w.heap.size+1]? =some o2∧((((w.alloc o1).alloc o2).alloc o3).alloc o4).heap[w.heap.size+1+1]? =some o3∧((((w.alloc o1).alloc o2).alloc o3).alloc o4).heap[w.heap.size+1+1+1]? =some o4):=fun o1 o2 o3 o4=>by
  have e:Ext (((w.alloc o1).alloc o2).alloc o3) ((((w.alloc o1).alloc o2).alloc o3).alloc o4):=(jnQ _).alloc _
  refine ⟨(e.block _ ?_).trans (jF _ _ _ _),(e.block _ ?_).trans (jH _ _ _ _),(e.block _ ?_).trans (jB _ _ _ _),?_⟩
  ·rw [je,je,je];omega
  ·rw [je,je,je];omega
  ·rw [je,je,je];omega
  ·have:=jps (((w.alloc o1).alloc o2).alloc o3) o4
   rwa [je,je,je] at this
 have B0:Hid (∀ o1 o2 o3 o4,Ext w ((((w.alloc o1).alloc o2).alloc o3).alloc o4)):=fun o1 o2 o3 o4=>((((jnQ w).alloc _).alloc _).alloc _).alloc _
 have XL:=jnz 8 x
 have YL:=jnz 8 y
 have WX:Hid (∀ j,j < 8→wd (lbs 8 x) j=lb x j):=fun j hj=>yi hj
 have WY:Hid (∀ j,j < 8→wd (lbs 8 y) j=lb y j):=fun j hj=>yi hj
 have RQ:Hid (∀ vs:List Nat,vs.length=8→(∀ j,j < 8→wd vs j=lb (x+y) j)→vs=lbs 8 (x+y)):=fun vs h1 h2=>Ye h1 h2
 generalize lbs 8 (x+y)=rs at *
 generalize lbs 8 x=xs at *
 generalize lbs 8 y=ys at *
 go_enter Tryz.func177,Tryz.ntmps177
 go_upto_region 2 with fail
 refine jg (fun W=>Wr W w.heap.size 218 xs∧Wr W (w.heap.size+1) 218 ys∧Wr W (w.heap.size+1+1) 218 zs∧Wr W (w.heap.size+1+1+1) 218 zs∧Ext w W) ⟨(XA.out _ _ _ _).1,(XA.out _ _ _ _).2.1,(XA.out _ _ _ _).2.2.1,(XA.out _ _ _ _).2.2.2,B0.out _ _ _ _⟩ ?_
 clear XA B0
 rintro W0 ⟨wa,wb,wc4,wc5,e0⟩
 replace wa:=Hj wa
 replace wb:=Hj wb
 replace wc4:=Hj wc4
 replace wc5:=Hj wc5
 replace e0:=Hj e0
 go_wp2_with fail
 go_loopw [6,9] (fun cv iv wr=>∃ (k:Nat) (vs:List Nat),k≤8∧iv= .int .i64 (k:Int)∧cv= .int .u64 (cA x y k:Int)∧vs.length=8∧(∀ j,j < k→wd vs j=lb (x+y) j)∧Below (w.heap.size+1+1+1) W0 wr∧Wr wr (w.heap.size+1+1+1) 218 vs) (fun _ iv _=>8 - (intOf iv).toNat)
 case atStart=>exact ⟨0,zs,jor _,rfl,rfl,ZL,fun j hj=>absurd hj (by omega),joo _ _,wc5.out⟩
 case round=>
  obtain ⟨k,vs,hk,rfl,rfl,vl,hv,hB,hw⟩:=hrel
  clear wc5
  by_cases hlt:k < 8
  ·have ka:=Hj (wa.out.kept hB (by omega))
   have kb:=Hj (wb.out.kept hB (by omega))
   have ca:Hid (∀ s,Ext wr s→s.cell? ⟨w.heap.size,k,none⟩=some (.int .u32 (lb x k:Int))∧s.cell? ⟨w.heap.size+1,k,none⟩=some (.int .u32 (lb y k:Int))):=fun s e=>by
    have h1:=(ka.out.kept e ka.out.lt).cell (i:=k) (by rw [XL];exact hlt)
    have h2:=(kb.out.kept e kb.out.lt).cell (i:=k) (by rw [YL];exact hlt)
    rw [WX.out k hlt] at h1
    rw [WY.out k hlt] at h2
    exact jpU h1 h2
   have h1:=yK x k
   have h2:=yK y k
   have h3:=jjU x y k
   have hz:Hid (lb (x+y) k=(lb x k+lb y k+cA x y k) % 4294967296):=jkn x y k
   have hc:Hid (cA x y (k+1)=(lb x k+lb y k+cA x y k) / 4294967296):=rfl
   generalize lb x k=a at *
   generalize lb y k=b at *
   generalize cA x y k=c at *
   obtain ⟨s,hs⟩:=ex_ (a+b)
   obtain ⟨T,hT⟩:=ex_ (a+b+c)
   obtain ⟨z,hzz⟩:=ex_ (T % 4294967296)
   obtain ⟨d,hd⟩:=ex_ (T / 4294967296)
   rw [←hT,←hzz] at hz
   rw [←hT,←hd] at hc
   have f1:IntKind.u64.wrap (a:Int)=(a:Int):=by rw [jpV];omega
   have f2:IntKind.u64.wrap (b:Int)=(b:Int):=by rw [jpV];omega
   have f3:(a:Int)+(b:Int)=(s:Int):=by omega
   have f3w:IntKind.u64.wrap (s:Int)=(s:Int):=by rw [jpV];omega
   have f4:(s:Int)+(c:Int)=(T:Int):=by omega
   have f4w:IntKind.u64.wrap (T:Int)=(T:Int):=by rw [jpV];omega
   have f5:IntKind.u32.wrap (T:Int)=(z:Int):=by rw [jo8];omega
   have f5m:(T:Int) % 4294967296=(z:Int):=by omega
   have f6:(T:Int) / 4294967296=(d:Int):=by omega
   have f6':(T:Int) / 2 ^ 32=(d:Int):=f6
   have Tlt:T < 18446744073709551616:=by omega
   have q1:Op.shift .shr .u64 (T:Int) .u64 32=pure (.int .u64 (d:Int)):=by
    have:=shift_shr .u64 .u64 (T:Int) 32 (by omega) (by decide)
    rw [this]
    congr 2
   have ik:(k:Int) < 8:=by omega
   have ik0:(0:Int)≤(k:Int):=by omega
   have cv:=hw.cell (i:=k) (by omega)
   have fv:=hw.frozen k
   replace hs:=Hj hs
   replace hT:=Hj hT
   replace hzz:=Hj hzz
   replace hd:=Hj hd
   replace hv:=Hj hv
   replace hB:=Hj hB
   replace hw:=Hj hw
   clear h1 h2 h3
   go_wp2_with fail
   refine qgE [0,1,2,3,4,5,6,7,8,9,10,11] [] ?_
   repeat ((first | refine qR _ (fun w' e=>ca.out w' ((jnQ _).drew.trans e)) ?_ | refine qS ?_);go_frame)
   refine jp ?_
   have hw2:=Hj (hw.out.kept (jnQ wr).drew hw.out.lt)
   have hB2:Hid (Below (w.heap.size+1+1+1) W0 wr.drew):=jop hB.out ((jnQ wr).drew.mono (jpW hw.out.lt))
   have cv2:=hw2.out.cell (i:=k) (by omega)
   have fv2:=hw2.out.frozen k
   clear cv fv hw hB ca ka kb
   generalize wr.drew=w2 at *
   go_wp2_with fail
   refine ⟨⟨k+1,vs.set k z,by omega,by go_num,by rw [hc.out],by rw [jo7];exact vl,fun j hj=> ?_,Below.setCell hB2.out (joq _) _,hw2.out.set⟩,by simp [intOf];omega⟩
   rw [Yy (by omega)]
   by_cases e:j=k
   ·rw [if_pos e,e];exact hz.out.symm
   ·rw [if_neg e];exact hv.out j (by omega)
  ·obtain rfl:k=8:=by omega
   have he:=RQ.out vs vl hv
   subst he
   have RS:=jf vl
   have R1:=jo vs
   have r4:=Hj (wc4.out.kept hB (by omega))
   have ZS:=jf ZL
   have EE:Hid (Ext w wr):=jop e0.out (hB.mono (by omega))
   replace hw:=Hj hw
   clear hv hB wc4 e0 wa wb
   go_wp2_with (first
    | (refine wl_ rfl 218 rfl (w.heap.size+1+1+1) rfl hw.out rfl rfl (by rw [RS];rfl) ?_;go_frame)
    | (refine ws_ rfl 218 rfl (w.heap.size+1+1) (jb vs).toArray rfl rfl r4.out (by rw [RS];rfl) (by rw [RS,ZS]) R1 ?_;go_frame))
   (try simp only [jpX,Exit.then])
   refine jpY (jpZ rfl _ _ (w.heap.size+1+1) 218 (jb vs).toArray (0,0) _ rfl (jpe _ _ _ _ _ _ r4.out) rfl rfl (by rw [RS];rfl)) rfl ?_
   exact ⟨rfl,jpd EE.out (by omega) _⟩
def jbW (x y:Nat) (w:World) (e:Ending) (w':World):Prop:=e= .returned (.tuple #[.agg (jb (lbs 8 (x+4294967296 ^ 8 - y))).toArray, .int .u64 (bS x y 8:Int)])∧Ext w w'
theorem YJ {x y:Nat}{w:World}(hy:y < 4294967296 ^ 8):
 Calls joz 176 #[.agg (jb (lbs 8 x)).toArray, .agg (jb (lbs 8 y)).toArray] w (jbW x y w):=by
 have hal:=yy
 have ZL:zw8.length=8:=rfl
 generalize zw8=zs at *
 have XA:Hid (∀ (o1 o2 o3:Obj),(((w.alloc o1).alloc o2).alloc o3).heap[w.heap.size]? =some o1∧(((w.alloc o1).alloc o2).alloc o3).heap[w.heap.size+1]? =some o2∧(((w.alloc o1).alloc o2).alloc o3).heap[w.heap.size+1+1]? =some o3):=fun o1 o2 o3=>⟨jF _ _ _ _,jH _ _ _ _,jB _ _ _ _⟩
 have B0:Hid (∀ o1 o2 o3,Ext w (((w.alloc o1).alloc o2).alloc o3)):=fun o1 o2 o3=>(((jnQ w).alloc _).alloc _).alloc _
 have XL:=jnz 8 x
 have YL:=jnz 8 y
 have WX:Hid (∀ j,j < 8→wd (lbs 8 x) j=lb x j):=fun j hj=>yi hj
 have WY:Hid (∀ j,j < 8→wd (lbs 8 y) j=lb y j):=fun j hj=>yi hj
 obtain ⟨m,hm⟩:=ex_ (x+4294967296 ^ 8 - y)
 have LS:Hid (∀ i,i < 8→lb m i=(lb x i+4294967296 - lb y i - bS x y i) % 4294967296):=fun i hi=>by rw [hm];exact jkq hy hi
 unfold jbW
 rw [←hm]
 clear hm hy
 have RQ:Hid (∀ vs:List Nat,vs.length=8→(∀ j,j < 8→wd vs j=lb m j)→vs=lbs 8 m):=fun vs h1 h2=>Ye h1 h2
 generalize lbs 8 m=rs at *
 generalize lbs 8 x=xs at *
 generalize lbs 8 y=ys at *
 have BN:Hid (∀ i,bS x y (i+1)=if lb x i < lb y i+bS x y i then 1 else 0):=fun i=>rfl
 have BLE:Hid (∀ i,bS x y i≤1):=jcX x y
 obtain ⟨b8,hb8⟩:=ex_ (bS x y 8)
 rw [←hb8]
 replace hb8:=Hj hb8
 go_enter Tryz.func176,Tryz.ntmps176
 go_upto_region 1 with fail
 refine jg (fun W=>Wr W w.heap.size 218 xs∧Wr W (w.heap.size+1) 218 ys∧Wr W (w.heap.size+1+1) 218 zs∧Ext w W) ⟨(XA.out _ _ _).1,(XA.out _ _ _).2.1,(XA.out _ _ _).2.2,B0.out _ _ _⟩ ?_
 clear XA B0
 rintro W0 ⟨wa,wb,wc4,e0⟩
 replace wa:=Hj wa
 replace wb:=Hj wb
 replace wc4:=Hj wc4
 replace e0:=Hj e0
 go_wp2_with fail
 go_loopw [5,8] (fun cv iv wr=>∃ (k:Nat) (vs:List Nat),k≤8∧iv= .int .i64 (k:Int)∧cv= .int .u64 (bS x y k:Int)∧vs.length=8∧(∀ j,j < k→wd vs j=lb m j)∧Below (w.heap.size+1+1) W0 wr∧Wr wr (w.heap.size+1+1) 218 vs) (fun _ iv _=>8 - (intOf iv).toNat)
 case atStart=>exact ⟨0,zs,jor _,rfl,rfl,ZL,fun j hj=>absurd hj (by omega),joo _ _,wc4.out⟩
 case round=>
  obtain ⟨k,vs,hk,rfl,rfl,vl,hv,hB,hw⟩:=hrel
  clear wc4
  by_cases hlt:k < 8
  ·have ka:=Hj (wa.out.kept hB (by omega))
   have kb:=Hj (wb.out.kept hB (by omega))
   have ca:Hid (∀ s,Ext wr s→s.cell? ⟨w.heap.size,k,none⟩=some (.int .u32 (lb x k:Int))∧s.cell? ⟨w.heap.size+1,k,none⟩=some (.int .u32 (lb y k:Int))):=fun s e=>by
    have h1:=(ka.out.kept e ka.out.lt).cell (i:=k) (by rw [XL];exact hlt)
    have h2:=(kb.out.kept e kb.out.lt).cell (i:=k) (by rw [YL];exact hlt)
    rw [WX.out k hlt] at h1
    rw [WY.out k hlt] at h2
    exact jpU h1 h2
   have h1:=yK x k
   have h2:=yK y k
   have h3:=BLE.out k
   have hz:=Hj (LS.out k hlt)
   have hc:=Hj (BN.out k)
   generalize lb x k=a at *
   generalize lb y k=b at *
   generalize bS x y k=c at *
   obtain ⟨s,hs⟩:=ex_ ((if a < b then a+18446744073709551616 - b else a - b))
   obtain ⟨T,hT⟩:=ex_ ((if a < b+c then a+18446744073709551616 - b - c else a - b - c))
   obtain ⟨z,hzz⟩:=ex_ (T % 4294967296)
   obtain ⟨d,hd⟩:=ex_ ((if a < b+c then 1 else 0))
   have hz':Hid (lb m k=z):=by
    unfold Hid
    rw [hz.out,hzz,hT]
    split <;> omega
   rw [←hd] at hc
   have f1:IntKind.u64.wrap (a:Int)=(a:Int):=by rw [jpV];omega
   have f2:IntKind.u64.wrap (b:Int)=(b:Int):=by rw [jpV];omega
   have f3:IntKind.u64.wrap ((a:Int) - (b:Int))=(s:Int):=by rw [jpV,hs];split <;> omega
   have f4:IntKind.u64.wrap ((s:Int) - (c:Int))=(T:Int):=by rw [jpV,hs,hT];split <;> split <;> omega
   have f3m:((a:Int) - (b:Int)) % 18446744073709551616=(s:Int):=by rw [hs];split <;> omega
   have f4m:((s:Int) - (c:Int)) % 18446744073709551616=(T:Int):=by rw [hs,hT];split <;> split <;> omega
   have f5:IntKind.u32.wrap (T:Int)=(z:Int):=by rw [jo8];omega
   have f5m:(T:Int) % 4294967296=(z:Int):=by omega
   have Tlt:T < 18446744073709551616:=by rw [hT];split <;> omega
   have f6:(T:Int) / 9223372036854775808=(d:Int):=by rw [hT,hd];split <;> omega
   have f6':(T:Int) / 2 ^ 63=(d:Int):=f6
   have q1:Op.shift .shr .u64 (T:Int) .u64 63=pure (.int .u64 (d:Int)):=by
    have:=shift_shr .u64 .u64 (T:Int) 63 (by omega) (by decide)
    rw [this]
    congr 2
   have ik:(k:Int) < 8:=by omega
   have ik0:(0:Int)≤(k:Int):=by omega
   have cv:=hw.cell (i:=k) (by omega)
   have fv:=hw.frozen k
   replace hs:=Hj hs
   replace hT:=Hj hT
   replace hzz:=Hj hzz
   replace hd:=Hj hd
   replace hv:=Hj hv
   replace hB:=Hj hB
   replace hw:=Hj hw
   clear h1 h2 h3
   go_wp2_with fail
   refine qgE [0,1,2,3,4,5,6,7,8,9,10,11] [] ?_
   repeat ((first | refine qR _ (fun w' e=>ca.out w' ((jnQ _).drew.trans e)) ?_ | refine qS ?_);go_frame)
   refine jp ?_
   have hw2:=Hj (hw.out.kept (jnQ wr).drew hw.out.lt)
   have hB2:Hid (Below (w.heap.size+1+1) W0 wr.drew):=jop hB.out ((jnQ wr).drew.mono (jpW hw.out.lt))
   have cv2:=hw2.out.cell (i:=k) (by omega)
   have fv2:=hw2.out.frozen k
   clear cv fv hw hB ca ka kb
   generalize wr.drew=w2 at *
   go_wp2_with fail
   refine ⟨⟨k+1,vs.set k z,by omega,by go_num,by rw [hc.out],by rw [jo7];exact vl,fun j hj=> ?_,Below.setCell hB2.out (joq _) _,hw2.out.set⟩,by simp [intOf];omega⟩
   rw [Yy (by omega)]
   by_cases e:j=k
   ·rw [if_pos e,e];exact hz'.out.symm
   ·rw [if_neg e];exact hv.out j (by omega)
  ·obtain rfl:k=8:=by omega
   have he:=RQ.out vs vl hv
   subst he
   rw [←hb8.out]
   have RS:=jf vl
   have R1:=jo vs
   have EE:Hid (Ext w wr):=jop e0.out (hB.mono (by omega))
   replace hw:=Hj hw
   clear hv hB e0 wa wb
   go_wp2_with (first
    | (refine wl_ rfl 218 rfl (w.heap.size+1+1) rfl hw.out rfl rfl (by rw [RS];rfl) ?_;go_frame)
    | (refine ws_ rfl 218 rfl (w.heap.size+1+1) (jb vs).toArray rfl rfl hw.out (by rw [RS];rfl) (by rw [RS]) R1 ?_;go_frame))
   (try simp only [jpX,Exit.then])
   refine jpY (v:= .tuple #[.agg (jb vs).toArray, .int .u64 (b8:Int)]) ?_ rfl ?_
   ·exact qj rfl _ _ (w.heap.size+1+1) 218 (jb vs).toArray (0,0) _ _ rfl rfl (jpe _ _ _ _ _ _ hw.out) rfl rfl (by rw [RS];rfl)
   ·exact ⟨rfl,jpd EE.out (by omega) _⟩
def P25:Nat:=57896044618658097711785492504343953926634992332820282019728792003956564819949
def jkx:List Nat:= [4294967277,4294967295,4294967295,4294967295,4294967295,4294967295,4294967295,2147483647]
theorem jgy:jkx=lbs 8 P25:=by decide+kernel
theorem jea:P25 < 4294967296 ^ 8:=by decide+kernel
def Gp (w:World) (tg:joE×Nat×Nat):Prop:=w.heap[1]? =some (.cells (jb (lbs 8 P25)).toArray tg.1 tg.2)
theorem Gp.lt {w:World}{tg:joE×Nat×Nat}(h:Gp w tg):1 < w.heap.size:=jh h
theorem Gp.ext {w w':World}{tg:joE×Nat×Nat}(h:Gp w tg) (e:Ext w w'):Gp w' tg:=(e.block _ h.lt).trans h
theorem jge {n:Nat}{K Z:Array Value}(hn:0 < n) (pl:Nat→Option (Nat×Nat)) (hp:pl 0=some (0,n)) (hK:K.size=n) (hZ:Z.size=n):jpq pl Z [(0, .agg K)]=some K:=by
 have hc:(jpr K).cells=K:=rfl
 simp only [jpq,hp,hc,hK,hZ]
 simp only [ne_eq,not_true_eq_false,decide_false,Bool.false_or,joB,Nat.lt_irrefl,decide_false,Bool.false_eq_true,if_false]
 have:=Great.fill_whole (s:=n) hn [jpr K] Z (fun v hv=>by
  simp only [joH] at hv
  subst hv
  exact hK) (by simp [hZ])
 simp only [List.zipIdx_cons,List.zipIdx_nil,jpC,jpH,List.flatMap_cons,List.flatMap_nil,List.append_nil,jpq,hc,hK,hZ,Nat.zero_mul] at this
 simpa using this
theorem vr (w:World):(joK 233).run joz w= .ok (.agg (jb zw8).toArray) w:=by kernel_rfl
theorem jiO:(jb zw8).toArray.size=8:=rfl
theorem Qq {K:Array Value}(hK:K.size=8):Tryz.prog.built 233 [(0, .agg K)]=some K:=by
 have h:∃ pl:Nat→Option (Nat×Nat),pl 0=some (0,8)∧∀ ps,Tryz.prog.built 233 ps=jpq pl (jb zw8).toArray ps:=⟨(#[(0,8)][·]?),rfl,fun ps=>by kernel_rfl⟩
 obtain ⟨pl,h0,h1⟩:=h
 rw [h1,jge (by omega) pl h0 hK jiO]
theorem jkB {x:Nat}(hx:x < 2*P25):lbs 8 (x % P25)=if bS x P25 8=0 then lbs 8 (x+4294967296 ^ 8 - P25) else lbs 8 x:=by
 have h1:x < 4294967296 ^ 8:=Nat.lt_trans hx (by decide+kernel)
 rw [jg7 h1 jea]
 by_cases q:x < P25
 ·rw [if_pos q,if_neg (by omega),jpO q]
 ·rw [if_neg q,if_pos rfl]
  have h2:x % P25=x - P25:=by
   rw [Nat.mod_eq_sub_mod (by omega),jpO (by omega)]
  have e:x - P25+4294967296 ^ 8=x+4294967296 ^ 8 - P25:=by
   generalize P25=p at *
   generalize 4294967296 ^ 8=M at *
   omega
  rw [h2,←ZC 8 (x - P25),e]
theorem zG {x:Nat}{w:World}(hx:x < 2*P25){tg:joE×Nat×Nat}(hG:Gp w tg):
 Calls joz 160 #[.agg (jb (lbs 8 x)).toArray] w fun e w'=>e= .returned (.agg (jb (lbs 8 (x % P25))).toArray)∧Ext w w':=by
 have SUB:Hid (∀ W,Calls joz 176 #[.agg (jb (lbs 8 x)).toArray, .agg (jb (lbs 8 P25)).toArray] W (jbW x P25 W)):=fun W=>YJ jea
 have HR:=Hj (jkB hx)
 unfold jbW at SUB
 obtain ⟨r,hr⟩:=ex_ (lbs 8 (x % P25))
 rw [←hr] at HR ⊢
 have RL:r.length=8:=by rw [hr];exact jnz _ _
 clear hr
 have XL:=jnz 8 x
 have PL:=jnz 8 P25
 have DL:=jnz 8 (x+4294967296 ^ 8 - P25)
 have BB:Hid (bS x P25 8≤1):=jcX _ _ 8
 have GP:Hid (∀ W,Ext w W→W.heap[1]? =some (.cells (jb (lbs 8 P25)).toArray tg.1 tg.2)):=fun W e=>hG.ext e
 clear hG hx
 generalize lbs 8 (x+4294967296 ^ 8 - P25)=ds at *
 generalize bS x P25 8=b at *
 generalize lbs 8 P25=ps at *
 generalize lbs 8 x=xs at *
 have XS:=jf XL
 have PS:=jf PL
 have DS:=jf DL
 have D1:=jo ds
 have X1:=jo xs
 have hal:=yy
 have hal2:=vr
 have bD:Hid (Tryz.prog.built 233 [(0, .agg (jb ds).toArray)]=some (jb ds).toArray):=Qq DS
 have bX:Hid (Tryz.prog.built 233 [(0, .agg (jb xs).toArray)]=some (jb xs).toArray):=Qq XS
 have ZL:zw8.length=8:=rfl
 generalize zw8=zs at *
 have ZS:=jf ZL
 have B0:Hid (∀ s,Ext ((w.alloc (jp0 (jb xs).toArray 218)).alloc (jp0 (jb zs).toArray 233)) s→s.heap[w.heap.size]? =some (.cells (jb xs).toArray 218 (0,0))∧s.heap[w.heap.size+1]? =some (.cells (jb zs).toArray 233 (0,0))∧Ext w s):=fun s e=>⟨(e.block _ (by rw [je,je];omega)).trans (jQ _ _ _),(e.block _ (by rw [je,je];omega)).trans (jK _ _ _),(((jnQ w).alloc _).alloc _).trans e⟩
 go_enter Tryz.func160,Tryz.ntmps160
 go_upto_region 1 with fail
 have k0:=Hj (B0.out _ (jnQ _)).1
 have kp:=Hj (GP.out _ (B0.out _ (jnQ _)).2.2)
 go_wp2_with (first
  | (refine wl_ rfl 218 rfl w.heap.size rfl k0.out rfl rfl (by rw [XS];rfl) ?_;go_frame)
  | (refine wpList_load_row rfl 218 _ rfl 1 rfl tg.1 (jb ps).toArray tg.2 _ kp.out rfl rfl (by rw [PS];rfl) ?_;go_frame))
 refine (SUB.out _).mono ?_
 rintro e v ⟨rfl,e1⟩
 have B1:Hid (∀ s,Ext v s→s.heap[w.heap.size]? =some (.cells (jb xs).toArray 218 (0,0))∧s.heap[w.heap.size+1]? =some (.cells (jb zs).toArray 233 (0,0))∧Ext w s):=fun s e=>B0.out s (e1.trans e)
 clear B0 k0 kp GP SUB e1
 have a1:Hid ((v.alloc (jp0 (jb zs).toArray 218)).heap[v.heap.size]? =some (.cells (jb zs).toArray 218 (0,0))):=jps _ _
 have e5:Ext v ((v.alloc (jp0 (jb zs).toArray 218)).setRow v.heap.size (jb ds).toArray):=jpd ((jnQ v).alloc _) (joq _) _
 go_upto_region 2 with (refine ws_ rfl 218 rfl v.heap.size (jb ds).toArray rfl rfl a1.out (by rw [DS];rfl) (by rw [DS,ZS]) D1 ?_;go_frame)
 obtain ⟨f,hf⟩:=ex_ v.heap.size
 refine jg (fun W=>W.heap[w.heap.size]? =some (.cells (jb xs).toArray 218 (0,0))∧W.heap[w.heap.size+1]? =some (.cells (jb zs).toArray 233 (0,0))∧Ext w W∧W.heap[f]? =some (.cells (jb ds).toArray 218 (0,0))) (by
  have p:=B1.out _ e5
  exact ⟨p.1,p.2.1,p.2.2,by rw [hf];exact jpe _ _ _ _ _ _ a1.out⟩) ?_
 rw [←hf]
 clear hf a1 e5 B1
 rintro w2 ⟨k0,k1,x2,kd⟩
 replace k0:=Hj k0
 replace k1:=Hj k1
 replace x2:=Hj x2
 replace kd:=Hj kd
 have BC:b=0∨b=1:=by have:=BB.out;omega
 rcases BC with rfl | rfl
 ·obtain rfl:r=ds:=by have:=HR.out;rw [if_pos rfl] at this;exact this
  go_wp2_with (first
   | (refine wl_ rfl 218 rfl f rfl kd.out rfl rfl (by rw [DS];rfl) ?_;go_frame)
   | (refine jm rfl _ _ rfl (jb r).toArray (by simp only [jpG,jpC,jpH];exact bD.out) ?_;go_frame)
   | (refine ws_ rfl 233 rfl (w.heap.size+1) (jb r).toArray rfl rfl k1.out (by rw [DS];rfl) (by rw [DS,ZS]) D1 ?_;go_frame))
  (try simp only [jpX,Exit.then])
  refine jpY (jpZ rfl _ _ (w.heap.size+1) 233 (jb r).toArray (0,0) _ rfl (jpe _ _ _ _ _ _ k1.out) rfl rfl (by rw [DS];rfl)) rfl ?_
  exact ⟨rfl,jpd x2.out (by omega) _⟩
 ·obtain rfl:r=xs:=by have:=HR.out;rw [if_neg (by omega)] at this;exact this
  go_wp2_with (first
   | (refine wl_ rfl 218 rfl w.heap.size rfl k0.out rfl rfl (by rw [XS];rfl) ?_;go_frame)
   | (refine jm rfl _ _ rfl (jb r).toArray (by simp only [jpG,jpC,jpH];exact bX.out) ?_;go_frame)
   | (refine ws_ rfl 233 rfl (w.heap.size+1) (jb r).toArray rfl rfl k1.out (by rw [XS];rfl) (by rw [XS,ZS]) X1 ?_;go_frame))
  (try simp only [jpX,Exit.then])
  refine jpY (jpZ rfl _ _ (w.heap.size+1) 233 (jb r).toArray (0,0) _ rfl (jpe _ _ _ _ _ _ k1.out) rfl rfl (by rw [XS];rfl)) rfl ?_
  exact ⟨rfl,jpd x2.out (by omega) _⟩
def cP (x n:Nat):Nat→Nat
 | 0=>n
 | i+1=>(lb x i+cP x n i) / 4294967296
theorem jjW {x n:Nat}(hn:n < 4294967296):∀ i,cP x n i < 4294967296
 | 0=>hn
 | i+1=>by have:=jjW (x:=x) hn i;have h1:=yK x i;rw [cP];omega
theorem jaC (x n:Nat):∀ i,(x+n) / 4294967296 ^ i=x / 4294967296 ^ i+cP x n i
 | 0=>by simp [cP]
 | i+1=>by
   rw [yn,jaC x n i,yn x,cP]
   unfold lb
   generalize x / 4294967296 ^ i=X
   generalize cP x n i=c
   omega
theorem jjc (x n i:Nat):lb (x+n) i=(lb x i+cP x n i) % 4294967296:=by
 unfold lb
 rw [jaC]
 generalize x / 4294967296 ^ i=X
 generalize cP x n i=c
 omega
theorem jhe {x n:Nat}(hx:x < 4294967296 ^ 8):cP x n 8=(x+n) / 4294967296 ^ 8:=by
 rw [jaC,jpT hx,joB]
def jbV (x n:Nat) (w:World) (e:Ending) (w':World):Prop:=e= .returned (.tuple #[.agg (jb (lbs 8 (x+n))).toArray, .int .u64 (cP x n 8:Int)])∧Ext w w'
theorem jeQ {x n:Nat}{w:World}(hn:n < 4294967296):
 Calls joz 178 #[.agg (jb (lbs 8 x)).toArray, .int .u64 (n:Int)] w (jbV x n w):=by
 have hal:=yy
 have ZL:zw8.length=8:=rfl
 generalize zw8=zs at *
 have XA:Hid (∀ (o1 o2:Obj),((w.alloc o1).alloc o2).heap[w.heap.size]? =some o1∧((w.alloc o1).alloc o2).heap[w.heap.size+1]? =some o2):=fun o1 o2=>⟨jQ _ _ _,jK _ _ _⟩
 have B0:Hid (∀ o1 o2,Ext w ((w.alloc o1).alloc o2)):=fun o1 o2=>((jnQ w).alloc _).alloc _
 have XL:=jnz 8 x
 have WX:Hid (∀ j,j < 8→wd (lbs 8 x) j=lb x j):=fun j hj=>yi hj
 obtain ⟨m,hm⟩:=ex_ (x+n)
 have LS:Hid (∀ i,lb m i=(lb x i+cP x n i) % 4294967296):=fun i=>by rw [hm];exact jjc x n i
 unfold jbV
 rw [←hm]
 clear hm
 have RQ:Hid (∀ vs:List Nat,vs.length=8→(∀ j,j < 8→wd vs j=lb m j)→vs=lbs 8 m):=fun vs h1 h2=>Ye h1 h2
 generalize lbs 8 m=rs at *
 generalize lbs 8 x=xs at *
 have BN:Hid (∀ i,cP x n (i+1)=(lb x i+cP x n i) / 4294967296):=fun i=>rfl
 have BLE:Hid (∀ i,cP x n i < 4294967296):=jjW hn
 obtain ⟨b8,hb8⟩:=ex_ (cP x n 8)
 rw [←hb8]
 replace hb8:=Hj hb8
 go_enter Tryz.func178,Tryz.ntmps178
 go_upto_region 2 with fail
 refine jg (fun W=>Wr W w.heap.size 218 xs∧Wr W (w.heap.size+1) 218 zs∧Ext w W) ⟨(XA.out _ _).1,(XA.out _ _).2,B0.out _ _⟩ ?_
 clear XA B0
 rintro W0 ⟨wa,wc4,e0⟩
 replace wa:=Hj wa
 replace wc4:=Hj wc4
 replace e0:=Hj e0
 go_wp2_with fail
 go_loopw [5,9] (fun cv iv wr=>∃ (k:Nat) (vs:List Nat),k≤8∧iv= .int .i64 (k:Int)∧cv= .int .u64 (cP x n k:Int)∧vs.length=8∧(∀ j,j < k→wd vs j=lb m j)∧Below (w.heap.size+1) W0 wr∧Wr wr (w.heap.size+1) 218 vs) (fun _ iv _=>8 - (intOf iv).toNat)
 case atStart=>exact ⟨0,zs,jor _,rfl,rfl,ZL,fun j hj=>absurd hj (by omega),joo _ _,wc4.out⟩
 case round=>
  obtain ⟨k,vs,hk,rfl,rfl,vl,hv,hB,hw⟩:=hrel
  clear wc4
  by_cases hlt:k < 8
  ·have ka:=wa.out.kept hB (by omega)
   have ca:=ka.cell (i:=k) (by rw [XL];exact hlt)
   rw [WX.out k hlt] at ca
   have h1:=yK x k
   have h3:=BLE.out k
   have hz:=Hj (LS.out k)
   have hc:=Hj (BN.out k)
   generalize lb x k=a at *
   generalize cP x n k=c at *
   obtain ⟨T,hT⟩:=ex_ (a+c)
   obtain ⟨z,hzz⟩:=ex_ (T % 4294967296)
   obtain ⟨d,hd⟩:=ex_ (T / 4294967296)
   rw [←hT,←hzz] at hz
   rw [←hT,←hd] at hc
   have f1:IntKind.u64.wrap (a:Int)=(a:Int):=by rw [jpV];omega
   have f4:(a:Int)+(c:Int)=(T:Int):=by omega
   have f4w:IntKind.u64.wrap (T:Int)=(T:Int):=by rw [jpV];omega
   have f5:IntKind.u32.wrap (T:Int)=(z:Int):=by rw [jo8];omega
   have f5m:(T:Int) % 4294967296=(z:Int):=by omega
   have f6:(T:Int) / 4294967296=(d:Int):=by omega
   have f6':(T:Int) / 2 ^ 32=(d:Int):=f6
   have Tlt:T < 18446744073709551616:=by omega
   have q1:Op.shift .shr .u64 (T:Int) .u64 32=pure (.int .u64 (d:Int)):=by
    have:=shift_shr .u64 .u64 (T:Int) 32 (by omega) (by decide)
    rw [this]
    congr 2
   have ik:(k:Int) < 8:=by omega
   have ik0:(0:Int)≤(k:Int):=by omega
   have cv:=hw.cell (i:=k) (by omega)
   have fv:=hw.frozen k
   replace hT:=Hj hT
   replace hzz:=Hj hzz
   replace hd:=Hj hd
   replace hv:=Hj hv
   replace hB:=Hj hB
   replace hw:=Hj hw
   clear h1 h3 ka
   go_wp2_with fail
   refine ⟨⟨k+1,vs.set k z,by omega,by go_num,by rw [hc.out],by rw [jo7];exact vl,fun j hj=> ?_,Below.setCell hB.out (joq _) _,hw.out.set⟩,by simp [intOf];omega⟩
   rw [Yy (by omega)]
   by_cases e:j=k
   ·rw [if_pos e,e];exact hz.out.symm
   ·rw [if_neg e];exact hv.out j (by omega)
  ·obtain rfl:k=8:=by omega
   have he:=RQ.out vs vl hv
   subst he
   rw [←hb8.out]
   have RS:=jf vl
   have R1:=jo vs
   have EE:Hid (Ext w wr):=jop e0.out (hB.mono (by omega))
   replace hw:=Hj hw
   clear hv hB e0 wa
   go_wp2_with (first
    | (refine wl_ rfl 218 rfl (w.heap.size+1) rfl hw.out rfl rfl (by rw [RS];rfl) ?_;go_frame)
    | (refine ws_ rfl 218 rfl (w.heap.size+1) (jb vs).toArray rfl rfl hw.out (by rw [RS];rfl) (by rw [RS]) R1 ?_;go_frame))
   (try simp only [jpX,Exit.then])
   refine jpY (v:= .tuple #[.agg (jb vs).toArray, .int .u64 (b8:Int)]) ?_ rfl ?_
   ·exact qj rfl _ _ (w.heap.size+1) 218 (jb vs).toArray (0,0) _ _ rfl rfl (jpe _ _ _ _ _ _ hw.out) rfl rfl (by rw [RS];rfl)
   ·exact ⟨rfl,jpd EE.out (by omega) _⟩
theorem jgz {us:List Nat}{k l a b c u T R Yl:Nat}(hq:k+l < us.length) (hu:wd us (k+l)=u) (hT:T=a*b+u+c) (h:yR us+c*4294967296 ^ (k+l)=R+a*Yl*4294967296 ^ k):
 yR (us.set (k+l) (T % 4294967296))+T / 4294967296*4294967296 ^ (k+(l+1))=R+a*(Yl+b*4294967296 ^ l)*4294967296 ^ k:=by
 have h1:=ja3 (vs:=us) (k:=k+l) (z:=T % 4294967296) hq
 rw [hu] at h1
 have e1:(4294967296:Nat) ^ (k+(l+1))=4294967296 ^ (k+l)*4294967296:=by rw [←Nat.add_assoc,jpP]
 have e2:a*(Yl+b*4294967296 ^ l)*4294967296 ^ k=a*Yl*4294967296 ^ k+a*b*4294967296 ^ (k+l):=by
  rw [Nat.mul_add,jp1,jpM,jpK (4294967296 ^ k),←jpL a b,jpL (a*b)]
 rw [e1,e2]
 generalize (4294967296:Nat) ^ (k+l)=P at *
 generalize a*Yl*4294967296 ^ k=Q at *
 have e3:T % 4294967296*P+T / 4294967296*(P*4294967296)=a*b*P+u*P+c*P:=by
  have:T % 4294967296*P+T / 4294967296*(P*4294967296)=T*P:=by
   rw [jpK P,←jpL,←jp1]
   congr 1
   omega
  rw [this,hT,jp1,jp1]
 generalize T % 4294967296*P=X2 at *
 generalize T / 4294967296*(P*4294967296)=X3 at *
 generalize a*b*P=X5 at *
 generalize u*P=X1 at *
 generalize c*P=X4 at *
 omega
theorem jh4 {us:List Nat}{k c x y:Nat}(hq:k+8 < us.length) (hu:wd us (k+8)=0) (hy:y < 4294967296 ^ 8) (h:yR us+c*4294967296 ^ (k+8)=x % 4294967296 ^ k*y+lb x k*(y % 4294967296 ^ 8)*4294967296 ^ k):
 yR (us.set (k+8) c)=x % 4294967296 ^ (k+1)*y:=by
 have h1:=ja3 (vs:=us) (k:=k+8) (z:=c) hq
 rw [hu,Nat.zero_mul,joR] at h1
 rw [h1,h,jpO hy,jap,jp1,jpL,jpL,jpK y]
theorem jgA {vs:List Nat}{k x y:Nat}(hb:∀ i,i < vs.length→wd vs i < 4294967296) (hy:y < 4294967296 ^ 8) (h:yR vs=x % 4294967296 ^ k*y):wd vs (k+8)=0:=by
 rw [←jcl vs hb,h]
 unfold lb
 have h1:x % 4294967296 ^ k < 4294967296 ^ k:=jo5 _ (Nat.pow_pos (by decide))
 have h2:x % 4294967296 ^ k*y < 4294967296 ^ (k+8):=by
  rw [jpM]
  exact Nat.mul_lt_mul'' h1 hy
 rw [jpT h2]
theorem jbS {vs:List Nat}{k z:Nat}(h:∀ i,i < vs.length→wd vs i < 4294967296) (hz:z < 4294967296) (hk:k < vs.length):∀ i,i < (vs.set k z).length→wd (vs.set k z) i < 4294967296:=fun i hi=>by
 rw [jo7] at hi
 rw [Yy hk]
 split
 ·exact hz
 ·exact h i hi
def jfo:List Nat:=jpp 16 0
theorem jfk (w:World):(joK 246).run joz w= .ok (.agg (jb jfo).toArray) w:=by kernel_rfl
theorem jjR:∀ i,i < jfo.length→wd jfo i < 4294967296:=fun i hi=>by
 have h:∀ i,i < 16→wd jfo i < 4294967296:=by decide
 exact h i hi
theorem jiN:yR jfo=0:=by decide
theorem jbk {x y:Nat}{w:World}(hx:x < 4294967296 ^ 8) (hy:y < 4294967296 ^ 8):
 Calls joz 165 #[.agg (jb (lbs 8 x)).toArray, .agg (jb (lbs 8 y)).toArray] w fun e w'=>e= .returned (.agg (jb (lbs 16 (x*y))).toArray)∧Ext w w':=by
 have hal:=jfk
 have ZL:jfo.length=16:=rfl
 have ZB:=Hj jjR
 have ZV:=Hj (fun _:Unit=>jiN)
 generalize jfo=zs at *
 have XA:Hid (∀ (o1 o2 o3 o4:Obj),((((w.alloc o1).alloc o2).alloc o3).alloc o4).heap[w.heap.size]? =some o1∧((((w.alloc o1).alloc o2).alloc o3).alloc o4).heap[w.heap.size+1]? =some o2∧((((w.alloc o1).alloc o2).alloc o3).alloc o4).heap[w.heap.size+1+1]? =some o3∧((((w.alloc o1).alloc o2).alloc o3).alloc o4).heap[w.heap.size+1+1+1]? =some o4):=fun o1 o2 o3 o4=>by
  have e:Ext (((w.alloc o1).alloc o2).alloc o3) ((((w.alloc o1).alloc o2).alloc o3).alloc o4):=(jnQ _).alloc _
  refine ⟨(e.block _ ?_).trans (jF _ _ _ _),(e.block _ ?_).trans (jH _ _ _ _),(e.block _ ?_).trans (jB _ _ _ _),?_⟩
  ·rw [je,je,je];omega
  ·rw [je,je,je];omega
  ·rw [je,je,je];omega
  ·have:=jps (((w.alloc o1).alloc o2).alloc o3) o4
   rwa [je,je,je] at this
 have B0:Hid (∀ o1 o2 o3 o4,Ext w ((((w.alloc o1).alloc o2).alloc o3).alloc o4)):=fun o1 o2 o3 o4=>((((jnQ w).alloc _).alloc _).alloc _).alloc _
 have XL:=jnz 8 x
 have YL:=jnz 8 y
 have WX:Hid (∀ j,j < 8→wd (lbs 8 x) j=lb x j):=fun j hj=>yi hj
 have WY:Hid (∀ j,j < 8→wd (lbs 8 y) j=lb y j):=fun j hj=>yi hj
 have RQ:Hid (∀ vs:List Nat,vs.length=16→(∀ j,j < vs.length→wd vs j < 4294967296)→yR vs=x % 4294967296 ^ 8*y→vs=lbs 16 (x*y)):=fun vs h1 h2 h3=>by
  rw [jpO hx] at h3
  rw [←h3]
  exact Ju h1 (fun i hi=>h2 i (by omega))
 generalize lbs 16 (x*y)=rs at *
 generalize lbs 8 x=xs at *
 generalize lbs 8 y=ys at *
 have PE:Hid (∀ (us:List Nat) (k c:Nat),k+8 < us.length→wd us (k+8)=0→yR us+c*4294967296 ^ (k+8)=x % 4294967296 ^ k*y+lb x k*(y % 4294967296 ^ 8)*4294967296 ^ k→yR (us.set (k+8) c)=x % 4294967296 ^ (k+1)*y):=fun us k c h1 h2 h3=>jh4 h1 h2 hy h3
 have PZ:Hid (∀ (vs:List Nat) (k:Nat),(∀ i,i < vs.length→wd vs i < 4294967296)→yR vs=x % 4294967296 ^ k*y→wd vs (k+8)=0):=fun vs k h1 h2=>jgA h1 hy h2
 have LX:Hid (∀ i,lb x i < 4294967296):=yK x
 have LY:Hid (∀ i,lb y i < 4294967296):=yK y
 clear hx hy
 go_enter Tryz.func165,Tryz.ntmps165
 go_upto_region 2 with fail
 refine jg (fun W=>Wr W w.heap.size 218 xs∧Wr W (w.heap.size+1) 218 ys∧Wr W (w.heap.size+1+1) 246 zs∧Wr W (w.heap.size+1+1+1) 246 zs∧Ext w W) ⟨(XA.out _ _ _ _).1,(XA.out _ _ _ _).2.1,(XA.out _ _ _ _).2.2.1,(XA.out _ _ _ _).2.2.2,B0.out _ _ _ _⟩ ?_
 clear XA B0
 rintro W0 ⟨wa,wb,wc4,wc5,e0⟩
 replace wa:=Hj wa
 replace wb:=Hj wb
 replace wc4:=Hj wc4
 replace wc5:=Hj wc5
 replace e0:=Hj e0
 go_wp2_with fail
 go_loopw [10] (fun iv wr=>∃ (k:Nat) (vs:List Nat),k≤8∧iv= .int .i64 (k:Int)∧vs.length=16∧(∀ j,j < vs.length→wd vs j < 4294967296)∧yR vs=x % 4294967296 ^ k*y∧Below (w.heap.size+1+1+1) W0 wr∧Wr wr (w.heap.size+1+1+1) 246 vs) (fun iv _=>8 - (intOf iv).toNat)
 case atStart=>exact ⟨0,zs,jor _,rfl,ZL,ZB.out,by rw [ZV.out ()];simp [Nat.mod_one],joo _ _,wc5.out⟩
 case round=>
  obtain ⟨k,vs,hk,rfl,vl,vb,vv,hB,hw⟩:=hrel
  clear wc5
  by_cases hlt:k < 8
  ·have ik:(k:Int) < 8:=by omega
   have ik0:(0:Int)≤(k:Int):=by omega
   have v0:=Hj (PZ.out vs k vb vv)
   replace vv:=Hj (fun _:Unit=>vv)
   replace vb:=Hj vb
   replace hB:=Hj hB
   replace hw:=Hj hw
   go_wp2_with fail
   go_loopw [7,13] (fun cv jv wr=>∃ (l c:Nat) (us:List Nat),l≤8∧jv= .int .i64 (l:Int)∧cv= .int .u64 (c:Int)∧c < 4294967296∧us.length=16∧(∀ j,j < us.length→wd us j < 4294967296)∧yR us+c*4294967296 ^ (k+l)=x % 4294967296 ^ k*y+lb x k*(y % 4294967296 ^ l)*4294967296 ^ k∧wd us (k+8)=0∧Below (w.heap.size+1+1+1) W0 wr∧Wr wr (w.heap.size+1+1+1) 246 us) (fun _ jv _=>8 - (intOf jv).toNat)
   case atStart=>exact ⟨0,0,vs,jor _,rfl,rfl,by omega,vl,vb.out,by rw [vv.out ()];simp [Nat.mod_one],v0.out,hB.out,hw.out⟩
   case round=>
    obtain ⟨l,c,us,hl,rfl,rfl,hc,ul,ub,uv,u0,hB2,hw2⟩:=hrel
    clear vv vb v0 hB hw
    by_cases hlt2:l < 8
    ·have ka:=Hj (wa.out.kept hB2 (by omega))
     have kb:=Hj (wb.out.kept hB2 (by omega))
     obtain ⟨q,hq⟩:=ex_ (k+l)
     obtain ⟨u,hu⟩:∃ u,wd us (k+l)=u:=⟨_,rfl⟩
     have u32:u < 4294967296:=by rw [←hu];exact ub _ (by omega)
     have ca:Hid (∀ s,Ext wr s→s.cell? ⟨w.heap.size,k,none⟩=some (.int .u32 (lb x k:Int))∧s.cell? ⟨w.heap.size+1,l,none⟩=some (.int .u32 (lb y l:Int))∧s.cell? ⟨w.heap.size+1+1+1,q,none⟩=some (.int .u32 (u:Int))):=fun s e=>by
      have h1:=(ka.out.kept e ka.out.lt).cell (i:=k) (by rw [XL];exact hlt)
      have h2:=(kb.out.kept e kb.out.lt).cell (i:=l) (by rw [YL];exact hlt2)
      have h3:=(hw2.kept e hw2.lt).cell (i:=q) (by omega)
      rw [WX.out k hlt] at h1
      rw [WY.out l hlt2] at h2
      rw [hq,hu,←hq] at h3
      exact jpU h1 (jpU h2 h3)
     have h1:=LX.out k
     have h2:=LY.out l
     obtain ⟨T,hT⟩:=ex_ (lb x k*lb y l+u+c)
     have hstep:=Hj (fun _:Unit=>jgz (us:=us) (by omega) hu hT uv)
     have hmod:Hid (∀ _:Unit,y % 4294967296 ^ (l+1)=y % 4294967296 ^ l+lb y l*4294967296 ^ l):=fun _=>jap y l
     have hm1:lb x k*lb y l≤18446744065119617025:=Nat.mul_le_mul (by omega:lb x k≤4294967295) (by omega:lb y l≤4294967295)
     generalize lb x k=a at *
     generalize lb y l=b at *
     obtain ⟨m,hm⟩:=ex_ (a*b)
     rw [←hm] at hT hm1
     obtain ⟨s,hs⟩:=ex_ (m+u)
     obtain ⟨z,hzz⟩:=ex_ (T % 4294967296)
     obtain ⟨d,hd⟩:=ex_ (T / 4294967296)
     rw [←hzz,←hd] at hstep
     have f1:IntKind.u64.wrap (a:Int)=(a:Int):=by rw [jpV];omega
     have f2:IntKind.u64.wrap (b:Int)=(b:Int):=by rw [jpV];omega
     have f2u:IntKind.u64.wrap (u:Int)=(u:Int):=by rw [jpV];omega
     have f0:(a:Int)*(b:Int)=(m:Int):=by rw [hm];exact (Int.natCast_mul a b).symm
     have f0w:IntKind.u64.wrap (m:Int)=(m:Int):=by rw [jpV];omega
     have f3:(m:Int)+(u:Int)=(s:Int):=by omega
     have f3w:IntKind.u64.wrap (s:Int)=(s:Int):=by rw [jpV];omega
     have f4:(s:Int)+(c:Int)=(T:Int):=by omega
     have f4w:IntKind.u64.wrap (T:Int)=(T:Int):=by rw [jpV];omega
     have f5:IntKind.u32.wrap (T:Int)=(z:Int):=by rw [jo8];omega
     have f5m:(T:Int) % 4294967296=(z:Int):=by omega
     have f6:(T:Int) / 4294967296=(d:Int):=by omega
     have f6':(T:Int) / 2 ^ 32=(d:Int):=f6
     have Tlt:T < 18446744073709551616:=by omega
     have q1:Op.shift .shr .u64 (T:Int) .u64 32=pure (.int .u64 (d:Int)):=by
      have:=shift_shr .u64 .u64 (T:Int) 32 (by omega) (by decide)
      rw [this]
      congr 2
     have fq:(k:Int)+(l:Int)=(q:Int):=by omega
     have fqw:IntKind.i64.wrap (q:Int)=(q:Int):=jp2 _ (by omega)
     have q16:(q:Int) < 16:=by omega
     have q0:(0:Int)≤(q:Int):=by omega
     have il:(l:Int) < 8:=by omega
     have il0:(0:Int)≤(l:Int):=by omega
     have z32:Hid (z < 4294967296):=by unfold Hid;omega
     have d32:d < 4294967296:=by omega
     have ql:Hid (q < us.length):=by unfold Hid;omega
     have cv:=hw2.cell (i:=q) (by omega)
     have fv:=hw2.frozen q
     rw [←hq] at hstep
     replace hq:=Hj hq
     replace hu:=Hj hu
     replace hT:=Hj hT
     replace hm:=Hj hm
     replace hs:=Hj hs
     replace hzz:=Hj hzz
     replace hd:=Hj hd
     replace ub:=Hj ub
     replace u0:=Hj u0
     replace hB2:=Hj hB2
     replace hw2:=Hj hw2
     clear h1 h2 uv u32 hm1
     go_wp2_with fail
     refine qgE [0,1,2,3,4,5,6,7,8,9,10,11,12,13,14,15,16,17,18] [] ?_
     repeat ((first | refine qR _ (fun w' e=>ca.out w' ((jnQ _).drew.trans e)) ?_ | refine qS ?_);go_frame)
     refine jp ?_
     have hw3:=Hj (hw2.out.kept (jnQ wr).drew hw2.out.lt)
     have hB3:Hid (Below (w.heap.size+1+1+1) W0 wr.drew):=jop hB2.out ((jnQ wr).drew.mono (jpW hw2.out.lt))
     have cv2:=hw3.out.cell (i:=q) ql.out
     have fv2:=hw3.out.frozen q
     clear cv fv hw2 hB2 ca ka kb
     generalize wr.drew=w2 at *
     go_wp2_with fail
     refine ⟨⟨l+1,d,us.set q z,by omega,by go_num,rfl,d32,by rw [jo7];exact ul,jbS ub.out z32.out ql.out,?_,?_,Below.setCell hB3.out (joq _) _,hw3.out.set⟩,by simp [intOf];omega⟩
     ·rw [hmod.out ()];exact hstep.out ()
     ·rw [Yy ql.out,if_neg (by have:=hq.out;omega)];exact u0.out
    ·obtain rfl:l=8:=by omega
     obtain ⟨r,hr⟩:=ex_ (k+8)
     have hend:=Hj (fun _:Unit=>PE.out us k c (by omega) u0 uv)
     rw [←hr] at hend u0
     have fr:(k:Int)+8=(r:Int):=by omega
     have frw:IntKind.i64.wrap (r:Int)=(r:Int):=jp2 _ (by omega)
     have r16:(r:Int) < 16:=by omega
     have r0:(0:Int)≤(r:Int):=by omega
     have rl:Hid (r < us.length):=by unfold Hid;omega
     have fc:IntKind.u32.wrap (c:Int)=(c:Int):=by rw [jo8];omega
     have fcm:(c:Int) % 4294967296=(c:Int):=by omega
     have cv:=hw2.cell (i:=r) (by omega)
     have fv:=hw2.frozen r
     replace hr:=Hj hr
     replace ub:=Hj ub
     replace hB2:=Hj hB2
     replace hw2:=Hj hw2
     have hc':=Hj hc
     clear uv u0 hlt2 hl
     go_wp2_with fail
     refine ⟨⟨k+1,us.set r c,by omega,by go_num,by rw [jo7];exact ul,jbS ub.out hc'.out rl.out,hend.out (),Below.setCell hB2.out (joq _) _,hw2.out.set⟩,by simp [intOf];omega⟩
  ·obtain rfl:k=8:=by omega
   have he:=RQ.out vs vl vb vv
   subst he
   have RS:=jf vl
   have R1:=jo vs
   have r4:=Hj (wc4.out.kept hB (by omega))
   have ZS:=jf ZL
   have EE:Hid (Ext w wr):=jop e0.out (hB.mono (by omega))
   replace hw:=Hj hw
   clear vb vv hB wc4 e0 wa wb
   go_wp2_with (first
    | (refine wl_ rfl 246 rfl (w.heap.size+1+1+1) rfl hw.out rfl rfl (by rw [RS];rfl) ?_;go_frame)
    | (refine ws_ rfl 246 rfl (w.heap.size+1+1) (jb vs).toArray rfl rfl r4.out (by rw [RS];rfl) (by rw [RS,ZS]) R1 ?_;go_frame))
   (try simp only [jpX,Exit.then])
   refine jpY (jpZ rfl _ _ (w.heap.size+1+1) 246 (jb vs).toArray (0,0) _ rfl (jpe _ _ _ _ _ _ r4.out) rfl rfl (by rw [RS];rfl)) rfl ?_
   exact ⟨rfl,jpd EE.out (by omega) _⟩
def M8:Nat:=4294967296 ^ 8
theorem jkS:M8=38+P25*2:=by decide+kernel
theorem Z7:0 < M8:=by decide+kernel
theorem jiq (n:Nat):(n % M8+38*(n / M8)) % P25=n % P25:=by
 have key:∀ q r:Nat,M8*q+r=(r+38*q)+P25*(2*q):=fun q r=>by
  rw [jkS,jp1,jpL P25 2 q]
  generalize P25*(2*q)=s
  omega
 have e:=(Nat.div_add_mod n M8).symm.trans (key _ _)
 have h:=congrArg (fun t=>t % P25) e
 simp only [jp3] at h
 exact h.symm
def H8:Nat:=57896044618658097711785492504343953926634992332820282019728792003956564819968
theorem jkR:H8=19+P25:=by decide+kernel
theorem jk5 (n:Nat):(n % H8+19*(n / H8)) % P25=n % P25:=by
 have key:∀ q r:Nat,H8*q+r=(r+19*q)+P25*q:=fun q r=>by
  rw [jkR,jp1]
  generalize P25*q=s
  omega
 have e:=(Nat.div_add_mod n H8).symm.trans (key _ _)
 have h:=congrArg (fun t=>t % P25) e
 simp only [jp3] at h
 exact h.symm
def fA (z:Nat):Nat:=z % M8+38*(z / M8)
def fB (z:Nat):Nat:=z % H8+19*(z / H8)
theorem jhs (z:Nat):fB (fA (fA (fA z))) % P25=z % P25:=by
 unfold fB
 rw [jk5]
 unfold fA
 rw [jiq,jiq,jiq]
theorem jkh {z:Nat}(hz:z < M8*M8):fA z < 39*M8:=by
 unfold fA
 have h1:=jo5 z Z7
 have h2:z / M8 < M8:=jn1 hz
 generalize z / M8=q at *
 generalize z % M8=r at *
 omega
theorem jki {z:Nat}(hz:z < 39*M8):fA z < M8+1444+1∧z / M8≤38:=by
 have h2:z / M8≤38:=by
  have:z / M8 < 39:=jn1 (by rw [jpK];exact hz)
  omega
 unfold fA
 have h1:=jo5 z Z7
 generalize z / M8=q at *
 generalize z % M8=r at *
 omega
theorem jhq {z:Nat}(hz:z < M8+1445):fA z < M8∧z / M8≤1:=by
 have hM:100000 < M8:=by decide+kernel
 unfold fA
 by_cases q:z < M8
 ·rw [jpO q,jpT q];omega
 ·have e1:z / M8=1:=by
   rw [show z=(z - M8)+M8 by omega,Nat.add_div_right _ Z7,jpT (by omega)]
  have e2:z % M8=z - M8:=by
   rw [Nat.mod_eq_sub_mod (by omega),jpO (by omega)]
  rw [e1,e2];omega
theorem jkX {z:Nat}(hz:z < M8):fB z < 2*P25:=by
 have hM:M8=2*H8:=by decide+kernel
 have hP:H8+19 < 2*P25:=by decide+kernel
 have hH:0 < H8:=by decide+kernel
 unfold fB
 have h1:=jo5 z hH
 have h2:z / H8 < 2:=jn1 (by rw [jpK,←hM];exact hz)
 generalize z / H8=q at *
 generalize z % H8=r at *
 omega
def cM (x y:Nat):Nat→Nat
 | 0=>0
 | i+1=>(lb x i+38*lb y i+cM x y i) / 4294967296
theorem jjV (x y:Nat):∀ i,cM x y i≤38
 | 0=>jor _
 | i+1=>by have:=jjV x y i;have h1:=yK x i;have h2:=yK y i;rw [cM];omega
theorem jcm (x y:Nat):∀ i,(x+38*y) / 4294967296 ^ i=x / 4294967296 ^ i+38*(y / 4294967296 ^ i)+cM x y i
 | 0=>by simp [cM]
 | i+1=>by
   rw [yn,jcm x y i,yn x,yn y,cM]
   unfold lb
   generalize x / 4294967296 ^ i=X
   generalize y / 4294967296 ^ i=Y
   generalize cM x y i=c
   omega
theorem jkp (x y i:Nat):lb (x+38*y) i=(lb x i+38*lb y i+cM x y i) % 4294967296:=by
 unfold lb
 rw [jcm]
 generalize x / 4294967296 ^ i=X
 generalize y / 4294967296 ^ i=Y
 generalize cM x y i=c
 omega
theorem jko {z i:Nat}(h:i < 8):lb (z % M8) i=lb z i:=by
 have h1:=congrArg (fun l=>wd l i) (jfJ 8 z)
 simp only [yi h] at h1
 exact h1
theorem jjb (z i:Nat):lb (z / M8) i=lb z (i+8):=by
 unfold lb M8
 rw [jpS,←jpM,Nat.add_comm 8 i]
theorem jhc {z:Nat}(hz:z < M8*M8):cM (z % M8) (z / M8) 8=fA z / M8:=by
 have h:=jcm (z % M8) (z / M8) 8
 have h1:(z % M8) / 4294967296 ^ 8=0:=jpT (jo5 z Z7)
 have h2:(z / M8) / 4294967296 ^ 8=0:=jpT (jn1 hz)
 rw [h1,h2] at h
 unfold fA M8 at *
 omega
theorem jcM {z:Nat}(hz:z < M8):lb z 7 / 2147483648=z / H8∧(lbs 8 z).set 7 (lb z 7 % 2147483648)=lbs 8 (z % H8):=by
 have e0:lb z 7=z / 4294967296 ^ 7:=by
  unfold lb
  exact jpO (jn1 (by rw [←jpP];exact hz))
 have eH:H8=4294967296 ^ 7*2147483648:=by decide+kernel
 refine ⟨by rw [e0,jpS,←eH],?_⟩
 refine Ye (by rw [jo7,jnz]) fun j hj=> ?_
 rw [Yy (by rw [jnz];omega)]
 by_cases q:j=7
 ·rw [if_pos q,q,e0]
  unfold lb
  rw [eH,Nat.mod_mul_right_div_self]
  exact (jpO (Nat.lt_trans (jo5 _ (by decide)) (by decide))).symm
 ·rw [if_neg q,yi hj]
  have h6:j+(7 - j)=7:=by omega
  unfold lb
  have e1:H8=4294967296 ^ j*(4294967296*(4294967296 ^ (7 - j - 1)*2147483648)):=by
   rw [eH,←jpL 4294967296,←Nat.pow_succ',←jpL,←jpM]
   congr 2
   omega
  rw [e1,Nat.mod_mul_right_div_self,Nat.mod_mul_right_mod]
theorem jh2 {z n:Nat}{w:World}(hn:n < 4294967296):Calls joz 178 #[.agg (jb (lbs 8 z)).toArray, .int .u64 (n:Int)] w fun e w'=>e= .returned (.tuple #[.agg (jb (lbs 8 (z % M8+n))).toArray, .int .u64 ((z % M8+n) / M8:Nat)])∧Ext w w':=by
 have:=jeQ (x:=z % M8) (n:=n) (w:=w) hn
 unfold jbV at this
 rw [show cP (z % M8) n 8=(z % M8+n) / M8 from jhe (jo5 z Z7),show lbs 8 (z % M8)=lbs 8 z from jfJ 8 z] at this
 exact this
theorem jcd {z:Nat}{w:World}(hz:z < M8*M8){tg:joE×Nat×Nat}(hG:Gp w tg):
 Calls joz 164 #[.agg (jb (lbs 16 z)).toArray] w fun e w'=>e= .returned (.agg (jb (lbs 8 (z % P25))).toArray)∧Ext w w':=by
 have hS:=jkh hz
 obtain ⟨hS1,hh1⟩:=jki hS
 obtain ⟨hS2,hh2⟩:=jhq (show fA (fA z) < M8+1445 from hS1)
 have hS3:=jkX hS2
 have htop:=(jcM hS2).1
 have hset:=(jcM hS2).2
 have hq:fA (fA (fA z)) / H8 < 2:=jn1 (by rw [jpK];exact Nat.lt_of_lt_of_eq hS2 (by decide+kernel))
 have PL1:Hid (∀ (W:World) (n:Nat),n=38*(fA z / M8)→Calls joz 178 #[.agg (jb (lbs 8 (fA z))).toArray, .int .u64 (n:Int)] W fun e w'=>e= .returned (.tuple #[.agg (jb (lbs 8 (fA (fA z)))).toArray, .int .u64 (fA (fA z) / M8:Nat)])∧Ext W w'):=fun W n hn=>by
  subst hn
  exact jh2 (by omega)
 have PL2:Hid (∀ (W:World) (n:Nat),n=38*(fA (fA z) / M8)→Calls joz 178 #[.agg (jb (lbs 8 (fA (fA z)))).toArray, .int .u64 (n:Int)] W fun e w'=>e= .returned (.tuple #[.agg (jb (lbs 8 (fA (fA (fA z))))).toArray, .int .u64 (fA (fA (fA z)) / M8:Nat)])∧Ext W w'):=fun W n hn=>by
  subst hn
  exact jh2 (by omega)
 have PL3:Hid (∀ (W:World) (n:Nat),n=19*(fA (fA (fA z)) / H8)→Calls joz 178 #[.agg (jb (lbs 8 (fA (fA (fA z)) % H8))).toArray, .int .u64 (n:Int)] W fun e w'=>∃ c:Nat,e= .returned (.tuple #[.agg (jb (lbs 8 (fB (fA (fA (fA z)))))).toArray, .int .u64 (c:Int)])∧Ext W w'):=fun W n hn=>by
  subst hn
  refine (jh2 (w:=W) (z:=fA (fA (fA z)) % H8) (n:=19*(fA (fA (fA z)) / H8)) (by omega)).mono ?_
  rintro e w' ⟨rfl,x⟩
  rw [jpO (show fA (fA (fA z)) % H8 < M8 from jo6 (Nat.mod_le _ _) hS2)]
  exact ⟨_,rfl,x⟩
 have RED:Hid (∀ (W:World),Ext w W→Calls joz 160 #[.agg (jb (lbs 8 (fB (fA (fA (fA z)))))).toArray] W fun e w'=>e= .returned (.agg (jb (lbs 8 (z % P25))).toArray)∧Ext W w'):=fun W e=>by
  rw [←jhs z]
  exact zG hS3 (hG.ext e)
 have ZX:Hid (∀ j,j < 16→wd (lbs 16 z) j=lb z j):=fun j hj=>yi hj
 have XL:=jnz 16 z
 obtain ⟨x,hx⟩:=ex_ (z % M8)
 obtain ⟨y,hy⟩:=ex_ (z / M8)
 have LX:Hid (∀ j,j < 8→lb z j=lb x j):=fun j hj=>by rw [hx];exact (jko hj).symm
 have LY:Hid (∀ j,lb z (j+8)=lb y j):=fun j=>by rw [hy];exact (jjb z j).symm
 have C8:Hid (cM x y 8=fA z / M8):=by unfold Hid;rw [hx,hy];exact jhc hz
 have LS:Hid (∀ i,lb (fA z) i=(lb x i+38*lb y i+cM x y i) % 4294967296):=fun i=>by unfold fA;rw [←hx,←hy];exact jkp x y i
 have RQ:Hid (∀ vs:List Nat,vs.length=8→(∀ j,j < 8→wd vs j=lb (fA z) j)→vs=lbs 8 (fA z)):=fun vs h1 h2=>Ye h1 h2
 have L0:=jnz 8 (fA z)
 have L1:=jnz 8 (fA (fA z))
 have L2:=jnz 8 (fA (fA (fA z)))
 have L2b:=jnz 8 (fA (fA (fA z)) % H8)
 have L3:=jnz 8 (fB (fA (fA (fA z))))
 have LR:=jnz 8 (z % P25)
 have W7:Hid (wd (lbs 8 (fA (fA (fA z)))) 7=lb (fA (fA (fA z))) 7):=yi (by omega)
 have h7:=yK (fA (fA (fA z))) 7
 clear hG hS hS1 hS2 hS3 hx hy hz
 generalize lbs 8 (fB (fA (fA (fA z))))=l3 at *
 generalize lbs 8 (fA (fA (fA z)) % H8)=l2b at *
 generalize fA (fA (fA z)) / H8=tp at *
 generalize lb (fA (fA (fA z))) 7=w7 at *
 generalize lbs 8 (fA (fA (fA z)))=l2 at *
 generalize fA (fA (fA z)) / M8=h3 at *
 generalize fA (fA z) / M8=h2 at *
 generalize lbs 8 (fA (fA z))=l1 at *
 generalize fA z / M8=h1 at *
 generalize hm:fA z=m at *
 clear hm
 generalize lbs 8 m=l0 at *
 generalize lbs 8 (z % P25)=lr at *
 generalize lbs 16 z=zz at *
 have BN:Hid (∀ i,cM x y (i+1)=(lb x i+38*lb y i+cM x y i) / 4294967296):=fun i=>rfl
 have BLE:Hid (∀ i,cM x y i≤38):=jjV x y
 replace htop:=Hj htop
 replace hset:=Hj hset
 have hal:=yy
 have hal2:=vr
 have ZL:zw8.length=8:=rfl
 generalize zw8=zs at *
 have ZS:=jf ZL
 have XA:Hid (∀ (o1 o2 o3:Obj),(((w.alloc o1).alloc o2).alloc o3).heap[w.heap.size]? =some o1∧(((w.alloc o1).alloc o2).alloc o3).heap[w.heap.size+1]? =some o2∧(((w.alloc o1).alloc o2).alloc o3).heap[w.heap.size+1+1]? =some o3):=fun o1 o2 o3=>⟨jF _ _ _ _,jH _ _ _ _,jB _ _ _ _⟩
 have B0:Hid (∀ o1 o2 o3,Ext w (((w.alloc o1).alloc o2).alloc o3)):=fun o1 o2 o3=>(((jnQ w).alloc _).alloc _).alloc _
 go_enter Tryz.func164,Tryz.ntmps164
 go_upto_region 2 with fail
 refine jg (fun W=>Wr W w.heap.size 246 zz∧Wr W (w.heap.size+1) 233 zs∧Wr W (w.heap.size+1+1) 218 zs∧Ext w W) ⟨(XA.out _ _ _).1,(XA.out _ _ _).2.1,(XA.out _ _ _).2.2,B0.out _ _ _⟩ ?_
 clear XA B0
 rintro W0 ⟨wa,we,wc4,e0⟩
 replace wa:=Hj wa
 replace we:=Hj we
 replace wc4:=Hj wc4
 replace e0:=Hj e0
 go_wp2_with fail
 go_loopw [4,8] (fun cv iv wr=>∃ (k:Nat) (vs:List Nat),k≤8∧iv= .int .i64 (k:Int)∧cv= .int .u64 (cM x y k:Int)∧vs.length=8∧(∀ j,j < k→wd vs j=lb m j)∧Below (w.heap.size+1+1) W0 wr∧Wr wr (w.heap.size+1+1) 218 vs) (fun _ iv _=>8 - (intOf iv).toNat)
 case atStart=>exact ⟨0,zs,jor _,rfl,rfl,ZL,fun j hj=>absurd hj (by omega),joo _ _,wc4.out⟩
 case round=>
  obtain ⟨k,vs,hk,rfl,rfl,vl,hv,hB,hw⟩:=hrel
  clear wc4
  by_cases hlt:k < 8
  ·have ka:=Hj (wa.out.kept hB (by omega))
   obtain ⟨q,hqq⟩:=ex_ (k+8)
   have ca:Hid (∀ s,Ext wr s→s.cell? ⟨w.heap.size,k,none⟩=some (.int .u32 (lb x k:Int))∧s.cell? ⟨w.heap.size,q,none⟩=some (.int .u32 (lb y k:Int))):=fun s e=>by
    have g1:=(ka.out.kept e ka.out.lt).cell (i:=k) (by omega)
    have g2:=(ka.out.kept e ka.out.lt).cell (i:=q) (by omega)
    rw [ZX.out k (by omega),LX.out k hlt] at g1
    rw [ZX.out q (by omega),hqq,LY.out k,←hqq] at g2
    exact jpU g1 g2
   have g1:=yK x k
   have g2:=yK y k
   have g3:=BLE.out k
   have hzq:=Hj (LS.out k)
   have hc:=Hj (BN.out k)
   generalize lb x k=a at *
   generalize lb y k=b at *
   generalize cM x y k=c at *
   obtain ⟨n38,hn38⟩:=ex_ (38*b)
   obtain ⟨s,hs⟩:=ex_ (a+n38)
   obtain ⟨T,hT⟩:=ex_ (a+38*b+c)
   obtain ⟨v,hvv⟩:=ex_ (T % 4294967296)
   obtain ⟨d,hd⟩:=ex_ (T / 4294967296)
   rw [←hT,←hvv] at hzq
   rw [←hT,←hd] at hc
   have f1:IntKind.u64.wrap (a:Int)=(a:Int):=by rw [jpV];omega
   have f2:IntKind.u64.wrap (b:Int)=(b:Int):=by rw [jpV];omega
   have f0:(38:Int)*(b:Int)=(n38:Int):=by omega
   have f0w:IntKind.u64.wrap (n38:Int)=(n38:Int):=by rw [jpV];omega
   have f3:(a:Int)+(n38:Int)=(s:Int):=by omega
   have f3w:IntKind.u64.wrap (s:Int)=(s:Int):=by rw [jpV];omega
   have f4:(s:Int)+(c:Int)=(T:Int):=by omega
   have f4w:IntKind.u64.wrap (T:Int)=(T:Int):=by rw [jpV];omega
   have f5:IntKind.u32.wrap (T:Int)=(v:Int):=by rw [jo8];omega
   have f5m:(T:Int) % 4294967296=(v:Int):=by omega
   have f6:(T:Int) / 4294967296=(d:Int):=by omega
   have f6':(T:Int) / 2 ^ 32=(d:Int):=f6
   have Tlt:T < 18446744073709551616:=by omega
   have q1:Op.shift .shr .u64 (T:Int) .u64 32=pure (.int .u64 (d:Int)):=by
    have:=shift_shr .u64 .u64 (T:Int) 32 (by omega) (by decide)
    rw [this]
    congr 2
   have fq:(k:Int)+8=(q:Int):=by omega
   have fqw:IntKind.i64.wrap (q:Int)=(q:Int):=jp2 _ (by omega)
   have q16:(q:Int) < 16:=by omega
   have q0:(0:Int)≤(q:Int):=by omega
   have ik:(k:Int) < 8:=by omega
   have ik16:(k:Int) < 16:=by omega
   have ik0:(0:Int)≤(k:Int):=by omega
   have cv:=hw.cell (i:=k) (by omega)
   have fv:=hw.frozen k
   replace hqq:=Hj hqq
   replace hn38:=Hj hn38
   replace hs:=Hj hs
   replace hT:=Hj hT
   replace hvv:=Hj hvv
   replace hd:=Hj hd
   replace hv:=Hj hv
   replace hB:=Hj hB
   replace hw:=Hj hw
   clear g1 g2 g3
   go_wp2_with fail
   refine qgE [0,1,2,3,4,5,6,7,8,9,10,11,12,13] [] ?_
   repeat ((first | refine qR _ (fun w' e=>ca.out w' ((jnQ _).drew.trans e)) ?_ | refine qS ?_);go_frame)
   refine jp ?_
   have hw2:=Hj (hw.out.kept (jnQ wr).drew hw.out.lt)
   have hB2:Hid (Below (w.heap.size+1+1) W0 wr.drew):=jop hB.out ((jnQ wr).drew.mono (jpW hw.out.lt))
   have cv2:=hw2.out.cell (i:=k) (by omega)
   have fv2:=hw2.out.frozen k
   clear cv fv hw hB ca ka
   generalize wr.drew=w2 at *
   go_wp2_with fail
   refine ⟨⟨k+1,vs.set k v,by omega,by go_num,by rw [hc.out],by rw [jo7];exact vl,fun j hj=> ?_,Below.setCell hB2.out (joq _) _,hw2.out.set⟩,by simp [intOf];omega⟩
   rw [Yy (by omega)]
   by_cases e:j=k
   ·rw [if_pos e,e];exact hzq.out.symm
   ·rw [if_neg e];exact hv.out j (by omega)
  ·obtain rfl:k=8:=by omega
   have he:=RQ.out vs vl hv
   subst he
   rw [C8.out]
   have r4:=Hj (we.out.kept hB (by omega))
   have EE:Hid (Ext w wr):=jop e0.out (hB.mono (by omega))
   clear hv hB e0 wa we C8 LS BN BLE LX LY ZX RQ XL hk hlt
   have S0:=jf vl
   have S1:=jf L1
   have S2:=jf L2
   have S2b:=jf L2b
   have S3:=jf L3
   have SR:=jf LR
   have O1:=jo l1
   have O2:=jo l2
   have O3:=jo l3
   have OR:=jo lr
   obtain ⟨n1,hn1⟩:=ex_ (38*h1)
   have g1:(38:Int)*(h1:Int)=(n1:Int):=by omega
   have g1w:IntKind.u64.wrap (n1:Int)=(n1:Int):=by rw [jpV];omega
   obtain ⟨n2,hn2⟩:=ex_ (38*h2)
   have g2:(38:Int)*(h2:Int)=(n2:Int):=by omega
   have g2w:IntKind.u64.wrap (n2:Int)=(n2:Int):=by rw [jpV];omega
   obtain ⟨n3,hn3⟩:=ex_ (19*tp)
   have g3:(19:Int)*(tp:Int)=(n3:Int):=by omega
   have g3w:IntKind.u64.wrap (n3:Int)=(n3:Int):=by rw [jpV];omega
   have t1:(w7:Int) / 2147483648=(tp:Int):=by have:=htop.out;omega
   have t1':(w7:Int) / 2 ^ 31=(tp:Int):=t1
   have t1w:IntKind.u64.wrap (tp:Int)=(tp:Int):=by rw [jpV];omega
   have q1:Op.shift .shr .u32 (w7:Int) .u64 31=pure (.int .u32 (tp:Int)):=by
    have:=shift_shr .u32 .u64 (w7:Int) 31 (by omega) (by decide)
    rw [this]
    congr 2
   obtain ⟨v7,hv7⟩:=ex_ (w7 % 2147483648)
   rw [←hv7] at hset
   have t2:bits .andNot .u32 (w7:Int) 2147483648=(v7:Int):=by
    have:=u32_andNot_nat w7 2147483648 (by omega) (by omega)
    rw [hv7,←Nat.and_two_pow_sub_one_eq_mod w7 31]
    exact this
   replace hn1:=Hj hn1
   replace hn2:=Hj hn2
   replace hn3:=Hj hn3
   replace hv7:=Hj hv7
   replace hw:=Hj hw
   have K0:Hid (Wr wr (w.heap.size+1+1) 218 vs∧Wr wr (w.heap.size+1) 233 zs∧Ext w wr):=⟨hw.out,r4.out,EE.out⟩
   clear hw r4 EE
   have k0:=Hj K0.out.1
   go_wp2_with (refine wl_ rfl 218 rfl (w.heap.size+1+1) rfl k0.out rfl rfl (by rw [S0];rfl) ?_;go_frame)
   refine (PL1.out _ n1 hn1.out).mono ?_
   rintro e v1 ⟨rfl,e1⟩
   have r1:=Hj ((e1.block _ k0.out.lt).trans k0.out)
   have re1:=Hj (K0.out.2.1.kept e1 K0.out.2.1.lt)
   have rx1:Hid (Ext w v1):=K0.out.2.2.trans e1
   clear K0 k0 e1
   go_upto_region 11 with (refine ws_ rfl 218 rfl (w.heap.size+1+1) (jb l1).toArray rfl rfl r1.out (by rw [S1];rfl) (by rw [S1,S0]) O1 ?_;go_frame)
   refine jg (fun W=>Wr W (w.heap.size+1+1) 218 l1∧Wr W (w.heap.size+1) 233 zs∧Ext w W) ⟨jpe _ _ _ _ _ _ r1.out,(jpA _ _ _ _ (by omega)).trans re1.out,jpd rx1.out (by omega) _⟩ ?_
   clear r1 re1 rx1
   rintro u1 K1'
   have K1:=Hj K1'
   clear K1'
   have k0:=Hj K1.out.1
   go_wp2_with (refine wl_ rfl 218 rfl (w.heap.size+1+1) rfl k0.out rfl rfl (by rw [S1];rfl) ?_;go_frame)
   refine (PL2.out _ n2 hn2.out).mono ?_
   rintro e v2 ⟨rfl,e1⟩
   have r2:=Hj ((e1.block _ k0.out.lt).trans k0.out)
   have re2:=Hj (K1.out.2.1.kept e1 K1.out.2.1.lt)
   have rx2:Hid (Ext w v2):=K1.out.2.2.trans e1
   clear K1 k0 e1
   go_upto_region 12 with (refine ws_ rfl 218 rfl (w.heap.size+1+1) (jb l2).toArray rfl rfl r2.out (by rw [S2];rfl) (by rw [S2,S1]) O2 ?_;go_frame)
   refine jg (fun W=>Wr W (w.heap.size+1+1) 218 l2∧Wr W (w.heap.size+1) 233 zs∧Ext w W) ⟨jpe _ _ _ _ _ _ r2.out,(jpA _ _ _ _ (by omega)).trans re2.out,jpd rx2.out (by omega) _⟩ ?_
   clear r2 re2 rx2
   rintro u2 K2'
   have K2:=Hj K2'
   clear K2'
   have c7:=K2.out.1.cell (i:=7) (by omega)
   have z7:=K2.out.1.frozen 7
   rw [W7.out] at c7
   have KB:Hid (Wr (u2.setCell ⟨w.heap.size+1+1,7,none⟩ (.int .u32 (v7:Int))) (w.heap.size+1+1) 218 l2b∧Wr (u2.setCell ⟨w.heap.size+1+1,7,none⟩ (.int .u32 (v7:Int))) (w.heap.size+1) 233 zs∧Ext w (u2.setCell ⟨w.heap.size+1+1,7,none⟩ (.int .u32 (v7:Int)))):=by
    refine ⟨?_,(jo9 _ _ _ _ (show w.heap.size+1≠w.heap.size+1+1 by omega)).trans K2.out.2.1,K2.out.2.2.setCell (show w.heap.size≤w.heap.size+1+1 by omega) _⟩
    have:=K2.out.1.set (k:=7) (x:=v7)
    rwa [hset.out] at this
   go_upto_region 14 with fail
   refine jg (fun W=>Wr W (w.heap.size+1+1) 218 l2b∧Wr W (w.heap.size+1) 233 zs∧Ext w W) KB.out ?_
   clear KB c7 z7 K2
   rintro u2 K2'
   have K2:=Hj K2'
   clear K2'
   have k0:=Hj K2.out.1
   go_wp2_with (refine wl_ rfl 218 rfl (w.heap.size+1+1) rfl k0.out rfl rfl (by rw [S2b];rfl) ?_;go_frame)
   refine (PL3.out _ n3 hn3.out).mono ?_
   rintro e v3 ⟨cc,rfl,e1⟩
   have r3:=Hj ((e1.block _ k0.out.lt).trans k0.out)
   have re3:=Hj (K2.out.2.1.kept e1 K2.out.2.1.lt)
   have rx3:Hid (Ext w v3):=K2.out.2.2.trans e1
   clear K2 k0 e1
   go_upto_region 15 with (refine ws_ rfl 218 rfl (w.heap.size+1+1) (jb l3).toArray rfl rfl r3.out (by rw [S3];rfl) (by rw [S3,S2b]) O3 ?_;go_frame)
   refine jg (fun W=>Wr W (w.heap.size+1+1) 218 l3∧Wr W (w.heap.size+1) 233 zs∧Ext w W) ⟨jpe _ _ _ _ _ _ r3.out,(jpA _ _ _ _ (by omega)).trans re3.out,jpd rx3.out (by omega) _⟩ ?_
   clear r3 re3 rx3
   rintro u3 K3'
   have K3:=Hj K3'
   clear K3'
   have k0:=Hj K3.out.1
   go_wp2_with (refine wl_ rfl 218 rfl (w.heap.size+1+1) rfl k0.out rfl rfl (by rw [S3];rfl) ?_;go_frame)
   refine (RED.out _ K3.out.2.2).mono ?_
   rintro e v4 ⟨rfl,e1⟩
   have re:=Hj (K3.out.2.1.kept e1 K3.out.2.1.lt)
   have rx:Hid (Ext w v4):=K3.out.2.2.trans e1
   clear K3 k0 e1
   go_wp2_with (refine ws_ rfl 233 rfl (w.heap.size+1) (jb lr).toArray rfl rfl re.out (by rw [SR];rfl) (by rw [SR,ZS]) OR ?_;go_frame)
   (try simp only [jpX,Exit.then])
   refine jpY (jpZ rfl _ _ (w.heap.size+1) 233 (jb lr).toArray (0,0) _ rfl (jpe _ _ _ _ _ _ re.out) rfl rfl (by rw [SR];rfl)) rfl ?_
   exact ⟨rfl,jpd rx.out (by omega) _⟩
def eV (x:Nat):Value:= .agg (jb (lbs 8 x)).toArray
theorem YO:0 < P25:=by decide+kernel
theorem jg0:P25 < M8:=by decide+kernel
theorem YW {x y:Nat}{w:World}(hx:x < P25) (hy:y < P25){tg:joE×Nat×Nat}(hG:Gp w tg):
 Calls joz 161 #[eV x,eV y] w fun e w'=>e= .returned (eV ((x+y) % P25))∧Ext w w':=by
 have C1:Hid (∀ W,Calls joz 177 #[.agg (jb (lbs 8 x)).toArray, .agg (jb (lbs 8 y)).toArray] W fun e w'=>e= .returned (.agg (jb (lbs 8 (x+y))).toArray)∧Ext W w'):=fun W=>Zu
 have C2:Hid (∀ W,Ext w W→Calls joz 160 #[.agg (jb (lbs 8 (x+y))).toArray] W fun e w'=>e= .returned (.agg (jb (lbs 8 ((x+y) % P25))).toArray)∧Ext W w'):=fun W e=>zG (by omega) (hG.ext e)
 clear hG
 unfold eV
 have XL:=jnz 8 x
 have YL:=jnz 8 y
 have RL:=jnz 8 ((x+y) % P25)
 generalize lbs 8 ((x+y) % P25)=rr at *
 generalize lbs 8 x=xs at *
 generalize lbs 8 y=ys at *
 generalize lbs 8 (x+y)=ms at *
 have XS:=jf XL
 have YS:=jf YL
 have RS:=jf RL
 have OR:=jo rr
 have hal2:=vr
 have hal:=yy
 have ZL:zw8.length=8:=rfl
 generalize zw8=zs at *
 have ZS:=jf ZL
 have B0:Hid (∀ s,Ext (((w.alloc (jp0 (jb xs).toArray 233)).alloc (jp0 (jb ys).toArray 233)).alloc (jp0 (jb zs).toArray 233)) s→Wr s w.heap.size 233 xs∧Wr s (w.heap.size+1) 233 ys∧Wr s (w.heap.size+1+1) 233 zs∧Ext w s):=fun s e=>⟨(e.block _ (by rw [je,je,je];omega)).trans (jF _ _ _ _),(e.block _ (by rw [je,je,je];omega)).trans (jH _ _ _ _),(e.block _ (by rw [je,je,je];omega)).trans (jB _ _ _ _),((((jnQ w).alloc _).alloc _).alloc _).trans e⟩
 go_enter Tryz.func161,Tryz.ntmps161
 go_upto_region 1 with fail
 refine jg (fun W=>∀ s,Ext W s→Wr s w.heap.size 233 xs∧Wr s (w.heap.size+1) 233 ys∧Wr s (w.heap.size+1+1) 233 zs∧Ext w s) B0.out ?_
 clear B0
 rintro w0 B0
 replace B0:=Hj B0
 have ka:=Hj (B0.out _ (jnQ _)).1
 have kb:=Hj (B0.out _ (jnQ _)).2.1
 go_wp2_with (first
  | (refine wpList_load_row rfl 218 _ rfl w.heap.size rfl 233 (jb xs).toArray (0,0) _ ka.out rfl rfl (by rw [XS];rfl) ?_;go_frame)
  | (refine wpList_load_row rfl 218 _ rfl (w.heap.size+1) rfl 233 (jb ys).toArray (0,0) _ kb.out rfl rfl (by rw [YS];rfl) ?_;go_frame))
 refine (C1.out _).mono ?_
 rintro e w1 ⟨rfl,e1⟩
 go_wp2_with fail
 refine (C2.out _ (B0.out _ e1).2.2.2).mono ?_
 rintro e w2 ⟨rfl,e2⟩
 obtain ⟨-, -,kr,kx⟩:=B0.out _ (e1.trans e2)
 replace kr:=Hj kr
 replace kx:=Hj kx
 clear B0 ka kb C1 C2 e1 e2
 go_wp2_with (refine ws_ rfl 233 rfl (w.heap.size+1+1) (jb rr).toArray rfl rfl kr.out (by rw [RS];rfl) (by rw [RS,ZS]) OR ?_;go_frame)
 (try simp only [jpX,Exit.then])
 refine jpY (jpZ rfl _ _ (w.heap.size+1+1) 233 (jb rr).toArray (0,0) _ rfl (jpe _ _ _ _ _ _ kr.out) rfl rfl (by rw [RS];rfl)) rfl ?_
 exact ⟨rfl,jpd kx.out (by omega) _⟩
theorem qP {x y:Nat}{w:World}(hx:x < P25) (hy:y < P25){tg:joE×Nat×Nat}(hG:Gp w tg):
 Calls joz 141 #[eV x,eV y] w fun e w'=>e= .returned (eV (x*y % P25))∧Ext w w':=by
 have hxM:=Nat.lt_trans hx jg0
 have hyM:=Nat.lt_trans hy jg0
 have C1:Hid (∀ W,Calls joz 165 #[.agg (jb (lbs 8 x)).toArray, .agg (jb (lbs 8 y)).toArray] W fun e w'=>e= .returned (.agg (jb (lbs 16 (x*y))).toArray)∧Ext W w'):=fun W=>jbk hxM hyM
 have C2:Hid (∀ W,Ext w W→Calls joz 164 #[.agg (jb (lbs 16 (x*y))).toArray] W fun e w'=>e= .returned (.agg (jb (lbs 8 (x*y % P25))).toArray)∧Ext W w'):=fun W e=>jcd (Nat.mul_lt_mul'' hxM hyM) (hG.ext e)
 clear hG
 unfold eV
 have XL:=jnz 8 x
 have YL:=jnz 8 y
 have RL:=jnz 8 (x*y % P25)
 generalize lbs 8 (x*y % P25)=rr at *
 generalize lbs 8 x=xs at *
 generalize lbs 8 y=ys at *
 generalize lbs 16 (x*y)=ms at *
 have XS:=jf XL
 have YS:=jf YL
 have RS:=jf RL
 have OR:=jo rr
 have hal2:=vr
 have hal:=yy
 have ZL:zw8.length=8:=rfl
 generalize zw8=zs at *
 have ZS:=jf ZL
 have B0:Hid (∀ s,Ext (((w.alloc (jp0 (jb xs).toArray 233)).alloc (jp0 (jb ys).toArray 233)).alloc (jp0 (jb zs).toArray 233)) s→Wr s w.heap.size 233 xs∧Wr s (w.heap.size+1) 233 ys∧Wr s (w.heap.size+1+1) 233 zs∧Ext w s):=fun s e=>⟨(e.block _ (by rw [je,je,je];omega)).trans (jF _ _ _ _),(e.block _ (by rw [je,je,je];omega)).trans (jH _ _ _ _),(e.block _ (by rw [je,je,je];omega)).trans (jB _ _ _ _),((((jnQ w).alloc _).alloc _).alloc _).trans e⟩
 go_enter Tryz.func141,Tryz.ntmps141
 go_upto_region 1 with fail
 refine jg (fun W=>∀ s,Ext W s→Wr s w.heap.size 233 xs∧Wr s (w.heap.size+1) 233 ys∧Wr s (w.heap.size+1+1) 233 zs∧Ext w s) B0.out ?_
 clear B0
 rintro w0 B0
 replace B0:=Hj B0
 have ka:=Hj (B0.out _ (jnQ _)).1
 have kb:=Hj (B0.out _ (jnQ _)).2.1
 go_wp2_with (first
  | (refine wpList_load_row rfl 218 _ rfl w.heap.size rfl 233 (jb xs).toArray (0,0) _ ka.out rfl rfl (by rw [XS];rfl) ?_;go_frame)
  | (refine wpList_load_row rfl 218 _ rfl (w.heap.size+1) rfl 233 (jb ys).toArray (0,0) _ kb.out rfl rfl (by rw [YS];rfl) ?_;go_frame))
 refine (C1.out _).mono ?_
 rintro e w1 ⟨rfl,e1⟩
 go_wp2_with fail
 refine (C2.out _ (B0.out _ e1).2.2.2).mono ?_
 rintro e w2 ⟨rfl,e2⟩
 obtain ⟨-, -,kr,kx⟩:=B0.out _ (e1.trans e2)
 replace kr:=Hj kr
 replace kx:=Hj kx
 clear B0 ka kb C1 C2 e1 e2
 go_wp2_with (refine ws_ rfl 233 rfl (w.heap.size+1+1) (jb rr).toArray rfl rfl kr.out (by rw [RS];rfl) (by rw [RS,ZS]) OR ?_;go_frame)
 (try simp only [jpX,Exit.then])
 refine jpY (jpZ rfl _ _ (w.heap.size+1+1) 233 (jb rr).toArray (0,0) _ rfl (jpe _ _ _ _ _ _ kr.out) rfl rfl (by rw [RS];rfl)) rfl ?_
 exact ⟨rfl,jpd kx.out (by omega) _⟩
theorem YX {x y:Nat}{w:World}(hx:x < P25) (hy:y < P25){tg:joE×Nat×Nat}(hG:Gp w tg):
 Calls joz 162 #[eV x,eV y] w fun e w'=>e= .returned (eV ((x+(P25 - y)) % P25))∧Ext w w':=by
 have C0:Hid (∀ W,Calls joz 176 #[.agg (jb (lbs 8 P25)).toArray, .agg (jb (lbs 8 y)).toArray] W fun e w'=>∃ c:Nat,e= .returned (.tuple #[.agg (jb (lbs 8 (P25 - y))).toArray, .int .u64 (c:Int)])∧Ext W w'):=fun W=>by
  refine (YJ (x:=P25) (y:=y) (w:=W) (Nat.lt_trans hy jea)).mono ?_
  rintro e w' ⟨rfl,ex⟩
  have hd:lbs 8 (P25+4294967296 ^ 8 - y)=lbs 8 (P25 - y):=by
   have h1:P25+4294967296 ^ 8 - y=P25 - y+4294967296 ^ 8:=by
    generalize 4294967296 ^ 8=M
    omega
   rw [h1,ZC]
  rw [hd]
  exact ⟨bS P25 y 8,rfl,ex⟩
 have C1:Hid (∀ W,Calls joz 177 #[.agg (jb (lbs 8 x)).toArray, .agg (jb (lbs 8 (P25 - y))).toArray] W fun e w'=>e= .returned (.agg (jb (lbs 8 (x+(P25 - y)))).toArray)∧Ext W w'):=fun W=>Zu
 have C2:Hid (∀ W,Ext w W→Calls joz 160 #[.agg (jb (lbs 8 (x+(P25 - y)))).toArray] W fun e w'=>e= .returned (.agg (jb (lbs 8 ((x+(P25 - y)) % P25))).toArray)∧Ext W w'):=fun W e=>zG (by omega) (hG.ext e)
 have GP:Hid (∀ W,Ext w W→W.heap[1]? =some (.cells (jb (lbs 8 P25)).toArray tg.1 tg.2)):=fun W e=>hG.ext e
 have PL:=jnz 8 P25
 have DL:=jnz 8 (P25 - y)
 clear hG
 unfold eV
 have XL:=jnz 8 x
 have YL:=jnz 8 y
 have RL:=jnz 8 ((x+(P25 - y)) % P25)
 generalize lbs 8 ((x+(P25 - y)) % P25)=rr at *
 generalize lbs 8 x=xs at *
 generalize lbs 8 y=ys at *
 generalize lbs 8 (x+(P25 - y))=ms at *
 generalize lbs 8 (P25 - y)=ds at *
 generalize lbs 8 P25=ps at *
 have PS:=jf PL
 have DS:=jf DL
 have OD:=jo ds
 have XS:=jf XL
 have YS:=jf YL
 have RS:=jf RL
 have OR:=jo rr
 have hal2:=vr
 have hal:=yy
 have ZL:zw8.length=8:=rfl
 generalize zw8=zs at *
 have ZS:=jf ZL
 have B0:Hid (∀ s,Ext (((w.alloc (jp0 (jb xs).toArray 233)).alloc (jp0 (jb ys).toArray 233)).alloc (jp0 (jb zs).toArray 233)) s→Wr s w.heap.size 233 xs∧Wr s (w.heap.size+1) 233 ys∧Wr s (w.heap.size+1+1) 233 zs∧Ext w s):=fun s e=>⟨(e.block _ (by rw [je,je,je];omega)).trans (jF _ _ _ _),(e.block _ (by rw [je,je,je];omega)).trans (jH _ _ _ _),(e.block _ (by rw [je,je,je];omega)).trans (jB _ _ _ _),((((jnQ w).alloc _).alloc _).alloc _).trans e⟩
 go_enter Tryz.func162,Tryz.ntmps162
 go_upto_region 1 with fail
 refine jg (fun W=>∀ s,Ext W s→Wr s w.heap.size 233 xs∧Wr s (w.heap.size+1) 233 ys∧Wr s (w.heap.size+1+1) 233 zs∧Ext w s) B0.out ?_
 clear B0
 rintro w0 B0
 replace B0:=Hj B0
 have kb:=Hj (B0.out _ (jnQ _)).2.1
 have kp:=Hj (GP.out _ (B0.out _ (jnQ _)).2.2.2)
 go_wp2_with (first
  | (refine wpList_load_row rfl 218 _ rfl 1 rfl tg.1 (jb ps).toArray tg.2 _ kp.out rfl rfl (by rw [PS];rfl) ?_;go_frame)
  | (refine wpList_load_row rfl 218 _ rfl (w.heap.size+1) rfl 233 (jb ys).toArray (0,0) _ kb.out rfl rfl (by rw [YS];rfl) ?_;go_frame))
 refine (C0.out _).mono ?_
 rintro e v ⟨c,rfl,e1⟩
 have a1:Hid ((v.alloc (jp0 (jb zs).toArray 218)).heap[v.heap.size]? =some (.cells (jb zs).toArray 218 (0,0))):=jps _ _
 have e5:Ext v ((v.alloc (jp0 (jb zs).toArray 218)).setRow v.heap.size (jb ds).toArray):=jpd ((jnQ v).alloc _) (joq _) _
 go_upto_region 2 with (refine ws_ rfl 218 rfl v.heap.size (jb ds).toArray rfl rfl a1.out (by rw [DS];rfl) (by rw [DS,ZS]) OD ?_;go_frame)
 obtain ⟨f,hf⟩:=ex_ v.heap.size
 refine jg (fun W=>∀ s,Ext W s→Wr s w.heap.size 233 xs∧Wr s f 218 ds∧Wr s (w.heap.size+1+1) 233 zs∧Ext w s) (fun s e=>by
  obtain ⟨p1, -,p3,p4⟩:=B0.out s (e1.trans (e5.trans e))
  exact ⟨p1,(e.block _ (by simp [hf])).trans (by rw [hf];exact jpe _ _ _ _ _ _ a1.out),p3,p4⟩) ?_
 rw [←hf]
 clear hf a1 e5 e1 B0 kb kp GP C0
 rintro w1 B0
 replace B0:=Hj B0
 have ka:=Hj (B0.out _ (jnQ _)).1
 have kb:=Hj (B0.out _ (jnQ _)).2.1
 go_wp2_with (first
  | (refine wpList_load_row rfl 218 _ rfl w.heap.size rfl 233 (jb xs).toArray (0,0) _ ka.out rfl rfl (by rw [XS];rfl) ?_;go_frame)
  | (refine wl_ rfl 218 rfl f rfl kb.out rfl rfl (by rw [DS];rfl) ?_;go_frame))
 refine (C1.out _).mono ?_
 rintro e w2 ⟨rfl,e1⟩
 go_wp2_with fail
 refine (C2.out _ (B0.out _ e1).2.2.2).mono ?_
 rintro e w3 ⟨rfl,e2⟩
 obtain ⟨-, -,kr,kx⟩:=B0.out _ (e1.trans e2)
 replace kr:=Hj kr
 replace kx:=Hj kx
 clear B0 ka kb C1 C2 e1 e2
 go_wp2_with (refine ws_ rfl 233 rfl (w.heap.size+1+1) (jb rr).toArray rfl rfl kr.out (by rw [RS];rfl) (by rw [RS,ZS]) OR ?_;go_frame)
 (try simp only [jpX,Exit.then])
 refine jpY (jpZ rfl _ _ (w.heap.size+1+1) 233 (jb rr).toArray (0,0) _ rfl (jpe _ _ _ _ _ _ kr.out) rfl rfl (by rw [RS];rfl)) rfl ?_
 exact ⟨rfl,jpd kx.out (by omega) _⟩
theorem Za {xs:List UInt8}{j i x:Nat}(hj:j < xs.length) (hx:x < 256):bt (xs.set j (jov x)) i=if i=j then x else bt xs i:=by
 unfold bt
 by_cases h:i=j
 ·subst h
  simp [jot,hj]
  omega
 ·simp [jot,h,List.getElem?_set_ne (Ne.symm h)]
def kL (x:Nat):List UInt8:=qX (lbs 8 x)
theorem zx (x:Nat):(kL x).length=32:=by unfold kL;rw [ya,jnz]
theorem jjT {x k:Nat}(h:k < 32):bt (kL x) k=lb x (k / 4) / 256 ^ (k % 4) % 256:=by
 unfold kL
 rw [JK (by rw [jnz];omega),yi (by omega)]
theorem Ky.setB6 {w:World}{g j x:Nat}{xs:List UInt8}(h:Ky w g xs) (hj:j < 32) (hx:x < 256):Ky (w.setCell ⟨g,j,none⟩ (.int .u8 (x:Int))) g (xs.set j (jov x)):=by
 refine ⟨?_,by rw [jo7];exact h.2⟩
 rw [setCell_eq_setRow w g j _ _ (0,0) _ h.1,jpe w g _ _ _ _ h.1]
 congr 2
 have hl:=h.2
 apply Array.ext'
 rw [Array.toList_setIfInBounds]
 apply List.ext_getElem?
 intro i
 simp only [List.getElem?_set,ja]
 by_cases hi:i < 32
 ·rw [jZ (xs:=xs.set j (jov x)) (by rw [jo7];omega),Za (by omega) hx]
  by_cases e:j=i
  ·subst e;simp [show j < xs.length by omega]
  ·rw [if_neg e,if_neg (Ne.symm e)]
   have:=jZ (xs:=xs) (j:=i) (by omega)
   simpa using this
 ·have h1:(cellsOf xs)[i]? =none:=jpc (by rw [ja];omega)
  have h2:(cellsOf (xs.set j (jov x)))[i]? =none:=jpc (by rw [ja,jo7];omega)
  rw [if_neg (by omega)]
  simp only [h2]
  simpa using h1
theorem jen {x:Nat}{w:World}:
 Calls joz 143 #[eV x] w fun e w'=>e= .returned (.agg (cellsOf (kL x)).toArray)∧Ext w w':=by
 have XW:Hid (∀ j,j < 8→wd (lbs 8 x) j=lb x j):=fun j hj=>yi hj
 have XL:=jnz 8 x
 have RB:Hid (∀ k,k < 32→bt (kL x) k=lb x (k / 4) / 256 ^ (k % 4) % 256):=fun k hk=>jjT hk
 have RL:=zx x
 have LB:Hid (∀ i,lb x i < 4294967296):=yK x
 unfold eV
 generalize kL x=rr at *
 generalize lbs 8 x=xs at *
 have hal:=j2
 have hz:=jU
 have zl:(jpp 32 (0:UInt8)).length=32:=rfl
 rw [←hz] at hal
 clear hz
 generalize jpp 32 (0:UInt8)=zs at *
 have ZS:(cellsOf zs).toArray.size=32:=by simp [ja,zl]
 have B0:Hid (Wr (((w.alloc (jp0 (jb xs).toArray 233)).alloc (jp0 (cellsOf zs).toArray 23)).alloc (jp0 (cellsOf zs).toArray 23)) w.heap.size 233 xs∧Ky (((w.alloc (jp0 (jb xs).toArray 233)).alloc (jp0 (cellsOf zs).toArray 23)).alloc (jp0 (cellsOf zs).toArray 23)) (w.heap.size+1) zs∧Ky (((w.alloc (jp0 (jb xs).toArray 233)).alloc (jp0 (cellsOf zs).toArray 23)).alloc (jp0 (cellsOf zs).toArray 23)) (w.heap.size+1+1) zs∧Ext w (((w.alloc (jp0 (jb xs).toArray 233)).alloc (jp0 (cellsOf zs).toArray 23)).alloc (jp0 (cellsOf zs).toArray 23))):=⟨jF _ _ _ _,⟨jH _ _ _ _,zl⟩,⟨jB _ _ _ _,zl⟩,(((jnQ w).alloc _).alloc _).alloc _⟩
 go_enter Tryz.func143,Tryz.ntmps143
 go_upto_region 2 with fail
 refine jg (fun W=>Wr W w.heap.size 233 xs∧Ky W (w.heap.size+1) zs∧Ky W (w.heap.size+1+1) zs∧Ext w W) B0.out ?_
 clear B0
 rintro W0 ⟨wa,k1,k2,e0⟩
 replace wa:=Hj wa
 replace k1:=Hj k1
 replace k2:=Hj k2
 replace e0:=Hj e0
 go_wp2_with fail
 go_loopw [5] (fun v wr=>∃ (k:Nat) (ys:List UInt8),k≤32∧v= .int .i64 (k:Int)∧ys.length=32∧(∀ j,j < k→bt ys j=bt rr j)∧Below (w.heap.size+1+1) W0 wr∧Ky wr (w.heap.size+1+1) ys) (fun v _=>32 - (intOf v).toNat)
 case atStart=>exact ⟨0,zs,jor _,rfl,zl,fun j hj=>absurd hj (by omega),joo _ _,k2.out⟩
 case round=>
  obtain ⟨k,ys,hk,rfl,yl,hv,hB,ky⟩:=hrel
  clear k2
  by_cases hlt:k < 32
  ·obtain ⟨a,ha⟩:=ex_ (k / 4)
   obtain ⟨b,hb⟩:=ex_ (k % 4)
   obtain ⟨sh,hs⟩:=ex_ (8*b)
   have ia:(k:Int) / 4=(a:Int):=by omega
   have ib:(k:Int) % 4=(b:Int):=by omega
   have ia':Int.tdiv (k:Int) 4=(a:Int):=by rw [jn2 (by omega)];omega
   have ib':Int.tmod (k:Int) 4=(b:Int):=by rw [jn3 (by omega)];omega
   have is:(8:Int)*(b:Int)=(sh:Int):=by omega
   have a8:a < 8:=by omega
   have a8':(a:Int) < 8:=by omega
   have b4:(b:Int) < 4:=by omega
   have s32:(sh:Int)≤32:=by omega
   have cv:=(wa.out.kept hB (by omega)).cell (i:=a) (by omega)
   rw [XW.out a a8] at cv
   have yb:bt rr k=lb x a / 2 ^ sh % 256:=by
    rw [RB.out k hlt,←ha,←hb,hs,show (256:Nat)=2 ^ 8 from rfl,←Nat.pow_mul]
   have hl:=LB.out a
   generalize lb x a=u at *
   obtain ⟨y,hy⟩:=ex_ (u / 2 ^ sh)
   have q1:Op.shift .shr .u32 (u:Int) .i64 (sh:Int)=pure (.int .u32 (y:Int)):=by
    have:=shift_shr .u32 .i64 (u:Int) (sh:Int) (by omega) (by show (sh:Int)≤32;exact s32)
    rw [this,hy]
    simp
   have y8:IntKind.u8.wrap (y:Int)=((y % 256:Nat):Int):=by rw [IntKind.wrap_u8];omega
   have y8':(y:Int) % 256=((y % 256:Nat):Int):=by omega
   rw [←hy] at yb
   have hlt8:y % 256 < 256:=jo5 _ (by decide)
   generalize y % 256=z at *
   have g1:=ky.cell hlt
   have g2:=ky.frozen k
   have ik:(k:Int) < 32:=by omega
   replace yb:=Hj yb
   replace hy:=Hj hy
   replace ha:=Hj ha
   replace hb:=Hj hb
   replace hs:=Hj hs
   replace hv:=Hj hv
   replace hB:=Hj hB
   replace ky:=Hj ky
   clear hlt8
   go_wp2_with fail
   have hz:(u:Int) / 2 ^ sh % 256=(z:Int):=by
    rw [←y8',hy.out,Int.natCast_ediv,Int.natCast_pow];rfl
   rw [hz]
   have z256:z < 256:=by rw [←yb.out];exact vL _ _
   refine ⟨⟨k+1,ys.set k (jov z),by omega,by go_num,by rw [jo7];exact yl,fun j hj=> ?_,Below.setCell hB.out (joq _) _,ky.out.setB6 hlt z256⟩,by simp [intOf];omega⟩
   rw [Za (by omega) z256]
   by_cases e:j=k
   ·rw [if_pos e,e];exact yb.out.symm
   ·rw [if_neg e];exact hv.out j (by omega)
  ·obtain rfl:k=32:=by omega
   have hy:ys=rr:=Y0 (by rw [yl,RL]) fun j hj=>hv j (by omega)
   subst hy
   have KK:Hid (Ky wr (w.heap.size+1) zs):=⟨(hB.block _ (by omega)).trans k1.out.1,zl⟩
   have EE:Hid (Ext w wr):=jop e0.out (hB.mono (by omega))
   have RS:(cellsOf ys).toArray.size=32:=by simp [ja,yl]
   have R1:=ji ys
   replace ky:=Hj ky
   clear hv hB RB k1 wa e0
   go_wp2_with (first
    | (refine wl_ rfl 23 rfl (w.heap.size+1+1) rfl ky.out.1 rfl rfl (by rw [RS];rfl) ?_;go_frame)
    | refine ws_ rfl 23 rfl (w.heap.size+1) (cellsOf ys).toArray rfl rfl KK.out.1 (by rw [RS];rfl) (by rw [RS,ZS]) R1 ?_)
   (try simp only [jpX,Exit.then])
   refine jpY (jpZ rfl _ _ (w.heap.size+1) 23 (cellsOf ys).toArray (0,0) _ rfl (jpe _ _ _ _ _ _ KK.out.1) rfl rfl (by rw [RS];rfl)) rfl ?_
   exact ⟨rfl,jpd EE.out (by omega) _⟩
def ofN (ks:List UInt8):Nat→Nat
 | 0=>0
 | i+1=>ofN ks i+bt ks i*256 ^ i
theorem jcr (ks:List UInt8):∀ i,ofN ks i < 256 ^ i
 | 0=>by simp [ofN]
 | i+1=>by
   have ih:=jcr ks i
   have hb:=vL ks i
   rw [ofN,jpP]
   have:bt ks i*256 ^ i≤255*256 ^ i:=Nat.mul_le_mul_right _ (by omega)
   generalize bt ks i*256 ^ i=t at *
   generalize 256 ^ i=P at *
   omega
theorem jaD (a b:Nat):256 ^ (4*a+b)=4294967296 ^ a*256 ^ b:=by rw [jpM,Nat.pow_mul]
theorem jku {ks:List UInt8}{i a b:Nat}(hi:i=4*a+b) (hb:b < 4):lb (ofN ks (i+1)) a=lb (ofN ks i) a+bt ks i*256 ^ b∧lb (ofN ks i) a < 256 ^ b:=by
 have h1:=jcr ks i
 have hp:0 < 4294967296 ^ a:=Nat.pow_pos (by decide)
 have e:256 ^ i=4294967296 ^ a*256 ^ b:=by rw [hi];exact jaD a b
 rw [e] at h1
 have h2:ofN ks i / 4294967296 ^ a < 256 ^ b:=jn1 h1
 have h3:256 ^ b≤16777216:=by
  have:b=0∨b=1∨b=2∨b=3:=by omega
  rcases this with rfl | rfl | rfl | rfl <;> decide
 have hbt:=vL ks i
 have h4:bt ks i*256 ^ b≤255*256 ^ b:=Nat.mul_le_mul_right _ (by omega)
 have e2:ofN ks (i+1) / 4294967296 ^ a=ofN ks i / 4294967296 ^ a+bt ks i*256 ^ b:=by
  rw [ofN,e,Nat.mul_left_comm,Nat.add_mul_div_left _ _ hp]
 unfold lb
 rw [e2]
 generalize ofN ks i / 4294967296 ^ a=X at *
 generalize bt ks i*256 ^ b=t at *
 generalize 256 ^ b=Q at *
 omega
theorem jkv {ks:List UInt8}{i a b j:Nat}(hi:i=4*a+b) (hj:j < a):lb (ofN ks (i+1)) j=lb (ofN ks i) j:=by
 have hp:0 < 4294967296 ^ j:=Nat.pow_pos (by decide)
 obtain ⟨d,hd⟩:∃ d,a=j+1+d:=⟨a - (j+1),by omega⟩
 have e:bt ks i*256 ^ i=4294967296 ^ j*(4294967296*(4294967296 ^ d*256 ^ b*bt ks i)):=by
  rw [hi,jaD,hd,jpM,jpP,jpK (bt _ _)]
  simp only [jpL]
 unfold lb
 rw [ofN,e,Nat.add_mul_div_left _ _ hp,jp3]
theorem jjg {ks:List UInt8}{i a b j:Nat}(hi:i≤4*a+b) (hb:b≤4) (hj:a < j):lb (ofN ks i) j=0:=by
 have h1:=jcr ks i
 have h2:256 ^ i≤4294967296 ^ j:=by
  have:(4294967296:Nat) ^ j=256 ^ (4*j):=by rw [Nat.pow_mul]
  rw [this]
  exact Nat.pow_le_pow_right (by decide) (by omega)
 unfold lb
 rw [jpT (jos h1 h2)]
def ofV (ks:List UInt8):Nat:=ofN ks 32 % H8 % P25
theorem jkt (ks:List UInt8):ofV ks < P25:=jo5 _ YO
theorem jew {xs:List UInt8}{w:World}{k:Nat}(hl:xs.length=32) (hk:k < 32):
 (jpj 23 (.agg (cellsOf xs).toArray) (.int .i64 (k:Int))).run joz w= .ok (.int .u8 (bt xs k:Int)) w:=by
 have h1:(0:Int)≤(k:Int)∧(k:Int) < ((32:Nat):Int):=by omega
 have hs:(sizeOf 5).run joz w= .ok 1 w:=rfl
 have hg:(cellsOf xs).toArray[k]? =some (.int .u8 (bt xs k:Int)):=by
  rw [jpv];exact jZ (by omega)
 have ht:Tryz.prog.underlying 23=some (.array 32 5):=rfl
 unfold jpj
 simp only [jpk,asIntOf,jpl,jpm,jpn ht]
 rw [if_pos h1]
 simp only [jpk,hs,jpm]
 have ha:(isAgg 5).run joz w= .ok false w:=rfl
 unfold part
 simp only [jpk,ha,jpm,Int.toNat_natCast,Nat.mul_one,Bool.false_eq_true,if_false,hg,jpl]
theorem jav {ks:List UInt8}{w:World}(hk:ks.length=32){tg:joE×Nat×Nat}(hG:Gp w tg):
 Calls joz 136 #[.agg (cellsOf ks).toArray] w fun e w'=>e= .returned (eV (ofV ks))∧Ext w w':=by
 have hN:ofN ks 32 < M8:=by
  have:=jcr ks 32
  rwa [show (256:Nat) ^ 32=M8 by decide+kernel] at this
 have hset:=(jcM hN).2
 have h7:=yK (ofN ks 32) 7
 have RED:Hid (∀ (W:World),Ext w W→Calls joz 160 #[.agg (jb (lbs 8 (ofN ks 32 % H8))).toArray] W fun e w'=>e= .returned (.agg (jb (lbs 8 (ofV ks))).toArray)∧Ext W w'):=fun W e=>by
  refine zG ?_ (hG.ext e)
  have h1:=jo5 (ofN ks 32) (show 0 < H8 by decide+kernel)
  have h2:H8 < 2*P25:=by decide+kernel
  omega
 have RQ:Hid (∀ vs:List Nat,vs.length=8→(∀ j,j < 8→wd vs j=lb (ofN ks 32) j)→vs=lbs 8 (ofN ks 32)):=fun vs h1 h2=>Ye h1 h2
 have W7:Hid (wd (lbs 8 (ofN ks 32)) 7=lb (ofN ks 32) 7):=yi (by omega)
 have L0:=jnz 8 (ofN ks 32)
 have L1:=jnz 8 (ofN ks 32 % H8)
 have LR:=jnz 8 (ofV ks)
 have HIT:Hid (∀ i a b,i=4*a+b→b < 4→lb (ofN ks (i+1)) a=lb (ofN ks i) a+bt ks i*256 ^ b∧lb (ofN ks i) a < 256 ^ b):=fun i a b h1 h2=>jku h1 h2
 have LOW:Hid (∀ i a b j,i=4*a+b→j < a→lb (ofN ks (i+1)) j=lb (ofN ks i) j):=fun i a b j h1 h2=>jkv h1 h2
 have HIGH:Hid (∀ i a b j,i≤4*a+b→b≤4→a < j→lb (ofN ks i) j=0):=fun i a b j h1 h2 h3=>jjg h1 h2 h3
 unfold eV
 clear hG hN
 generalize lbs 8 (ofN ks 32 % H8)=l1 at *
 generalize lbs 8 (ofV ks)=lr at *
 have hix:=fun (w:World) (k:Nat) (h:k < 32)=>jew (xs:=ks) (w:=w) hk h
 have IX:=Hj hix
 clear hix
 have KS:(cellsOf ks).toArray.size=32:=by simp [ja,hk]
 have hal:=yy
 have hal2:=vr
 have ZL:zw8.length=8:=rfl
 have ZZ:Hid (∀ j,wd zw8 j=lb (ofN ks 0) j):=fun j=>by
  rw [show lb (ofN ks 0) j=0 by simp [lb,ofN]]
  by_cases q:j < 8
  ·have h:∀ j,j < 8→wd zw8 j=0:=by decide
   exact h j q
  ·unfold wd zw8
   simp [jot,jn4,q]
 generalize zw8=zs at *
 have ZS:=jf ZL
 generalize hKK:(cellsOf ks).toArray=KA at *
 replace hKK:=Hj hKK
 have B0:Hid ((((w.alloc (jp0 KA 23)).alloc (jp0 (jb zs).toArray 233)).alloc (jp0 (jb zs).toArray 218)).heap[w.heap.size]? =some (.cells KA 23 (0,0))∧Wr (((w.alloc (jp0 KA 23)).alloc (jp0 (jb zs).toArray 233)).alloc (jp0 (jb zs).toArray 218)) (w.heap.size+1) 233 zs∧Wr (((w.alloc (jp0 KA 23)).alloc (jp0 (jb zs).toArray 233)).alloc (jp0 (jb zs).toArray 218)) (w.heap.size+1+1) 218 zs∧Ext w (((w.alloc (jp0 KA 23)).alloc (jp0 (jb zs).toArray 233)).alloc (jp0 (jb zs).toArray 218))):=⟨jF _ _ _ _,jH _ _ _ _,jB _ _ _ _,(((jnQ w).alloc _).alloc _).alloc _⟩
 go_enter Tryz.func136,Tryz.ntmps136
 go_upto_region 2 with fail
 refine jg (fun W=>W.heap[w.heap.size]? =some (.cells KA 23 (0,0))∧Wr W (w.heap.size+1) 233 zs∧Wr W (w.heap.size+1+1) 218 zs∧Ext w W) B0.out ?_
 clear B0
 rintro W0 ⟨kk,we,wc4,e0⟩
 replace kk:=Hj kk
 replace we:=Hj we
 replace wc4:=Hj wc4
 replace e0:=Hj e0
 go_wp2_with (refine wl_ rfl 23 rfl w.heap.size rfl kk.out rfl rfl (by rw [KS];rfl) ?_;go_frame)
 go_loopw [7] (fun iv wr=>∃ (k:Nat) (vs:List Nat),k≤32∧iv= .int .i64 (k:Int)∧vs.length=8∧(∀ j,j < 8→wd vs j=lb (ofN ks k) j)∧Below (w.heap.size+1+1) W0 wr∧Wr wr (w.heap.size+1+1) 218 vs) (fun iv _=>32 - (intOf iv).toNat)
 case atStart=>exact ⟨0,zs,jor _,rfl,ZL,fun j hj=>ZZ.out j,joo _ _,wc4.out⟩
 case round=>
  obtain ⟨k,vs,hk',rfl,vl,hv,hB,hw⟩:=hrel
  clear wc4 ZZ
  by_cases hlt:k < 32
  ·obtain ⟨a,ha⟩:=ex_ (k / 4)
   obtain ⟨b,hb⟩:=ex_ (k % 4)
   obtain ⟨sh,hs⟩:=ex_ (8*b)
   have kab:k=4*a+b:=by omega
   have ia:(k:Int) / 4=(a:Int):=by omega
   have ib:(k:Int) % 4=(b:Int):=by omega
   have ia':Int.tdiv (k:Int) 4=(a:Int):=by rw [jn2 (by omega)];omega
   have ib':Int.tmod (k:Int) 4=(b:Int):=by rw [jn3 (by omega)];omega
   have iaw:IntKind.i64.wrap (a:Int)=(a:Int):=jp2 _ (by omega)
   have is:(8:Int)*(b:Int)=(sh:Int):=by omega
   have isw:IntKind.i64.wrap (sh:Int)=(sh:Int):=jp2 _ (by omega)
   have sh0:(0:Int)≤(sh:Int):=by omega
   have a8:a < 8:=by omega
   have a8':(a:Int) < 8:=by omega
   have a0:(0:Int)≤(a:Int):=by omega
   have b4:b < 4:=by omega
   obtain ⟨hit,hlw⟩:=HIT.out k a b kab b4
   have hvL:=fun j (hj:j < a)=>LOW.out k a b j kab hj
   have hvH:=fun j (hj:a < j)=>HIGH.out (k+1) a (b+1) j (by omega) (by omega) hj
   have hvH':=fun j (hj:a < j)=>HIGH.out k a b j (by omega) (by omega) hj
   have hbt:=vL ks k
   have ix:=IX.out
   have ixk:∀ w:World,(jpj 23 (.agg KA) (.int .i64 (k:Int))).run joz w= .ok (.int .u8 (bt ks k:Int)) w:=fun w=>IX.out w k hlt
   clear ix
   have cl:Hid (∀ s,Ext wr s→s.cell? ⟨w.heap.size+1+1,a,none⟩=some (.int .u32 (lb (ofN ks k) a:Int))):=fun s e=>by
    have g1:=(hw.kept e hw.lt).cell (i:=a) (by omega)
    rwa [hv a a8] at g1
   have h3:256 ^ b≤16777216:=by
    have:b=0∨b=1∨b=2∨b=3:=by omega
    rcases this with rfl | rfl | rfl | rfl <;> decide
   have e256:(256:Nat) ^ b=2 ^ sh:=by rw [hs,show (256:Nat)=2 ^ 8 from rfl,←Nat.pow_mul]
   have hh:Hid (∀ j,j < 8→j≠a→lb (ofN ks k) j=lb (ofN ks (k+1)) j):=fun j hj hne=>by
    rcases jow j a with q | q
    ·exact (hvL j q).symm
    ·rw [hvH j (by omega),hvH' j (by omega)]
   obtain ⟨t,ht⟩:=ex_ (bt ks k*256 ^ b)
   have ht4:t≤255*256 ^ b:=by rw [ht];exact Nat.mul_le_mul_right _ (by omega)
   rw [←ht] at hit
   generalize lb (ofN ks k) a=u at *
   generalize bt ks k=c at *
   obtain ⟨v,hvv⟩:=ex_ (u+t)
   rw [←hvv] at hit
   have f1:IntKind.u32.wrap (c:Int)=(c:Int):=by rw [jo8];omega
   have q1:Op.shift .shl .u32 (c:Int) .i64 (sh:Int)=pure (.int .u32 (t:Int)):=by
    have h9:=shift_shl .u32 .i64 (c:Int) (sh:Int) (by omega) (by show (sh:Int)≤32;omega)
    rw [h9]
    congr 2
    have:((c:Int)*2 ^ (sh:Int).toNat)=(t:Int):=by
     rw [Int.toNat_natCast,ht,e256]
     simp
    rw [this,jo8]
    omega
   have f5:bits .or .u32 (u:Int) (t:Int)=(v:Int):=by
    rw [u32_or_nat u t (by omega) (by omega)]
    congr 1
    rw [hvv,ht,Nat.or_comm,jpK,e256,←Nat.two_pow_add_eq_or_of_lt (by rw [←e256];exact hlw),Nat.add_comm]
   have t32:t < 4294967296:=by omega
   have cv:=hw.cell (i:=a) (by omega)
   have fv:=hw.frozen a
   rw [hv a a8] at cv
   have ik:(k:Int) < 32:=by omega
   replace hit:=Hj hit
   replace kab:=Hj kab
   replace ha:=Hj ha
   replace hb:=Hj hb
   replace hs:=Hj hs
   replace ht:=Hj ht
   replace hvv:=Hj hvv
   replace e256:=Hj e256
   replace hv:=Hj hv
   replace hB:=Hj hB
   replace hw:=Hj hw
   clear hvL hvH hvH' hlw h3 ht4
   go_wp2_with fail
   refine ym 12 [0,1,2,3,4,5,6,7,8,9,10,11,12] [12] ?_
   repeat (refine qzR _ (fun w' e=>cl.out w' ((jnQ _).drew.trans e)) ?_;go_frame)
   refine qzD fun K1 hK1=> ?_
   go_simp
   refine hK1.out _ _ (.inl rfl) ?_
   clear hK1 K1
   refine jN ?_
   go_wp2_with fail
   have hz2:(c:Int)*2 ^ sh % 4294967296=(t:Int):=by
    have e1:(c:Int)*2 ^ sh=(t:Int):=by rw [ht.out,e256.out];simp
    rw [e1];omega
   rw [hz2,f5]
   refine ⟨⟨k+1,vs.set a v,by omega,by go_num,by rw [jo7];exact vl,fun j hj=> ?_,Below.setCell (jop hB.out ((jnQ wr).drew.mono (jpW hw.out.lt))) (joq _) _,(hw.out.set).kept (jnQ _).drew hw.out.set.lt⟩,by simp [intOf];omega⟩
   rw [Yy (by omega)]
   by_cases e:j=a
   ·rw [if_pos e,e];exact hit.out.symm
   ·rw [if_neg e,hv.out j hj];exact hh.out j hj e
  ·obtain rfl:k=32:=by omega
   have he:=RQ.out vs vl hv
   have we1:=Hj (we.out.kept hB (by omega))
   have EE:Hid (Ext w wr):=jop e0.out (hB.mono (by omega))
   rw [←he] at W7 hset
   clear hv hB e0 we kk IX RQ HIT LOW HIGH he L0
   generalize lb (ofN ks 32) 7=w7 at *
   obtain ⟨v7,hv7⟩:=ex_ (w7 % 2147483648)
   rw [←hv7] at hset
   have t2:bits .andNot .u32 (w7:Int) 2147483648=(v7:Int):=by
    have:=u32_andNot_nat w7 2147483648 (by omega) (by omega)
    rw [hv7,←Nat.and_two_pow_sub_one_eq_mod w7 31]
    exact this
   have c7:=hw.cell (i:=7) (by omega)
   have z7:=hw.frozen 7
   rw [W7.out] at c7
   replace hset:=Hj hset
   replace hv7:=Hj hv7
   have S1:=jf L1
   have SR:=jf LR
   have OR:=jo lr
   have KB:Hid (Wr (wr.setCell ⟨w.heap.size+1+1,7,none⟩ (.int .u32 (v7:Int))) (w.heap.size+1+1) 218 l1∧Wr (wr.setCell ⟨w.heap.size+1+1,7,none⟩ (.int .u32 (v7:Int))) (w.heap.size+1) 233 zs∧Ext w (wr.setCell ⟨w.heap.size+1+1,7,none⟩ (.int .u32 (v7:Int)))):=by
    refine ⟨?_,(jo9 _ _ _ _ (show w.heap.size+1≠w.heap.size+1+1 by omega)).trans we1.out,EE.out.setCell (show w.heap.size≤w.heap.size+1+1 by omega) _⟩
    have:=hw.set (k:=7) (x:=v7)
    rwa [hset.out] at this
   replace hw:=Hj hw
   go_upto_region 8 with fail
   refine jg (fun W=>Wr W (w.heap.size+1+1) 218 l1∧Wr W (w.heap.size+1) 233 zs∧Ext w W) KB.out ?_
   clear KB c7 z7 hw we1 EE t2 hset
   rintro u2 K2'
   have K2:=Hj K2'
   clear K2'
   have k0:=Hj K2.out.1
   go_wp2_with (refine wl_ rfl 218 rfl (w.heap.size+1+1) rfl k0.out rfl rfl (by rw [S1];rfl) ?_;go_frame)
   refine (RED.out _ K2.out.2.2).mono ?_
   rintro e v4 ⟨rfl,e1⟩
   have re:=Hj (K2.out.2.1.kept e1 K2.out.2.1.lt)
   have rx:Hid (Ext w v4):=K2.out.2.2.trans e1
   clear K2 k0 e1
   go_wp2_with (refine ws_ rfl 233 rfl (w.heap.size+1) (jb lr).toArray rfl rfl re.out (by rw [SR];rfl) (by rw [SR,ZS]) OR ?_;go_frame)
   (try simp only [jpX,Exit.then])
   refine jpY (jpZ rfl _ _ (w.heap.size+1) 233 (jb lr).toArray (0,0) _ rfl (jpe _ _ _ _ _ _ re.out) rfl rfl (by rw [SR];rfl)) rfl ?_
   exact ⟨rfl,jpd rx.out (by omega) _⟩
def iA (x:Nat):Nat→Nat
 | 0=>1
 | m+1=>if m=252∨m=250 then iA x m*iA x m % P25 else iA x m*iA x m % P25*x % P25
theorem jhB (x:Nat):∀ m,iA x m < P25
 | 0=>by rw [iA];decide+kernel
 | m+1=>by rw [iA];split <;> exact jo5 _ YO
def zL (x:Nat):Nat:=iA x 255
theorem ji5 (x:Nat):zL x < P25:=jhB x 255
def jhX:List Nat:= [1,0,0,0,0,0,0,0]
theorem jjj:jhX=lbs 8 1:=by decide
theorem jeL:Tryz.prog.built 218 [(0, .int .u32 1)]=some (jb jhX).toArray:=by kernel_rfl
theorem jgk {x:Nat}{w:World}(hx:x < P25){tg:joE×Nat×Nat}(hG:Gp w tg):
 Calls joz 142 #[eV x] w fun e w'=>e= .returned (eV (zL x))∧Ext w w':=by
 have SQ:Hid (∀ (W:World) m,Ext w W→Calls joz 141 #[.agg (jb (lbs 8 (iA x m))).toArray, .agg (jb (lbs 8 (iA x m))).toArray] W fun e w'=>e= .returned (.agg (jb (lbs 8 (iA x m*iA x m % P25))).toArray)∧Ext W w'):=fun W m e=>qP (jhB x m) (jhB x m) (hG.ext e)
 have MX:Hid (∀ (W:World) m,Ext w W→Calls joz 141 #[.agg (jb (lbs 8 (iA x m*iA x m % P25))).toArray, .agg (jb (lbs 8 x)).toArray] W fun e w'=>e= .returned (.agg (jb (lbs 8 (iA x m*iA x m % P25*x % P25))).toArray)∧Ext W w'):=fun W m e=>qP (jo5 _ YO) hx (hG.ext e)
 have IS:Hid (∀ m,(m=252∨m=250)→lbs 8 (iA x (m+1))=lbs 8 (iA x m*iA x m % P25)):=fun m h=>by rw [iA,if_pos h]
 have IN:Hid (∀ m, ¬ (m=252∨m=250)→lbs 8 (iA x (m+1))=lbs 8 (iA x m*iA x m % P25*x % P25)):=fun m h=>by rw [iA,if_neg h]
 have LL:Hid (∀ m,(lbs 8 (iA x m)).length=8):=fun m=>jnz _ _
 have LS:Hid (∀ m,(lbs 8 (iA x m*iA x m % P25)).length=8):=fun m=>jnz _ _
 have LN:Hid (∀ m,(lbs 8 (iA x m*iA x m % P25*x % P25)).length=8):=fun m=>jnz _ _
 obtain ⟨f,hf⟩:∃ f:Nat→List Nat,f=fun m=>lbs 8 (iA x m):=⟨_,rfl⟩
 obtain ⟨g,hg⟩:∃ g:Nat→List Nat,g=fun m=>lbs 8 (iA x m*iA x m % P25):=⟨_,rfl⟩
 obtain ⟨h,hh⟩:∃ h:Nat→List Nat,h=fun m=>lbs 8 (iA x m*iA x m % P25*x % P25):=⟨_,rfl⟩
 have f0:Hid (f 0=jhX):=by unfold Hid;rw [hf,jjj];rfl
 have f255:Hid (f 255=lbs 8 (zL x)):=by unfold Hid;rw [hf];rfl
 have SQ':Hid (∀ (W:World) m,Ext w W→Calls joz 141 #[.agg (jb (f m)).toArray, .agg (jb (f m)).toArray] W fun e w'=>e= .returned (.agg (jb (g m)).toArray)∧Ext W w'):=by rw [hf,hg];exact SQ
 have MX':Hid (∀ (W:World) m,Ext w W→Calls joz 141 #[.agg (jb (g m)).toArray, .agg (jb (lbs 8 x)).toArray] W fun e w'=>e= .returned (.agg (jb (h m)).toArray)∧Ext W w'):=by rw [hg,hh];exact MX
 have IS':Hid (∀ m,(m=252∨m=250)→f (m+1)=g m):=by rw [hf,hg];exact IS
 have IN':Hid (∀ m, ¬ (m=252∨m=250)→f (m+1)=h m):=by rw [hf,hh];exact IN
 have FL:Hid (∀ m,(f m).length=8):=by rw [hf];exact LL
 have GL:Hid (∀ m,(g m).length=8):=by rw [hg];exact LS
 have HL:Hid (∀ m,(h m).length=8):=by rw [hh];exact LN
 clear SQ MX IS IN LL LS LN hf hg hh hG hx
 unfold eV
 have XL:=jnz 8 x
 have RL:=jnz 8 (zL x)
 generalize lbs 8 (zL x)=rr at *
 generalize lbs 8 x=xs at *
 have XS:=jf XL
 have RS:=jf RL
 have OR:=jo rr
 have O1L:jhX.length=8:=rfl
 have hb1:=Hj jeL
 generalize jhX=ow at *
 have OS:=jf O1L
 have O1:=jo ow
 have hb2:Hid (Tryz.prog.built 233 [(0, .agg (jb ow).toArray)]=some (jb ow).toArray):=Qq OS
 have hal2:=vr
 have ZL:zw8.length=8:=rfl
 generalize zw8=zs at *
 have ZS:=jf ZL
 have B0:Hid (Wr (((w.alloc (jp0 (jb xs).toArray 233)).alloc (jp0 (jb zs).toArray 233)).alloc (jp0 (jb zs).toArray 233)) w.heap.size 233 xs∧Wr (((w.alloc (jp0 (jb xs).toArray 233)).alloc (jp0 (jb zs).toArray 233)).alloc (jp0 (jb zs).toArray 233)) (w.heap.size+1) 233 zs∧Wr (((w.alloc (jp0 (jb xs).toArray 233)).alloc (jp0 (jb zs).toArray 233)).alloc (jp0 (jb zs).toArray 233)) (w.heap.size+1+1) 233 zs∧Ext w (((w.alloc (jp0 (jb xs).toArray 233)).alloc (jp0 (jb zs).toArray 233)).alloc (jp0 (jb zs).toArray 233))):=⟨jF _ _ _ _,jH _ _ _ _,jB _ _ _ _,(((jnQ w).alloc _).alloc _).alloc _⟩
 go_enter Tryz.func142,Tryz.ntmps142
 go_upto_region 2 with (first
  | (refine jm rfl _ _ rfl (jb ow).toArray (by simp only [jpG,jpC,jpH];first | exact hb1.out | exact hb2.out) ?_;go_frame)
  | (refine ws_ rfl 233 rfl (w.heap.size+1+1) (jb ow).toArray rfl rfl B0.out.2.2.1 (by rw [OS];rfl) (by rw [OS,ZS]) O1 ?_;go_frame))
 refine jg (fun W=>Wr W w.heap.size 233 xs∧Wr W (w.heap.size+1) 233 zs∧Wr W (w.heap.size+1+1) 233 ow∧Ext w W) ⟨(jpA _ _ _ _ (by omega)).trans B0.out.1,(jpA _ _ _ _ (by omega)).trans B0.out.2.1,jpe _ _ _ _ _ _ B0.out.2.2.1,jpd B0.out.2.2.2 (by omega) _⟩ ?_
 clear B0
 rintro W0 ⟨wa,we,wc4,e0⟩
 replace wa:=Hj wa
 replace we:=Hj we
 replace wc4:=Hj wc4
 replace e0:=Hj e0
 go_wp2_with fail
 go_loopw [4] (fun iv wr=>∃ m:Nat,m≤255∧iv= .int .i64 (254 - (m:Int))∧Below (w.heap.size+1+1) W0 wr∧Wr wr (w.heap.size+1+1) 233 (f m)) (fun iv _=>(intOf iv+1).toNat)
 case atStart=>exact ⟨0,jor _,rfl,joo _ _,by rw [f0.out];exact wc4.out⟩
 case round=>
  obtain ⟨m,hm,rfl,hB,hw⟩:=hrel
  clear wc4
  by_cases hlt:m < 255
  ·obtain ⟨b,hb⟩:∃ b:Int,b=254 - (m:Int):=⟨_,rfl⟩
   rw [←hb]
   have b0:(0:Int)≤b:=by omega
   have b1:b≤254:=by omega
   have bw:IntKind.i64.wrap (b - 1)=b - 1:=jp2 _ (by omega)
   have hbn:Hid (b - 1=254 - ((m+1:Nat):Int)):=by unfold Hid;omega
   have hme:Hid ((b - 1+1).toNat < (b+1).toNat):=by unfold Hid;omega
   have FM:=FL.out m
   have GM:=GL.out m
   have HM:=HL.out m
   have SQm:=Hj (fun W e=>SQ'.out W m e)
   have MXm:=Hj (fun W e=>MX'.out W m e)
   have FS:=jf FM
   have GS:=jf GM
   have HS:=jf HM
   have G1:=jo (g m)
   have H1:=jo (h m)
   have CASE:Hid (((b=2∨b=4)∧f (m+1)=g m)∨((¬ b=2∧ ¬ b=4)∧f (m+1)=h m)):=by
    unfold Hid
    by_cases q:m=252∨m=250
    ·exact .inl ⟨by omega,IS'.out m q⟩
    ·exact .inr ⟨by omega,IN'.out m q⟩
   generalize f m=fm at *
   generalize g m=gm at *
   generalize h m=hm' at *
   obtain ⟨fn,hfn⟩:=ex_ (f (m+1))
   rw [←hfn] at CASE
   replace hfn:=Hj hfn
   replace hb:=Hj hb
   have xw:Hid (Ext w wr):=jop e0.out (hB.mono (by omega))
   replace hB:=Hj hB
   replace hw:=Hj hw
   go_wp2_with (refine wl_ rfl 233 rfl (w.heap.size+1+1) rfl hw.out rfl rfl (by rw [FS];rfl) ?_;go_frame)
   refine (SQm.out _ xw.out).mono ?_
   rintro e w1 ⟨rfl,e1⟩
   have r1:=Hj (hw.out.kept e1 hw.out.lt)
   have hB1:Hid (Below (w.heap.size+1+1) W0 w1):=jop hB.out (e1.mono (jpW hw.out.lt))
   go_upto_region 6 with (refine ws_ rfl 233 rfl (w.heap.size+1+1) (jb gm).toArray rfl rfl r1.out (by rw [GS];rfl) (by rw [GS,FS]) G1 ?_;go_frame)
   refine jg (fun W=>Wr W (w.heap.size+1+1) 233 gm∧Below (w.heap.size+1+1) W0 W) ⟨jpe _ _ _ _ _ _ r1.out,jpd hB1.out (joq _) _⟩ ?_
   clear r1 hB1 e1 hw hB xw
   rintro w2 ⟨hw,hB⟩
   have xw:Hid (Ext w w2):=jop e0.out (hB.mono (by omega))
   have ka:=Hj (wa.out.kept hB (by omega))
   replace hB:=Hj hB
   replace hw:=Hj hw
   rcases CASE.out with ⟨hbb,rfl⟩ | ⟨⟨n2,n4⟩,rfl⟩
   ·clear CASE
    rcases hbb with rfl | rfl
    ·go_wp2_with fail
     refine ⟨⟨m+1,by omega,by rw [←hbn.out];rfl,hB.out,by rw [←hfn.out];exact hw.out⟩,by simp [intOf]⟩
    ·go_wp2_with fail
     refine ⟨⟨m+1,by omega,by rw [←hbn.out];rfl,hB.out,by rw [←hfn.out];exact hw.out⟩,by simp [intOf]⟩
   ·clear CASE
    have n2b:(b !=2)=true:=by simpa using n2
    have n4b:(b !=4)=true:=by simpa using n4
    go_wp2_with (first
     | (refine wl_ rfl 233 rfl (w.heap.size+1+1) rfl hw.out rfl rfl (by rw [GS];rfl) ?_;go_frame)
     | (refine wl_ rfl 233 rfl w.heap.size rfl ka.out rfl rfl (by rw [XS];rfl) ?_;go_frame))
    refine (MXm.out _ xw.out).mono ?_
    rintro e w3 ⟨rfl,e1⟩
    have r1:=Hj (hw.out.kept e1 hw.out.lt)
    have hB1:Hid (Below (w.heap.size+1+1) W0 w3):=jop hB.out (e1.mono (jpW hw.out.lt))
    go_wp2_with (refine ws_ rfl 233 rfl (w.heap.size+1+1) (jb fn).toArray rfl rfl r1.out (by rw [HS];rfl) (by rw [HS,GS]) H1 ?_;go_frame)
    refine ⟨⟨m+1,by omega,by rw [←hbn.out],jpd hB1.out (joq _) _,by rw [←hfn.out];exact jpe _ _ _ _ _ _ r1.out⟩,by simp [intOf];omega⟩
  ·obtain rfl:m=255:=by omega
   rw [f255.out] at hw
   have we1:=Hj (we.out.kept hB (by omega))
   have EE:Hid (Ext w wr):=jop e0.out (hB.mono (by omega))
   replace hw:=Hj hw
   clear hB e0 we wa
   go_wp2_with (first
    | (refine wl_ rfl 233 rfl (w.heap.size+1+1) rfl hw.out rfl rfl (by rw [RS];rfl) ?_;go_frame)
    | (refine ws_ rfl 233 rfl (w.heap.size+1) (jb rr).toArray rfl rfl we1.out (by rw [RS];rfl) (by rw [RS,ZS]) OR ?_;go_frame))
   (try simp only [jpX,Exit.then])
   refine jpY (jpZ rfl _ _ (w.heap.size+1) 233 (jb rr).toArray (0,0) _ rfl (jpe _ _ _ _ _ _ we1.out) rfl rfl (by rw [RS];rfl)) rfl ?_
   exact ⟨rfl,jpd EE.out (by omega) _⟩
def eA:Nat→Nat
 | 0=>0
 | m+1=>if m=252∨m=250 then eA m+eA m else eA m+eA m+1
theorem jev (x:Nat):∀ m,iA x m=x ^ eA m % P25
 | 0=>by rw [iA,eA,Nat.pow_zero];decide+kernel
 | m+1=>by
   rw [iA,eA,jev x m]
   split
   ·rw [jpM,←jpN]
   ·rw [jpP,jpM,←jpN,Nat.mod_mul_mod]
theorem jhm:eA 255=P25 - 2:=by decide+kernel
theorem jd9:P25=57896044618658097711785492504343953926634992332820282019728792003956564819949:=by decide+kernel
theorem jjA:Go.Pratt.Root P25 2:=by rw [jd9];exact Go.Pratt.rootP
theorem jgj:zL 0=0:=by
 rw [zL,jev,jhm]
 rw [Nat.zero_pow (by decide+kernel)]
 exact Nat.zero_mod _
theorem jhS {x:Nat}(h0:x≠0) (hx:x < P25):x*zL x % P25=1:=by
 rw [zL,jev,jhm,Nat.mul_mod_mod,jpK,←jpP]
 have:=jjA.fermat (by omega) hx
 rwa [show (P25 - 2).succ=P25 - 1 by rw [jd9]]
end
section
open Go.ChangeShapes Go.WideShapes Go.ChangeAt Go.RowKit Go.Deep
open Go.Edw (Fq Q25 stepF swapF ladF resF)
def jnw (x y:Nat):Nat:=(x+y) % P25
def zO (x y:Nat):Nat:=(x+(P25 - y)) % P25
def qs (x y:Nat):Nat:=x*y % P25
theorem Z3 (x y:Nat):jnw x y < P25:=jo5 _ YO
theorem Z6 (x y:Nat):zO x y < P25:=jo5 _ YO
theorem vU (x y:Nat):qs x y < P25:=jo5 _ YO
abbrev StN:=Nat×Nat×Nat×Nat
def yM (x:Nat) (s:StN):StN:=
 let e:=jnw s.1 s.2.2.1;let f:=zO s.1 s.2.2.1;let g:=jnw s.2.1 s.2.2.2;let h:=zO s.2.1 s.2.2.2
 let u:=qs e e;let v:=qs f f;let w:=zO u v;let y:=qs h e;let z:=qs g f
 (qs u v,qs (jnw y z) (jnw y z),qs w (jnw u (qs 121665 w)),qs (qs x (zO y z)) (zO y z))
def YM (t:Bool) (s:StN):StN:=if t then (s.2.1,s.1,s.2.2.2,s.2.2.1) else s
def Zg (x:Nat) (bits:Nat→Bool):Nat→StN
 | 0=>(1,x,0,1)
 | m+1=>YM (bits m) (yM x (YM (bits m) (Zg x bits m)))
def yk (ks:List UInt8) (i:Nat):Bool:=if i < 3∨i=255 then false else if i=254 then true else decide (bt ks (i / 8) / 2 ^ (i % 8) % 2=1)
def jY (ks:List UInt8) (x:Nat):Nat:=qs (Zg x (fun m=>yk ks (254 - m)) 255).1 (zL (Zg x (fun m=>yk ks (254 - m)) 255).2.2.1)
theorem yL (ks:List UInt8) (x:Nat):jY ks x < P25:=vU _ _
def LtS (s:StN):Prop:=s.1 < P25∧s.2.1 < P25∧s.2.2.1 < P25∧s.2.2.2 < P25
theorem jaX {t:Bool}{s:StN}(h:LtS s):LtS (YM t s):=by
 cases t
 ·exact h
 ·exact ⟨h.2.1,h.1,h.2.2.2,h.2.2.1⟩
theorem jiC (x:Nat) (s:StN):LtS (yM x s):=⟨vU _ _,vU _ _,vU _ _,vU _ _⟩
theorem jcj {x:Nat}(hx:x < P25) (bits:Nat→Bool):∀ m,LtS (Zg x bits m)
 | 0=>⟨by show 1 < P25;decide+kernel,hx,YO,by show 1 < P25;decide+kernel⟩
 | _+1=>jaX (jiC _ _)
theorem jcA:Q25=P25:=jd9.symm
def toF (n:Nat):Fq:=⟨n % Q25,jo5 _ (by decide)⟩
theorem zo (n:Nat):(toF n).val=n % P25:=by show n % Q25=_;rw [jcA]
theorem jjH {x y:Nat}(hx:x < P25) (hy:y < P25) (h:toF x=toF y):x=y:=by
 have:=congrArg Fin.val h
 rwa [zo,zo,jpO hx,jpO hy] at this
theorem jjG (x y:Nat):toF (jnw x y)=toF x+toF y:=Fin.ext (by
 rw [Fin.val_add,zo,zo,zo,jnw,Nat.mod_mod,jcA,←Nat.add_mod])
theorem jcJ (x y:Nat):toF (qs x y)=toF x*toF y:=Fin.ext (by
 rw [Fin.val_mul,zo,zo,zo,qs,Nat.mod_mod,jcA,←jpN])
theorem jcK (x:Nat){y:Nat}(hy:y < P25):toF (zO x y)=toF x - toF y:=Fin.ext (by
 rw [Fin.sub_def]
 show (toF (zO x y)).val=(Q25 - (toF y).val+(toF x).val) % Q25
 rw [zo,zo,zo,zO,Nat.mod_mod,jcA,jpO hy,Nat.add_mod_mod,Nat.add_comm])
theorem jjI {c:Nat}(hc:c < P25):toF (zL c)=Go.Edw.fi (toF c):=by
 by_cases h:c=0
 ·subst h
  rw [jgj]
  have:toF 0=0:=rfl
  rw [this,Go.Edw.fi_zero]
 ·refine (Go.Edw.fi_uniq ?_).symm
  rw [←jcJ]
  have:qs c (zL c)=1:=jhS h hc
  rw [this]
  decide+kernel
def toS (s:StN):Fq×Fq×Fq×Fq:=(toF s.1,toF s.2.1,toF s.2.2.1,toF s.2.2.2)
theorem jd5 (t:Bool) (s:StN):toS (YM t s)=swapF t (toS s):=by cases t <;> rfl
theorem jiF {x:Nat}{s:StN}(h:LtS s):toS (yM x s)=stepF 121665 (toF x) (toS s):=by
 obtain ⟨a,b,c,d⟩:=s
 obtain ⟨h1,h2,h3,h4⟩:=h
 have k:toF 121665=121665:=by decide+kernel
 simp only [toS,yM,stepF,jcJ,jjG,jcK _ h3,jcK _ h4,jcK _ (vU _ _),k]
theorem jcL {x:Nat}(hx:x < P25) (bits:Nat→Bool):∀ m,toS (Zg x bits m)=ladF 121665 (toF x) bits m
 | 0=>by
   show ((toF 1,toF x,toF 0,toF 1):Fq×Fq×Fq×Fq)=(1,toF x,0,1)
   rw [show toF 1=1 by decide+kernel,show toF 0=0 from rfl]
 | m+1=>by
   show toS (YM (bits m) (yM x (YM (bits m) (Zg x bits m))))=swapF (bits m) (stepF 121665 (toF x) (swapF (bits m) (ladF 121665 (toF x) bits m)))
   rw [jd5,jiF (jaX (jcj hx bits m)),jd5,jcL hx bits m]
theorem YN (ks:List UInt8){x:Nat}(hx:x < P25):toF (jY ks x)=resF 121665 (toF x) (fun m=>yk ks (254 - m)):=by
 have h:=jcL hx (fun m=>yk ks (254 - m)) 255
 have hl:=jcj hx (fun m=>yk ks (254 - m)) 255
 unfold jY resF
 rw [←h,jcJ,jjI hl.2.2.1]
 rfl
theorem jgr (ks ls:List UInt8){x:Nat}(hx:x < P25):jY ls (jY ks x)=jY ks (jY ls x):=by
 refine jjH (yL _ _) (yL _ _) ?_
 rw [YN _ (yL _ _),YN _ hx,YN _ (yL _ _),YN _ hx]
 exact Go.Edw.res_comm _ rfl rfl rfl rfl
end
section
open Go.ChangeShapes Go.WideShapes Go.ChangeAt Go.RowKit Go.Deep
theorem Yq (vs:List Nat):(jb vs).length=vs.length:=by simp [jb]
theorem jfj {vs:List Nat}{j:Nat}(h:j < vs.length):(jb vs)[j]? =some (.int .u32 (wd vs j:Int)):=by simp [jb,wd,jot,h]
theorem jbo (xs ys:List Nat) (o:Nat):jpb (jb xs) o (jb ys)=jb (jpb xs o ys):=by simp [jb,jpb]
theorem jfh {o:Oper}{a:Act}{K:Act→World→Prop}{Q:Exit→Act→World→Prop}{W:World}{b g off dLen dCap:Nat}{us vs:List Nat}{t t' dT sT ty:joE}{n c:Nat}(hu:Tryz.prog.underlying dT=some (.slice 133)) (hg:Wr W g t us) (hb:Wr W b t' vs) (hn:vs.length=n) (hd:n≤dLen) (hfit:off+n≤us.length)
 (H:∀ W',Hid (Wr W' g t (jpb us off vs))→Hid (∀ B,B≤g→Below B W W')→Oper.upon joz o a K Q (.ok (Next.value (goInt n)) W')):
 Oper.upon joz o a K Q (((Builtin.copy_ #[dT,sT] ty #[.slice (some ⟨g,off,none⟩) dLen dCap, .slice (some ⟨b,0,none⟩) n c]).run joz W).andThen fun a w'=> .ok (Next.value a) w'):=by
 have hsz:(Tryz.prog.info? 133).map (·.size)=some 1:=rfl
 have hr:=run_copy_row joz W dT sT ty _ g off dLen dCap ⟨b,0,none⟩ n c (jb us).toArray t (jb vs) hu hsz hg (by rw [Yq,hn];exact (Nat.min_eq_left hd).symm) (fun j v hv=>by
  have hj:j < vs.length:=by
   rcases jow j vs.length with q | q
   ·exact q
   ·rw [jpc (by rw [Yq];exact q)] at hv;cases hv
  rw [jfj hj] at hv
  injection hv with hv
  subst hv
  have:(⟨b,0,none⟩:Addr).add j=⟨b,j,none⟩:=by unfold Addr.add;split <;> simp_all
  rw [this]
  exact hb.cell hj) (by rw [Yq];simp [jb];omega) (fun v hv=>by
  obtain ⟨j,_,rfl⟩:=joP.1 hv
  rfl)
 rw [Yq,hn] at hr
 rw [hr]
 refine H _ ?_ (fun B hB=>jpd (joo _ _) hB _)
 have:=jpe W g _ (((jb us).take off++jb vs++(jb us).drop (off+n)).toArray) t _ hg
 show _=_
 rw [←jbo]
 simpa [jpb,Yq,hn,jpf] using this
def J3 (n m:Nat):List UInt8:=(jo3 m).map fun i=>jov (n / 256 ^ i)
theorem vM (n m:Nat):(J3 n m).length=m:=by simp [J3]
theorem jb1 {n m k:Nat}(hk:k < m):bt (J3 n m) k=n / 256 ^ k % 256:=by
 unfold bt J3
 simp [jot,hk]
def Jd (n k:Nat):Nat:=n / 256 ^ k
theorem jez (n k:Nat):Jd n k / 256=Jd n (k+1):=by unfold Jd;rw [jpS,jpP]
theorem jhN (n k:Nat):Jd n k≤n:=Nat.div_le_self _ _
theorem jgp (n k:Nat):(Jd n k:Int) / 256=(Jd n (k+1):Int):=by rw [←jez];omega
theorem jey (n k:Nat):(Jd n k:Int) % 256=((n / 256 ^ k % 256:Nat):Int):=by
 show (Jd n k:Int) % 256=((Jd n k % 256:Nat):Int)
 omega
theorem Zh {n m:Nat}{many:Int}{w:World}(hn:n < 18446744073709551616) (h1:0≤many) (h2:many≤9223372036854775807) (hm8:m≤8) (hM:(if (8:Int) < many then 8 else many)=(m:Int)):
 Calls joz 147 #[.int .u64 (n:Int), .int .i64 many] w (Qw (J3 n m) w):=by
 have hmk:=jhQ m (by omega)
 have hz:Jd n 0=n:=by simp [Jd]
 go_enter Tryz.func147,Tryz.ntmps147
 go_wp2
 clear hmk hM
 go_loopw [0,13] (fun x i wr=>∃ k:Nat,k≤m∧i= .int .i64 k∧x= .int .u64 (Jd n k:Int)∧Fill w wr m k (fun j=>n / 256 ^ j % 256)) (fun _ i _=>m - (intOf i).toNat)
 case atStart=>exact ⟨0,jor _,rfl,by rw [hz],Fill.start _ _ _⟩
 case round=>
  obtain ⟨k,hk,rfl,rfl,hf⟩:=hrel
  clear hz
  by_cases hlt:k < m
  ·have g3:=hf.cell hlt
   have g4:=hf.frozen k
   have hle:=jo6 (jhN n k) hn
   go_wp2
   go_roundw
   case rel=>
    exact ⟨k+1,by omega,by go_num,congrArg (joC .u64) (jgp n k),hf.step (jey n k)⟩
   case measure=>simp [intOf];omega
  ·obtain rfl:k=m:=by omega
   go_wp2
   go_ret
   exact ⟨_,_,_,rfl,hf.done (vM n k) (by omega) (fun j hj=>(jb1 hj).symm),hf.1⟩
def vF:List UInt8→Nat
 | []=>0
 | x::xs=>x.toNat+256*vF xs
theorem Yd:∀ xs:List UInt8,vF xs < 256 ^ xs.length
 | []=>by simp [vF]
 | x::xs=>by
   have h:=Yd xs
   have hx:x.toNat < 256:=x.toNat_lt
   simp only [vF,List.length_cons,jpP]
   omega
theorem Qf:∀ (xs:List UInt8) (y:UInt8),vF (xs++ [y])=vF xs+256 ^ xs.length*y.toNat
 | [],y=>by simp [vF]
 | x::xs,y=>by
   rw [List.cons_append,vF,Qf xs y,vF,List.length_cons,jpP,Nat.mul_add,jpK (256 ^ xs.length) 256,jpL,Nat.add_assoc]
def Yv (xs:List UInt8) (k:Nat):Nat:=vF (xs.take k)
theorem jcp {xs:List UInt8}{k:Nat}(h:k < xs.length):Yv xs (k+1)=Yv xs k+256 ^ k*bt xs k:=by
 unfold Yv
 rw [jn5 h,Qf,jou,Nat.min_eq_left (by omega)]
 simp [bt,jot,h]
theorem jeG {xs:List UInt8}{k:Nat}(h:k≤xs.length):Yv xs k < 256 ^ k:=by
 have:=Yd (xs.take k)
 rwa [jou,Nat.min_eq_left h] at this
theorem jeH {xs:List UInt8}{k:Nat}(h:k < xs.length) (hk:k < 8):
 bits .or .u64 (Yv xs k:Int) (IntKind.u64.wrap ((bt xs k:Int)*2 ^ (8*k)))=(Yv xs (k+1):Int):=by
 have h1:=jeG (xs:=xs) (k:=k) (by omega)
 have hb:=vL xs k
 have hp:(256:Nat) ^ k=2 ^ (8*k):=by rw [Nat.pow_mul]
 have hpk:(2:Nat) ^ (8*k)≤2 ^ 56:=Nat.pow_le_pow_right (by omega) (by omega)
 have hlt:bt xs k*2 ^ (8*k) < 18446744073709551616:=by
  have:bt xs k*2 ^ (8*k)≤255*2 ^ 56:=Nat.mul_le_mul (by omega) hpk
  omega
 have hc:((bt xs k:Int)*2 ^ (8*k))=((bt xs k*2 ^ (8*k):Nat):Int):=by push_cast;rfl
 rw [hc,IntWalk.u64_in _ (by omega),jcp h,hp]
 rw [hp] at h1
 generalize Yv xs k=y at *
 have hy:y < 18446744073709551616:=by omega
 rw [u64_or_nat _ _ hy hlt,Nat.or_comm,nat_join (8*k) _ _ (Nat.mul_mod_left _ _) h1,jpK,Nat.add_comm]
theorem ZF {A:Option Addr}{n c:Nat}{m:Nat}{xs:List UInt8}{w:World}(h:Bs w A n c xs) (hm8:m≤8) (hmn:m≤n) (hM:(if (8:Int) < (n:Int) then 8 else (n:Int))=(m:Int)):
 Calls joz 170 #[.slice A n c] w fun e w'=>e= .returned (.int .u64 (vF (xs.take m):Int))∧w'=w:=by
 have h1:=h.le
 have h2:=h.cap
 go_enter Tryz.func170,Tryz.ntmps170
 go_wp2
 clear hM
 go_loop [3,8] (fun x i=>∃ k:Nat,k≤m∧i= .int .i64 k∧x= .int .u64 (Yv xs k:Int)) (fun _ i=>m - (intOf i).toNat)
 case atStart=>exact ⟨0,jor _,rfl,rfl⟩
 case round=>
  obtain ⟨k,hk,rfl,rfl⟩:=hrel
  by_cases hlt:k < m
  ·obtain ⟨b,off,rfl,hb,hc⟩:=h.pos (by omega)
   have g1:=hc k (by omega)
   have hbt:=vL xs k
   clear hc
   go_wp2
   go_round
   case rel=>
    exact ⟨k+1,by omega,by go_num,congrArg (joC .u64) (jeH (by rw [h.len];omega) (by omega))⟩
   case measure=>simp [intOf];omega
  ·obtain rfl:k=m:=by omega
   go_wp2
   go_ret
   exact ⟨rfl,rfl⟩
theorem jdG {n x:Nat}(hn:n≤32) (hx:x < 4294967296):bits .or .u32 ((x:Int)*2 ^ (32 - n) % 4294967296) ((x:Int) / 2 ^ n)=(QK n x:Int):=by
 have h1:(x:Int)*2 ^ (32 - n) % 4294967296=((x*2 ^ (32 - n) % 4294967296:Nat):Int):=by simp
 have h2:(x:Int) / 2 ^ n=((x / 2 ^ n:Nat):Int):=by simp
 rw [h1,h2,u32_or_nat _ _ (jo5 _ (by omega)) (jo6 (Nat.div_le_self _ _) hx)]
 rfl
theorem yW {n x:Nat}{k:Int}{w:World}(hx:x < 4294967296) (hk:bits .and .u64 (IntKind.u64.wrap k) 31=((32 - n:Nat):Int)) (h1:1≤n) (h2:n≤31):
 Calls joz 171 #[.int .u32 (x:Int), .int .i64 k] w fun e w'=>e= .returned (.int .u32 (QK n x:Int))∧w'=w:=by
 have hs:∃ s:Nat,32 - n=s∧s≤31∧n=32 - s:=⟨32 - n,rfl,by omega,by omega⟩
 obtain ⟨s,e1,e2,e3⟩:=hs
 have hf:=Hj (jdG (n:=n) (by omega) hx)
 rw [e1] at hk hf
 have hd:IntKind.u64.wrap (32 - (s:Int))=(n:Int):=by rw [IntWalk.u64_in _ (by omega)];omega
 go_enter Tryz.func171,Tryz.ntmps171
 go_wp2_with fail
 go_ret
 refine ⟨congrArg (fun v=>Ending.returned (joC .u32 v)) (Eq.trans ?_ hf.out),rfl⟩
 rw [e3]
theorem jk7 {x:Nat}{w:World}(hx:x < 4294967296):
 Calls joz 171 #[.int .u32 (x:Int), .int .i64 (-16)] w fun e w'=>e= .returned (.int .u32 (QK 16 x:Int))∧w'=w:=yW hx (by decide) (by omega) (by omega)
theorem jk6 {x:Nat}{w:World}(hx:x < 4294967296):
 Calls joz 171 #[.int .u32 (x:Int), .int .i64 (-12)] w fun e w'=>e= .returned (.int .u32 (QK 12 x:Int))∧w'=w:=yW hx (by decide) (by omega) (by omega)
theorem jmh {x:Nat}{w:World}(hx:x < 4294967296):
 Calls joz 171 #[.int .u32 (x:Int), .int .i64 (-8)] w fun e w'=>e= .returned (.int .u32 (QK 8 x:Int))∧w'=w:=yW hx (by decide) (by omega) (by omega)
theorem jmg {x:Nat}{w:World}(hx:x < 4294967296):
 Calls joz 171 #[.int .u32 (x:Int), .int .i64 (-7)] w fun e w'=>e= .returned (.int .u32 (QK 7 x:Int))∧w'=w:=yW hx (by decide) (by omega) (by omega)
theorem jkD {x:Nat}{w:World}(hx:x < 4294967296):
 Calls joz 171 #[.int .u32 (x:Int), .int .i64 16] w fun e w'=>e= .returned (.int .u32 (QK 16 x:Int))∧w'=w:=yW hx (by decide) (by omega) (by omega)
theorem jkC {x:Nat}{w:World}(hx:x < 4294967296):
 Calls joz 171 #[.int .u32 (x:Int), .int .i64 12] w fun e w'=>e= .returned (.int .u32 (QK 20 x:Int))∧w'=w:=yW hx (by decide) (by omega) (by omega)
theorem jk9 {x:Nat}{w:World}(hx:x < 4294967296):
 Calls joz 171 #[.int .u32 (x:Int), .int .i64 8] w fun e w'=>e= .returned (.int .u32 (QK 24 x:Int))∧w'=w:=yW hx (by decide) (by omega) (by omega)
theorem jk8 {x:Nat}{w:World}(hx:x < 4294967296):
 Calls joz 171 #[.int .u32 (x:Int), .int .i64 7] w fun e w'=>e= .returned (.int .u32 (QK 25 x:Int))∧w'=w:=yW hx (by decide) (by omega) (by omega)
def vX (vs:List Nat) (a b x:Nat):List Nat:=vs.set a (qF (wd vs a) (qF (wd vs b) x))
def q9 (vs:List Nat) (a b c d x y:Nat):List Nat:=
 qa 7 (qu (qa 8 (vX (qa 12 (qu (qa 16 (vX vs a b x) d a) c d) b c) a b y) d a) c d) b c
theorem jnB (vs:List Nat) (a b x:Nat):(vX vs a b x).length=vs.length:=by simp [vX]
theorem vD (vs:List Nat) (a b c d x y:Nat):(q9 vs a b c d x y).length=vs.length:=by simp [q9,vX,qa,qu]
set_option maxRecDepth 100000 in
theorem yT {g a b c d x y:Nat}{vs:List Nat}{w:World}(h:Arr w g vs) (hl:vs.length=16) (ha:a < 16) (hb:b < 16) (hc:c < 16) (hd:d < 16) (hx:x < 4294967296) (hy:y < 4294967296):
 Calls joz 154 #[.pointer (some ⟨g,0,none⟩), .int .i64 (a:Int), .int .i64 (b:Int), .int .i64 (c:Int), .int .i64 (d:Int), .int .u32 (x:Int), .int .u32 (y:Int)] w
  fun e w'=>e= .returned (.tuple #[])∧Arr w' g (q9 vs a b c d x y)∧w.grownBy w' (some g):=by
 have ha':(a:Int) < 16:=by omega
 have hb':(b:Int) < 16:=by omega
 have hc':(c:Int) < 16:=by omega
 have hd':(d:Int) < 16:=by omega
 go_enter Tryz.func154,Tryz.ntmps154
 go_wp2_with fail
 refine jg (fun w1=>Arr w1 g vs∧w.grownBy w1 (some g)) ⟨h,jV (jnQ _) _⟩ ?_
 rintro w0 ⟨A0,G0⟩
 have L0:=hl
 clear h
 obtain ⟨cp,fp,lp⟩:=A0.fct (i:=a) (by omega)
 obtain ⟨cq,fq,lq⟩:=A0.fct (i:=b) (by omega)
 have KEEP:Hid (∀ w',Ext w0 w'→w'.cell? ⟨g,a,none⟩=some (.int .u32 (wd vs a:Int))∧w'.cell? ⟨g,b,none⟩=some (.int .u32 (wd vs b:Int))):=fun w' e=>⟨((A0.ext e).fct (by omega)).1,((A0.ext e).fct (by omega)).1⟩
 have u1:IntKind.u32.wrap ((wd vs b:Int)+(x:Int))=(qF (wd vs b) x:Int):=vP
 have u2:IntKind.u32.wrap ((wd vs a:Int)+(qF (wd vs b) x:Int))=(qF (wd vs a) (qF (wd vs b) x):Int):=vP
 refine ym 15 [0,1,2,3,4,5,6,7,8,9,10,11,12,13,14,15] [15] ?_
 repeat (refine qzR _ (fun w' e=>KEEP.out w' ((jnQ _).drew.trans e)) ?_;go_frame)
 refine qzD fun K1 hK1=> ?_
 go_simp
 refine hK1.out _ _ (.inl rfl) ?_
 clear hK1 K1
 refine jN ?_
 go_wp2_with fail
 refine jg (fun w1=>Arr w1 g (vX vs a b x)∧w.grownBy w1 (some g)) ⟨(A0.set (by omega) (ve _ _)).ext (jnQ _).drew,qt G0⟩ ?_
 rintro w1 ⟨A1,G1⟩
 have L1:(vX vs a b x).length=16:=(jnB ..).trans L0
 clear A0 G0 L0 cp fp lp cq fq lq KEEP u1 u2
 generalize HV0:vX vs a b x=v1 at A1 L1
 replace HV0:=Hj HV0
 obtain ⟨cp,fp,lp⟩:=A1.fct (i:=d) (by omega)
 obtain ⟨cq,fq,lq⟩:=A1.fct (i:=a) (by omega)
 have KEEP:Hid (∀ w',Ext w1 w'→w'.cell? ⟨g,d,none⟩=some (.int .u32 (wd v1 d:Int))∧w'.cell? ⟨g,a,none⟩=some (.int .u32 (wd v1 a:Int))):=fun w' e=>⟨((A1.ext e).fct (by omega)).1,((A1.ext e).fct (by omega)).1⟩
 have u1:bits .xor .u32 (wd v1 d:Int) (wd v1 a:Int)=((wd v1 d^^^wd v1 a:Nat):Int):=jn6 _ _ lp lq
 have HR:=Hj (fun w0:World=> @jk7 (wd v1 d^^^wd v1 a) w0 (jL lp lq))
 refine ym 16 [0,1,2,3,4,5,6,7,8,9,10,11,12,14,13,15,16] [13,16] ?_
 repeat (refine qzR _ (fun w' e=>KEEP.out w' ((jnQ _).drew.trans e)) ?_;go_frame)
 refine qzD fun K1 hK1=> ?_
 go_simp
 refine (HR.out _).mono ?_
 rintro e w1 ⟨rfl,rfl⟩
 refine hK1.out _ _ (.inr (jnQ _)) ?_
 clear hK1 K1
 try go_frame
 repeat (refine qzR _ (fun w' e=>KEEP.out w' ((jnQ _).drew.trans e)) ?_;go_frame)
 refine qzD fun K1 hK1=> ?_
 go_simp
 refine hK1.out _ _ (.inl rfl) ?_
 clear hK1 K1
 refine jN ?_
 go_wp2_with fail
 refine jg (fun w1=>Arr w1 g (qa 16 v1 d a)∧w.grownBy w1 (some g)) ⟨(A1.set (by omega) (yB (jL lp lq))).ext (jnQ _).drew,qt G1⟩ ?_
 rintro w2 ⟨A2,G2⟩
 have L2:(qa 16 v1 d a).length=16:=(yd ..).trans L1
 clear A1 G1 L1 cp fp lp cq fq lq KEEP u1 HR
 generalize HV1:qa 16 v1 d a=v2 at A2 L2
 replace HV1:=Hj HV1
 obtain ⟨cp,fp,lp⟩:=A2.fct (i:=c) (by omega)
 obtain ⟨cq,fq,lq⟩:=A2.fct (i:=d) (by omega)
 have KEEP:Hid (∀ w',Ext w2 w'→w'.cell? ⟨g,c,none⟩=some (.int .u32 (wd v2 c:Int))∧w'.cell? ⟨g,d,none⟩=some (.int .u32 (wd v2 d:Int))):=fun w' e=>⟨((A2.ext e).fct (by omega)).1,((A2.ext e).fct (by omega)).1⟩
 have u1:IntKind.u32.wrap ((wd v2 c:Int)+(wd v2 d:Int))=(qF (wd v2 c) (wd v2 d):Int):=vP
 refine ym 13 [0,1,2,3,4,5,6,7,8,9,10,11,12,13] [13] ?_
 repeat (refine qzR _ (fun w' e=>KEEP.out w' ((jnQ _).drew.trans e)) ?_;go_frame)
 refine qzD fun K1 hK1=> ?_
 go_simp
 refine hK1.out _ _ (.inl rfl) ?_
 clear hK1 K1
 refine jN ?_
 go_wp2_with fail
 refine jg (fun w1=>Arr w1 g (qu v2 c d)∧w.grownBy w1 (some g)) ⟨(A2.set (by omega) (ve _ _)).ext (jnQ _).drew,qt G2⟩ ?_
 rintro w3 ⟨A3,G3⟩
 have L3:(qu v2 c d).length=16:=(yq ..).trans L2
 clear A2 G2 L2 cp fp lp cq fq lq KEEP u1
 generalize HV2:qu v2 c d=v3 at A3 L3
 replace HV2:=Hj HV2
 obtain ⟨cp,fp,lp⟩:=A3.fct (i:=b) (by omega)
 obtain ⟨cq,fq,lq⟩:=A3.fct (i:=c) (by omega)
 have KEEP:Hid (∀ w',Ext w3 w'→w'.cell? ⟨g,b,none⟩=some (.int .u32 (wd v3 b:Int))∧w'.cell? ⟨g,c,none⟩=some (.int .u32 (wd v3 c:Int))):=fun w' e=>⟨((A3.ext e).fct (by omega)).1,((A3.ext e).fct (by omega)).1⟩
 have u1:bits .xor .u32 (wd v3 b:Int) (wd v3 c:Int)=((wd v3 b^^^wd v3 c:Nat):Int):=jn6 _ _ lp lq
 have HR:=Hj (fun w0:World=> @jk6 (wd v3 b^^^wd v3 c) w0 (jL lp lq))
 refine ym 16 [0,1,2,3,4,5,6,7,8,9,10,11,12,14,13,15,16] [13,16] ?_
 repeat (refine qzR _ (fun w' e=>KEEP.out w' ((jnQ _).drew.trans e)) ?_;go_frame)
 refine qzD fun K1 hK1=> ?_
 go_simp
 refine (HR.out _).mono ?_
 rintro e w1 ⟨rfl,rfl⟩
 refine hK1.out _ _ (.inr (jnQ _)) ?_
 clear hK1 K1
 try go_frame
 repeat (refine qzR _ (fun w' e=>KEEP.out w' ((jnQ _).drew.trans e)) ?_;go_frame)
 refine qzD fun K1 hK1=> ?_
 go_simp
 refine hK1.out _ _ (.inl rfl) ?_
 clear hK1 K1
 refine jN ?_
 go_wp2_with fail
 refine jg (fun w1=>Arr w1 g (qa 12 v3 b c)∧w.grownBy w1 (some g)) ⟨(A3.set (by omega) (yB (jL lp lq))).ext (jnQ _).drew,qt G3⟩ ?_
 rintro w4 ⟨A4,G4⟩
 have L4:(qa 12 v3 b c).length=16:=(yd ..).trans L3
 clear A3 G3 L3 cp fp lp cq fq lq KEEP u1 HR
 generalize HV3:qa 12 v3 b c=v4 at A4 L4
 replace HV3:=Hj HV3
 obtain ⟨cp,fp,lp⟩:=A4.fct (i:=a) (by omega)
 obtain ⟨cq,fq,lq⟩:=A4.fct (i:=b) (by omega)
 have KEEP:Hid (∀ w',Ext w4 w'→w'.cell? ⟨g,a,none⟩=some (.int .u32 (wd v4 a:Int))∧w'.cell? ⟨g,b,none⟩=some (.int .u32 (wd v4 b:Int))):=fun w' e=>⟨((A4.ext e).fct (by omega)).1,((A4.ext e).fct (by omega)).1⟩
 have u1:IntKind.u32.wrap ((wd v4 b:Int)+(y:Int))=(qF (wd v4 b) y:Int):=vP
 have u2:IntKind.u32.wrap ((wd v4 a:Int)+(qF (wd v4 b) y:Int))=(qF (wd v4 a) (qF (wd v4 b) y):Int):=vP
 refine ym 15 [0,1,2,3,4,5,6,7,8,9,10,11,12,13,14,15] [15] ?_
 repeat (refine qzR _ (fun w' e=>KEEP.out w' ((jnQ _).drew.trans e)) ?_;go_frame)
 refine qzD fun K1 hK1=> ?_
 go_simp
 refine hK1.out _ _ (.inl rfl) ?_
 clear hK1 K1
 refine jN ?_
 go_wp2_with fail
 refine jg (fun w1=>Arr w1 g (vX v4 a b y)∧w.grownBy w1 (some g)) ⟨(A4.set (by omega) (ve _ _)).ext (jnQ _).drew,qt G4⟩ ?_
 rintro w5 ⟨A5,G5⟩
 have L5:(vX v4 a b y).length=16:=(jnB ..).trans L4
 clear A4 G4 L4 cp fp lp cq fq lq KEEP u1 u2
 generalize HV4:vX v4 a b y=v5 at A5 L5
 replace HV4:=Hj HV4
 obtain ⟨cp,fp,lp⟩:=A5.fct (i:=d) (by omega)
 obtain ⟨cq,fq,lq⟩:=A5.fct (i:=a) (by omega)
 have KEEP:Hid (∀ w',Ext w5 w'→w'.cell? ⟨g,d,none⟩=some (.int .u32 (wd v5 d:Int))∧w'.cell? ⟨g,a,none⟩=some (.int .u32 (wd v5 a:Int))):=fun w' e=>⟨((A5.ext e).fct (by omega)).1,((A5.ext e).fct (by omega)).1⟩
 have u1:bits .xor .u32 (wd v5 d:Int) (wd v5 a:Int)=((wd v5 d^^^wd v5 a:Nat):Int):=jn6 _ _ lp lq
 have HR:=Hj (fun w0:World=> @jmh (wd v5 d^^^wd v5 a) w0 (jL lp lq))
 refine ym 16 [0,1,2,3,4,5,6,7,8,9,10,11,12,14,13,15,16] [13,16] ?_
 repeat (refine qzR _ (fun w' e=>KEEP.out w' ((jnQ _).drew.trans e)) ?_;go_frame)
 refine qzD fun K1 hK1=> ?_
 go_simp
 refine (HR.out _).mono ?_
 rintro e w1 ⟨rfl,rfl⟩
 refine hK1.out _ _ (.inr (jnQ _)) ?_
 clear hK1 K1
 try go_frame
 repeat (refine qzR _ (fun w' e=>KEEP.out w' ((jnQ _).drew.trans e)) ?_;go_frame)
 refine qzD fun K1 hK1=> ?_
 go_simp
 refine hK1.out _ _ (.inl rfl) ?_
 clear hK1 K1
 refine jN ?_
 go_wp2_with fail
 refine jg (fun w1=>Arr w1 g (qa 8 v5 d a)∧w.grownBy w1 (some g)) ⟨(A5.set (by omega) (yB (jL lp lq))).ext (jnQ _).drew,qt G5⟩ ?_
 rintro w6 ⟨A6,G6⟩
 have L6:(qa 8 v5 d a).length=16:=(yd ..).trans L5
 clear A5 G5 L5 cp fp lp cq fq lq KEEP u1 HR
 generalize HV5:qa 8 v5 d a=v6 at A6 L6
 replace HV5:=Hj HV5
 obtain ⟨cp,fp,lp⟩:=A6.fct (i:=c) (by omega)
 obtain ⟨cq,fq,lq⟩:=A6.fct (i:=d) (by omega)
 have KEEP:Hid (∀ w',Ext w6 w'→w'.cell? ⟨g,c,none⟩=some (.int .u32 (wd v6 c:Int))∧w'.cell? ⟨g,d,none⟩=some (.int .u32 (wd v6 d:Int))):=fun w' e=>⟨((A6.ext e).fct (by omega)).1,((A6.ext e).fct (by omega)).1⟩
 have u1:IntKind.u32.wrap ((wd v6 c:Int)+(wd v6 d:Int))=(qF (wd v6 c) (wd v6 d):Int):=vP
 refine ym 13 [0,1,2,3,4,5,6,7,8,9,10,11,12,13] [13] ?_
 repeat (refine qzR _ (fun w' e=>KEEP.out w' ((jnQ _).drew.trans e)) ?_;go_frame)
 refine qzD fun K1 hK1=> ?_
 go_simp
 refine hK1.out _ _ (.inl rfl) ?_
 clear hK1 K1
 refine jN ?_
 go_wp2_with fail
 refine jg (fun w1=>Arr w1 g (qu v6 c d)∧w.grownBy w1 (some g)) ⟨(A6.set (by omega) (ve _ _)).ext (jnQ _).drew,qt G6⟩ ?_
 rintro w7 ⟨A7,G7⟩
 have L7:(qu v6 c d).length=16:=(yq ..).trans L6
 clear A6 G6 L6 cp fp lp cq fq lq KEEP u1
 generalize HV6:qu v6 c d=v7 at A7 L7
 replace HV6:=Hj HV6
 obtain ⟨cp,fp,lp⟩:=A7.fct (i:=b) (by omega)
 obtain ⟨cq,fq,lq⟩:=A7.fct (i:=c) (by omega)
 have KEEP:Hid (∀ w',Ext w7 w'→w'.cell? ⟨g,b,none⟩=some (.int .u32 (wd v7 b:Int))∧w'.cell? ⟨g,c,none⟩=some (.int .u32 (wd v7 c:Int))):=fun w' e=>⟨((A7.ext e).fct (by omega)).1,((A7.ext e).fct (by omega)).1⟩
 have u1:bits .xor .u32 (wd v7 b:Int) (wd v7 c:Int)=((wd v7 b^^^wd v7 c:Nat):Int):=jn6 _ _ lp lq
 have HR:=Hj (fun w0:World=> @jmg (wd v7 b^^^wd v7 c) w0 (jL lp lq))
 refine ym 16 [0,1,2,3,4,5,6,7,8,9,10,11,12,14,13,15,16] [13,16] ?_
 repeat (refine qzR _ (fun w' e=>KEEP.out w' ((jnQ _).drew.trans e)) ?_;go_frame)
 refine qzD fun K1 hK1=> ?_
 go_simp
 refine (HR.out _).mono ?_
 rintro e w1 ⟨rfl,rfl⟩
 refine hK1.out _ _ (.inr (jnQ _)) ?_
 clear hK1 K1
 try go_frame
 repeat (refine qzR _ (fun w' e=>KEEP.out w' ((jnQ _).drew.trans e)) ?_;go_frame)
 refine qzD fun K1 hK1=> ?_
 go_simp
 refine hK1.out _ _ (.inl rfl) ?_
 clear hK1 K1
 refine jN ?_
 go_wp2_with fail
 have HM:q9 vs a b c d x y=qa 7 v7 b c:=by
  unfold q9
  rw [HV0.out,HV1.out,HV2.out,HV3.out,HV4.out,HV5.out,HV6.out]
 rw [HM]
 go_end0
 exact ⟨rfl,(A7.set (by omega) (yB (jL lp lq))).ext (jnQ _).drew,qt G7⟩
def qQ (xs:List UInt8):List UInt8:=xs++jpp (64 - xs.length) 0
theorem Yk {xs:List UInt8}(h:xs.length≤64):(qQ xs).length=64:=by simp [qQ];omega
theorem je5 {xs:List UInt8}:jpb (jpp 64 (joC .u8 0)) 0 (cellsOf xs)=cellsOf (qQ xs):=by
 have hb:∀ j,(if j < xs.length then joC .u8 (bt xs j:Int) else .int .u8 0)= .int .u8 (bt (qQ xs) j:Int):=fun j=>by
  by_cases q:j < xs.length
  ·simp [q,bt,qQ,jot,List.getElem?_append]
  ·rw [if_neg q]
   unfold bt qQ
   simp only [jot,List.getElem?_append,if_neg q,jn4]
   split <;> rfl
 unfold jpb
 simp only [List.take_zero,jn7,joB,List.drop_replicate,ja]
 apply List.ext_getElem?
 intro j
 rw [List.getElem?_append,ja]
 by_cases q:j < xs.length
 ·rw [if_pos q,jZ q,jZ (by simp [qQ];omega)]
  have:=hb j
  rw [if_pos q] at this
  rw [this]
 ·rw [if_neg q,jn4]
  by_cases q2:j - xs.length < 64 - xs.length
  ·have:=hb j
   rw [if_neg q] at this
   rw [if_pos q2,jZ (by simp [qQ];omega),this]
  ·rw [if_neg q2,jpc (by rw [ja];simp [qQ];omega)]
set_option maxRecDepth 100000 in
theorem Ya {A:Option Addr}{n c:Nat}{xs:List UInt8}{w:World}(h:Bs w A n c xs) (hn:n≤64):
 Calls joz 125 #[.slice A n c] w fun e w'=>e= .returned (.agg (cellsOf (qQ xs)).toArray)∧Ext w w':=by
 go_enter Tryz.func125,Tryz.ntmps125
 go_wp2_with fail
 refine JZ (cur:=jpp 64 (joC .u8 0)) rfl (jK _ _ _) (h.ext (((jnQ _).alloc _).alloc _)) hn (by simp;omega) ?_
 intro W' h1 h2
 have hE:Hid (Ext w W'):=jop (((jnQ _).alloc _).alloc _) (h2.out w.heap.size (by omega))
 have h0:Hid (W'.heap[w.heap.size]? =some (.cells (jpp 64 (joC .u8 0)).toArray 221 (0,0))):=((h2.out (w.heap.size+1) (joq _)).block w.heap.size (by omega)).trans (jQ _ _ _)
 clear h2
 rw [je5] at h1
 have hlen:(cellsOf (qQ xs)).toArray.size=64:=by simp [ja,Yk (xs:=xs) (by rw [h.len];exact hn)]
 have hone:(cellsOf (qQ xs)).toArray.all (·.oneCell')=true:=ji _
 generalize hC:(cellsOf (qQ xs)).toArray=C at h1 hlen hone
 replace hC:=Hj hC
 go_wp2_with (first
  | refine wl_ rfl 221 rfl (w.heap.size+1) rfl h1.out rfl rfl (by rw [hlen];rfl) ?_
  | refine ws_ rfl 221 rfl w.heap.size C rfl rfl h0.out (by rw [hlen];rfl) (by rw [hlen];rfl) hone ?_)
 (try simp only [jpX,Exit.then])
 refine jpY (jpZ rfl _ _ w.heap.size 221 C (0,0) _ rfl (jpe W' _ _ _ _ _ h0.out) rfl rfl (by rw [hlen];rfl)) rfl ?_
 exact ⟨by rw [hC.out],jpd hE.out (joq _) _⟩
def zA (xs:List UInt8) (i:Nat):Nat:=vF ((xs.drop (4*i)).take 4)
theorem J0 (xs:List UInt8) (i:Nat):zA xs i < 4294967296:=by
 have h:=Yd ((xs.drop (4*i)).take 4)
 have hl:((xs.drop (4*i)).take 4).length≤4:=by simp;omega
 exact jos h (jo2 (Nat.pow_le_pow_right (by omega) hl) (by decide))
def qZ (xs:List UInt8) (n:Nat):List Nat:=(jo3 n).map (zA xs)
theorem jkG {w:World}{g k:Nat}(hk:k < 16):(Instr.sliceAt 221 (.pointer (some ⟨g,0,none⟩)) (some (.int .i64 (4*(k:Int)))) (some (.int .i64 (4*(k:Int)+4))) none).run joz w= .ok (.slice (some ⟨g,4*k,none⟩) 4 (64 - 4*k)) w:=by
 have hn:Tryz.prog.arrayLen 221=64:=rfl
 rw [run_sliceAt_array_lh w 221 _ rfl .i64 .i64 _ _ (by omega) (by omega) (by rw [hn];omega)]
 have hs:(sizeOf (Tryz.prog.elem 221)).run joz w= .ok 1 w:=rfl
 rw [hs]
 have h1:(4*(k:Int)).toNat=4*k:=by omega
 have h2:(4*(k:Int)+4).toNat=4*k+4:=by omega
 have h3:(⟨g,0,none⟩:Addr).add (4*k*1)=⟨g,4*k,none⟩:=by unfold Addr.add;split <;> simp_all
 show Result.ok (slicedAt _ _ _ _ _) w=_
 rw [hn,h1,h2]
 unfold slicedAt
 rw [if_neg (by omega),h3,show 4*k+4 - 4*k=4 by omega]
theorem jgT {vs:List Nat}{xs:List UInt8}{n:Nat}(hl:vs.length=n) (h:∀ j,j < n→wd vs j=zA xs j):qZ xs n=vs:=by
 refine jpa (by simp [qZ,hl]) fun j h1 h2=> ?_
 have:=h j (by omega)
 unfold wd at this
 simp only [qZ,List.getElem_map,List.getElem_range]
 rw [←this]
 simp [jot,h2]
set_option maxRecDepth 100000 in
theorem jbp {xs:List UInt8}{w:World}(h:xs.length=64):
 Calls joz 152 #[.agg (cellsOf xs).toArray] w fun e w'=>e= .returned (.agg (jb (qZ xs 16)).toArray)∧Ext w w':=by
 go_enter Tryz.func152,Tryz.ntmps152
 go_wp2_with fail
 go_loopw [5] (fun i wr=>∃ (k:Nat) (vs:List Nat),k≤16∧i= .int .i64 k∧vs.length=16∧(∀ j,j < k→wd vs j=zA xs j)∧Ext w wr∧wr.heap[w.heap.size]? =some (.cells (cellsOf xs).toArray 221 (0,0))∧Wr wr (w.heap.size+1) 246 (jpp 16 0)∧Wr wr (w.heap.size+1+1) 246 vs) (fun i _=>16 - (intOf i).toNat)
 case atStart=>
  exact ⟨0,jpp 16 0,jor _,rfl,rfl,fun j hj=>absurd hj (by omega),(((jnQ _).alloc _).alloc _).alloc _,jF _ _ _ _,jH _ _ _ _,jB _ _ _ _⟩
 case round=>
  obtain ⟨k,vs,hk,rfl,hl,hv,he,h0,h1,h2⟩:=hrel
  by_cases hlt:k < 16
  ·have g3:=h2.cell (i:=k) (by omega)
   have g4:=h2.frozen k
   have hsl:(Instr.sliceAt 221 (.pointer (some ⟨w.heap.size,0,none⟩)) (some (.int .i64 (4*(k:Int)))) (some (.int .i64 (4*(k:Int)+4))) none).run joz wr= .ok (.slice (some ⟨w.heap.size,4*k,none⟩) 4 (64 - 4*k)) wr:=jkG hlt
   have HC:=Hj (ZF (m:=4) (Bs.part h0 (o:=4*k) (n:=4) (c:=64 - 4*k) (by omega) (by omega) (by omega)) (by omega) (by omega) (by decide))
   have hcv:IntKind.u32.wrap (vF (((xs.drop (4*k)).take 4).take 4):Int)=(zA xs k:Int):=by
    rw [List.take_take,jo8]
    have:=J0 xs k
    show (zA xs k:Int) % 4294967296=_
    omega
   go_wp2_with fail
   refine HC.out.mono ?_
   rintro e w1 ⟨rfl,rfl⟩
   go_wp2_with fail
   refine ⟨⟨k+1,vs.set k (zA xs k),by omega,by go_num,by rw [jo7];exact hl,fun j hj=> ?_,he.setCell (by show w.heap.size≤w.heap.size+1+1;omega) _,?_,?_,h2.set⟩,by simp [intOf];omega⟩
   ·rw [j8 (by omega)]
    by_cases q:j=k
    ·rw [if_pos q,q]
    ·rw [if_neg q];exact hv j (by omega)
   ·exact (jo9 _ _ _ _ (by show w.heap.size≠w.heap.size+1+1;omega)).trans h0
   ·exact (jo9 _ _ _ _ (by show w.heap.size+1≠w.heap.size+1+1;omega)).trans h1
  ·obtain rfl:k=16:=by omega
   have hvs:=Hj (jgT hl hv)
   have HL:=jf hl
   have hone:=jo vs
   unfold Wr at h1 h2
   generalize hC:(jb vs).toArray=C at h2 HL hone
   replace h1:=Hj h1
   replace h2:=Hj h2
   go_wp2_with (first
    | refine wl_ rfl 246 rfl (w.heap.size+1+1) rfl h2.out rfl rfl (by rw [HL];rfl) ?_
    | refine ws_ rfl 246 rfl (w.heap.size+1) C rfl rfl h1.out (by rw [HL];rfl) (by rw [HL];rfl) hone ?_)
   (try simp only [jpX,Exit.then])
   refine jpY (jpZ rfl _ _ (w.heap.size+1) 246 C (0,0) _ rfl (jpe _ _ _ _ _ _ h1.out) rfl rfl (by rw [HL];rfl)) rfl ?_
   exact ⟨by rw [hvs.out,hC],jpd he (by omega) _⟩
def jdv:List (List Nat):= [
 [0,1,2,3,4,5,6,7,8,9,10,11,12,13,14,15],
 [14,10,4,8,9,15,13,6,1,12,0,2,11,7,5,3],
 [11,8,12,0,5,2,15,13,10,14,3,6,7,1,9,4],
 [7,9,3,1,13,12,11,14,2,6,5,10,4,0,15,8],
 [9,0,5,7,2,4,10,15,14,1,11,12,6,8,3,13],
 [2,12,6,10,0,11,8,3,4,13,7,5,15,14,1,9],
 [12,5,1,15,14,13,4,10,0,7,6,3,9,2,8,11],
 [13,11,7,14,12,1,3,9,5,0,15,4,8,6,2,10],
 [6,15,14,9,11,3,0,8,12,2,13,7,1,4,10,5],
 [10,2,8,4,7,6,1,5,15,11,9,14,3,12,13,0]]
def zM:Array Value:=((jdv.flatten).map fun x:Nat=>joC .u8 (x:Int)).toArray
set_option maxRecDepth 100000 in
theorem jeO {w:World}:
 Calls joz 153 #[] w fun e w'=>e= .returned (.agg zM)∧Ext w w':=by
 have hz:∀ w,(joK 249).run joz w= .ok (.agg (joY 160 (.int .u8 0))) w:=fun _=>by kernel_rfl
 have hg:=Hj (jps w (jp0 (joY 160 (.int .u8 0)) 249))
 have he:Hid (Ext w (w.alloc (jp0 (joY 160 (.int .u8 0)) 249))):=(jnQ _).alloc _
 have hZ:(joY 160 (joC .u8 0)).size=160:=by simp
 have hp:zM.size=160:=by kernel_rfl
 have hone:zM.all (·.oneCell')=true:=by kernel_rfl
 generalize joY 160 (joC .u8 0)=Z at hz hg he hZ
 go_enter Tryz.func153,Tryz.ntmps153
 go_wp2_with (refine wpList_build rfl _ _ rfl (by kernel_rfl) ?_)
 rename_i hyp
 clear hyp
 generalize hB:Option.getD (Program.built joz 249 _) #[]=B
 have hBp:B=zM:=hB.symm.trans (by kernel_rfl)
 clear hB
 subst hBp
 have hst:=run_storeCells_from (P:=joz) w.heap.size 249 zM.toList 0 Z _ hg.out (by rw [Array.length_toList,hp,hZ]) (fun v hv=>(joX.1 hone) v (by simpa using hv))
 rw [hst]
 simp only [List.take_zero,jn7,Array.toArray_toList]
 iterate 10 (generalize Option.getD (Program.built joz 248 _) #[]=B)
 go_wp2_with fail
 (try simp only [jpX,Exit.then])
 refine jpY (jpZ rfl _ _ w.heap.size 249 zM (0,0) _ rfl (jpe _ _ _ _ _ _ hg.out) rfl rfl (by rw [hp];rfl)) rfl ?_
 exact ⟨rfl,jpd he.out (joq _) _⟩
def qJ:List Nat:= [0x6a09e667,0xbb67ae85,0x3c6ef372,0xa54ff53a,0x510e527f,0x9b05688c,0x1f83d9ab,0x5be0cd19]
def Gl (w:World) (tg:joE×Nat×Nat):Prop:=w.heap[0]? =some (.cells (jb qJ).toArray tg.1 tg.2)
section
variable {w w':World}{tg:joE×Nat×Nat}
theorem Gl.lt (h:Gl w tg):0 < w.heap.size:=by
 rcases jow 0 w.heap.size with h1 | h1
 ·exact h1
 ·unfold Gl at h;rw [jox h1] at h;cases h
theorem Gl.cell (h:Gl w tg){i:Nat}(hi:i < qJ.length):w.cell? ⟨0,i,none⟩=some (.int .u32 (wd qJ i:Int)):=by
 rw [jpg w 0 i _ tg.1 tg.2 h]
 simp [jb,wd,jot,hi]
theorem Gl.kept {B:Nat}(h:Gl w tg) (he:Below B w w') (hB:0 < B):Gl w' tg:=(he.block 0 hB).trans h
theorem Gl.ext (h:Gl w tg) (he:Ext w w'):Gl w' tg:=h.kept he h.lt
end
theorem jce (w:World) (o1 o2 o3 o4:Obj):((((w.alloc o1).alloc o2).alloc o3).alloc o4).heap[w.heap.size]? =some o1:=by
 rw [jpi _ _ _ (by rw [je,je,je];omega)]
 exact jF w o1 o2 o3
theorem jcf (w:World) (o1 o2 o3 o4:Obj):((((w.alloc o1).alloc o2).alloc o3).alloc o4).heap[w.heap.size+1+1]? =some o3:=by
 rw [jpi _ _ _ (by rw [je,je,je];omega)]
 exact jB w o1 o2 o3
theorem jcg (w:World) (o1 o2 o3 o4:Obj):((((w.alloc o1).alloc o2).alloc o3).alloc o4).heap[w.heap.size+1+1+1]? =some o4:=by
 have:=jB (w.alloc o1) o2 o3 o4
 rwa [je] at this
def Cw (w wr:World) (hs:List Nat) (xs:List UInt8) (vs:List Nat):Prop:=
 Ext w wr∧Wr wr w.heap.size 218 hs∧wr.heap[w.heap.size+1]? =some (.cells (cellsOf xs).toArray 221 (0,0))∧Wr wr (w.heap.size+1+1) 218 (jpp 8 0)∧Wr wr (w.heap.size+1+1+1) 246 vs
theorem Cw.blk {w wr:World}{hs:List Nat}{xs:List UInt8}{vs:List Nat}(h:Cw w wr hs xs vs):wr.heap[w.heap.size+1]? =some (.cells (cellsOf xs).toArray 221 (0,0)):=h.2.2.1
theorem Cw.setV {w wr:World}{hs:List Nat}{xs:List UInt8}{vs:List Nat}(h:Cw w wr hs xs vs) (k x:Nat):Cw w (wr.setCell ⟨w.heap.size+1+1+1,k,none⟩ (.int .u32 (x:Int))) hs xs (vs.set k x):=by
 obtain ⟨e,a,b,c,d⟩:=h
 have hb:Below (w.heap.size+1+1+1) wr (wr.setCell ⟨w.heap.size+1+1+1,k,none⟩ (.int .u32 (x:Int))):=Below.setCell (p:=⟨w.heap.size+1+1+1,k,none⟩) (joo (w.heap.size+1+1+1) wr) (joq _) _
 exact ⟨jop e (hb.mono (by omega)),a.kept hb (by omega),(hb.block _ (by omega)).trans b,c.kept hb (by omega),d.set⟩
theorem Cw.ext {w wr wr':World}{hs:List Nat}{xs:List UInt8}{vs:List Nat}(h:Cw w wr hs xs vs) (e:Ext wr wr'):Cw w wr' hs xs vs:=by
 obtain ⟨e0,a,b,c,d⟩:=h
 have hlt:w.heap.size+1 < wr.heap.size:=Nat.lt_trans (Nat.lt_succ_self _) c.lt
 exact ⟨e0.trans e,a.kept e a.lt,(e.block _ hlt).trans b,c.kept e c.lt,d.kept e d.lt⟩
theorem jgU {hs is vs:List Nat}(h:vs.length=hs.length+is.length) (h1:∀ j,j < hs.length→wd vs j=wd hs j) (h2:∀ j,j < is.length→wd vs (hs.length+j)=wd is j):vs=hs++is:=by
 refine jpa (by simp [h]) fun j p q=> ?_
 by_cases hj:j < hs.length
 ·have:=h1 j hj
  simp only [wd,jot,jn8 p,jn8 hj,Option.getD_some] at this
  rw [List.getElem_append_left hj,this]
 ·have h3:j - hs.length < is.length:=by omega
  have:=h2 (j - hs.length) h3
  rw [show hs.length+(j - hs.length)=j by omega] at this
  simp only [wd,jot,jn8 p,jn8 h3,Option.getD_some] at this
  rw [List.getElem_append_right (by omega),this]
def vY (hs:List Nat) (t:Nat) (last:Bool):List Nat:=
 let v0:=hs++qJ
 let v1:=v0.set 12 (wd v0 12^^^t % 4294967296)
 let v2:=v1.set 13 (wd v0 13^^^t / 4294967296)
 bif last then v2.set 14 (4294967295^^^wd v0 14) else v2
def pm (k j:Nat):Nat:=(jdv.getD k []).getD j 0
def jbm (ms:List Nat) (vs:List Nat) (k:Nat):List Nat:=
 let x:=fun j=>wd ms (pm k j)
 q9 (q9 (q9 (q9 (q9 (q9 (q9 (q9 vs 0 4 8 12 (x 0) (x 1)) 1 5 9 13 (x 2) (x 3)) 2 6 10 14 (x 4) (x 5)) 3 7 11 15 (x 6) (x 7)) 0 5 10 15 (x 8) (x 9)) 1 6 11 12 (x 10) (x 11)) 2 7 8 13 (x 12) (x 13)) 3 4 9 14 (x 14) (x 15)
def vG (ms:List Nat) (vs:List Nat) (k:Nat):List Nat:=(jo3 k).foldl (jbm ms) vs
theorem Yc (ms vs:List Nat) (k:Nat):vG ms vs (k+1)=jbm ms (vG ms vs k) k:=by
 simp [vG,List.range_succ]
def ZW (hs vs:List Nat):List Nat:=(jo3 8).map fun j=>wd hs j^^^(wd vs j^^^wd vs (j+8))
theorem jhn {hs ys V:List Nat}(hl:ys.length=8) (h:∀ j,j < 8→wd ys j=wd hs j^^^(wd V j^^^wd V (j+8))):ZW hs V=ys:=by
 refine jpa (by simp [ZW,hl]) fun j h1 h2=> ?_
 have:=h j (by omega)
 simp only [ZW,List.getElem_map,List.getElem_range]
 rw [←this]
 simp [wd,jot,h2]
def vp (hs:List Nat) (xs:List UInt8) (t:Nat) (last:Bool):List Nat:=ZW hs (vG (qZ xs 16) (vY hs t last) 10)
theorem yh (hs:List Nat) (xs:List UInt8) (t:Nat) (last:Bool):(vp hs xs t last).length=8:=by simp [vp,ZW]
theorem jaT {hs:List Nat}{t:Nat}{last:Bool}(h:hs.length=8):(vY hs t last).length=16:=by
 unfold vY;cases last <;> simp [h,qJ]
theorem jA (k j:Nat):pm k j < 16:=by
 by_cases hk:k < 10
 ·by_cases hj:j < 16
  ·have:∀ k,k < 10→∀ j,j < 16→pm k j < 16:=by decide
   exact this k hk j hj
  ·unfold pm
   have:∀ k,k < 10→(jdv.getD k []).length=16:=by decide
   have h:=this k hk
   rw [jn9,jpc (by omega)];decide
 ·unfold pm
  rw [show jdv.getD k []= [] by rw [jn9,jpc (by simp [jdv];omega)];rfl];simp
theorem jit (ms vs:List Nat) (k:Nat):(jbm ms vs k).length=vs.length:=by simp [jbm,vD]
theorem jg2 {ms v0:List Nat}(h:v0.length=16):∀ k,(vG ms v0 k).length=16
 | 0=>h
 | k+1=>by rw [Yc,jit];exact jg2 h k
def Jz (k:Nat):Array Value:=((jo3 16).map fun j=>joC .u8 (pm k j:Int)).toArray
theorem jgE (k:Nat):(Jz k).size=16:=by simp [Jz]
theorem jis (k:Nat):(Jz k).all (·.oneCell')=true:=by
 rw [joX]
 intro v hv
 obtain ⟨j,_,rfl⟩:=joP.1 (List.mem_toArray.1 hv)
 rfl
theorem jjl (w:World):(jpj 249 (.agg zM) (.int .i64 ((0:Nat):Int))).run joz w= .ok (.agg (Jz 0)) w:=by kernel_rfl
theorem jjm (w:World):(jpj 249 (.agg zM) (.int .i64 ((1:Nat):Int))).run joz w= .ok (.agg (Jz 1)) w:=by kernel_rfl
theorem jjn (w:World):(jpj 249 (.agg zM) (.int .i64 ((2:Nat):Int))).run joz w= .ok (.agg (Jz 2)) w:=by kernel_rfl
theorem jjo (w:World):(jpj 249 (.agg zM) (.int .i64 ((3:Nat):Int))).run joz w= .ok (.agg (Jz 3)) w:=by kernel_rfl
theorem jjp (w:World):(jpj 249 (.agg zM) (.int .i64 ((4:Nat):Int))).run joz w= .ok (.agg (Jz 4)) w:=by kernel_rfl
theorem jjq (w:World):(jpj 249 (.agg zM) (.int .i64 ((5:Nat):Int))).run joz w= .ok (.agg (Jz 5)) w:=by kernel_rfl
theorem jjr (w:World):(jpj 249 (.agg zM) (.int .i64 ((6:Nat):Int))).run joz w= .ok (.agg (Jz 6)) w:=by kernel_rfl
theorem jjs (w:World):(jpj 249 (.agg zM) (.int .i64 ((7:Nat):Int))).run joz w= .ok (.agg (Jz 7)) w:=by kernel_rfl
theorem jjt (w:World):(jpj 249 (.agg zM) (.int .i64 ((8:Nat):Int))).run joz w= .ok (.agg (Jz 8)) w:=by kernel_rfl
theorem jju (w:World):(jpj 249 (.agg zM) (.int .i64 ((9:Nat):Int))).run joz w= .ok (.agg (Jz 9)) w:=by kernel_rfl
theorem jeP {k:Nat}(hk:k < 10) (w:World):(jpj 249 (.agg zM) (.int .i64 (k:Int))).run joz w= .ok (.agg (Jz k)) w:=by
 have h:k=0∨k=1∨k=2∨k=3∨k=4∨k=5∨k=6∨k=7∨k=8∨k=9:=by omega
 rcases h with rfl | rfl | rfl | rfl | rfl | rfl | rfl | rfl | rfl | rfl
 ·exact jjl w
 ·exact jjm w
 ·exact jjn w
 ·exact jjo w
 ·exact jjp w
 ·exact jjq w
 ·exact jjr w
 ·exact jjs w
 ·exact jjt w
 ·exact jju w
def Sr (w:World) (gs k:Nat):Prop:=w.heap[gs]? =some (.cells (Jz k) 248 (0,0))
theorem Sr.cell {w:World}{gs k j:Nat}(h:Sr w gs k) (hj:j < 16):w.cell? ⟨gs,j,none⟩=some (.int .u8 (pm k j:Int)):=by
 rw [jpg w gs j _ 248 (0,0) h]
 simp [Jz,hj]
theorem Sr.grow {w w':World}{gs k g:Nat}(h:Sr w gs k) (e:w.grownBy w' (some g)) (hg:gs≠g):Sr w' gs k:=
 (e.block gs (jh h) (fun q=>by injection q with q;exact hg q)).trans h
def Rv (w wr:World) (hs:List Nat) (gm:Nat) (ms vs:List Nat):Prop:=
 Ext w wr∧Wr wr w.heap.size 218 hs∧Wr wr (w.heap.size+1+1) 218 (jpp 8 0)∧Arr wr (w.heap.size+1+1+1) vs∧Wr wr gm 246 ms∧w.heap.size+1+1+1 < gm
section
variable {w wr wr':World}{hs ms vs vs':List Nat}{gm:Nat}
theorem Rv.arr (h:Rv w wr hs gm ms vs):Arr wr (w.heap.size+1+1+1) vs:=h.2.2.2.1
theorem Rv.ext (h:Rv w wr hs gm ms vs) (e:Ext wr wr'):Rv w wr' hs gm ms vs:=by
 obtain ⟨e0,h1,h2,h3,h4,h5⟩:=h
 exact ⟨e0.trans e,h1.kept e h1.lt,h2.kept e h2.lt,h3.ext e,h4.kept e h4.lt,h5⟩
theorem Rv.setH (h:Rv w wr hs gm ms vs) (k x:Nat):Rv w (wr.setCell ⟨w.heap.size,k,none⟩ (.int .u32 (x:Int))) (hs.set k x) gm ms vs:=by
 obtain ⟨e0,h1,h2,h3,h4,h5⟩:=h
 have bl:∀ i,i≠w.heap.size→(wr.setCell ⟨w.heap.size,k,none⟩ (.int .u32 (x:Int))).heap[i]? =wr.heap[i]? :=fun i hi=>jo9 _ _ _ _ hi
 refine ⟨e0.setCell (joq _) _,h1.set,(bl _ (by omega)).trans h2,⟨by simpa [World.setCell] using h3.1,fun i hi=> ?_⟩,(bl _ (by omega)).trans h4,h5⟩
 obtain ⟨a,b,c⟩:=h3.2 i hi
 refine ⟨?_,?_,c⟩
 ·rw [World.cell?_setCell_other _ _ _ _ (fun q=>by injection q with q1 _ _;omega)];exact a
 ·rw [Jo];exact b
theorem Rv.mcell (h:Rv w wr hs gm ms vs){i:Nat}(hi:i < 16) (hm:ms.length=16):wr.cell? ⟨gm,i,none⟩=some (.int .u32 (wd ms i:Int)):=h.2.2.2.2.1.cell (by omega)
theorem Rv.mgrow (h:Rv w wr hs gm ms vs) (e:wr.grownBy wr' (some (w.heap.size+1+1+1))):Wr wr' gm 246 ms:=(e.block gm h.2.2.2.2.1.lt (fun q=>by injection q with q;have:=h.2.2.2.2.2;omega)).trans h.2.2.2.2.1
theorem Rv.grow (h:Rv w wr hs gm ms vs) (e:wr.grownBy wr' (some (w.heap.size+1+1+1))) (a:Arr wr' (w.heap.size+1+1+1) vs'):Rv w wr' hs gm ms vs':=by
 obtain ⟨e0,h1,h2,h3,h4,h5⟩:=h
 have bl:∀ i o,wr.heap[i]? =some o→i≠w.heap.size+1+1+1→wr'.heap[i]? =some o:=fun i o hi hne=>(e.block i (jh hi) (fun q=>by injection q with q;exact hne q)).trans hi
 refine ⟨jop e0 ⟨e.os,e.tape,e.output,e.size,fun i hi=>e.block i (jos hi e0.size) (fun q=>by injection q with q;omega)⟩,bl _ _ h1 (by omega),bl _ _ h2 (by omega),a,bl _ _ h4 (by omega),h5⟩
end
set_option maxRecDepth 100000 in
theorem Qm {hs:List Nat}{xs:List UInt8}{t:Nat}{last:Bool}{w:World}(hl:hs.length=8) (hx:xs.length=64) (ht:t < 18446744073709551616) (hb:∀ j,j < 8→wd hs j < 4294967296){tg:joE×Nat×Nat}(hG:Gl w tg):
 Calls joz 124 #[.agg (jb hs).toArray, .agg (cellsOf xs).toArray, .int .u64 (t:Int), .bool last] w fun e w'=>e= .returned (.agg (jb (vp hs xs t last)).toArray)∧Ext w w':=by
 go_enter Tryz.func124,Tryz.ntmps124
 go_wp2_with fail
 refine jg (fun wr=>Cw w wr hs xs (jpp 16 0)) ⟨((((jnQ _).alloc _).alloc _).alloc _).alloc _,jce _ _ _ _ _,(jpi _ _ _ (by rw [je,je,je];omega)).trans (jH _ _ _ _),jcf _ _ _ _ _,jcg _ _ _ _ _⟩ ?_
 rintro w0 ⟨e0,a0,b0,c0,d0⟩
 have HG:=Hj (fun (wr:World) (e:Ext w wr)=>hG.kept e hG.lt)
 clear hG
 obtain ⟨B,hB⟩:=ex_ (w.heap.size+1+1+1)
 have HD:=Hj d0
 have HA:=Hj a0
 clear d0 a0
 refine qgB B [0,1,2] [2] ?_
 repeat ((first | refine qR0 ?_ | refine qS ?_);go_frame)
 refine qD fun K hK=> ?_
 go_simp
 refine jfh (us:=jpp 16 0) (vs:=hs) rfl (HD.out.kept (joo _ _).drew (Nat.lt_succ_self _)) (HA.out.kept (joo _ _).drew (Nat.lt_succ_self _)) hl (by omega) (by simp) ?_
 intro W1 h3 h4
 go_simp
 refine hK.out _ _ (h4.out B (by omega)) ?_
 clear hK K
 refine jp ?_
 have e2:Below B w0 W1:=jop ((joo B w0).drew) (h4.out B (by omega))
 clear h4
 go_wp2_with fail
 go_loopw [18] (fun i wr=>∃ (k:Nat) (vs:List Nat),k≤8∧i= .int .i64 k∧vs.length=16∧(∀ j,j < 8→wd vs j=wd hs j)∧(∀ j,j < k→wd vs (8+j)=wd qJ j)∧Cw w wr hs xs vs) (fun i _=>8 - (intOf i).toNat)
 case atStart=>
  refine ⟨0,jpb (jpp 16 0) 0 hs,jor _,rfl,by simp [jpb];omega,fun j hj=> ?_,fun j hj=>absurd hj (by omega),jop e0 (e2.mono (by omega)),HA.out.kept e2 (by omega),(e2.block _ (by omega)).trans b0,c0.kept e2 (by omega),h3.out⟩
  simp [wd,jpb,jot,List.getElem?_append,show j < hs.length by omega]
 case round=>
  obtain ⟨k,vs,hk,rfl,hvl,hv1,hv2,e3,a3,b3,c3,d3⟩:=hrel
  clear HD HA h3 e2 b0 c0 e0
  by_cases hlt:k < 8
  ·have gg:=(HG.out _ e3).cell (i:=k) hlt
   have gv:=d3.cell (i:=8+k) (by omega)
   have gf:=d3.frozen (8+k)
   have ik:(k:Int) < 8:=by omega
   have jk:(8:Int)+(k:Int) < 16:=by omega
   go_wp2_with fail
   refine ⟨⟨k+1,vs.set (8+k) (wd qJ k),by omega,by go_num,by rw [jo7];exact hvl,fun j hj=> ?_,fun j hj=> ?_,Cw.setV ⟨e3,a3,b3,c3,d3⟩ _ _⟩,by simp [intOf];omega⟩
   ·rw [j8 (by omega),if_neg (by omega)];exact hv1 j hj
   ·rw [j8 (by omega)]
    by_cases q:j=k
    ·rw [if_pos (by omega),q]
    ·rw [if_neg (by omega)];exact hv2 j (by omega)
  ·obtain rfl:k=8:=by omega
   rw [show ((8:Nat):Int)=8 from rfl]
   have hvs:=Hj (jgU (hs:=hs) (is:=qJ) (vs:=vs) (by rw [hvl,hl];rfl) (fun j hj=>hv1 j (by omega)) (fun j hj=>by rw [hl];exact hv2 j hj))
   have l12:wd vs 12 < 4294967296:=by rw [hv2 4 (by omega)];decide
   have l13:wd vs 13 < 4294967296:=by rw [hv2 5 (by omega)];decide
   have l14:wd vs 14 < 4294967296:=by rw [hv2 6 (by omega)];decide
   have x12:bits .xor .u32 (wd vs 12:Int) ((t:Int) % 4294967296)=((wd vs 12^^^t % 4294967296:Nat):Int):=by
    rw [show (t:Int) % 4294967296=((t % 4294967296:Nat):Int) by omega]
    exact jn6 _ _ l12 (jo5 _ (by decide))
   have x13:bits .xor .u32 (wd vs 13:Int) ((t:Int) / 4294967296)=((wd vs 13^^^t / 4294967296:Nat):Int):=by
    rw [show (t:Int) / 4294967296=((t / 4294967296:Nat):Int) by omega]
    exact jn6 _ _ l13 (by omega)
   have x14:bits .xor .u32 IntKind.u32.max (wd vs 14:Int)=((4294967295^^^wd vs 14:Nat):Int):=jn6 4294967295 _ (by decide) l14
   have CW:Cw w wr hs xs vs:=⟨e3,a3,b3,c3,d3⟩
   have hvb:Hid (∀ j,j < 16→wd vs j < 4294967296):=fun j hj=>by
    by_cases q:j < 8
    ·rw [hv1 j q];exact hb j q
    ·have h9:=hv2 (j - 8) (by omega)
     rw [show 8+(j - 8)=j by omega] at h9
     rw [h9]
     have:∀ j,j < 8→wd qJ j < 4294967296:=by decide
     exact this _ (by omega)
   clear hv1 hv2
   have c12:=d3.cell (i:=12) (by omega)
   have c13:=d3.cell (i:=13) (by omega)
   have c14:=d3.cell (i:=14) (by omega)
   have f12:=d3.frozen 12
   have f13:=d3.frozen 13
   have f14:=d3.frozen 14
   go_upto_if 41 with (fail)
   go_cut [41] (fun _ wx=>∃ v0:List Nat,Cw w wx hs xs v0∧v0=vY hs t last∧∀ j,j < 16→wd v0 j < 4294967296)
   case first=>
    have hS:∀ last,vY hs t last=bif last then ((vs.set 12 (wd vs 12^^^t % 4294967296)).set 13 (wd vs 13^^^t / 4294967296)).set 14 (4294967295^^^wd vs 14) else (vs.set 12 (wd vs 12^^^t % 4294967296)).set 13 (wd vs 13^^^t / 4294967296):=fun last=>by rw [hvs.out];rfl
    replace hS:=Hj hS
    have hbd:Hid (∀ last,∀ j,j < 16→wd (vY hs t last) j < 4294967296):=fun last j hj=>by
     have b12:wd vs 12^^^t % 4294967296 < 4294967296:=jL l12 (jo5 _ (by decide))
     have b13:wd vs 13^^^t / 4294967296 < 4294967296:=jL l13 (by omega)
     have b14:4294967295^^^wd vs 14 < 4294967296:=jL (by decide) l14
     have bj:=hvb.out j hj
     rw [hS.out]
     cases last
     ·simp only [cond_false]
      rw [j8 (by simp;omega),j8 (by omega)]
      split
      ·exact b13
      ·split <;> assumption
     ·simp only [cond_true]
      rw [j8 (by simp;omega),j8 (by simp;omega),j8 (by omega)]
      split
      ·exact b14
      ·split
       ·exact b13
       ·split <;> assumption
    cases last
    ·go_wp2_with fail
     go_meet
     exact ⟨_,(CW.setV 12 _).setV 13 _,(hS.out false).symm,by have:=hbd.out false;rw [hS.out false] at this;exact this⟩
    ·go_wp2_with fail
     go_meet
     exact ⟨_,((CW.setV 12 _).setV 13 _).setV 14 _,(hS.out true).symm,by have:=hbd.out true;rw [hS.out true] at this;exact this⟩
   case rest=>
    obtain ⟨v0,CW0,hv0,hv0b⟩:=hcut
    replace hv0:=Hj hv0
    have HS:(cellsOf xs).toArray.size=64:=by simp [ja,hx]
    have v0l:v0.length=16:=by rw [hv0.out];exact jaT hl
    clear c12 c13 c14 f12 f13 f14 x12 x13 x14 CW l12 l13 l14 hvb hvs e3 a3 b3 c3 d3 hvl
    go_wp2_with (refine wl_ rfl 221 rfl (w.heap.size+1) rfl (by with_reducible exact CW0.blk) rfl rfl (by rw [HS];rfl) ?_)
    refine (jbp hx).mono ?_
    rintro e w1 ⟨rfl,e1⟩
    have CW1:=CW0.ext e1
    have HM:(qZ xs 16).length=16:=by simp [qZ]
    have HMb:Hid (∀ j,j < 16→wd (qZ xs 16) j < 4294967296):=fun j hj=>by
     have:wd (qZ xs 16) j=zA xs j:=by simp [wd,qZ,jot,hj]
     rw [this];exact J0 _ _
    generalize hM:qZ xs 16=ms at HM HMb ⊢
    replace hM:=Hj hM
    have HMs:=jf HM
    replace HM:=Hj HM
    go_wp2_with (refine ws_ rfl 246 rfl w1.heap.size (jb ms).toArray rfl rfl (by with_reducible exact jps _ _) (by rw [HMs];rfl) (by rw [HMs];rfl) (jo ms) ?_)
    refine jeO.mono ?_
    rintro e w2 ⟨rfl,e2⟩
    have CW2:=CW1.ext (Ext.trans (jpd ((jnQ w1).alloc _) (joq w1.heap.size) (jb ms).toArray) e2)
    have WM:Wr w2 w1.heap.size 246 ms:=Wr.kept (jpe _ _ _ _ _ _ (jps _ _)) e2 (by simp [World.setRow,je])
    have RV0:Rv w w2 hs w1.heap.size ms v0:=⟨CW2.1,CW2.2.1,CW2.2.2.2.1,CW2.2.2.2.2.arr (fun i hi=>hv0b i (by omega)),WM,CW1.2.2.2.2.lt⟩
    clear e2 e1 CW2 WM CW1 CW0 HS
    replace hv0b:=Hj hv0b
    replace RV0:=Hj RV0
    obtain ⟨gm,hgm⟩:=ex_ w1.heap.size
    rw [←hgm] at RV0
    replace hgm:=Hj hgm
    go_wp2_with fail
    rw [←hgm.out]
    go_loopw [49] (fun i wr=>∃ k:Nat,k≤10∧i= .int .i64 k∧Rv w wr hs gm ms (vG ms v0 k)) (fun i _=>10 - (intOf i).toNat)
    case atStart=>exact ⟨0,jor _,rfl,RV0.out⟩
    case round=>
     obtain ⟨k,hk,rfl,RV⟩:=hrel
     have VL:(vG ms v0 k).length=16:=jg2 v0l k
     by_cases hlt:k < 10
     ·have hix:=jeP hlt
      have HR:=jgE k
      have HRo:=jis k
      have HSUC:=Hj (Yc ms v0 k)
      generalize hvk:vG ms v0 k=vk at RV VL HSUC
      clear hvk
      replace RV:=Hj RV
      generalize hRC:Jz k=C at hix HR HRo
      replace hRC:=Hj hRC
      go_wp2_with (refine ws_ rfl 248 rfl wr.heap.size C rfl rfl (by with_reducible exact jps _ _) (by rw [HR];rfl) (by rw [HR];rfl) HRo ?_)
      obtain ⟨gs,hgs0⟩:=ex_ wr.heap.size
      have hgs:gs≠w.heap.size+1+1+1:=by
       have:=RV.out.2.2.2.2.1.lt
       have:=RV.out.2.2.2.2.2
       omega
      rw [←hgs0]
      refine jg (fun W'=>Rv w W' hs gm ms vk∧Sr W' gs k) ⟨RV.out.ext (jpd ((jnQ wr).alloc _) (by omega) C),?_⟩ ?_
      ·have h9:=jpe (wr.alloc (jp0 (joY 16 (joC .u8 0)) 248)) wr.heap.size _ C 248 _ (jps _ _)
       rw [←hgs0,←hRC.out] at h9
       rw [←hRC.out]
       exact h9
      clear RV hRC hgs0 hix HR HRo
      rintro W ⟨RV,SR⟩
      replace hgs:=Hj hgs
      have CP:=SR.cell (j:=0) (by omega)
      have CQ:=SR.cell (j:=1) (by omega)
      have CM:=RV.mcell (jA k 0) HM.out
      have CN:=RV.mcell (jA k 1) HM.out
      have lp:(pm k 0:Int) < 16:=by have:=jA k 0;omega
      have lq:(pm k 1:Int) < 16:=by have:=jA k 1;omega
      have KEEP:Hid (∀ w',W.grownBy w' (some (w.heap.size+1+1+1))→w'.cell? ⟨gs,0,none⟩=some (.int .u8 (pm k 0:Int))∧w'.cell? ⟨gs,1,none⟩=some (.int .u8 (pm k 1:Int))∧w'.cell? ⟨gm,pm k 0,none⟩=some (.int .u32 (wd ms (pm k 0):Int))∧w'.cell? ⟨gm,pm k 1,none⟩=some (.int .u32 (wd ms (pm k 1):Int))):=fun w' e=>⟨(SR.grow e hgs.out).cell (by omega),(SR.grow e hgs.out).cell (by omega),(RV.mgrow e).cell (by rw [HM.out];exact jA _ _),(RV.mgrow e).cell (by rw [HM.out];exact jA _ _)⟩
      clear CP CQ CM CN
      refine qgW ((w.heap.size+1+1+1)) [0,1,2,3,4,5,6,7,8] [8] ?_
      repeat ((first | refine qR _ (fun w' e=>KEEP.out w' (jj (jV (jnQ _).drew _) e)) ?_ | refine qS ?_);go_frame)
      refine qD fun K hK=> ?_
      go_simp
      refine (yT (RV.arr.ext (jnQ _).drew) VL (a:=0) (b:=4) (c:=8) (d:=12) (by omega) (by omega) (by omega) (by omega) (HMb.out _ (jA _ _)) (HMb.out _ (jA _ _))).mono ?_
      rintro e w2 ⟨rfl,A2,G2⟩
      refine hK.out _ _ G2 ?_
      clear hK K
      try go_frame
      refine jp ?_
      go_wp2_with fail
      refine jg (fun W'=>Rv w W' hs gm ms (q9 vk 0 4 8 12 (wd ms (pm k 0)) (wd ms (pm k 1)))∧Sr W' gs k) ⟨RV.grow (jj (jV (jnQ _).drew _) G2) A2,SR.grow (jj (jV (jnQ _).drew _) G2) hgs.out⟩ ?_
      clear A2 G2 KEEP RV SR
      clear W
      rintro W ⟨RV,SR⟩
      have VL':=(vD vk 0 4 8 12 (wd ms (pm k 0)) (wd ms (pm k 1))).trans VL
      clear VL
      generalize HV0:q9 vk 0 4 8 12 (wd ms (pm k 0)) (wd ms (pm k 1))=u0 at RV VL'
      replace HV0:=Hj HV0
      have VL:=VL'
      clear VL' lp lq
      have CP:=SR.cell (j:=2) (by omega)
      have CQ:=SR.cell (j:=3) (by omega)
      have CM:=RV.mcell (jA k 2) HM.out
      have CN:=RV.mcell (jA k 3) HM.out
      have lp:(pm k 2:Int) < 16:=by have:=jA k 2;omega
      have lq:(pm k 3:Int) < 16:=by have:=jA k 3;omega
      have KEEP:Hid (∀ w',W.grownBy w' (some (w.heap.size+1+1+1))→w'.cell? ⟨gs,2,none⟩=some (.int .u8 (pm k 2:Int))∧w'.cell? ⟨gs,3,none⟩=some (.int .u8 (pm k 3:Int))∧w'.cell? ⟨gm,pm k 2,none⟩=some (.int .u32 (wd ms (pm k 2):Int))∧w'.cell? ⟨gm,pm k 3,none⟩=some (.int .u32 (wd ms (pm k 3):Int))):=fun w' e=>⟨(SR.grow e hgs.out).cell (by omega),(SR.grow e hgs.out).cell (by omega),(RV.mgrow e).cell (by rw [HM.out];exact jA _ _),(RV.mgrow e).cell (by rw [HM.out];exact jA _ _)⟩
      clear CP CQ CM CN
      refine qgW ((w.heap.size+1+1+1)) [0,1,2,3,4,5,6,7,8] [8] ?_
      repeat ((first | refine qR _ (fun w' e=>KEEP.out w' (jj (jV (jnQ _).drew _) e)) ?_ | refine qS ?_);go_frame)
      refine qD fun K hK=> ?_
      go_simp
      refine (yT (RV.arr.ext (jnQ _).drew) VL (a:=1) (b:=5) (c:=9) (d:=13) (by omega) (by omega) (by omega) (by omega) (HMb.out _ (jA _ _)) (HMb.out _ (jA _ _))).mono ?_
      rintro e w2 ⟨rfl,A2,G2⟩
      refine hK.out _ _ G2 ?_
      clear hK K
      try go_frame
      refine jp ?_
      go_wp2_with fail
      refine jg (fun W'=>Rv w W' hs gm ms (q9 u0 1 5 9 13 (wd ms (pm k 2)) (wd ms (pm k 3)))∧Sr W' gs k) ⟨RV.grow (jj (jV (jnQ _).drew _) G2) A2,SR.grow (jj (jV (jnQ _).drew _) G2) hgs.out⟩ ?_
      clear A2 G2 KEEP RV SR
      clear W
      rintro W ⟨RV,SR⟩
      have VL':=(vD u0 1 5 9 13 (wd ms (pm k 2)) (wd ms (pm k 3))).trans VL
      clear VL
      generalize HV1:q9 u0 1 5 9 13 (wd ms (pm k 2)) (wd ms (pm k 3))=u1 at RV VL'
      replace HV1:=Hj HV1
      have VL:=VL'
      clear VL' lp lq
      have CP:=SR.cell (j:=4) (by omega)
      have CQ:=SR.cell (j:=5) (by omega)
      have CM:=RV.mcell (jA k 4) HM.out
      have CN:=RV.mcell (jA k 5) HM.out
      have lp:(pm k 4:Int) < 16:=by have:=jA k 4;omega
      have lq:(pm k 5:Int) < 16:=by have:=jA k 5;omega
      have KEEP:Hid (∀ w',W.grownBy w' (some (w.heap.size+1+1+1))→w'.cell? ⟨gs,4,none⟩=some (.int .u8 (pm k 4:Int))∧w'.cell? ⟨gs,5,none⟩=some (.int .u8 (pm k 5:Int))∧w'.cell? ⟨gm,pm k 4,none⟩=some (.int .u32 (wd ms (pm k 4):Int))∧w'.cell? ⟨gm,pm k 5,none⟩=some (.int .u32 (wd ms (pm k 5):Int))):=fun w' e=>⟨(SR.grow e hgs.out).cell (by omega),(SR.grow e hgs.out).cell (by omega),(RV.mgrow e).cell (by rw [HM.out];exact jA _ _),(RV.mgrow e).cell (by rw [HM.out];exact jA _ _)⟩
      clear CP CQ CM CN
      refine qgW ((w.heap.size+1+1+1)) [0,1,2,3,4,5,6,7,8] [8] ?_
      repeat ((first | refine qR _ (fun w' e=>KEEP.out w' (jj (jV (jnQ _).drew _) e)) ?_ | refine qS ?_);go_frame)
      refine qD fun K hK=> ?_
      go_simp
      refine (yT (RV.arr.ext (jnQ _).drew) VL (a:=2) (b:=6) (c:=10) (d:=14) (by omega) (by omega) (by omega) (by omega) (HMb.out _ (jA _ _)) (HMb.out _ (jA _ _))).mono ?_
      rintro e w2 ⟨rfl,A2,G2⟩
      refine hK.out _ _ G2 ?_
      clear hK K
      try go_frame
      refine jp ?_
      go_wp2_with fail
      refine jg (fun W'=>Rv w W' hs gm ms (q9 u1 2 6 10 14 (wd ms (pm k 4)) (wd ms (pm k 5)))∧Sr W' gs k) ⟨RV.grow (jj (jV (jnQ _).drew _) G2) A2,SR.grow (jj (jV (jnQ _).drew _) G2) hgs.out⟩ ?_
      clear A2 G2 KEEP RV SR
      clear W
      rintro W ⟨RV,SR⟩
      have VL':=(vD u1 2 6 10 14 (wd ms (pm k 4)) (wd ms (pm k 5))).trans VL
      clear VL
      generalize HV2:q9 u1 2 6 10 14 (wd ms (pm k 4)) (wd ms (pm k 5))=u2 at RV VL'
      replace HV2:=Hj HV2
      have VL:=VL'
      clear VL' lp lq
      have CP:=SR.cell (j:=6) (by omega)
      have CQ:=SR.cell (j:=7) (by omega)
      have CM:=RV.mcell (jA k 6) HM.out
      have CN:=RV.mcell (jA k 7) HM.out
      have lp:(pm k 6:Int) < 16:=by have:=jA k 6;omega
      have lq:(pm k 7:Int) < 16:=by have:=jA k 7;omega
      have KEEP:Hid (∀ w',W.grownBy w' (some (w.heap.size+1+1+1))→w'.cell? ⟨gs,6,none⟩=some (.int .u8 (pm k 6:Int))∧w'.cell? ⟨gs,7,none⟩=some (.int .u8 (pm k 7:Int))∧w'.cell? ⟨gm,pm k 6,none⟩=some (.int .u32 (wd ms (pm k 6):Int))∧w'.cell? ⟨gm,pm k 7,none⟩=some (.int .u32 (wd ms (pm k 7):Int))):=fun w' e=>⟨(SR.grow e hgs.out).cell (by omega),(SR.grow e hgs.out).cell (by omega),(RV.mgrow e).cell (by rw [HM.out];exact jA _ _),(RV.mgrow e).cell (by rw [HM.out];exact jA _ _)⟩
      clear CP CQ CM CN
      refine qgW ((w.heap.size+1+1+1)) [0,1,2,3,4,5,6,7,8] [8] ?_
      repeat ((first | refine qR _ (fun w' e=>KEEP.out w' (jj (jV (jnQ _).drew _) e)) ?_ | refine qS ?_);go_frame)
      refine qD fun K hK=> ?_
      go_simp
      refine (yT (RV.arr.ext (jnQ _).drew) VL (a:=3) (b:=7) (c:=11) (d:=15) (by omega) (by omega) (by omega) (by omega) (HMb.out _ (jA _ _)) (HMb.out _ (jA _ _))).mono ?_
      rintro e w2 ⟨rfl,A2,G2⟩
      refine hK.out _ _ G2 ?_
      clear hK K
      try go_frame
      refine jp ?_
      go_wp2_with fail
      refine jg (fun W'=>Rv w W' hs gm ms (q9 u2 3 7 11 15 (wd ms (pm k 6)) (wd ms (pm k 7)))∧Sr W' gs k) ⟨RV.grow (jj (jV (jnQ _).drew _) G2) A2,SR.grow (jj (jV (jnQ _).drew _) G2) hgs.out⟩ ?_
      clear A2 G2 KEEP RV SR
      clear W
      rintro W ⟨RV,SR⟩
      have VL':=(vD u2 3 7 11 15 (wd ms (pm k 6)) (wd ms (pm k 7))).trans VL
      clear VL
      generalize HV3:q9 u2 3 7 11 15 (wd ms (pm k 6)) (wd ms (pm k 7))=u3 at RV VL'
      replace HV3:=Hj HV3
      have VL:=VL'
      clear VL' lp lq
      have CP:=SR.cell (j:=8) (by omega)
      have CQ:=SR.cell (j:=9) (by omega)
      have CM:=RV.mcell (jA k 8) HM.out
      have CN:=RV.mcell (jA k 9) HM.out
      have lp:(pm k 8:Int) < 16:=by have:=jA k 8;omega
      have lq:(pm k 9:Int) < 16:=by have:=jA k 9;omega
      have KEEP:Hid (∀ w',W.grownBy w' (some (w.heap.size+1+1+1))→w'.cell? ⟨gs,8,none⟩=some (.int .u8 (pm k 8:Int))∧w'.cell? ⟨gs,9,none⟩=some (.int .u8 (pm k 9:Int))∧w'.cell? ⟨gm,pm k 8,none⟩=some (.int .u32 (wd ms (pm k 8):Int))∧w'.cell? ⟨gm,pm k 9,none⟩=some (.int .u32 (wd ms (pm k 9):Int))):=fun w' e=>⟨(SR.grow e hgs.out).cell (by omega),(SR.grow e hgs.out).cell (by omega),(RV.mgrow e).cell (by rw [HM.out];exact jA _ _),(RV.mgrow e).cell (by rw [HM.out];exact jA _ _)⟩
      clear CP CQ CM CN
      refine qgW ((w.heap.size+1+1+1)) [0,1,2,3,4,5,6,7,8] [8] ?_
      repeat ((first | refine qR _ (fun w' e=>KEEP.out w' (jj (jV (jnQ _).drew _) e)) ?_ | refine qS ?_);go_frame)
      refine qD fun K hK=> ?_
      go_simp
      refine (yT (RV.arr.ext (jnQ _).drew) VL (a:=0) (b:=5) (c:=10) (d:=15) (by omega) (by omega) (by omega) (by omega) (HMb.out _ (jA _ _)) (HMb.out _ (jA _ _))).mono ?_
      rintro e w2 ⟨rfl,A2,G2⟩
      refine hK.out _ _ G2 ?_
      clear hK K
      try go_frame
      refine jp ?_
      go_wp2_with fail
      refine jg (fun W'=>Rv w W' hs gm ms (q9 u3 0 5 10 15 (wd ms (pm k 8)) (wd ms (pm k 9)))∧Sr W' gs k) ⟨RV.grow (jj (jV (jnQ _).drew _) G2) A2,SR.grow (jj (jV (jnQ _).drew _) G2) hgs.out⟩ ?_
      clear A2 G2 KEEP RV SR
      clear W
      rintro W ⟨RV,SR⟩
      have VL':=(vD u3 0 5 10 15 (wd ms (pm k 8)) (wd ms (pm k 9))).trans VL
      clear VL
      generalize HV4:q9 u3 0 5 10 15 (wd ms (pm k 8)) (wd ms (pm k 9))=u4 at RV VL'
      replace HV4:=Hj HV4
      have VL:=VL'
      clear VL' lp lq
      have CP:=SR.cell (j:=10) (by omega)
      have CQ:=SR.cell (j:=11) (by omega)
      have CM:=RV.mcell (jA k 10) HM.out
      have CN:=RV.mcell (jA k 11) HM.out
      have lp:(pm k 10:Int) < 16:=by have:=jA k 10;omega
      have lq:(pm k 11:Int) < 16:=by have:=jA k 11;omega
      have KEEP:Hid (∀ w',W.grownBy w' (some (w.heap.size+1+1+1))→w'.cell? ⟨gs,10,none⟩=some (.int .u8 (pm k 10:Int))∧w'.cell? ⟨gs,11,none⟩=some (.int .u8 (pm k 11:Int))∧w'.cell? ⟨gm,pm k 10,none⟩=some (.int .u32 (wd ms (pm k 10):Int))∧w'.cell? ⟨gm,pm k 11,none⟩=some (.int .u32 (wd ms (pm k 11):Int))):=fun w' e=>⟨(SR.grow e hgs.out).cell (by omega),(SR.grow e hgs.out).cell (by omega),(RV.mgrow e).cell (by rw [HM.out];exact jA _ _),(RV.mgrow e).cell (by rw [HM.out];exact jA _ _)⟩
      clear CP CQ CM CN
      refine qgW ((w.heap.size+1+1+1)) [0,1,2,3,4,5,6,7,8] [8] ?_
      repeat ((first | refine qR _ (fun w' e=>KEEP.out w' (jj (jV (jnQ _).drew _) e)) ?_ | refine qS ?_);go_frame)
      refine qD fun K hK=> ?_
      go_simp
      refine (yT (RV.arr.ext (jnQ _).drew) VL (a:=1) (b:=6) (c:=11) (d:=12) (by omega) (by omega) (by omega) (by omega) (HMb.out _ (jA _ _)) (HMb.out _ (jA _ _))).mono ?_
      rintro e w2 ⟨rfl,A2,G2⟩
      refine hK.out _ _ G2 ?_
      clear hK K
      try go_frame
      refine jp ?_
      go_wp2_with fail
      refine jg (fun W'=>Rv w W' hs gm ms (q9 u4 1 6 11 12 (wd ms (pm k 10)) (wd ms (pm k 11)))∧Sr W' gs k) ⟨RV.grow (jj (jV (jnQ _).drew _) G2) A2,SR.grow (jj (jV (jnQ _).drew _) G2) hgs.out⟩ ?_
      clear A2 G2 KEEP RV SR
      clear W
      rintro W ⟨RV,SR⟩
      have VL':=(vD u4 1 6 11 12 (wd ms (pm k 10)) (wd ms (pm k 11))).trans VL
      clear VL
      generalize HV5:q9 u4 1 6 11 12 (wd ms (pm k 10)) (wd ms (pm k 11))=u5 at RV VL'
      replace HV5:=Hj HV5
      have VL:=VL'
      clear VL' lp lq
      have CP:=SR.cell (j:=12) (by omega)
      have CQ:=SR.cell (j:=13) (by omega)
      have CM:=RV.mcell (jA k 12) HM.out
      have CN:=RV.mcell (jA k 13) HM.out
      have lp:(pm k 12:Int) < 16:=by have:=jA k 12;omega
      have lq:(pm k 13:Int) < 16:=by have:=jA k 13;omega
      have KEEP:Hid (∀ w',W.grownBy w' (some (w.heap.size+1+1+1))→w'.cell? ⟨gs,12,none⟩=some (.int .u8 (pm k 12:Int))∧w'.cell? ⟨gs,13,none⟩=some (.int .u8 (pm k 13:Int))∧w'.cell? ⟨gm,pm k 12,none⟩=some (.int .u32 (wd ms (pm k 12):Int))∧w'.cell? ⟨gm,pm k 13,none⟩=some (.int .u32 (wd ms (pm k 13):Int))):=fun w' e=>⟨(SR.grow e hgs.out).cell (by omega),(SR.grow e hgs.out).cell (by omega),(RV.mgrow e).cell (by rw [HM.out];exact jA _ _),(RV.mgrow e).cell (by rw [HM.out];exact jA _ _)⟩
      clear CP CQ CM CN
      refine qgW ((w.heap.size+1+1+1)) [0,1,2,3,4,5,6,7,8] [8] ?_
      repeat ((first | refine qR _ (fun w' e=>KEEP.out w' (jj (jV (jnQ _).drew _) e)) ?_ | refine qS ?_);go_frame)
      refine qD fun K hK=> ?_
      go_simp
      refine (yT (RV.arr.ext (jnQ _).drew) VL (a:=2) (b:=7) (c:=8) (d:=13) (by omega) (by omega) (by omega) (by omega) (HMb.out _ (jA _ _)) (HMb.out _ (jA _ _))).mono ?_
      rintro e w2 ⟨rfl,A2,G2⟩
      refine hK.out _ _ G2 ?_
      clear hK K
      try go_frame
      refine jp ?_
      go_wp2_with fail
      refine jg (fun W'=>Rv w W' hs gm ms (q9 u5 2 7 8 13 (wd ms (pm k 12)) (wd ms (pm k 13)))∧Sr W' gs k) ⟨RV.grow (jj (jV (jnQ _).drew _) G2) A2,SR.grow (jj (jV (jnQ _).drew _) G2) hgs.out⟩ ?_
      clear A2 G2 KEEP RV SR
      clear W
      rintro W ⟨RV,SR⟩
      have VL':=(vD u5 2 7 8 13 (wd ms (pm k 12)) (wd ms (pm k 13))).trans VL
      clear VL
      generalize HV6:q9 u5 2 7 8 13 (wd ms (pm k 12)) (wd ms (pm k 13))=u6 at RV VL'
      replace HV6:=Hj HV6
      have VL:=VL'
      clear VL' lp lq
      have CP:=SR.cell (j:=14) (by omega)
      have CQ:=SR.cell (j:=15) (by omega)
      have CM:=RV.mcell (jA k 14) HM.out
      have CN:=RV.mcell (jA k 15) HM.out
      have lp:(pm k 14:Int) < 16:=by have:=jA k 14;omega
      have lq:(pm k 15:Int) < 16:=by have:=jA k 15;omega
      have KEEP:Hid (∀ w',W.grownBy w' (some (w.heap.size+1+1+1))→w'.cell? ⟨gs,14,none⟩=some (.int .u8 (pm k 14:Int))∧w'.cell? ⟨gs,15,none⟩=some (.int .u8 (pm k 15:Int))∧w'.cell? ⟨gm,pm k 14,none⟩=some (.int .u32 (wd ms (pm k 14):Int))∧w'.cell? ⟨gm,pm k 15,none⟩=some (.int .u32 (wd ms (pm k 15):Int))):=fun w' e=>⟨(SR.grow e hgs.out).cell (by omega),(SR.grow e hgs.out).cell (by omega),(RV.mgrow e).cell (by rw [HM.out];exact jA _ _),(RV.mgrow e).cell (by rw [HM.out];exact jA _ _)⟩
      clear CP CQ CM CN
      refine qgW ((w.heap.size+1+1+1)) [0,1,2,3,4,5,6,7,8] [8] ?_
      repeat ((first | refine qR _ (fun w' e=>KEEP.out w' (jj (jV (jnQ _).drew _) e)) ?_ | refine qS ?_);go_frame)
      refine qD fun K hK=> ?_
      go_simp
      refine (yT (RV.arr.ext (jnQ _).drew) VL (a:=3) (b:=4) (c:=9) (d:=14) (by omega) (by omega) (by omega) (by omega) (HMb.out _ (jA _ _)) (HMb.out _ (jA _ _))).mono ?_
      rintro e w2 ⟨rfl,A2,G2⟩
      refine hK.out _ _ G2 ?_
      clear hK K
      try go_frame
      refine jp ?_
      go_wp2_with fail
      refine ⟨⟨k+1,by omega,by go_num,?_⟩,by simp [intOf];omega⟩
      have h9:jbm ms vk k=q9 u6 3 4 9 14 (wd ms (pm k 14)) (wd ms (pm k 15)):=by
       unfold jbm
       simp only []
       rw [HV0.out,HV1.out,HV2.out,HV3.out,HV4.out,HV5.out,HV6.out]
      rw [HSUC.out,h9]
      exact RV.grow (jj (jV (jnQ _).drew _) G2) A2
     ·obtain rfl:k=10:=by omega
      rw [show ((10:Nat):Int)=10 from rfl]
      generalize hV:vG ms v0 10=V at RV VL
      replace hV:=Hj hV
      have vb:Hid (∀ j,j < 16→wd V j < 4294967296):=fun j hj=>(RV.arr.2 j (by omega)).2.2
      go_wp2_with fail
      go_loopw [125] (fun i wx=>∃ (k:Nat) (ys:List Nat),k≤8∧i= .int .i64 k∧ys.length=8∧(∀ j,j < k→wd ys j=wd hs j^^^(wd V j^^^wd V (j+8)))∧(∀ j,k≤j→j < 8→wd ys j=wd hs j)∧Rv w wx ys gm ms V) (fun i _=>8 - (intOf i).toNat)
      case atStart=>exact ⟨0,hs,jor _,rfl,hl,fun j hj=>absurd hj (by omega),fun j _ _=>rfl,RV⟩
      case round=>
       obtain ⟨k,ys,hk,rfl,yl,hy1,hy2,RY⟩:=hrel
       clear RV
       by_cases hlt:k < 8
       ·have q0:=hy2 k (joq _) hlt
        have b0:=hb k hlt
        have b1:=vb.out k (by omega)
        have b2:=vb.out (k+8) (by omega)
        have cy:=RY.2.1.cell (i:=k) (by omega)
        rw [q0] at cy
        have fy:=RY.2.1.frozen k
        obtain ⟨c1,f1,_⟩:=RY.arr.fct (i:=k) (by omega)
        obtain ⟨c2,f2,_⟩:=RY.arr.fct (i:=k+8) (by omega)
        have u1:bits .xor .u32 (wd V k:Int) (wd V (k+8):Int)=((wd V k^^^wd V (k+8):Nat):Int):=jn6 _ _ b1 b2
        have u2:bits .xor .u32 (wd hs k:Int) ((wd V k^^^wd V (k+8):Nat):Int)=((wd hs k^^^(wd V k^^^wd V (k+8)):Nat):Int):=jn6 _ _ b0 (jL b1 b2)
        have KEEP:Hid (∀ w',Ext wr w'→w'.cell? ⟨w.heap.size,k,none⟩=some (.int .u32 (wd hs k:Int))∧w'.cell? ⟨w.heap.size+1+1+1,k,none⟩=some (.int .u32 (wd V k:Int))∧w'.cell? ⟨w.heap.size+1+1+1,k+8,none⟩=some (.int .u32 (wd V (k+8):Int))):=fun w' e=>⟨by rw [←q0];exact (RY.2.1.kept e RY.2.1.lt).cell (by omega),((RY.arr.ext e).fct (by omega)).1,((RY.arr.ext e).fct (by omega)).1⟩
        have i1:(k:Int) < 8:=by omega
        have i2:(k:Int) < 16:=by omega
        have i3:(k:Int)+8 < 16:=by omega
        have i4:IntKind.i64.wrap ((k:Int)+8)=(k:Int)+8:=jp2 _ (by omega)
        have i5:((k:Int)+8).toNat=k+8:=by omega
        have i6:(0:Int)≤(k:Int)+8:=by omega
        clear q0
        replace hy1:=Hj hy1
        replace hy2:=Hj hy2
        go_wp2_with fail
        refine ym 13 [0,1,2,3,4,5,6,7,8,9,10,11,12,13] [13] ?_
        repeat (refine qzR _ (fun w' e=>KEEP.out w' ((jnQ _).drew.trans e)) ?_;go_frame)
        refine qzD fun K1 hK1=> ?_
        go_simp
        refine hK1.out _ _ (.inl rfl) ?_
        clear hK1 K1
        refine jN ?_
        clear u1 u2 i1 i2 i3 i4 i5 i6 cy fy c1 f1 c2 f2 KEEP
        go_wp2_with fail
        refine ⟨⟨k+1,ys.set k (wd hs k^^^(wd V k^^^wd V (k+8))),by omega,by go_num,by rw [jo7];exact yl,fun j hj=> ?_,fun j h1 h2=> ?_,(RY.setH k _).ext (jnQ _).drew⟩,by simp [intOf];omega⟩
        ·rw [j8 (by omega)]
         by_cases q:j=k
         ·rw [if_pos q,q]
         ·rw [if_neg q];exact hy1.out j (by omega)
        ·rw [j8 (by omega),if_neg (by omega)];exact hy2.out j (by omega) h2
       ·obtain rfl:k=8:=by omega
        have hfin:=Hj (jhn yl hy1)
        have HL:=jf yl
        have hone:=jo ys
        have h1:=RY.2.1
        have h2:=RY.2.2.1
        have he:=RY.1
        unfold Wr at h1 h2
        generalize hC:(jb ys).toArray=C at h1 HL hone
        clear hy1 hy2 RY vb
        replace hC:=Hj hC
        replace h1:=Hj h1
        replace h2:=Hj h2
        go_wp2_with (first
         | refine wl_ rfl 218 rfl w.heap.size rfl h1.out rfl rfl (by rw [HL];rfl) ?_
         | refine ws_ rfl 218 rfl (w.heap.size+1+1) C rfl rfl h2.out (by rw [HL];rfl) (by rw [HL];rfl) hone ?_)
        (try simp only [jpX,Exit.then])
        refine jpY (jpZ rfl _ _ (w.heap.size+1+1) 218 C (0,0) _ rfl (jpe _ _ _ _ _ _ h2.out) rfl rfl (by rw [HL];rfl)) rfl ?_
        exact ⟨by rw [vp,hM.out,←hv0.out,hV.out,hfin.out,hC.out],jpd he (by omega) _⟩
theorem Bs.cut {w:World}{A:Option Addr}{n c k:Nat}{xs:List UInt8}(h:Bs w A n c xs) (hk:k≤n):Bs w (if c=k then A else A.map (·.add k)) (n - k) (c - k) (xs.drop k):=by
 have h1:=h.le
 have h2:=h.2.2.1
 refine ⟨by rw [List.length_drop,h.len],by omega,by omega,fun h0=> ?_⟩
 obtain ⟨b,off,rfl,hb,hc⟩:=h.pos (by omega)
 rw [if_neg (by omega)]
 refine ⟨b,off+k,?_,hb,fun j hj=> ?_⟩
 ·by_cases hk0:k=0
  ·subst hk0;simp [Addr.add]
  ·simp [Addr.add,hk0]
 ·rw [jfu,Nat.add_assoc]
  exact hc (k+j) (by omega)
theorem Bs.recap {w:World}{A:Option Addr}{n c c2:Nat}{xs:List UInt8}(h:Bs w A n c xs) (h2:n≤c2) (hm:c2≤9223372036854775807:=by omega):Bs w A n c2 xs:=⟨h.1,h2,hm,h.2.2.2⟩
theorem Bs.cutAt {w:World}{b off n c k:Nat}{xs:List UInt8}(h:Bs w (some ⟨b,off,none⟩) n c xs) (hk:k < n):Bs w (some ⟨b,off+k,none⟩) (n - k) (c - k) (xs.drop k):=by
 have h1:=h.cut (jpW hk)
 have h2:=h.le
 rw [if_neg (by omega)] at h1
 have:(some (⟨b,off,none⟩:Addr)).map (·.add k)=some ⟨b,off+k,none⟩:=by
  by_cases hk0:k=0
  ·subst hk0;simp [Addr.add]
  ·simp [Addr.add,hk0]
 rwa [this] at h1
theorem jfV:(Tryz.prog.info? 5).map (·.size)=some 1:=by kernel_rfl
theorem ja7 {w:World}{ops:Array Oper}{rest:List Oper}{o:Oper}{a:Act}{Q:Exit→Act→World→Prop}(hgd:o.guard=none){x lo:Operand}{A:Option Addr}{n c k:Nat}{kd:IntKind}{z:Int}
 (ho:o.op= .slice 33 x (some lo) none none) (hx:a.eval x= .slice A n c) (hl:a.eval lo= .int kd z) (hz:z=(k:Int)) (hk:k≤n) (hnc:n≤c)
 (hK:∀ A',(∀ w0 xs,Bs w0 A n c xs→Bs w0 A' (n - k) (c - k) (xs.drop k))→wpList joz ops Q rest (a.put o.dst (.slice A' (n - k) (c - k))) w):wpList joz ops Q (o::rest) a w:=by
 subst hz
 refine wpList_plain hgd fun K hK'=> ?_
 have hr:(Instr.slice 33 (.slice A n c) (some (.int kd (k:Int))) none none).run joz w= .ok (.slice (if c=k then A else A.map (·.add k)) (n - k) (c - k)) w:=by
  obtain ⟨i,hi,hsz⟩:=Option.map_eq_some_iff.1 jfV
  simp [Instr.slice,jpn joA,Instr.sliceBounds,Instr.sliceBound,asIntOf,sizeOf,typeInfo,hi,hsz]
  intro hlt
  omega
 have hop:(jo0 a.eval o).run joz w= .ok (.value (.slice (if c=k then A else A.map (·.add k)) (n - k) (c - k))) w:=by
  obtain ⟨dst,op,ty,pos,af,gd⟩:=o
  simp only at ho
  subst ho
  simp only [jo0,hx,hl,Option.map,Instr.sliceAt]
  go_simp
  cases A <;> rfl
 unfold Oper.wp
 rw [hop]
 exact hK' _ _ (hK _ (fun w0 xs h=>h.cut hk))
theorem ZR {w:World}{ops:Array Oper}{rest:List Oper}{o:Oper}{a:Act}{Q:Exit→Act→World→Prop}(hgd:o.guard=none){x lo hi:Operand}{A:Option Addr}{n c k h:Nat}{kd kd':IntKind}{z:Int}
 (ho:o.op= .slice 33 x (some lo) (some hi) none) (hx:a.eval x= .slice A n c) (hl:a.eval lo= .int kd (k:Int)) (hh:a.eval hi= .int kd' z) (hz:z=(h:Int)) (hk:k≤h) (hhn:h≤n) (hnc:n≤c)
 (hK:∀ A',(∀ w0 xs,Bs w0 A n c xs→Bs w0 A' (h - k) (c - k) ((xs.take h).drop k))→wpList joz ops Q rest (a.put o.dst (.slice A' (h - k) (c - k))) w):wpList joz ops Q (o::rest) a w:=by
 refine wpList_plain hgd fun K hK'=> ?_
 have hop:(jo0 a.eval o).run joz w= .ok (.value (.slice (if c=k then A else A.map (·.add k)) (h - k) (c - k))) w:=by
  obtain ⟨dst,op,ty,pos,af,gd⟩:=o
  simp only at ho
  subst ho hz
  obtain ⟨i,hi',hsz⟩:=Option.map_eq_some_iff.1 jfV
  have q1:(k:Int)≤(h:Int):=by omega
  have q2:(h:Int)≤(c:Int):=by omega
  simp only [jo0,hx,hl,hh,Option.map,Instr.sliceAt]
  go_simp
  cases A <;> rfl
 unfold Oper.wp
 rw [hop]
 exact hK' _ _ (hK _ (fun w0 xs hb=>(hb.take hhn).cut hk))
def Lt32 (vs:List Nat):Prop:=∀ j,wd vs j < 4294967296
theorem Lt32.set {vs:List Nat}(h:Lt32 vs){k x:Nat}(hx:x < 4294967296):Lt32 (vs.set k x):=fun j=>by
 by_cases hk:k < vs.length
 ·rw [j8 hk]
  split
  ·exact hx
  ·exact h j
 ·rw [List.set_eq_of_length_le (by omega)];exact h j
theorem Lt32.mix {vs:List Nat}(h:Lt32 vs) (a b c d x y:Nat):Lt32 (q9 vs a b c d x y):=by
 have ha:∀ {vs:List Nat} {a b x:Nat},Lt32 vs→Lt32 (vX vs a b x):=fun h=>h.set (ve _ _)
 have hr:∀ {n:Nat} {vs:List Nat} {a b:Nat},Lt32 vs→Lt32 (qa n vs a b):=fun h=>h.set (yB (jL (h _) (h _)))
 have hs:∀ {vs:List Nat} {a b:Nat},Lt32 vs→Lt32 (qu vs a b):=fun h=>h.set (ve _ _)
 unfold q9
 exact hr (hs (hr (ha (hr (hs (hr (ha h)))))))
theorem Lt32.row {ms vs:List Nat}(h:Lt32 vs) (k:Nat):Lt32 (jbm ms vs k):=by
 unfold jbm
 iterate 8 refine Lt32.mix ?_ _ _ _ _ _ _
 exact h
theorem Lt32.rounds {ms vs:List Nat}(h:Lt32 vs):∀ k,Lt32 (vG ms vs k)
 | 0=>h
 | k+1=>by rw [Yc];exact (Lt32.rounds h k).row k
theorem Lt32.append {hs is:List Nat}(h:Lt32 hs) (h':Lt32 is):Lt32 (hs++is):=fun j=>by
 unfold wd
 rw [jn9,List.getElem?_append]
 split
 ·rw [←jn9];exact h j
 ·rw [←jn9];exact h' _
theorem zZ:Lt32 qJ:=fun j=>by
 by_cases hj:j < 8
 ·have:∀ j,j < 8→wd qJ j < 4294967296:=by decide
  exact this j hj
 ·unfold wd;rw [jn9,jpc (by simp [qJ];omega)];decide
theorem Lt32.start {hs:List Nat}(h:Lt32 hs){t:Nat}(ht:t < 18446744073709551616) (last:Bool):Lt32 (vY hs t last):=by
 have h0:=h.append zZ
 have h1:=h0.set (k:=12) (jL (h0 12) (jo5 t (by decide)))
 have h2:=h1.set (k:=13) (jL (h0 13) (show t / 4294967296 < 4294967296 by omega))
 unfold vY
 cases last
 ·exact h2
 ·exact h2.set (jL (by decide) (h0 14))
theorem Lt32.fin {hs vs:List Nat}(h:Lt32 hs) (h':Lt32 vs):Lt32 (ZW hs vs):=fun j=>by
 by_cases hj:j < 8
 ·have:wd (ZW hs vs) j=wd hs j^^^(wd vs j^^^wd vs (j+8)):=by simp [wd,ZW,jot,hj]
  rw [this]
  exact jL (h j) (jL (h' j) (h' _))
 ·unfold wd;rw [jn9,jpc (by simp [ZW];omega)];decide
theorem Lt32.comp {hs:List Nat}(h:Lt32 hs){xs:List UInt8}{t:Nat}(ht:t < 18446744073709551616) (last:Bool):Lt32 (vp hs xs t last):=h.fin ((h.start ht last).rounds 10)
def h0L (k:Nat):List Nat:=qJ.set 0 (wd qJ 0^^^(16842784^^^k*256))
def hAt (hs:List Nat) (t:Nat) (bs:List UInt8):Nat→List Nat
 | 0=>hs
 | i+1=>vp (hAt hs t bs i) (qQ ((bs.drop (64*i)).take 64)) (t+64*(i+1)) false
def vJ (m:Nat):Nat:=(m - 1) / 64
def Yt (hs:List Nat) (t:Nat) (bs:List UInt8):List UInt8:=
 qX (vp (hAt hs t bs (vJ bs.length)) (qQ (bs.drop (64*vJ bs.length))) (t+bs.length) true)
def jC (ks bs:List UInt8):List UInt8:=
 if ks.length=0 then Yt (h0L 0) 0 bs
 else if bs.length=0 then qX (vp (h0L ks.length) (qQ ks) 64 true)
 else Yt (vp (h0L ks.length) (qQ ks) 64 false) 64 bs
theorem jc7 {k:Nat}(h:k≤32):Lt32 (h0L k):=zZ.set (jL (zZ 0) (jL (by decide) (by omega)))
theorem Zc (k:Nat):(h0L k).length=8:=by simp [h0L,qJ]
theorem jfF {hs:List Nat}{t:Nat}{bs:List UInt8}(h:hs.length=8):∀ i,(hAt hs t bs i).length=8
 | 0=>h
 | i+1=>yh _ _ _ _
theorem jhx {hs:List Nat}{t:Nat}{bs:List UInt8}(h:Lt32 hs):∀ i,t+64*i < 18446744073709551616→Lt32 (hAt hs t bs i)
 | 0,_=>h
 | i+1,hi=>(jhx h i (by omega)).comp (by omega) _
theorem ZE (hs:List Nat) (t:Nat) (bs:List UInt8):(Yt hs t bs).length=32:=by
 unfold Yt;rw [ya,yh]
theorem qr (ks bs:List UInt8):(jC ks bs).length=32:=by
 unfold jC
 split
 ·exact ZE _ _ _
 ·split
  ·rw [ya,yh]
  ·exact ZE _ _ _
def j3 (xs:List UInt8):List UInt8:=jC [] xs++kL (jY (jC [] xs) 9)
theorem yU (xs:List UInt8):(j3 xs).length=64:=by unfold j3;rw [joI,qr,zx]
def zu (s p:List UInt8):List UInt8:=kL (jY s (ofV p))
def jej (k:List UInt8):Int:=if k=jpp 32 0 then 12 else 0
def upB (z m:Int):Bool:=decide (0≤z)&&decide (z≤m)
def hdC (pk:List UInt8) (p n:Int):List Value:=cellsOf pk++ [.int .i64 p, .int .i64 n]
theorem yz {pk:List UInt8}(h:pk.length=32) (p n:Int):(hdC pk p n).length=34:=by simp [hdC,ja,h]
theorem jfg {w:World}{z m:Int}:Calls joz 145 #[.int .i64 z, .int .i64 m] w fun e w'=>e= .returned (.bool (upB z m))∧Ext w w':=by
 by_cases h1:0≤z
 ·have d1:decide (z≥0)=true:=decide_eq_true h1
  by_cases h2:z≤m
  ·have d2:decide (z≤m)=true:=decide_eq_true h2
   have hb:Hid (upB z m=true):=by unfold Hid upB;rw [decide_eq_true h1,d2];rfl
   go_enter Tryz.func145,Tryz.ntmps145
   go_wp2_with fail
   go_ret
   exact ⟨by rw [hb.out];rfl,jnQ _⟩
  ·have d2:decide (z≤m)=false:=decide_eq_false h2
   have hb:Hid (upB z m=false):=by unfold Hid upB;rw [decide_eq_true h1,d2];rfl
   go_enter Tryz.func145,Tryz.ntmps145
   go_wp2_with fail
   go_ret
   exact ⟨by rw [hb.out];rfl,jnQ _⟩
 ·have d1:decide (z≥0)=false:=decide_eq_false h1
  have hb:Hid (upB z m=false):=by unfold Hid upB;rw [decide_eq_false h1];rfl
  go_enter Tryz.func145,Tryz.ntmps145
  go_wp2_with fail
  go_ret
  exact ⟨by rw [hb.out];rfl,jnQ _⟩
def okH (p n:Int):Bool:=upB p 1000000&&upB n 1000000
theorem Jh {w:World}{pk:List UInt8}{p n:Int}(lp:pk.length=32):Calls joz 115 #[.agg (hdC pk p n).toArray] w fun e w'=>e= .returned (.bool (okH p n))∧Ext w w':=by
 have UP:Hid (∀ (W:World) (z:Int),Calls joz 145 #[.int .i64 z, .int .i64 1000000] W fun e w'=>e= .returned (.bool (upB z 1000000))∧Ext W w'):=fun W z=>jfg
 have c32:Hid ((hdC pk p n)[32]? =some (.int .i64 p)):=by unfold Hid hdC;rw [jpt (by rw [ja,lp];omega)];simp [ja,lp]
 have c33:Hid ((hdC pk p n)[33]? =some (.int .i64 n)):=by unfold Hid hdC;rw [jpt (by rw [ja,lp];omega)];simp [ja,lp]
 have hR:Hid (okH p n=(upB p 1000000&&upB n 1000000)):=rfl
 generalize okH p n=ok at *
 generalize hdC pk p n=hd at *
 have B0:Hid (Cb (w.alloc (jp0 hd.toArray 47)) w.heap.size 47 hd∧Ext w (w.alloc (jp0 hd.toArray 47))):=⟨Cb.new _ _ _,(jnQ w).alloc _⟩
 go_enter Tryz.func115,Tryz.ntmps115
 go_upto_region 1 with fail
 refine jg (fun W=>Cb W w.heap.size 47 hd∧Ext w W) B0.out ?_
 clear B0
 rintro w0 ⟨k0,x0⟩
 have b0:=k0.cell c32.out
 replace k0:=Hj k0
 replace x0:=Hj x0
 go_wp2_with fail
 refine (UP.out _ _).mono ?_
 rintro e w1 ⟨rfl,e1⟩
 have b1:=(k0.out.ext e1).cell c33.out
 have x1:=Hj (x0.out.trans e1)
 clear b0 k0 x0 e1
 by_cases hp:upB p 1000000=true
 ·rw [hp] at hR ⊢
  go_wp2_with fail
  refine (UP.out _ _).mono ?_
  rintro e w2 ⟨rfl,e2⟩
  have x2:=Hj (x1.out.trans e2)
  have hR2:Hid (upB n 1000000=ok):=by unfold Hid;rw [hR.out];rfl
  rw [hR2.out]
  clear b1 x1 e2 hR
  go_wp2_with fail
  go_ret
  exact ⟨rfl,x2.out⟩
 ·rw [Bool.not_eq_true] at hp
  have hR2:Hid (ok=false):=by unfold Hid;rw [hR.out,hp];rfl
  rw [hp]
  clear b1 hR
  go_wp2_with fail
  go_ret
  exact ⟨by rw [hR2.out];rfl,x1.out⟩
theorem jeg {xs:List UInt8}{k:Nat}(hk:k < xs.length):bt xs.reverse k=bt xs (xs.length - 1 - k):=by
 unfold bt
 simp [jot,hk,List.getElem?_reverse,show xs.length - 1 - k < xs.length by omega]
def FillBack (w wr:World) (n k:Nat) (f:Nat→Nat):Prop:=Ext w wr∧wr.rowIs w.heap.size 5 n (fun i=>if n≤i+k then .int .u8 (f i:Int) else .int .u8 0)
theorem FillBack.step {w wr:World}{n k:Nat}{f:Nat→Nat}(h:FillBack w wr n k f){j:Nat}(hj:j+k+1=n){u:Int}(hu:u=(f j:Int)):
 FillBack w (wr.setCell ⟨w.heap.size,j,none⟩ (.int .u8 u)) n (k+1) f:=by
 subst hu
 refine ⟨h.1.setCell (joq _) _,(h.2.set j _).congr fun i _=> ?_⟩
 by_cases e:i=j
 ·subst e;simp only [if_true];rw [if_pos (by omega)]
 ·simp only [if_neg e]
  by_cases hi:n≤i+k
  ·rw [if_pos hi,if_pos (by omega)]
  ·rw [if_neg hi,if_neg (by omega)]
theorem jaK {A:Option Addr}{n c:Nat}{xs:List UInt8}{w:World}(h:Bs w A n c xs) (hm:n≤281474976710656):
 Calls joz 146 #[.slice A n c] w (Qw xs.reverse w):=by
 have h1:=h.le
 have h2:=h.cap
 have hmk:=jhQ n hm
 go_enter Tryz.func146,Tryz.ntmps146
 go_wp2
 clear hmk
 go_loopw [10] (fun i wr=>∃ k:Nat,k≤n∧i= .int .i64 k∧FillBack w wr n k (fun j=>bt xs (n - 1 - j))) (fun i _=>n - (intOf i).toNat)
 case atStart=>exact ⟨0,jor _,rfl,(jnQ w).alloc _,(World.rowIs_made w _ n _).congr fun i hi=>by rw [if_neg (by omega)]⟩
 case round=>
  obtain ⟨k,hk,rfl,hf⟩:=hrel
  by_cases hlt:k < n
  ·obtain ⟨b,off,rfl,hb,hc⟩:=h.pos (by omega)
   have g1:=(hf.1.cell (p:=⟨b,off+k,none⟩) hb).trans (hc k hlt)
   have g3:=hf.2.cell (i:=n - 1 - k) (by omega)
   rw [if_neg (by omega)] at g3
   have g4:=hf.2.frozen (n - 1 - k)
   clear hc
   go_wp2
   go_roundw
   case rel=>
    exact ⟨k+1,by omega,by go_num,hf.step (by omega) (by rw [show n - 1 - (n - 1 - k)=k by omega])⟩
   case measure=>simp [intOf];omega
  ·obtain rfl:k=n:=by omega
   go_wp2
   go_ret
   refine ⟨_,_,_,rfl,?_,hf.1⟩
   refine ⟨by rw [List.length_reverse,h.len],joq _,by unfold maxLen;omega,fun _=>⟨w.heap.size,0,rfl,hf.2.lt,fun j hj=> ?_⟩⟩
   rw [joB,hf.2.cell hj,if_pos (by omega),jeg (by rw [h.len];exact hj),h.len]
theorem Yj {n m:Nat}{many:Int}{w:World}(hn:n < 18446744073709551616) (h1:0≤many) (h2:many≤9223372036854775807) (hm8:m≤8) (hM:(if (8:Int) < many then 8 else many)=(m:Int)):
 Calls joz 116 #[.int .u64 (n:Int), .int .i64 many] w (Qw (J3 n m).reverse w):=by
 have hM':=Hj hM
 clear hM
 go_enter Tryz.func116,Tryz.ntmps116
 go_wp2_with fail
 refine (Zh hn h1 h2 hm8 hM'.out).mono ?_
 rintro e w1 ⟨A,k,c,rfl,hb,he⟩
 go_wp2_with fail
 have hk:k≤8:=by have:=hb.len;rw [vM] at this;omega
 refine (jaK hb (by omega)).mono ?_
 rintro e w2 ⟨A,k,c,rfl,hb2,he2⟩
 go_wp2_with fail
 go_ret
 exact ⟨_,_,_,rfl,hb2,he.trans he2⟩
def u8v (x:UInt8):Value:= .int .u8 (x.toNat:Int)
theorem jiI {xs:List UInt8}{j:Nat}(h:j < xs.length):(xs.map u8v)[j]? =some (.int .u8 (bt xs j:Int)):=by simp [u8v,bt,jot,h]
def Own (B:Nat) (w:World) (A:Option Addr) (n c:Nat) (xs:List UInt8):Prop:=w.ownsRow B 5 1 (.slice A n c) n (xs.map u8v)
section
variable {w w':World}{B:Nat}{A:Option Addr}{n c:Nat}{xs:List UInt8}
theorem Own.nil (B:Nat) (w:World):Own B w none 0 0 []:=World.ownsRow_nil w B _ 1
theorem Own.made (w:World) (B cap:Nat) (hB:B≤w.heap.size) (hm:cap≤281474976710656):Own B (w.alloc (.cells (madeCells #[.int .u8 0] cap) 5)) (some ⟨w.heap.size,0,none⟩) 0 cap []:=
 World.ownsRow_made w _ cap hB (by unfold maxLen;omega) (by rw [size_madeCells,Nat.mul_one])
theorem Own.len (h:Own B w A n c xs):xs.length=n:=by simpa using h.1
theorem Own.bs (h:Own B w A n c xs):Bs w A n c xs:=by
 have hl:=h.len
 rcases h.2 with ⟨hv,hn⟩ | ⟨g,cap,cur,hv,hb,hg,hnc,hcm,hcs,htk⟩
 ·injection hv with h1 h2 h3
  subst h1 h2 h3
  exact ⟨hl,joq _,jor _,fun h=>absurd h (by omega)⟩
 ·injection hv with h1 h2 h3
  subst h1 h3
  refine ⟨hl,hnc,hcm,fun h0=>⟨g,0,rfl,?_,fun j hj=> ?_⟩⟩
  ·rcases jow g w.heap.size with h | h
   ·exact h
   ·rw [jox h] at hg;cases hg
  ·rw [joB]
   have e:(xs.map u8v)[j]? =cur[j]? :=by
    rw [←htk,jph,if_pos (by omega),joW]
   rw [jiI (by omega)] at e
   simp [World.cell?,hg,←e]
theorem Own.ext (h:Own B w A n c xs) (he:Ext w w'):Own B w' A n c xs:=by
 refine ⟨h.1,?_⟩
 rcases h.2 with h | ⟨g,cap,cur,hv,hb,hg,r⟩
 ·exact .inl h
 ·exact .inr ⟨g,cap,cur,hv,hb,(he.block g (by
   rcases jow g w.heap.size with h | h
   ·exact h
   ·rw [jox h] at hg;cases hg)).trans hg,r⟩
theorem Own.ge (h:Own B w A n c xs):∀ g,joa (.slice A n c)=some g→B≤g:=fun g hg=>(job h g hg).1
theorem Own.kept {row:Option Nat}(h:Own B w A n c xs) (hg:w.grownBy w' row) (hne:joa (.slice A n c)=none∨joa (.slice A n c)≠row):Own B w' A n c xs:=World.ownsRow.kept h hg hne
end
theorem Own.empty (w:World) (B:Nat) (hB:B≤w.heap.size):Own B (w.alloc (.cells #[] 5)) (some ⟨w.heap.size,0,none⟩) 0 0 []:=
 World.ownsRow_lit (e:=5) (size:=1) w #[] 0 hB (jor _) rfl
theorem jhP (n:Nat) (hn:n≤281474976710656) (w:World):
 (Instr.makeSlice 33 (.int .i64 0) (.int .i64 (n:Int))).run joz w= .ok (.slice (some ⟨w.heap.size,0,none⟩) 0 n) (w.alloc (.cells (madeCells #[.int .u8 0] n) 5)):=by
 obtain ⟨i,hi,hz0,hz1,hz2⟩:=info_parts jdb
 have h:=run_make (P:=joz) w 33 5 i (.int .u8 0) joA hi hz0 .i64 .i64 0 (n:Int) (by omega) (by omega) (by rw [hz2];omega) (by omega)
 simpa [hz1,Value.cells] using h
theorem jf6 {w:World}{B:Nat}{A A':Option Addr}{n c m c':Nat}{xs ys:List UInt8}(ty:joE) (h:Own B w A n c xs) (hr:Bs w A' m c' ys) (hm:n+m≤140737488355328) (hB:B≤w.heap.size):
 ∃ A'' c'' w',(joc #[33,33] ty #[.slice A n c, .slice A' m c']).run joz w= .ok (.slice A'' (n+m) c'') w'∧Own B w' A'' (n+m) c'' (xs++ys)∧w.grownBy w' (joa (.slice A n c))∧
   (joa (.slice A'' (n+m) c'')=joa (.slice A n c)∨joa (.slice A'' (n+m) c'')=some w.heap.size):=by
 obtain ⟨i,hi,hz0,hz1,hz2⟩:=info_parts jdb
 have form:∀ (v':Value) (w':World),w'.ownsRow B 5 1 v' (n+m) (xs.map u8v++ys.map u8v)→∃ A'' c'',v'= .slice A'' (n+m) c''∧Own B w' A'' (n+m) c'' (xs++ys):=by
  intro v' w' ho
  rcases ho.2 with ⟨hv,hn⟩ | ⟨g,cap,cur,hv,_⟩
  ·refine ⟨none,0,by rw [hv,hn],?_⟩
   rw [hv] at ho
   unfold Own
   rw [jpy]
   rw [show (Value.slice none (n+m) 0)= .slice none 0 0 by rw [hn]]
   exact ho
  ·refine ⟨_,_,hv,?_⟩
   rw [hv] at ho
   unfold Own
   rw [jpy]
   exact ho
 rcases A' with _ | a
 ·have hm0:m=0:=by
   rcases Nat.eq_zero_or_pos m with h0 | h0
   ·exact h0
   ·obtain ⟨b,off,e,_⟩:=hr.pos h0
    cases e
  subst hm0
  have hy:=hr.zero
  subst hy
  refine ⟨A,c,w,?_,by simpa using h,⟨rfl,rfl,rfl,joq _,fun _ _ _=>rfl⟩, .inl rfl⟩
  rcases h.2 with ⟨hv,hn⟩ | ⟨g,cap,cur,hv,_,_,hnc,_⟩
  ·rw [hv]
   subst hn
   injection hv with _ _ h3
   subst h3
   simp [joc,jpn joA,sizeOf,typeInfo,hi,Builtin.lenOf,Builtin.firstCells]
   exact Eq.symm ‹A=none›
  ·rw [hv]
   injection hv with _ _ h3
   subst h3
   simp [joc,jpn joA,sizeOf,typeInfo,hi,Builtin.lenOf,Builtin.firstCells,hnc,storeCells]
   exact Eq.symm ‹A=some _›
 ·obtain ⟨v',w',hrun,ho,hg,_,hown⟩:=run_append_own_at (P:=joz) w B 33 ty 5 i (.int .u8 0) 1 1 joA hi hz0 hz1 hz2 rfl (by decide) (.slice A n c) n (xs.map u8v) h a m c' (ys.map u8v)
   (by rw [jpJ,hr.len,Nat.mul_one]) (fun j u hu=>by
     have hj:j < ys.length:=by
      rcases jow j ys.length with h | h
      ·exact h
      ·simp [h] at hu
     obtain ⟨b,off,e,hb,hc⟩:=hr.pos (by have:=hr.len;omega)
     injection e with e
     subst e
     have hplain:(⟨b,off,none⟩:Addr).add j=⟨b,off+j,none⟩:=by unfold Addr.add;split <;> simp_all
     rw [hplain,hc j (by rw [←hr.len];exact hj),←jiI hj,hu])
   (fun u hu=>by
     obtain ⟨x,_,rfl⟩:=joP.1 hu
     rfl) (by unfold maxLen;omega) (by omega) hB
  obtain ⟨A'',c'',rfl,ho'⟩:=form v' w' ho
  exact ⟨A'',c'',w',hrun,ho',hg,hown⟩
theorem jcO {w:World}{o:Oper}{a:Act}{K:Act→World→Prop}{Q:Exit→Act→World→Prop}{B:Nat}{A A':Option Addr}{n c m c':Nat}{xs ys:List UInt8}{s x:Operand}
 (ho:o.op= .call {callee:= .builtin .append,args:= #[s,x],argTypes:= #[33,33]}) (hs:a.eval s= .slice A n c) (hx:a.eval x= .slice A' m c')
 (h:Own B w A n c xs) (hr:Bs w A' m c' ys) (hm:n+m≤140737488355328) (hB:B≤w.heap.size)
 (hK:∀ A'' c'' w',Own B w' A'' (n+m) c'' (xs++ys)→w.grownBy w' (joa (.slice A n c))→Below B w w'→K (a.put o.dst (.slice A'' (n+m) c'')) w'):o.wp joz a w K Q:=by
 obtain ⟨A'',c'',w',hrun,h2,h3,h4⟩:=jf6 o.type h hr hm hB
 unfold Oper.wp jo0
 simp only [ho,resolve,invoke,builtin,jpk,jpl,jpm,jpG,jpC,jpH,hs,hx,hrun]
 exact hK A'' c'' w' h2 h3 ((joo B w).grown h3 hB h.ge)
theorem jJ {w:World}{ops:Array Oper}{rest:List Oper}{o:Oper}{a:Act}{Q:Exit→Act→World→Prop}(hgd:o.guard=none){B:Nat}{A A':Option Addr}{n c m c':Nat}{xs ys:List UInt8}{s x:Operand}
 (ho:o.op= .call {callee:= .builtin .append,args:= #[s,x],argTypes:= #[33,33]}) (hs:a.eval s= .slice A n c) (hx:a.eval x= .slice A' m c')
 (h:Own B w A n c xs) (hr:Bs w A' m c' ys) (hm:n+m≤140737488355328) (hB:B≤w.heap.size)
 (hK:∀ A'' c'' w',Own B w' A'' (n+m) c'' (xs++ys)→w.grownBy w' (joa (.slice A n c))→Below B w w'→wpList joz ops Q rest (a.put o.dst (.slice A'' (n+m) c'')) w'):wpList joz ops Q (o::rest) a w:=
 wpList_plain hgd fun _ hK'=>jcO ho hs hx h hr hm hB fun A'' c'' w' h2 h3 h4=>hK' _ _ (hK A'' c'' w' h2 h3 h4)
theorem Cb.bs {w:World}{g:Nat}{T:joE}{L:List Value}(h:Cb w g T L){p q:List Value}{xs:List UInt8}{off n:Nat}(hL:L=p++(cellsOf xs++q)) (hp:p.length=off) (hn:xs.length=n) (hm:n≤1000000):Bs w (some ⟨g,off,none⟩) n n xs:=
 ⟨hn,joq _,by unfold maxLen;omega,fun _=>⟨g,off,rfl,h.lt,fun j hj=>h.mid hL hp j _ (jZ (by omega))⟩⟩
end
end Go.Proofs.YtakpgbaijkhpmaaGreatDoor
