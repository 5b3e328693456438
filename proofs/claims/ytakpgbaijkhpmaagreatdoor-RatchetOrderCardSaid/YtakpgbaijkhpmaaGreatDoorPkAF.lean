import Derived.Test.YtakpgbaijkhpmaaGreatDoorPkAA
import Derived.Great.FillDense
import Derived.Laws.BitsAllLaws
namespace Go.Proofs.YtakpgbaijkhpmaaGreatDoor
section
def lb(x i:Nat):Nat:=x / 4294967296 ^ i % 4294967296
def lbs(n x:Nat):List Nat:=(List.range n).map(lb x)
theorem yJ(x i:Nat):lb x i < 4294967296:=Nat.mod_lt _(by decide)
theorem jq(n x:Nat):(lbs n x).length=n:=by simp [lbs]
theorem yh{n x i:Nat}(h:i < n):wd(lbs n x)i=lb x i:=by simp [wd,lbs,List.getD,h]
theorem ym(x i:Nat):x / 4294967296 ^(i+1)=x / 4294967296 ^ i / 4294967296:=by rw [Nat.pow_succ,Nat.div_div_eq_div_mul]
def cA(x y:Nat):Nat→Nat
 |0=>0
 |i+1=>(lb x i+lb y i+cA x y i) / 4294967296
theorem jjV(x y:Nat):∀i,cA x y i≤1
 |0=>Nat.zero_le _
 |i+1=>by have:=jjV x y i;have h1:=yJ x i;have h2:=yJ y i;rw [cA];omega
theorem jfs(x y:Nat):∀i,(x+y) / 4294967296 ^ i=x / 4294967296 ^ i+y / 4294967296 ^ i+cA x y i
 |0=>by simp [cA]
 |i+1=>by
  rw [ym,jfs x y i,ym x,ym y,cA]
  unfold lb
  generalize x / 4294967296 ^ i=X
  generalize y / 4294967296 ^ i=Y
  generalize cA x y i=c
  omega
theorem jko(x y i:Nat):lb(x+y)i=(lb x i+lb y i+cA x y i)% 4294967296:=by
 unfold lb
 rw [jfs]
 generalize x / 4294967296 ^ i=X
 generalize y / 4294967296 ^ i=Y
 generalize cA x y i=c
 omega
def bS(x y:Nat):Nat→Nat
 |0=>0
 |i+1=>if lb x i < lb y i+bS x y i then 1 else 0
theorem jcY(x y:Nat):∀i,bS x y i≤1
 |0=>Nat.zero_le _
 |i+1=>by rw [bS];split <;> omega
theorem jcJ{x y:Nat}(hy:y < 4294967296 ^ 8):∀k i,i+k=8→(x+4294967296 ^ 8 - y) / 4294967296 ^ i+y / 4294967296 ^ i+bS x y i=x / 4294967296 ^ i+4294967296 ^ k
 |k,0,h=>by
  obtain rfl:k=8:=by omega
  simp only [Nat.pow_zero,Nat.div_one,bS]
  generalize 4294967296 ^ 8=M at *
  omega
 |k,i+1,h=>by
  have ih:=jcJ(x:=x)hy(k+1)i(by omega)
  have hb:=jcY x y i
  rw [show(4294967296:Nat)^(k+1)=4294967296 ^ k *4294967296 from Nat.pow_succ _ _] at ih
  rw [ym,ym x,ym y,bS]
  unfold lb
  generalize(x+4294967296 ^ 8 - y) / 4294967296 ^ i=D at *
  generalize x / 4294967296 ^ i=X at *
  generalize y / 4294967296 ^ i=Y at *
  generalize bS x y i=b at *
  obtain⟨M,hM⟩:∃M,M=4294967296 ^ k:=⟨_,rfl⟩
  rw [← hM] at ih ⊢
  clear hM hy
  split <;> omega
theorem jkr{x y:Nat}(hy:y < 4294967296 ^ 8){i:Nat}(hi:i < 8):lb(x+4294967296 ^ 8 - y)i=(lb x i+4294967296 - lb y i - bS x y i)% 4294967296:=by
 have h:=jcJ(x:=x)hy(8 - i)i(by omega)
 have hb:=jcY x y i
 obtain⟨k,hk⟩:∃k,8 - i=k+1:=⟨8 - i - 1,by omega⟩
 rw [hk,show(4294967296:Nat)^(k+1)=4294967296 ^ k *4294967296 from Nat.pow_succ _ _] at h
 unfold lb
 generalize(x+4294967296 ^ 8 - y) / 4294967296 ^ i=D at *
 generalize x / 4294967296 ^ i=X at *
 generalize y / 4294967296 ^ i=Y at *
 generalize bS x y i=b at *
 obtain⟨M,hM⟩:∃M,M=4294967296 ^ k:=⟨_,rfl⟩
 rw [← hM] at h
 clear hM hy
 omega
theorem jg8{x y:Nat}(hx:x < 4294967296 ^ 8)(hy:y < 4294967296 ^ 8):bS x y 8=if x < y then 1 else 0:=by
 have h:=jcJ(x:=x)hy 0 8 rfl
 have hb:=jcY x y 8
 rw [Nat.div_eq_of_lt hx,Nat.div_eq_of_lt hy,Nat.pow_zero] at h
 by_cases q:x < y
 ·rw [if_pos q]
  rw [Nat.div_eq_of_lt(show x+4294967296 ^ 8 - y < 4294967296 ^ 8 by omega)] at h
  omega
 ·rw [if_neg q]
  have:(x+4294967296 ^ 8 - y) / 4294967296 ^ 8=1:=by
   generalize hM:4294967296 ^ 8=M at *
   have:0 < M:=by omega
   rw [show x+M - y=(x - y)+M by omega,Nat.add_div_right _ this,Nat.div_eq_of_lt(by omega)]
  omega
def yQ:List Nat→Nat
 | []=>0
 |d :: ds=>d+4294967296 *yQ ds
theorem jcl:∀(vs:List Nat),(∀i,i < vs.length→wd vs i < 4294967296)→∀i,lb(yQ vs)i=wd vs i
 | [],_,i=>by simp [lb,yQ,wd]
 |d :: ds,h,0=>by
  have:=h 0(by simp)
  simp only [wd,List.getD,List.getElem?_cons_zero,Option.getD_some] at this
  simp [lb,yQ,wd];omega
 |d :: ds,h,i+1=>by
  have h0:=h 0(by simp)
  simp only [wd,List.getD,List.getElem?_cons_zero,Option.getD_some] at h0
  have ih:=jcl ds(fun j hj=>by
   have:=h(j+1)(by simp;omega)
   simpa [wd,List.getD] using this)i
  rw [show wd(d :: ds)(i+1)=wd ds i by simp [wd,List.getD],← ih]
  unfold lb
  rw [yQ,Nat.pow_succ',← Nat.div_div_eq_div_mul,show(d+4294967296 *yQ ds) / 4294967296=valL ds by omega]
theorem Ju{vs:List Nat}{n:Nat}(hl:vs.length=n)(h:∀i,i < n→wd vs i < 4294967296):vs=lbs n(yQ vs):=by
 subst hl
 refine List.ext_getElem(by rw [jq])fun i h1 h2=> ?_
 have:=jcl vs h i
 simp [wd,List.getD,h1] at this
 simp [lbs,this]
theorem ja3:∀{vs:List Nat}{k z:Nat},k < vs.length→yQ(vs.set k z)+wd vs k *4294967296 ^ k=valL vs+z *4294967296 ^ k
 | [],k,z,h=>absurd h(by simp)
 |d :: ds,0,z,_=>by simp [yQ,wd,List.getD];omega
 |d :: ds,k+1,z,h=>by
  have ih:=ja3(vs:=ds)(k:=k)(z:=z)(by simpa using h)
  rw [show wd(d :: ds)(k+1)=wd ds k by simp [wd,List.getD],List.set_cons_succ,yQ,yQ,Nat.pow_succ]
  have e1:wd ds k *(4294967296 ^ k *4294967296)=4294967296 *(wd ds k *4294967296 ^ k):=by rw [← Nat.mul_assoc,Nat.mul_comm]
  have e2:z *(4294967296 ^ k *4294967296)=4294967296 *(z *4294967296 ^ k):=by rw [← Nat.mul_assoc,Nat.mul_comm]
  rw [e1,e2]
  generalize wd ds k *4294967296 ^ k=a at *
  generalize z *4294967296 ^ k=b at *
  omega
theorem jap(x i:Nat):x % 4294967296 ^(i+1)=x % 4294967296 ^ i+lb x i *4294967296 ^ i:=by
 unfold lb
 rw [Nat.pow_succ,Nat.mod_mul]
 rw [Nat.mul_comm(4294967296 ^ i)]
theorem jbR:∀(vs:List Nat)(z:Nat),yQ(vs ++ [z])=yQ vs+z *4294967296 ^ vs.length
 | [],z=>by simp [yQ]
 |d :: ds,z=>by
  rw [List.cons_append,yQ,jbR ds z,yQ,List.length_cons,Nat.pow_succ]
  have e2:z *(4294967296 ^ ds.length *4294967296)=4294967296 *(z *4294967296 ^ ds.length):=by rw [← Nat.mul_assoc,Nat.mul_comm]
  rw [e2,Nat.mul_add,Nat.add_assoc]
theorem jhL(n x:Nat):lbs(n+1)x=lbs n x ++ [lb x n]:=by simp [lbs,List.range_succ]
theorem JE(x:Nat):∀n,yQ(lbs n x)=x % 4294967296 ^ n
 |0=>by rw [Nat.pow_zero,Nat.mod_one];rfl
 |n+1=>by rw [jhL,jbR,JE x n,jq,jap]
theorem ZC(n x:Nat):lbs n(x+4294967296 ^ n)=lbs n x:=by
 have h:=Ju(vs:=lbs n(x+4294967296 ^ n))(jq _ _)(fun i hi=>by rw [yh hi];exact yJ _ _)
 have h':=Ju(vs:=lbs n x)(jq _ _)(fun i hi=>by rw [yh hi];exact yJ _ _)
 rw [h,h',JE,JE,Nat.add_mod_right]
theorem jfK(n x:Nat):lbs n(x % 4294967296 ^ n)=lbs n x:=by
 have h:=Ju(vs:=lbs n(x % 4294967296 ^ n))(jq _ _)(fun i hi=>by rw [yh hi];exact lb_lt _ _)
 have h':=Ju(vs:=lbs n x)(jq _ _)(fun i hi=>by rw [yh hi];exact yJ _ _)
 rw [h,h',JE,JE,Nat.mod_mod]
end
section
open Go.ChangeShapes Go.WideShapes Go.ChangeAt Go.RowKit Go.Deep
set_option maxRecDepth 100000
def zw8:List Nat:=List.replicate 8 0
theorem yx(w:World):(zeroValue 218).run Tryz.prog w= .ok(.agg(jb zw8).toArray)w:=by kernel_rfl
theorem Wr.new(w:World)(t:TypeId)(vs:List Nat):Wr(w.alloc(.cells(jb vs).toArray t))w.heap.size t vs:=heap_alloc_new _ _
theorem Ye{vs:List Nat}{n x:Nat}(hl:vs.length=n)(h:∀j,j < n→wd vs j=lb x j):vs=lbs n x:=by
 refine List.ext_getElem(by rw [hl,jq])fun i h1 h2=> ?_
 have:=h i(by omega)
 simp [wd,List.getD,h1] at this
 simp [lbs,this]
theorem Yy{vs:List Nat}{j k z:Nat}(hk:k < vs.length):wd(vs.set k z)j=if j=k then z else wd vs j:=by
 unfold wd
 by_cases h:j=k
 ·subst h
  simp [List.getD,hk]
 ·simp [List.getD,h,List.getElem?_set_ne(Ne.symm h)]
set_option maxHeartbeats 1000000 in
theorem Zu{x y:Nat}{w:World}:
  Calls Tryz.prog 177 #[.agg(jb(lbs 8 x)).toArray, .agg(jb(lbs 8 y)).toArray] w fun e w'=>e= .returned(.agg(jb(lbs 8(x+y))).toArray)∧Ext w w':=by
 have hal:=yx
 have ZL:zw8.length=8:=rfl
 generalize zw8=zs at *
 have XA:Hid(∀(o1 o2 o3 o4:Obj),((((w.alloc o1).alloc o2).alloc o3).alloc o4).heap[w.heap.size]? =some o1∧((((w.alloc o1).alloc o2).alloc o3).alloc o4).heap[w.heap.size+1]? =some o2∧((((w.alloc o1).alloc o2).alloc o3).alloc o4).heap[w.heap.size+1+1]? =some o3∧((((w.alloc o1).alloc o2).alloc o3).alloc o4).heap[w.heap.size+1+1+1]? =some o4):=fun o1 o2 o3 o4=>by
  have e:Ext(((w.alloc o1).alloc o2).alloc o3)((((w.alloc o1).alloc o2).alloc o3).alloc o4):=(Ext.refl _).alloc _
  refine⟨(e.block _ ?_).trans(jF _ _ _ _),(e.block _ ?_).trans(jH _ _ _ _),(e.block _ ?_).trans(jB _ _ _ _),?_⟩
  ·rw [je,je,je];omega
  ·rw [je,je,je];omega
  ·rw [je,je,je];omega
  ·have:=heap_alloc_new(((w.alloc o1).alloc o2).alloc o3)o4
   rwa [je,je,je] at this
 have B0:Hid(∀o1 o2 o3 o4,Ext w((((w.alloc o1).alloc o2).alloc o3).alloc o4)):=fun o1 o2 o3 o4=>((((Ext.refl w).alloc _).alloc _).alloc _).alloc _
 have XL:=jq 8 x
 have YL:=jq 8 y
 have WX:Hid(∀j,j < 8→wd(lbs 8 x)j=lb x j):=fun j hj=>yh hj
 have WY:Hid(∀j,j < 8→wd(lbs 8 y)j=lb y j):=fun j hj=>yh hj
 have RQ:Hid(∀vs:List Nat,vs.length=8→(∀j,j < 8→wd vs j=lb(x+y)j)→vs=lbs 8(x+y)):=fun vs h1 h2=>Ye h1 h2
 generalize lbs 8(x+y)=rs at *
 generalize lbs 8 x=xs at *
 generalize lbs 8 y=ys at *
 go_enter Tryz.func177,Tryz.ntmps177
 go_upto_region 2 with fail
 refine jg(fun W=>Wr W w.heap.size 218 xs∧Wr W(w.heap.size+1)218 ys∧Wr W(w.heap.size+1+1)218 zs∧Wr W(w.heap.size+1+1+1)218 zs∧Ext w W)⟨(XA.out _ _ _ _).1,(XA.out _ _ _ _).2.1,(XA.out _ _ _ _).2.2.1,(XA.out _ _ _ _).2.2.2,B0.out _ _ _ _⟩?_
 clear XA B0
 rintro W0⟨wa,wb,wc4,wc5,e0⟩
 replace wa:=hd wa
 replace wb:=hd wb
 replace wc4:=hd wc4
 replace wc5:=hd wc5
 replace e0:=hd e0
 go_wp2_with fail
 go_loopw [6,9](fun cv iv wr=>∃(k:Nat)(vs:List Nat),k≤8∧iv= .int .i64(k:Int)∧cv= .int .u64(cA x y k:Int)∧vs.length=8∧(∀j,j < k→wd vs j=lb(x+y)j)∧Below(w.heap.size+1+1+1)W0 wr∧Wr wr(w.heap.size+1+1+1)218 vs)(fun _ iv _=>8 - (intOf iv).toNat)
 case atStart=>exact⟨0,zs,Nat.zero_le _,rfl,rfl,ZL,fun j hj=>absurd hj(by omega),Below.refl _ _,wc5.out⟩
 case round =>
  obtain⟨k,vs,hk,rfl,rfl,vl,hv,hB,hw⟩ :=hrel
  clear wc5
  by_cases hlt:k < 8
  ·have ka:=hd(wa.out.kept hB(by omega))
   have kb:=hd(wb.out.kept hB(by omega))
   have ca:Hid(∀s,Ext wr s→s.cell?⟨w.heap.size,k,none⟩=some(.int .u32(lb x k:Int))∧s.cell?⟨w.heap.size+1,k,none⟩=some(.int .u32(lb y k:Int))):=fun s e=>by
    have h1:=(ka.out.kept e ka.out.lt).cell(i:=k)(by rw [XL];exact hlt)
    have h2:=(kb.out.kept e kb.out.lt).cell(i:=k)(by rw [YL];exact hlt)
    rw [WX.out k hlt] at h1
    rw [WY.out k hlt] at h2
    exact And.intro h1 h2
   have h1:=yJ x k
   have h2:=yJ y k
   have h3:=jjV x y k
   have hz:Hid(lb(x+y)k=(lb x k+lb y k+cA x y k)% 4294967296):=jko x y k
   have hc:Hid(cA x y(k+1)=(lb x k+lb y k+cA x y k) / 4294967296):=rfl
   generalize lb x k=a at *
   generalize lb y k=b at *
   generalize cA x y k=c at *
   obtain⟨s,hs⟩:∃s,s=a+b:=⟨_,rfl⟩
   obtain⟨T,hT⟩:∃T,T=a+b+c:=⟨_,rfl⟩
   obtain⟨z,hzz⟩:∃z,z=T % 4294967296:=⟨_,rfl⟩
   obtain⟨d,hd⟩:∃d,d=T / 4294967296:=⟨_,rfl⟩
   rw [← hT,← hzz] at hz
   rw [← hT,← hd] at hc
   have f1:IntKind.u64.wrap(a:Int)=(a:Int):=by rw [IntKind.wrap_u64];omega
   have f2:IntKind.u64.wrap(b:Int)=(b:Int):=by rw [IntKind.wrap_u64];omega
   have f3:(a:Int)+(b:Int)=(s:Int):=by omega
   have f3w:IntKind.u64.wrap(s:Int)=(s:Int):=by rw [IntKind.wrap_u64];omega
   have f4:(s:Int)+(c:Int)=(T:Int):=by omega
   have f4w:IntKind.u64.wrap(T:Int)=(T:Int):=by rw [IntKind.wrap_u64];omega
   have f5:IntKind.u32.wrap(T:Int)=(z:Int):=by rw [IntKind.wrap_u32];omega
   have f5m:(T:Int)% 4294967296=(z:Int):=by omega
   have f6:(T:Int) / 4294967296=(d:Int):=by omega
   have f6':(T:Int) / 2 ^ 32=(d:Int):=f6
   have Tlt:T < 18446744073709551616:=by omega
   have q1:Op.shift .shr .u64(T:Int) .u64 32=pure(.int .u64(d:Int)):=by
    have:=shift_shr .u64 .u64(T:Int)32(by omega)(by decide)
    rw [this]
    congr 2
   have ik:(k:Int) < 8:=by omega
   have ik0:(0:Int)≤(k:Int):=by omega
   have cv:=hw.cell(i:=k)(by omega)
   have fv:=hw.frozen k
   replace hs:=hd hs
   replace hT:=hd hT
   replace hzz:=hd hzz
   replace hd:=hd hd
   replace hv:=hd hv
   replace hB:=hd hB
   replace hw:=hd hw
   clear h1 h2 h3
   go_wp2_with fail
   refine qgE [0,1,2,3,4,5,6,7,8,9,10,11] [] ?_
   repeat((first |refine qR _(fun w' e=>ca.out w'((Ext.refl _).drew.trans e))?_ |refine qS ?_);go_frame)
   refine jp ?_
   have hw2:=hd(hw.out.kept(Ext.refl wr).drew hw.out.lt)
   have hB2:Hid(Below(w.heap.size+1+1+1)W0 wr.drew):=Below.trans hB.out((Ext.refl wr).drew.mono(Nat.le_of_lt hw.out.lt))
   have cv2:=hw2.out.cell(i:=k)(by omega)
   have fv2:=hw2.out.frozen k
   clear cv fv hw hB ca ka kb
   generalize wr.drew=w2 at *
   go_wp2_with fail
   refine⟨⟨k+1,vs.set k z,by omega,by go_num,by rw [hc.out],by rw [List.length_set];exact vl,fun j hj=> ?_,Below.setCell hB2.out(Nat.le_refl _)_,hw2.out.set⟩,by simp [intOf];omega⟩
   rw [Yy(by omega)]
   by_cases e:j=k
   ·rw [if_pos e,e];exact hz.out.symm
   ·rw [if_neg e];exact hv.out j(by omega)
  ·obtain rfl:k=8:=by omega
   have he:=RQ.out vs vl hv
   subst he
   have RS:=jf vl
   have R1:=jo vs
   have r4:=hd(wc4.out.kept hB(by omega))
   have ZS:=jf ZL
   have EE:Hid(Ext w wr):=Below.trans e0.out(hB.mono(by omega))
   replace hw:=hd hw
   clear hv hB wc4 e0 wa wb
   go_wp2_with(first
    |(refine wpList_load_row rfl 218 _ rfl(w.heap.size+1+1+1)rfl 218(jb vs).toArray(0,0)_ hw.out rfl rfl(by rw [RS];rfl)?_;go_frame)
    |(refine wpList_store_row rfl 218 _ _ rfl(w.heap.size+1+1)(jb vs).toArray rfl rfl 218 _ r4.out(by rw [RS];rfl)(by rw [RS,ZS])R1 ?_;go_frame))
   (try simp only [Exit.inBlock,Exit.then])
   refine bodyPost_ret(results_cell_row rfl _ _(w.heap.size+1+1)218(jb vs).toArray(0,0)_ rfl(setRow_heap _ _ _ _ _ _ r4.out)rfl rfl(by rw [RS];rfl))rfl ?_
   exact⟨rfl,below_setRow EE.out(by omega)_⟩
def jbW(x y:Nat)(w:World)(e:Ending)(w':World):Prop:=e= .returned(.tuple #[.agg(jb(lbs 8(x+4294967296 ^ 8 - y))).toArray, .int .u64(bS x y 8:Int)])∧Ext w w'
set_option maxHeartbeats 1000000 in
theorem YJ{x y:Nat}{w:World}(hy:y < 4294967296 ^ 8):
  Calls Tryz.prog 176 #[.agg(jb(lbs 8 x)).toArray, .agg(jb(lbs 8 y)).toArray] w(jbW x y w):=by
 have hal:=yx
 have ZL:zw8.length=8:=rfl
 generalize zw8=zs at *
 have XA:Hid(∀(o1 o2 o3:Obj),(((w.alloc o1).alloc o2).alloc o3).heap[w.heap.size]? =some o1∧(((w.alloc o1).alloc o2).alloc o3).heap[w.heap.size+1]? =some o2∧(((w.alloc o1).alloc o2).alloc o3).heap[w.heap.size+1+1]? =some o3):=fun o1 o2 o3=>⟨jF _ _ _ _,jH _ _ _ _,jB _ _ _ _⟩
 have B0:Hid(∀o1 o2 o3,Ext w(((w.alloc o1).alloc o2).alloc o3)):=fun o1 o2 o3=>(((Ext.refl w).alloc _).alloc _).alloc _
 have XL:=jq 8 x
 have YL:=jq 8 y
 have WX:Hid(∀j,j < 8→wd(lbs 8 x)j=lb x j):=fun j hj=>yh hj
 have WY:Hid(∀j,j < 8→wd(lbs 8 y)j=lb y j):=fun j hj=>yh hj
 obtain⟨m,hm⟩:∃m,m=x+4294967296 ^ 8 - y:=⟨_,rfl⟩
 have LS:Hid(∀i,i < 8→lb m i=(lb x i+4294967296 - lb y i - bS x y i)% 4294967296):=fun i hi=>by rw [hm];exact jkr hy hi
 unfold jbW
 rw [← hm]
 clear hm hy
 have RQ:Hid(∀vs:List Nat,vs.length=8→(∀j,j < 8→wd vs j=lb m j)→vs=lbs 8 m):=fun vs h1 h2=>Ye h1 h2
 generalize lbs 8 m=rs at *
 generalize lbs 8 x=xs at *
 generalize lbs 8 y=ys at *
 have BN:Hid(∀i,bS x y(i+1)=if lb x i < lb y i+bS x y i then 1 else 0):=fun i=>rfl
 have BLE:Hid(∀i,bS x y i≤1):=jcY x y
 obtain⟨b8,hb8⟩:∃b8,b8=bS x y 8:=⟨_,rfl⟩
 rw [← hb8]
 replace hb8:=hd hb8
 go_enter Tryz.func176,Tryz.ntmps176
 go_upto_region 1 with fail
 refine jg(fun W=>Wr W w.heap.size 218 xs∧Wr W(w.heap.size+1)218 ys∧Wr W(w.heap.size+1+1)218 zs∧Ext w W)⟨(XA.out _ _ _).1,(XA.out _ _ _).2.1,(XA.out _ _ _).2.2,B0.out _ _ _⟩?_
 clear XA B0
 rintro W0⟨wa,wb,wc4,e0⟩
 replace wa:=hd wa
 replace wb:=hd wb
 replace wc4:=hd wc4
 replace e0:=hd e0
 go_wp2_with fail
 go_loopw [5,8](fun cv iv wr=>∃(k:Nat)(vs:List Nat),k≤8∧iv= .int .i64(k:Int)∧cv= .int .u64(bS x y k:Int)∧vs.length=8∧(∀j,j < k→wd vs j=lb m j)∧Below(w.heap.size+1+1)W0 wr∧Wr wr(w.heap.size+1+1)218 vs)(fun _ iv _=>8 - (intOf iv).toNat)
 case atStart=>exact⟨0,zs,Nat.zero_le _,rfl,rfl,ZL,fun j hj=>absurd hj(by omega),Below.refl _ _,wc4.out⟩
 case round =>
  obtain⟨k,vs,hk,rfl,rfl,vl,hv,hB,hw⟩ :=hrel
  clear wc4
  by_cases hlt:k < 8
  ·have ka:=hd(wa.out.kept hB(by omega))
   have kb:=hd(wb.out.kept hB(by omega))
   have ca:Hid(∀s,Ext wr s→s.cell?⟨w.heap.size,k,none⟩=some(.int .u32(lb x k:Int))∧s.cell?⟨w.heap.size+1,k,none⟩=some(.int .u32(lb y k:Int))):=fun s e=>by
    have h1:=(ka.out.kept e ka.out.lt).cell(i:=k)(by rw [XL];exact hlt)
    have h2:=(kb.out.kept e kb.out.lt).cell(i:=k)(by rw [YL];exact hlt)
    rw [WX.out k hlt] at h1
    rw [WY.out k hlt] at h2
    exact And.intro h1 h2
   have h1:=yJ x k
   have h2:=yJ y k
   have h3:=BLE.out k
   have hz:=hd(LS.out k hlt)
   have hc:=hd(BN.out k)
   generalize lb x k=a at *
   generalize lb y k=b at *
   generalize bS x y k=c at *
   obtain⟨s,hs⟩:∃s,s=(if a < b then a+18446744073709551616 - b else a - b):=⟨_,rfl⟩
   obtain⟨T,hT⟩:∃T,T=(if a < b+c then a+18446744073709551616 - b - c else a - b - c):=⟨_,rfl⟩
   obtain⟨z,hzz⟩:∃z,z=T % 4294967296:=⟨_,rfl⟩
   obtain⟨d,hd⟩:∃d,d=(if a < b+c then 1 else 0):=⟨_,rfl⟩
   have hz':Hid(lb m k=z):=by
    unfold Hid
    rw [hz.out,hzz,hT]
    split <;> omega
   rw [← hd] at hc
   have f1:IntKind.u64.wrap(a:Int)=(a:Int):=by rw [IntKind.wrap_u64];omega
   have f2:IntKind.u64.wrap(b:Int)=(b:Int):=by rw [IntKind.wrap_u64];omega
   have f3:IntKind.u64.wrap((a:Int) - (b:Int))=(s:Int):=by rw [IntKind.wrap_u64,hs];split <;> omega
   have f4:IntKind.u64.wrap((s:Int) - (c:Int))=(T:Int):=by rw [IntKind.wrap_u64,hs,hT];split <;> split <;> omega
   have f3m:((a:Int) - (b:Int))% 18446744073709551616=(s:Int):=by rw [hs];split <;> omega
   have f4m:((s:Int) - (c:Int))% 18446744073709551616=(T:Int):=by rw [hs,hT];split <;> split <;> omega
   have f5:IntKind.u32.wrap(T:Int)=(z:Int):=by rw [IntKind.wrap_u32];omega
   have f5m:(T:Int)% 4294967296=(z:Int):=by omega
   have Tlt:T < 18446744073709551616:=by rw [hT];split <;> omega
   have f6:(T:Int) / 9223372036854775808=(d:Int):=by rw [hT,hd];split <;> omega
   have f6':(T:Int) / 2 ^ 63=(d:Int):=f6
   have q1:Op.shift .shr .u64(T:Int) .u64 63=pure(.int .u64(d:Int)):=by
    have:=shift_shr .u64 .u64(T:Int)63(by omega)(by decide)
    rw [this]
    congr 2
   have ik:(k:Int) < 8:=by omega
   have ik0:(0:Int)≤(k:Int):=by omega
   have cv:=hw.cell(i:=k)(by omega)
   have fv:=hw.frozen k
   replace hs:=hd hs
   replace hT:=hd hT
   replace hzz:=hd hzz
   replace hd:=hd hd
   replace hv:=hd hv
   replace hB:=hd hB
   replace hw:=hd hw
   clear h1 h2 h3
   go_wp2_with fail
   refine qgE [0,1,2,3,4,5,6,7,8,9,10,11] [] ?_
   repeat((first |refine qR _(fun w' e=>ca.out w'((Ext.refl _).drew.trans e))?_ |refine qS ?_);go_frame)
   refine jp ?_
   have hw2:=hd(hw.out.kept(Ext.refl wr).drew hw.out.lt)
   have hB2:Hid(Below(w.heap.size+1+1)W0 wr.drew):=Below.trans hB.out((Ext.refl wr).drew.mono(Nat.le_of_lt hw.out.lt))
   have cv2:=hw2.out.cell(i:=k)(by omega)
   have fv2:=hw2.out.frozen k
   clear cv fv hw hB ca ka kb
   generalize wr.drew=w2 at *
   go_wp2_with fail
   refine⟨⟨k+1,vs.set k z,by omega,by go_num,by rw [hc.out],by rw [List.length_set];exact vl,fun j hj=> ?_,Below.setCell hB2.out(Nat.le_refl _)_,hw2.out.set⟩,by simp [intOf];omega⟩
   rw [Yy(by omega)]
   by_cases e:j=k
   ·rw [if_pos e,e];exact hz'.out.symm
   ·rw [if_neg e];exact hv.out j(by omega)
  ·obtain rfl:k=8:=by omega
   have he:=RQ.out vs vl hv
   subst he
   rw [← hb8.out]
   have RS:=jf vl
   have R1:=jo vs
   have EE:Hid(Ext w wr):=Below.trans e0.out(hB.mono(by omega))
   replace hw:=hd hw
   clear hv hB e0 wa wb
   go_wp2_with(first
    |(refine wpList_load_row rfl 218 _ rfl(w.heap.size+1+1)rfl 218(jb vs).toArray(0,0)_ hw.out rfl rfl(by rw [RS];rfl)?_;go_frame)
    |(refine wpList_store_row rfl 218 _ _ rfl(w.heap.size+1+1)(jb vs).toArray rfl rfl 218 _ hw.out(by rw [RS];rfl)(by rw [RS])R1 ?_;go_frame))
   (try simp only [Exit.inBlock,Exit.then])
   refine bodyPost_ret(v:= .tuple #[.agg(jb vs).toArray, .int .u64(b8:Int)])?_ rfl ?_
   ·exact qj rfl _ _(w.heap.size+1+1)218(jb vs).toArray(0,0)_ _ rfl rfl(setRow_heap _ _ _ _ _ _ hw.out)rfl rfl(by rw [RS];rfl)
   ·exact⟨rfl,below_setRow EE.out(by omega)_⟩
def P25:Nat:=57896044618658097711785492504343953926634992332820282019728792003956564819949
def jky:List Nat:= [4294967277,4294967295,4294967295,4294967295,4294967295,4294967295,4294967295,2147483647]
theorem jgz:jky=lbs 8 P25:=by decide +kernel
theorem jeb:P25 < 4294967296 ^ 8:=by decide +kernel
def Gp(w:World)(tg:TypeId×Nat×Nat):Prop:=w.heap[1]? =some(.cells(jb(lbs 8 P25)).toArray tg.1 tg.2)
theorem Gp.lt{w:World}{tg:TypeId×Nat×Nat}(h:Gp w tg):1 < w.heap.size:=jh h
theorem Gp.ext{w w':World}{tg:TypeId×Nat×Nat}(h:Gp w tg)(e:Ext w w'):Gp w' tg:=(e.block _ h.lt).trans h
theorem jgf{n:Nat}{K Z:Array Value}(hn:0 < n)(pl:Nat→Option(Nat×Nat))(hp:pl 0=some(0,n))(hK:K.size=n)(hZ:Z.size=n):Instr.fill pl Z [(0, .agg K)]=some K:=by
 have hc:(Value.agg K).cells=K:=rfl
 simp only [Instr.fill,hp,hc,hK,hZ]
 simp only [ne_eq,not_true_eq_false,decide_false,Bool.false_or,Nat.zero_add,Nat.lt_irrefl,decide_false,Bool.false_eq_true,if_false]
 have:=Great.fill_whole(s:=n)hn [Value.agg K] Z(fun v hv=>by
  simp only [List.mem_singleton] at hv
  subst hv
  exact hK)(by simp [hZ])
 simp only [List.zipIdx_cons,List.zipIdx_nil,List.map_cons,List.map_nil,List.flatMap_cons,List.flatMap_nil,List.append_nil,Instr.fill,hc,hK,hZ,Nat.zero_mul] at this
 simpa using this
theorem vp(w:World):(zeroValue 233).run Tryz.prog w= .ok(.agg(jb zw8).toArray)w:=by kernel_rfl
theorem jiP:(jb zw8).toArray.size=8:=rfl
theorem Qq{K:Array Value}(hK:K.size=8):Tryz.prog.built 233 [(0, .agg K)]=some K:=by
 have h:∃pl:Nat→Option(Nat×Nat),pl 0=some(0,8)∧∀ps,Tryz.prog.built 233 ps=Instr.fill pl(jb zw8).toArray ps:=⟨(#[(0,8)][·]?),rfl,fun ps=>by kernel_rfl⟩
 obtain⟨pl,h0,h1⟩ :=h
 rw [h1,jgf(by omega)pl h0 hK jiP]
theorem jkC{x:Nat}(hx:x < 2 *P25):lbs 8(x % P25)=if bS x P25 8=0 then lbs 8(x+4294967296 ^ 8 - P25)else lbs 8 x:=by
 have h1:x < 4294967296 ^ 8:=Nat.lt_trans hx(by decide +kernel)
 rw [jg8 h1 jeb]
 by_cases q:x < P25
 ·rw [if_pos q,if_neg(by omega),Nat.mod_eq_of_lt q]
 ·rw [if_neg q,if_pos rfl]
  have h2:x % P25=x - P25:=by
   rw [Nat.mod_eq_sub_mod(by omega),Nat.mod_eq_of_lt(by omega)]
  have e:x - P25+4294967296 ^ 8=x+4294967296 ^ 8 - P25:=by
   generalize P25=p at *
   generalize 4294967296 ^ 8=M at *
   omega
  rw [h2,← ZC 8(x - P25),e]
set_option maxHeartbeats 1000000 in
theorem zF{x:Nat}{w:World}(hx:x < 2 *P25){tg:TypeId×Nat×Nat}(hG:Gp w tg):
  Calls Tryz.prog 160 #[.agg(jb(lbs 8 x)).toArray] w fun e w'=>e= .returned(.agg(jb(lbs 8(x % P25))).toArray)∧Ext w w':=by
 have SUB:Hid(∀W,Calls Tryz.prog 176 #[.agg(jb(lbs 8 x)).toArray, .agg(jb(lbs 8 P25)).toArray] W(jbW x P25 W)):=fun W=>YJ P25_lt
 have HR:=hd(jkC hx)
 unfold jbW at SUB
 obtain⟨r,hr⟩:∃r,r=lbs 8(x % P25):=⟨_,rfl⟩
 rw [← hr] at HR ⊢
 have RL:r.length=8:=by rw [hr];exact jq _ _
 clear hr
 have XL:=jq 8 x
 have PL:=jq 8 P25
 have DL:=jq 8(x+4294967296 ^ 8 - P25)
 have BB:Hid(bS x P25 8≤1):=jcY _ _ 8
 have GP:Hid(∀W,Ext w W→W.heap[1]? =some(.cells(jb(lbs 8 P25)).toArray tg.1 tg.2)):=fun W e=>hG.ext e
 clear hG hx
 generalize lbs 8(x+4294967296 ^ 8 - P25)=ds at *
 generalize bS x P25 8=b at *
 generalize lbs 8 P25=ps at *
 generalize lbs 8 x=xs at *
 have XS:=jf XL
 have PS:=jf PL
 have DS:=jf DL
 have D1:=jo ds
 have X1:=jo xs
 have hal:=yx
 have hal2:=vp
 have bD:Hid(Tryz.prog.built 233 [(0, .agg(jb ds).toArray)]=some(jb ds).toArray):=Qq DS
 have bX:Hid(Tryz.prog.built 233 [(0, .agg(jb xs).toArray)]=some(jb xs).toArray):=Qq XS
 have ZL:zw8.length=8:=rfl
 generalize zw8=zs at *
 have ZS:=jf ZL
 have B0:Hid(∀s,Ext((w.alloc(Obj.cells(jb xs).toArray 218)).alloc(Obj.cells(jb zs).toArray 233))s→s.heap[w.heap.size]? =some(.cells(wcells xs).toArray 218(0,0))∧s.heap[w.heap.size+1]? =some(.cells(jb zs).toArray 233(0,0))∧Ext w s):=fun s e=>⟨(e.block _(by rw [je,je];omega)).trans(jQ _ _ _),(e.block _(by rw [je,je];omega)).trans(jK _ _ _),(((Ext.refl w).alloc _).alloc _).trans e⟩
 go_enter Tryz.func160,Tryz.ntmps160
 go_upto_region 1 with fail
 have k0:=hd(B0.out _(Ext.refl _)).1
 have kp:=hd(GP.out _(B0.out _(Ext.refl _)).2.2)
 go_wp2_with(first
  |(refine wpList_load_row rfl 218 _ rfl w.heap.size rfl 218(jb xs).toArray(0,0)_ k0.out rfl rfl(by rw [XS];rfl)?_;go_frame)
  |(refine wpList_load_row rfl 218 _ rfl 1 rfl tg.1(jb ps).toArray tg.2 _ kp.out rfl rfl(by rw [PS];rfl)?_;go_frame))
 refine(SUB.out _).mono ?_
 rintro e v⟨rfl,e1⟩
 have B1:Hid(∀s,Ext v s→s.heap[w.heap.size]? =some(.cells(jb xs).toArray 218(0,0))∧s.heap[w.heap.size+1]? =some(.cells(jb zs).toArray 233(0,0))∧Ext w s):=fun s e=>B0.out s(e1.trans e)
 clear B0 k0 kp GP SUB e1
 have a1:Hid((v.alloc(Obj.cells(jb zs).toArray 218)).heap[v.heap.size]? =some(.cells(jb zs).toArray 218(0,0))):=heap_alloc_new _ _
 have e5:Ext v((v.alloc(Obj.cells(jb zs).toArray 218)).setRow v.heap.size(jb ds).toArray):=below_setRow((Ext.refl v).alloc _)(Nat.le_refl _)_
 go_upto_region 2 with(refine wpList_store_row rfl 218 _ _ rfl v.heap.size(jb ds).toArray rfl rfl 218 _ a1.out(by rw [DS];rfl)(by rw [DS,ZS])D1 ?_;go_frame)
 obtain⟨f,hf⟩:∃f,f=v.heap.size:=⟨_,rfl⟩
 refine jg(fun W=>W.heap[w.heap.size]? =some(.cells(jb xs).toArray 218(0,0))∧W.heap[w.heap.size+1]? =some(.cells(jb zs).toArray 233(0,0))∧Ext w W∧W.heap[f]? =some(.cells(jb ds).toArray 218(0,0)))(by
  have p:=B1.out _ e5
  exact⟨p.1,p.2.1,p.2.2,by rw [hf];exact setRow_heap _ _ _ _ _ _ a1.out⟩)?_
 rw [← hf]
 clear hf a1 e5 B1
 rintro w2⟨k0,k1,x2,kd⟩
 replace k0:=hd k0
 replace k1:=hd k1
 replace x2:=hd x2
 replace kd:=hd kd
 have BC:b=0∨b=1:=by have:=BB.out;omega
 rcases BC with rfl |rfl
 ·obtain rfl:r=ds:=by have:=HR.out;rw [if_pos rfl] at this;exact this
  go_wp2_with(first
   |(refine wpList_load_row rfl 218 _ rfl f rfl 218(jb r).toArray(0,0)_ kd.out rfl rfl(by rw [DS];rfl)?_;go_frame)
   |(refine jm rfl _ _ rfl(wcells r).toArray(by simp only [List.map_toArray,List.map_cons,List.map_nil];exact bD.out)?_;go_frame)
   |(refine wpList_store_row rfl 233 _ _ rfl(w.heap.size+1)(jb r).toArray rfl rfl 233 _ k1.out(by rw [DS];rfl)(by rw [DS,ZS])D1 ?_;go_frame))
  (try simp only [Exit.inBlock,Exit.then])
  refine bodyPost_ret(results_cell_row rfl _ _(w.heap.size+1)233(jb r).toArray(0,0)_ rfl(setRow_heap _ _ _ _ _ _ k1.out)rfl rfl(by rw [DS];rfl))rfl ?_
  exact⟨rfl,below_setRow x2.out(by omega)_⟩
 ·obtain rfl:r=xs:=by have:=HR.out;rw [if_neg(by omega)] at this;exact this
  go_wp2_with(first
   |(refine wpList_load_row rfl 218 _ rfl w.heap.size rfl 218(jb r).toArray(0,0)_ k0.out rfl rfl(by rw [XS];rfl)?_;go_frame)
   |(refine jm rfl _ _ rfl(wcells r).toArray(by simp only [List.map_toArray,List.map_cons,List.map_nil];exact bX.out)?_;go_frame)
   |(refine wpList_store_row rfl 233 _ _ rfl(w.heap.size+1)(jb r).toArray rfl rfl 233 _ k1.out(by rw [XS];rfl)(by rw [XS,ZS])X1 ?_;go_frame))
  (try simp only [Exit.inBlock,Exit.then])
  refine bodyPost_ret(results_cell_row rfl _ _(w.heap.size+1)233(jb r).toArray(0,0)_ rfl(setRow_heap _ _ _ _ _ _ k1.out)rfl rfl(by rw [XS];rfl))rfl ?_
  exact⟨rfl,below_setRow x2.out(by omega)_⟩
def cP(x n:Nat):Nat→Nat
 |0=>n
 |i+1=>(lb x i+cP x n i) / 4294967296
theorem jjX{x n:Nat}(hn:n < 4294967296):∀i,cP x n i < 4294967296
 |0=>hn
 |i+1=>by have:=jjX(x:=x)hn i;have h1:=yJ x i;rw [cP];omega
theorem jaC(x n:Nat):∀i,(x+n) / 4294967296 ^ i=x / 4294967296 ^ i+cP x n i
 |0=>by simp [cP]
 |i+1=>by
  rw [ym,jaC x n i,ym x,cP]
  unfold lb
  generalize x / 4294967296 ^ i=X
  generalize cP x n i=c
  omega
theorem jjd(x n i:Nat):lb(x+n)i=(lb x i+cP x n i)% 4294967296:=by
 unfold lb
 rw [jaC]
 generalize x / 4294967296 ^ i=X
 generalize cP x n i=c
 omega
theorem jhf{x n:Nat}(hx:x < 4294967296 ^ 8):cP x n 8=(x+n) / 4294967296 ^ 8:=by
 rw [jaC,Nat.div_eq_of_lt hx,Nat.zero_add]
def jbV(x n:Nat)(w:World)(e:Ending)(w':World):Prop:=e= .returned(.tuple #[.agg(wcells(lbs 8(x+n))).toArray, .int .u64(cP x n 8:Int)])∧Ext w w'
set_option maxHeartbeats 1000000 in
theorem jeR{x n:Nat}{w:World}(hn:n < 4294967296):
  Calls Tryz.prog 178 #[.agg(jb(lbs 8 x)).toArray, .int .u64(n:Int)] w(jbV x n w):=by
 have hal:=yx
 have ZL:zw8.length=8:=rfl
 generalize zw8=zs at *
 have XA:Hid(∀(o1 o2:Obj),((w.alloc o1).alloc o2).heap[w.heap.size]? =some o1∧((w.alloc o1).alloc o2).heap[w.heap.size+1]? =some o2):=fun o1 o2=>⟨jQ _ _ _,jK _ _ _⟩
 have B0:Hid(∀o1 o2,Ext w((w.alloc o1).alloc o2)):=fun o1 o2=>((Ext.refl w).alloc _).alloc _
 have XL:=jq 8 x
 have WX:Hid(∀j,j < 8→wd(lbs 8 x)j=lb x j):=fun j hj=>yh hj
 obtain⟨m,hm⟩:∃m,m=x+n:=⟨_,rfl⟩
 have LS:Hid(∀i,lb m i=(lb x i+cP x n i)% 4294967296):=fun i=>by rw [hm];exact jjd x n i
 unfold jbV
 rw [← hm]
 clear hm
 have RQ:Hid(∀vs:List Nat,vs.length=8→(∀j,j < 8→wd vs j=lb m j)→vs=lbs 8 m):=fun vs h1 h2=>Ye h1 h2
 generalize lbs 8 m=rs at *
 generalize lbs 8 x=xs at *
 have BN:Hid(∀i,cP x n(i+1)=(lb x i+cP x n i) / 4294967296):=fun i=>rfl
 have BLE:Hid(∀i,cP x n i < 4294967296):=jjX hn
 obtain⟨b8,hb8⟩:∃b8,b8=cP x n 8:=⟨_,rfl⟩
 rw [← hb8]
 replace hb8:=hd hb8
 go_enter Tryz.func178,Tryz.ntmps178
 go_upto_region 2 with fail
 refine jg(fun W=>Wr W w.heap.size 218 xs∧Wr W(w.heap.size+1)218 zs∧Ext w W)⟨(XA.out _ _).1,(XA.out _ _).2,B0.out _ _⟩?_
 clear XA B0
 rintro W0⟨wa,wc4,e0⟩
 replace wa:=hd wa
 replace wc4:=hd wc4
 replace e0:=hd e0
 go_wp2_with fail
 go_loopw [5,9](fun cv iv wr=>∃(k:Nat)(vs:List Nat),k≤8∧iv= .int .i64(k:Int)∧cv= .int .u64(cP x n k:Int)∧vs.length=8∧(∀j,j < k→wd vs j=lb m j)∧Below(w.heap.size+1)W0 wr∧Wr wr(w.heap.size+1)218 vs)(fun _ iv _=>8 - (intOf iv).toNat)
 case atStart=>exact⟨0,zs,Nat.zero_le _,rfl,rfl,ZL,fun j hj=>absurd hj(by omega),Below.refl _ _,wc4.out⟩
 case round =>
  obtain⟨k,vs,hk,rfl,rfl,vl,hv,hB,hw⟩ :=hrel
  clear wc4
  by_cases hlt:k < 8
  ·have ka:=wa.out.kept hB(by omega)
   have ca:=ka.cell(i:=k)(by rw [XL];exact hlt)
   rw [WX.out k hlt] at ca
   have h1:=yJ x k
   have h3:=BLE.out k
   have hz:=hd(LS.out k)
   have hc:=hd(BN.out k)
   generalize lb x k=a at *
   generalize cP x n k=c at *
   obtain⟨T,hT⟩:∃T,T=a+c:=⟨_,rfl⟩
   obtain⟨z,hzz⟩:∃z,z=T % 4294967296:=⟨_,rfl⟩
   obtain⟨d,hd⟩:∃d,d=T / 4294967296:=⟨_,rfl⟩
   rw [← hT,← hzz] at hz
   rw [← hT,← hd] at hc
   have f1:IntKind.u64.wrap(a:Int)=(a:Int):=by rw [IntKind.wrap_u64];omega
   have f4:(a:Int)+(c:Int)=(T:Int):=by omega
   have f4w:IntKind.u64.wrap(T:Int)=(T:Int):=by rw [IntKind.wrap_u64];omega
   have f5:IntKind.u32.wrap(T:Int)=(z:Int):=by rw [IntKind.wrap_u32];omega
   have f5m:(T:Int)% 4294967296=(z:Int):=by omega
   have f6:(T:Int) / 4294967296=(d:Int):=by omega
   have f6':(T:Int) / 2 ^ 32=(d:Int):=f6
   have Tlt:T < 18446744073709551616:=by omega
   have q1:Op.shift .shr .u64(T:Int) .u64 32=pure(.int .u64(d:Int)):=by
    have:=shift_shr .u64 .u64(T:Int)32(by omega)(by decide)
    rw [this]
    congr 2
   have ik:(k:Int) < 8:=by omega
   have ik0:(0:Int)≤(k:Int):=by omega
   have cv:=hw.cell(i:=k)(by omega)
   have fv:=hw.frozen k
   replace hT:=hd hT
   replace hzz:=hd hzz
   replace hd:=hd hd
   replace hv:=hd hv
   replace hB:=hd hB
   replace hw:=hd hw
   clear h1 h3 ka
   go_wp2_with fail
   refine⟨⟨k+1,vs.set k z,by omega,by go_num,by rw [hc.out],by rw [List.length_set];exact vl,fun j hj=> ?_,Below.setCell hB.out(Nat.le_refl _)_,hw.out.set⟩,by simp [intOf];omega⟩
   rw [Yy(by omega)]
   by_cases e:j=k
   ·rw [if_pos e,e];exact hz.out.symm
   ·rw [if_neg e];exact hv.out j(by omega)
  ·obtain rfl:k=8:=by omega
   have he:=RQ.out vs vl hv
   subst he
   rw [← hb8.out]
   have RS:=jf vl
   have R1:=jo vs
   have EE:Hid(Ext w wr):=Below.trans e0.out(hB.mono(by omega))
   replace hw:=hd hw
   clear hv hB e0 wa
   go_wp2_with(first
    |(refine wpList_load_row rfl 218 _ rfl(w.heap.size+1)rfl 218(jb vs).toArray(0,0)_ hw.out rfl rfl(by rw [RS];rfl)?_;go_frame)
    |(refine wpList_store_row rfl 218 _ _ rfl(w.heap.size+1)(jb vs).toArray rfl rfl 218 _ hw.out(by rw [RS];rfl)(by rw [RS])R1 ?_;go_frame))
   (try simp only [Exit.inBlock,Exit.then])
   refine bodyPost_ret(v:= .tuple #[.agg(jb vs).toArray, .int .u64(b8:Int)])?_ rfl ?_
   ·exact qj rfl _ _(w.heap.size+1)218(jb vs).toArray(0,0)_ _ rfl rfl(setRow_heap _ _ _ _ _ _ hw.out)rfl rfl(by rw [RS];rfl)
   ·exact⟨rfl,below_setRow EE.out(by omega)_⟩
theorem jgA{us:List Nat}{k l a b c u T R Yl:Nat}(hq:k+l < us.length)(hu:wd us(k+l)=u)(hT:T=a *b+u+c)(h:yQ us+c *4294967296 ^(k+l)=R+a *Yl *4294967296 ^ k):
  yQ(us.set(k+l)(T % 4294967296))+T / 4294967296 *4294967296 ^(k+(l+1))=R+a *(Yl+b *4294967296 ^ l)*4294967296 ^ k:=by
 have h1:=ja3(vs:=us)(k:=k+l)(z:=T % 4294967296)hq
 rw [hu] at h1
 have e1:(4294967296:Nat)^(k+(l+1))=4294967296 ^(k+l)*4294967296:=by rw [← Nat.add_assoc,Nat.pow_succ]
 have e2:a *(Yl+b *4294967296 ^ l)*4294967296 ^ k=a *Yl *4294967296 ^ k+a *b *4294967296 ^(k+l):=by
  rw [Nat.mul_add,Nat.add_mul,Nat.pow_add,Nat.mul_comm(4294967296 ^ k),← Nat.mul_assoc a b,Nat.mul_assoc(a *b)]
 rw [e1,e2]
 generalize(4294967296:Nat)^(k+l)=P at *
 generalize a *Yl *4294967296 ^ k=Q at *
 have e3:T % 4294967296 *P+T / 4294967296 *(P *4294967296)=a *b *P+u *P+c *P:=by
  have:T % 4294967296 *P+T / 4294967296 *(P *4294967296)=T *P:=by
   rw [Nat.mul_comm P,← Nat.mul_assoc,← Nat.add_mul]
   congr 1
   omega
  rw [this,hT,Nat.add_mul,Nat.add_mul]
 generalize T % 4294967296 *P=X2 at *
 generalize T / 4294967296 *(P *4294967296)=X3 at *
 generalize a *b *P=X5 at *
 generalize u *P=X1 at *
 generalize c *P=X4 at *
 omega
theorem jh5{us:List Nat}{k c x y:Nat}(hq:k+8 < us.length)(hu:wd us(k+8)=0)(hy:y < 4294967296 ^ 8)(h:yQ us+c *4294967296 ^(k+8)=x % 4294967296 ^ k *y+lb x k *(y % 4294967296 ^ 8)*4294967296 ^ k):
  yQ(us.set(k+8)c)=x % 4294967296 ^(k+1)*y:=by
 have h1:=ja3(vs:=us)(k:=k+8)(z:=c)hq
 rw [hu,Nat.zero_mul,Nat.add_zero] at h1
 rw [h1,h,Nat.mod_eq_of_lt hy,jap,Nat.add_mul,Nat.mul_assoc,Nat.mul_assoc,Nat.mul_comm y]
theorem jgB{vs:List Nat}{k x y:Nat}(hb:∀i,i < vs.length→wd vs i < 4294967296)(hy:y < 4294967296 ^ 8)(h:yQ vs=x % 4294967296 ^ k *y):wd vs(k+8)=0:=by
 rw [← jcl vs hb,h]
 unfold lb
 have h1:x % 4294967296 ^ k < 4294967296 ^ k:=Nat.mod_lt _(Nat.pow_pos(by decide))
 have h2:x % 4294967296 ^ k *y < 4294967296 ^(k+8):=by
  rw [Nat.pow_add]
  exact Nat.mul_lt_mul'' h1 hy
 rw [Nat.div_eq_of_lt h2]
theorem jbS{vs:List Nat}{k z:Nat}(h:∀i,i < vs.length→wd vs i < 4294967296)(hz:z < 4294967296)(hk:k < vs.length):∀i,i < (vs.set k z).length→wd(vs.set k z)i < 4294967296:=fun i hi=>by
 rw [List.length_set] at hi
 rw [Yy hk]
 split
 ·exact hz
 ·exact h i hi
def jfp:List Nat:=List.replicate 16 0
theorem jfl(w:World):(zeroValue 246).run Tryz.prog w= .ok(.agg(jb jfp).toArray)w:=by kernel_rfl
theorem jjS:∀i,i < jfp.length→wd jfp i < 4294967296:=fun i hi=>by
 have h:∀i,i < 16→wd jfp i < 4294967296:=by decide
 exact h i hi
theorem jiO:valL jfp=0:=by decide
set_option maxHeartbeats 4000000 in
theorem jbk{x y:Nat}{w:World}(hx:x < 4294967296 ^ 8)(hy:y < 4294967296 ^ 8):
  Calls Tryz.prog 165 #[.agg(jb(lbs 8 x)).toArray, .agg(jb(lbs 8 y)).toArray] w fun e w'=>e= .returned(.agg(jb(lbs 16(x *y))).toArray)∧Ext w w':=by
 have hal:=jfl
 have ZL:zw16.length=16:=rfl
 have ZB:=hd jjS
 have ZV:=hd(fun _:Unit=>jiO)
 generalize jfp=zs at *
 have XA:Hid(∀(o1 o2 o3 o4:Obj),((((w.alloc o1).alloc o2).alloc o3).alloc o4).heap[w.heap.size]? =some o1∧((((w.alloc o1).alloc o2).alloc o3).alloc o4).heap[w.heap.size+1]? =some o2∧((((w.alloc o1).alloc o2).alloc o3).alloc o4).heap[w.heap.size+1+1]? =some o3∧((((w.alloc o1).alloc o2).alloc o3).alloc o4).heap[w.heap.size+1+1+1]? =some o4):=fun o1 o2 o3 o4=>by
  have e:Ext(((w.alloc o1).alloc o2).alloc o3)((((w.alloc o1).alloc o2).alloc o3).alloc o4):=(Ext.refl _).alloc _
  refine⟨(e.block _ ?_).trans(jF _ _ _ _),(e.block _ ?_).trans(jH _ _ _ _),(e.block _ ?_).trans(jB _ _ _ _),?_⟩
  ·rw [je,je,je];omega
  ·rw [je,je,je];omega
  ·rw [je,je,je];omega
  ·have:=heap_alloc_new(((w.alloc o1).alloc o2).alloc o3)o4
   rwa [je,je,je] at this
 have B0:Hid(∀o1 o2 o3 o4,Ext w((((w.alloc o1).alloc o2).alloc o3).alloc o4)):=fun o1 o2 o3 o4=>((((Ext.refl w).alloc _).alloc _).alloc _).alloc _
 have XL:=jq 8 x
 have YL:=jq 8 y
 have WX:Hid(∀j,j < 8→wd(lbs 8 x)j=lb x j):=fun j hj=>yh hj
 have WY:Hid(∀j,j < 8→wd(lbs 8 y)j=lb y j):=fun j hj=>yh hj
 have RQ:Hid(∀vs:List Nat,vs.length=16→(∀j,j < vs.length→wd vs j < 4294967296)→yQ vs=x % 4294967296 ^ 8 *y→vs=lbs 16(x *y)):=fun vs h1 h2 h3=>by
  rw [Nat.mod_eq_of_lt hx] at h3
  rw [← h3]
  exact Ju h1(fun i hi=>h2 i(by omega))
 generalize lbs 16(x *y)=rs at *
 generalize lbs 8 x=xs at *
 generalize lbs 8 y=ys at *
 have PE:Hid(∀(us:List Nat)(k c:Nat),k+8 < us.length→wd us(k+8)=0→yQ us+c *4294967296 ^(k+8)=x % 4294967296 ^ k *y+lb x k *(y % 4294967296 ^ 8)*4294967296 ^ k→yQ(us.set(k+8)c)=x % 4294967296 ^(k+1)*y):=fun us k c h1 h2 h3=>jh5 h1 h2 hy h3
 have PZ:Hid(∀(vs:List Nat)(k:Nat),(∀i,i < vs.length→wd vs i < 4294967296)→yQ vs=x % 4294967296 ^ k *y→wd vs(k+8)=0):=fun vs k h1 h2=>jgB h1 hy h2
 have LX:Hid(∀i,lb x i < 4294967296):=yJ x
 have LY:Hid(∀i,lb y i < 4294967296):=yJ y
 clear hx hy
 go_enter Tryz.func165,Tryz.ntmps165
 go_upto_region 2 with fail
 refine jg(fun W=>Wr W w.heap.size 218 xs∧Wr W(w.heap.size+1)218 ys∧Wr W(w.heap.size+1+1)246 zs∧Wr W(w.heap.size+1+1+1)246 zs∧Ext w W)⟨(XA.out _ _ _ _).1,(XA.out _ _ _ _).2.1,(XA.out _ _ _ _).2.2.1,(XA.out _ _ _ _).2.2.2,B0.out _ _ _ _⟩?_
 clear XA B0
 rintro W0⟨wa,wb,wc4,wc5,e0⟩
 replace wa:=hd wa
 replace wb:=hd wb
 replace wc4:=hd wc4
 replace wc5:=hd wc5
 replace e0:=hd e0
 go_wp2_with fail
 go_loopw [10](fun iv wr=>∃(k:Nat)(vs:List Nat),k≤8∧iv= .int .i64(k:Int)∧vs.length=16∧(∀j,j < vs.length→wd vs j < 4294967296)∧yQ vs=x % 4294967296 ^ k *y∧Below(w.heap.size+1+1+1)W0 wr∧Wr wr(w.heap.size+1+1+1)246 vs)(fun iv _=>8 - (intOf iv).toNat)
 case atStart=>exact⟨0,zs,Nat.zero_le _,rfl,ZL,ZB.out,by rw [ZV.out()];simp [Nat.mod_one],Below.refl _ _,wc5.out⟩
 case round =>
  obtain⟨k,vs,hk,rfl,vl,vb,vv,hB,hw⟩ :=hrel
  clear wc5
  by_cases hlt:k < 8
  ·have ik:(k:Int) < 8:=by omega
   have ik0:(0:Int)≤(k:Int):=by omega
   have v0:=hd(PZ.out vs k vb vv)
   replace vv:=hd(fun _:Unit=>vv)
   replace vb:=hd vb
   replace hB:=hd hB
   replace hw:=hd hw
   go_wp2_with fail
   go_loopw [7,13](fun cv jv wr=>∃(l c:Nat)(us:List Nat),l≤8∧jv= .int .i64(l:Int)∧cv= .int .u64(c:Int)∧c < 4294967296∧us.length=16∧(∀j,j < us.length→wd us j < 4294967296)∧yQ us+c *4294967296 ^(k+l)=x % 4294967296 ^ k *y+lb x k *(y % 4294967296 ^ l)*4294967296 ^ k∧wd us(k+8)=0∧Below(w.heap.size+1+1+1)W0 wr∧Wr wr(w.heap.size+1+1+1)246 us)(fun _ jv _=>8 - (intOf jv).toNat)
   case atStart=>exact⟨0,0,vs,Nat.zero_le _,rfl,rfl,by omega,vl,vb.out,by rw [vv.out()];simp [Nat.mod_one],v0.out,hB.out,hw.out⟩
   case round =>
    obtain⟨l,c,us,hl,rfl,rfl,hc,ul,ub,uv,u0,hB2,hw2⟩ :=hrel
    clear vv vb v0 hB hw
    by_cases hlt2:l < 8
    ·have ka:=hd(wa.out.kept hB2(by omega))
     have kb:=hd(wb.out.kept hB2(by omega))
     obtain⟨q,hq⟩:∃q,q=k+l:=⟨_,rfl⟩
     obtain⟨u,hu⟩:∃u,wd us(k+l)=u:=⟨_,rfl⟩
     have u32:u < 4294967296:=by rw [← hu];exact ub _(by omega)
     have ca:Hid(∀s,Ext wr s→s.cell?⟨w.heap.size,k,none⟩=some(.int .u32(lb x k:Int))∧s.cell?⟨w.heap.size+1,l,none⟩=some(.int .u32(lb y l:Int))∧s.cell?⟨w.heap.size+1+1+1,q,none⟩=some(.int .u32(u:Int))):=fun s e=>by
      have h1:=(ka.out.kept e ka.out.lt).cell(i:=k)(by rw [XL];exact hlt)
      have h2:=(kb.out.kept e kb.out.lt).cell(i:=l)(by rw [YL];exact hlt2)
      have h3:=(hw2.kept e hw2.lt).cell(i:=q)(by omega)
      rw [WX.out k hlt] at h1
      rw [WY.out l hlt2] at h2
      rw [hq,hu,← hq] at h3
      exact And.intro h1(And.intro h2 h3)
     have h1:=LX.out k
     have h2:=LY.out l
     obtain⟨T,hT⟩:∃T,T=lb x k *lb y l+u+c:=⟨_,rfl⟩
     have hstep:=hd(fun _:Unit=>jgA(us:=us)(by omega)hu hT uv)
     have hmod:Hid(∀_:Unit,y % 4294967296 ^(l+1)=y % 4294967296 ^ l+lb y l *4294967296 ^ l):=fun _=>jap y l
     have hm1:lb x k *lb y l≤18446744065119617025:=Nat.mul_le_mul(by omega:lb x k≤4294967295)(by omega:lb y l≤4294967295)
     generalize lb x k=a at *
     generalize lb y l=b at *
     obtain⟨m,hm⟩:∃m,m=a *b:=⟨_,rfl⟩
     rw [← hm] at hT hm1
     obtain⟨s,hs⟩:∃s,s=m+u:=⟨_,rfl⟩
     obtain⟨z,hzz⟩:∃z,z=T % 4294967296:=⟨_,rfl⟩
     obtain⟨d,hd⟩:∃d,d=T / 4294967296:=⟨_,rfl⟩
     rw [← hzz,← hd] at hstep
     have f1:IntKind.u64.wrap(a:Int)=(a:Int):=by rw [IntKind.wrap_u64];omega
     have f2:IntKind.u64.wrap(b:Int)=(b:Int):=by rw [IntKind.wrap_u64];omega
     have f2u:IntKind.u64.wrap(u:Int)=(u:Int):=by rw [IntKind.wrap_u64];omega
     have f0:(a:Int)*(b:Int)=(m:Int):=by rw [hm];exact(Int.natCast_mul a b).symm
     have f0w:IntKind.u64.wrap(m:Int)=(m:Int):=by rw [IntKind.wrap_u64];omega
     have f3:(m:Int)+(u:Int)=(s:Int):=by omega
     have f3w:IntKind.u64.wrap(s:Int)=(s:Int):=by rw [IntKind.wrap_u64];omega
     have f4:(s:Int)+(c:Int)=(T:Int):=by omega
     have f4w:IntKind.u64.wrap(T:Int)=(T:Int):=by rw [IntKind.wrap_u64];omega
     have f5:IntKind.u32.wrap(T:Int)=(z:Int):=by rw [IntKind.wrap_u32];omega
     have f5m:(T:Int)% 4294967296=(z:Int):=by omega
     have f6:(T:Int) / 4294967296=(d:Int):=by omega
     have f6':(T:Int) / 2 ^ 32=(d:Int):=f6
     have Tlt:T < 18446744073709551616:=by omega
     have q1:Op.shift .shr .u64(T:Int) .u64 32=pure(.int .u64(d:Int)):=by
      have:=shift_shr .u64 .u64(T:Int)32(by omega)(by decide)
      rw [this]
      congr 2
     have fq:(k:Int)+(l:Int)=(q:Int):=by omega
     have fqw:IntKind.i64.wrap(q:Int)=(q:Int):=IntWalk.i64_in _(by omega)
     have q16:(q:Int) < 16:=by omega
     have q0:(0:Int)≤(q:Int):=by omega
     have il:(l:Int) < 8:=by omega
     have il0:(0:Int)≤(l:Int):=by omega
     have z32:Hid(z < 4294967296):=by unfold Hid;omega
     have d32:d < 4294967296:=by omega
     have ql:Hid(q < us.length):=by unfold Hid;omega
     have cv:=hw2.cell(i:=q)(by omega)
     have fv:=hw2.frozen q
     rw [← hq] at hstep
     replace hq:=hd hq
     replace hu:=hd hu
     replace hT:=hd hT
     replace hm:=hd hm
     replace hs:=hd hs
     replace hzz:=hd hzz
     replace hd:=hd hd
     replace ub:=hd ub
     replace u0:=hd u0
     replace hB2:=hd hB2
     replace hw2:=hd hw2
     clear h1 h2 uv u32 hm1
     go_wp2_with fail
     refine qgE [0,1,2,3,4,5,6,7,8,9,10,11,12,13,14,15,16,17,18] [] ?_
     repeat((first |refine qR _(fun w' e=>ca.out w'((Ext.refl _).drew.trans e))?_ |refine qS ?_);go_frame)
     refine jp ?_
     have hw3:=hd(hw2.out.kept(Ext.refl wr).drew hw2.out.lt)
     have hB3:Hid(Below(w.heap.size+1+1+1)W0 wr.drew):=Below.trans hB2.out((Ext.refl wr).drew.mono(Nat.le_of_lt hw2.out.lt))
     have cv2:=hw3.out.cell(i:=q)ql.out
     have fv2:=hw3.out.frozen q
     clear cv fv hw2 hB2 ca ka kb
     generalize wr.drew=w2 at *
     go_wp2_with fail
     refine⟨⟨l+1,d,us.set q z,by omega,by go_num,rfl,d32,by rw [List.length_set];exact ul,jbS ub.out z32.out ql.out,?_,?_,Below.setCell hB3.out(Nat.le_refl _)_,hw3.out.set⟩,by simp [intOf];omega⟩
     ·rw [hmod.out()];exact hstep.out()
     ·rw [Yy ql.out,if_neg(by have:=hq.out;omega)];exact u0.out
    ·obtain rfl:l=8:=by omega
     obtain⟨r,hr⟩:∃r,r=k+8:=⟨_,rfl⟩
     have hend:=hd(fun _:Unit=>PE.out us k c(by omega)u0 uv)
     rw [← hr] at hend u0
     have fr:(k:Int)+8=(r:Int):=by omega
     have frw:IntKind.i64.wrap(r:Int)=(r:Int):=IntWalk.i64_in _(by omega)
     have r16:(r:Int) < 16:=by omega
     have r0:(0:Int)≤(r:Int):=by omega
     have rl:Hid(r < us.length):=by unfold Hid;omega
     have fc:IntKind.u32.wrap(c:Int)=(c:Int):=by rw [IntKind.wrap_u32];omega
     have fcm:(c:Int)% 4294967296=(c:Int):=by omega
     have cv:=hw2.cell(i:=r)(by omega)
     have fv:=hw2.frozen r
     replace hr:=hd hr
     replace ub:=hd ub
     replace hB2:=hd hB2
     replace hw2:=hd hw2
     have hc':=hd hc
     clear uv u0 hlt2 hl
     go_wp2_with fail
     refine⟨⟨k+1,us.set r c,by omega,by go_num,by rw [List.length_set];exact ul,jbS ub.out hc'.out rl.out,hend.out(),Below.setCell hB2.out(Nat.le_refl _)_,hw2.out.set⟩,by simp [intOf];omega⟩
  ·obtain rfl:k=8:=by omega
   have he:=RQ.out vs vl vb vv
   subst he
   have RS:=jf vl
   have R1:=jo vs
   have r4:=hd(wc4.out.kept hB(by omega))
   have ZS:=jf ZL
   have EE:Hid(Ext w wr):=Below.trans e0.out(hB.mono(by omega))
   replace hw:=hd hw
   clear vb vv hB wc4 e0 wa wb
   go_wp2_with(first
    |(refine wpList_load_row rfl 246 _ rfl(w.heap.size+1+1+1)rfl 246(jb vs).toArray(0,0)_ hw.out rfl rfl(by rw [RS];rfl)?_;go_frame)
    |(refine wpList_store_row rfl 246 _ _ rfl(w.heap.size+1+1)(jb vs).toArray rfl rfl 246 _ r4.out(by rw [RS];rfl)(by rw [RS,ZS])R1 ?_;go_frame))
   (try simp only [Exit.inBlock,Exit.then])
   refine bodyPost_ret(results_cell_row rfl _ _(w.heap.size+1+1)246(jb vs).toArray(0,0)_ rfl(setRow_heap _ _ _ _ _ _ r4.out)rfl rfl(by rw [RS];rfl))rfl ?_
   exact⟨rfl,below_setRow EE.out(by omega)_⟩
def M8:Nat:=4294967296 ^ 8
theorem jkT:M8=38+P25 *2:=by decide +kernel
theorem Z7:0 < M8:=by decide +kernel
theorem jir(n:Nat):(n % M8+38 *(n / M8))% P25=n % P25:=by
 have key:∀q r:Nat,M8 *q+r=(r+38 *q)+P25 *(2 *q):=fun q r=>by
  rw [jkT,Nat.add_mul,Nat.mul_assoc P25 2 q]
  generalize P25 *(2 *q)=s
  omega
 have e:=(Nat.div_add_mod n M8).symm.trans(key _ _)
 have h:=congrArg(fun t=>t % P25)e
 simp only [Nat.add_mul_mod_self_left] at h
 exact h.symm
def H8:Nat:=57896044618658097711785492504343953926634992332820282019728792003956564819968
theorem jkS:H8=19+P25:=by decide +kernel
theorem jk6(n:Nat):(n % H8+19 *(n / H8))% P25=n % P25:=by
 have key:∀q r:Nat,H8 *q+r=(r+19 *q)+P25 *q:=fun q r=>by
  rw [jkS,Nat.add_mul]
  generalize P25 *q=s
  omega
 have e:=(Nat.div_add_mod n H8).symm.trans(key _ _)
 have h:=congrArg(fun t=>t % P25)e
 simp only [Nat.add_mul_mod_self_left] at h
 exact h.symm
def fA(z:Nat):Nat:=z % M8+38 *(z / M8)
def fB(z:Nat):Nat:=z % H8+19 *(z / H8)
theorem jht(z:Nat):fB(fA(fA(fA z)))% P25=z % P25:=by
 unfold fB
 rw [jk6]
 unfold fA
 rw [jir,jir,jir]
theorem jki{z:Nat}(hz:z < M8 *M8):fA z < 39 *M8:=by
 unfold fA
 have h1:=Nat.mod_lt z Z7
 have h2:z / M8 < M8:=Nat.div_lt_of_lt_mul hz
 generalize z / M8=q at *
 generalize z % M8=r at *
 omega
theorem jkj{z:Nat}(hz:z < 39 *M8):fA z < M8+1444+1∧z / M8≤38:=by
 have h2:z / M8≤38:=by
  have:z / M8 < 39:=Nat.div_lt_of_lt_mul(by rw [Nat.mul_comm];exact hz)
  omega
 unfold fA
 have h1:=Nat.mod_lt z Z7
 generalize z / M8=q at *
 generalize z % M8=r at *
 omega
theorem jhr{z:Nat}(hz:z < M8+1445):fA z < M8∧z / M8≤1:=by
 have hM:100000 < M8:=by decide +kernel
 unfold fA
 by_cases q:z < M8
 ·rw [Nat.mod_eq_of_lt q,Nat.div_eq_of_lt q];omega
 ·have e1:z / M8=1:=by
   rw [show z=(z - M8)+M8 by omega,Nat.add_div_right _ Z7,Nat.div_eq_of_lt(by omega)]
  have e2:z % M8=z - M8:=by
   rw [Nat.mod_eq_sub_mod(by omega),Nat.mod_eq_of_lt(by omega)]
  rw [e1,e2];omega
theorem jkY{z:Nat}(hz:z < M8):fB z < 2 *P25:=by
 have hM:M8=2 *H8:=by decide +kernel
 have hP:H8+19 < 2 *P25:=by decide +kernel
 have hH:0 < H8:=by decide +kernel
 unfold fB
 have h1:=Nat.mod_lt z hH
 have h2:z / H8 < 2:=Nat.div_lt_of_lt_mul(by rw [Nat.mul_comm,← hM];exact hz)
 generalize z / H8=q at *
 generalize z % H8=r at *
 omega
def cM(x y:Nat):Nat→Nat
 |0=>0
 |i+1=>(lb x i+38 *lb y i+cM x y i) / 4294967296
theorem jjW(x y:Nat):∀i,cM x y i≤38
 |0=>Nat.zero_le _
 |i+1=>by have:=cM_le x y i;have h1:=yJ x i;have h2:=yJ y i;rw [cM];omega
theorem jcm(x y:Nat):∀i,(x+38 *y) / 4294967296 ^ i=x / 4294967296 ^ i+38 *(y / 4294967296 ^ i)+cM x y i
 |0=>by simp [cM]
 |i+1=>by
  rw [ym,jcm x y i,ym x,div_step y,cM]
  unfold lb
  generalize x / 4294967296 ^ i=X
  generalize y / 4294967296 ^ i=Y
  generalize cM x y i=c
  omega
theorem jkq(x y i:Nat):lb(x+38 *y)i=(lb x i+38 *lb y i+cM x y i)% 4294967296:=by
 unfold lb
 rw [jcm]
 generalize x / 4294967296 ^ i=X
 generalize y / 4294967296 ^ i=Y
 generalize cM x y i=c
 omega
theorem jkp{z i:Nat}(h:i < 8):lb(z % M8)i=lb z i:=by
 have h1:=congrArg(fun l=>wd l i)(jfK 8 z)
 simp only [yh h] at h1
 exact h1
theorem jjc(z i:Nat):lb(z / M8)i=lb z(i+8):=by
 unfold lb M8
 rw [Nat.div_div_eq_div_mul,← Nat.pow_add,Nat.add_comm 8 i]
theorem jhd{z:Nat}(hz:z < M8 *M8):cM(z % M8)(z / M8)8=fA z / M8:=by
 have h:=mul_div(z % M8)(z / M8)8
 have h1:(z % M8) / 4294967296 ^ 8=0:=Nat.div_eq_of_lt(Nat.mod_lt z Z7)
 have h2:(z / M8) / 4294967296 ^ 8=0:=Nat.div_eq_of_lt(Nat.div_lt_of_lt_mul hz)
 rw [h1,h2] at h
 unfold fA M8 at *
 omega
theorem jcN{z:Nat}(hz:z < M8):lb z 7 / 2147483648=z / H8∧(lbs 8 z).set 7(lb z 7 % 2147483648)=lbs 8(z % H8):=by
 have e0:lb z 7=z / 4294967296 ^ 7:=by
  unfold lb
  exact Nat.mod_eq_of_lt(Nat.div_lt_of_lt_mul(by rw [← Nat.pow_succ];exact hz))
 have eH:H8=4294967296 ^ 7 *2147483648:=by decide +kernel
 refine⟨by rw [e0,Nat.div_div_eq_div_mul,← eH],?_⟩
 refine Ye(by rw [List.length_set,jq])fun j hj=> ?_
 rw [Yy(by rw [jq];omega)]
 by_cases q:j=7
 ·rw [if_pos q,q,e0]
  unfold lb
  rw [eH,Nat.mod_mul_right_div_self]
  exact(Nat.mod_eq_of_lt(Nat.lt_trans(Nat.mod_lt _(by decide))(by decide))).symm
 ·rw [if_neg q,yh hj]
  have h6:j+(7 - j)=7:=by omega
  unfold lb
  have e1:H8=4294967296 ^ j *(4294967296 *(4294967296 ^(7 - j - 1)*2147483648)):=by
   rw [eH,← Nat.mul_assoc 4294967296,← Nat.pow_succ',← Nat.mul_assoc,← Nat.pow_add]
   congr 2
   omega
  rw [e1,Nat.mod_mul_right_div_self,Nat.mod_mul_right_mod]
theorem jh3{z n:Nat}{w:World}(hn:n < 4294967296):Calls Tryz.prog 178 #[.agg(jb(lbs 8 z)).toArray, .int .u64(n:Int)] w fun e w'=>e= .returned(.tuple #[.agg(jb(lbs 8(z % M8+n))).toArray, .int .u64((z % M8+n) / M8:Nat)])∧Ext w w':=by
 have:=jeR(x:=z % M8)(n:=n)(w:=w)hn
 unfold jbV at this
 rw [show cP(z % M8)n 8=(z % M8+n) / M8 from jhf(Nat.mod_lt z Z7),show lbs 8(z % M8)=lbs 8 z from jfK 8 z] at this
 exact this
set_option maxHeartbeats 4000000 in
theorem jcd{z:Nat}{w:World}(hz:z < M8 *M8){tg:TypeId×Nat×Nat}(hG:Gp w tg):
  Calls Tryz.prog 164 #[.agg(jb(lbs 16 z)).toArray] w fun e w'=>e= .returned(.agg(wcells(lbs 8(z % P25))).toArray)∧Ext w w':=by
 have hS:=jki hz
 obtain⟨hS1,hh1⟩ :=jkj hS
 obtain⟨hS2,hh2⟩ :=jhr(show fA(fA z) < M8+1445 from hS1)
 have hS3:=jkY hS2
 have htop:=(jcN hS2).1
 have hset:=(jcN hS2).2
 have hq:fA(fA(fA z)) / H8 < 2:=Nat.div_lt_of_lt_mul(by rw [Nat.mul_comm];exact Nat.lt_of_lt_of_eq hS2(by decide +kernel))
 have PL1:Hid(∀(W:World)(n:Nat),n=38 *(fA z / M8)→Calls Tryz.prog 178 #[.agg(jb(lbs 8(fA z))).toArray, .int .u64(n:Int)] W fun e w'=>e= .returned(.tuple #[.agg(jb(lbs 8(fA(fA z)))).toArray, .int .u64(fA(fA z) / M8:Nat)])∧Ext W w'):=fun W n hn=>by
  subst hn
  exact jh3(by omega)
 have PL2:Hid(∀(W:World)(n:Nat),n=38 *(fA(fA z) / M8)→Calls Tryz.prog 178 #[.agg(jb(lbs 8(fA(fA z)))).toArray, .int .u64(n:Int)] W fun e w'=>e= .returned(.tuple #[.agg(jb(lbs 8(fA(fA(fA z))))).toArray, .int .u64(fA(fA(fA z)) / M8:Nat)])∧Ext W w'):=fun W n hn=>by
  subst hn
  exact jh3(by omega)
 have PL3:Hid(∀(W:World)(n:Nat),n=19 *(fA(fA(fA z)) / H8)→Calls Tryz.prog 178 #[.agg(jb(lbs 8(fA(fA(fA z))% H8))).toArray, .int .u64(n:Int)] W fun e w'=>∃c:Nat,e= .returned(.tuple #[.agg(jb(lbs 8(fB(fA(fA(fA z)))))).toArray, .int .u64(c:Int)])∧Ext W w'):=fun W n hn=>by
  subst hn
  refine(plusM(w:=W)(z:=fA(fA(fA z))% H8)(n:=19 *(fA(fA(fA z)) / H8))(by omega)).mono ?_
  rintro e w'⟨rfl,x⟩
  rw [Nat.mod_eq_of_lt(show fA(fA(fA z))% H8 < M8 from Nat.lt_of_le_of_lt(Nat.mod_le _ _)hS2)]
  exact⟨_,rfl,x⟩
 have RED:Hid(∀(W:World),Ext w W→Calls Tryz.prog 160 #[.agg(jb(lbs 8(fB(fA(fA(fA z)))))).toArray] W fun e w'=>e= .returned(.agg(jb(lbs 8(z % P25))).toArray)∧Ext W w'):=fun W e=>by
  rw [← jht z]
  exact zF hS3(hG.ext e)
 have ZX:Hid(∀j,j < 16→wd(lbs 16 z)j=lb z j):=fun j hj=>yh hj
 have XL:=jq 16 z
 obtain⟨x,hx⟩:∃x,x=z % M8:=⟨_,rfl⟩
 obtain⟨y,hy⟩:∃y,y=z / M8:=⟨_,rfl⟩
 have LX:Hid(∀j,j < 8→lb z j=lb x j):=fun j hj=>by rw [hx];exact(jkp hj).symm
 have LY:Hid(∀j,lb z(j+8)=lb y j):=fun j=>by rw [hy];exact(jjc z j).symm
 have C8:Hid(cM x y 8=fA z / M8):=by unfold Hid;rw [hx,hy];exact jhd hz
 have LS:Hid(∀i,lb(fA z)i=(lb x i+38 *lb y i+cM x y i)% 4294967296):=fun i=>by unfold fA;rw [← hx,← hy];exact jkq x y i
 have RQ:Hid(∀vs:List Nat,vs.length=8→(∀j,j < 8→wd vs j=lb(fA z)j)→vs=lbs 8(fA z)):=fun vs h1 h2=>Ye h1 h2
 have L0:=jq 8(fA z)
 have L1:=jq 8(fA(fA z))
 have L2:=jq 8(fA(fA(fA z)))
 have L2b:=jq 8(fA(fA(fA z))% H8)
 have L3:=jq 8(fB(fA(fA(fA z))))
 have LR:=jq 8(z % P25)
 have W7:Hid(wd(lbs 8(fA(fA(fA z))))7=lb(fA(fA(fA z)))7):=yh(by omega)
 have h7:=yJ(fA(fA(fA z)))7
 clear hG hS hS1 hS2 hS3 hx hy hz
 generalize lbs 8(fB(fA(fA(fA z))))=l3 at *
 generalize lbs 8(fA(fA(fA z))% H8)=l2b at *
 generalize fA(fA(fA z)) / H8=tp at *
 generalize lb(fA(fA(fA z)))7=w7 at *
 generalize lbs 8(fA(fA(fA z)))=l2 at *
 generalize fA(fA(fA z)) / M8=h3 at *
 generalize fA(fA z) / M8=h2 at *
 generalize lbs 8(fA(fA z))=l1 at *
 generalize fA z / M8=h1 at *
 generalize hm:fA z=m at *
 clear hm
 generalize lbs 8 m=l0 at *
 generalize lbs 8(z % P25)=lr at *
 generalize lbs 16 z=zz at *
 have BN:Hid(∀i,cM x y(i+1)=(lb x i+38 *lb y i+cM x y i) / 4294967296):=fun i=>rfl
 have BLE:Hid(∀i,cM x y i≤38):=jjW x y
 replace htop:=hd htop
 replace hset:=hd hset
 have hal:=yx
 have hal2:=vp
 have ZL:zw8.length=8:=rfl
 generalize zw8=zs at *
 have ZS:=jf ZL
 have XA:Hid(∀(o1 o2 o3:Obj),(((w.alloc o1).alloc o2).alloc o3).heap[w.heap.size]? =some o1∧(((w.alloc o1).alloc o2).alloc o3).heap[w.heap.size+1]? =some o2∧(((w.alloc o1).alloc o2).alloc o3).heap[w.heap.size+1+1]? =some o3):=fun o1 o2 o3=>⟨jF _ _ _ _,jH _ _ _ _,jB _ _ _ _⟩
 have B0:Hid(∀o1 o2 o3,Ext w(((w.alloc o1).alloc o2).alloc o3)):=fun o1 o2 o3=>(((Ext.refl w).alloc _).alloc _).alloc _
 go_enter Tryz.func164,Tryz.ntmps164
 go_upto_region 2 with fail
 refine jg(fun W=>Wr W w.heap.size 246 zz∧Wr W(w.heap.size+1)233 zs∧Wr W(w.heap.size+1+1)218 zs∧Ext w W)⟨(XA.out _ _ _).1,(XA.out _ _ _).2.1,(XA.out _ _ _).2.2,B0.out _ _ _⟩?_
 clear XA B0
 rintro W0⟨wa,we,wc4,e0⟩
 replace wa:=hd wa
 replace we:=hd we
 replace wc4:=hd wc4
 replace e0:=hd e0
 go_wp2_with fail
 go_loopw [4,8](fun cv iv wr=>∃(k:Nat)(vs:List Nat),k≤8∧iv= .int .i64(k:Int)∧cv= .int .u64(cM x y k:Int)∧vs.length=8∧(∀j,j < k→wd vs j=lb m j)∧Below(w.heap.size+1+1)W0 wr∧Wr wr(w.heap.size+1+1)218 vs)(fun _ iv _=>8 - (intOf iv).toNat)
 case atStart=>exact⟨0,zs,Nat.zero_le _,rfl,rfl,ZL,fun j hj=>absurd hj(by omega),Below.refl _ _,wc4.out⟩
 case round =>
  obtain⟨k,vs,hk,rfl,rfl,vl,hv,hB,hw⟩ :=hrel
  clear wc4
  by_cases hlt:k < 8
  ·have ka:=hd(wa.out.kept hB(by omega))
   obtain⟨q,hqq⟩:∃q,q=k+8:=⟨_,rfl⟩
   have ca:Hid(∀s,Ext wr s→s.cell?⟨w.heap.size,k,none⟩=some(.int .u32(lb x k:Int))∧s.cell?⟨w.heap.size,q,none⟩=some(.int .u32(lb y k:Int))):=fun s e=>by
    have g1:=(ka.out.kept e ka.out.lt).cell(i:=k)(by omega)
    have g2:=(ka.out.kept e ka.out.lt).cell(i:=q)(by omega)
    rw [ZX.out k(by omega),LX.out k hlt] at g1
    rw [ZX.out q(by omega),hqq,LY.out k,← hqq] at g2
    exact And.intro g1 g2
   have g1:=yJ x k
   have g2:=yJ y k
   have g3:=BLE.out k
   have hzq:=hd(LS.out k)
   have hc:=hd(BN.out k)
   generalize lb x k=a at *
   generalize lb y k=b at *
   generalize cM x y k=c at *
   obtain⟨n38,hn38⟩:∃n38,n38=38 *b:=⟨_,rfl⟩
   obtain⟨s,hs⟩:∃s,s=a+n38:=⟨_,rfl⟩
   obtain⟨T,hT⟩:∃T,T=a+38 *b+c:=⟨_,rfl⟩
   obtain⟨v,hvv⟩:∃v,v=T % 4294967296:=⟨_,rfl⟩
   obtain⟨d,hd⟩:∃d,d=T / 4294967296:=⟨_,rfl⟩
   rw [← hT,← hvv] at hzq
   rw [← hT,← hd] at hc
   have f1:IntKind.u64.wrap(a:Int)=(a:Int):=by rw [IntKind.wrap_u64];omega
   have f2:IntKind.u64.wrap(b:Int)=(b:Int):=by rw [IntKind.wrap_u64];omega
   have f0:(38:Int)*(b:Int)=(n38:Int):=by omega
   have f0w:IntKind.u64.wrap(n38:Int)=(n38:Int):=by rw [IntKind.wrap_u64];omega
   have f3:(a:Int)+(n38:Int)=(s:Int):=by omega
   have f3w:IntKind.u64.wrap(s:Int)=(s:Int):=by rw [IntKind.wrap_u64];omega
   have f4:(s:Int)+(c:Int)=(T:Int):=by omega
   have f4w:IntKind.u64.wrap(T:Int)=(T:Int):=by rw [IntKind.wrap_u64];omega
   have f5:IntKind.u32.wrap(T:Int)=(v:Int):=by rw [IntKind.wrap_u32];omega
   have f5m:(T:Int)% 4294967296=(v:Int):=by omega
   have f6:(T:Int) / 4294967296=(d:Int):=by omega
   have f6':(T:Int) / 2 ^ 32=(d:Int):=f6
   have Tlt:T < 18446744073709551616:=by omega
   have q1:Op.shift .shr .u64(T:Int) .u64 32=pure(.int .u64(d:Int)):=by
    have:=shift_shr .u64 .u64(T:Int)32(by omega)(by decide)
    rw [this]
    congr 2
   have fq:(k:Int)+8=(q:Int):=by omega
   have fqw:IntKind.i64.wrap(q:Int)=(q:Int):=IntWalk.i64_in _(by omega)
   have q16:(q:Int) < 16:=by omega
   have q0:(0:Int)≤(q:Int):=by omega
   have ik:(k:Int) < 8:=by omega
   have ik16:(k:Int) < 16:=by omega
   have ik0:(0:Int)≤(k:Int):=by omega
   have cv:=hw.cell(i:=k)(by omega)
   have fv:=hw.frozen k
   replace hqq:=hd hqq
   replace hn38:=hd hn38
   replace hs:=hd hs
   replace hT:=hd hT
   replace hvv:=hd hvv
   replace hd:=hd hd
   replace hv:=hd hv
   replace hB:=hd hB
   replace hw:=hd hw
   clear g1 g2 g3
   go_wp2_with fail
   refine qgE [0,1,2,3,4,5,6,7,8,9,10,11,12,13] [] ?_
   repeat((first |refine qR _(fun w' e=>ca.out w'((Ext.refl _).drew.trans e))?_ |refine qS ?_);go_frame)
   refine jp ?_
   have hw2:=hd(hw.out.kept(Ext.refl wr).drew hw.out.lt)
   have hB2:Hid(Below(w.heap.size+1+1)W0 wr.drew):=Below.trans hB.out((Ext.refl wr).drew.mono(Nat.le_of_lt hw.out.lt))
   have cv2:=hw2.out.cell(i:=k)(by omega)
   have fv2:=hw2.out.frozen k
   clear cv fv hw hB ca ka
   generalize wr.drew=w2 at *
   go_wp2_with fail
   refine⟨⟨k+1,vs.set k v,by omega,by go_num,by rw [hc.out],by rw [List.length_set];exact vl,fun j hj=> ?_,Below.setCell hB2.out(Nat.le_refl _)_,hw2.out.set⟩,by simp [intOf];omega⟩
   rw [Yy(by omega)]
   by_cases e:j=k
   ·rw [if_pos e,e];exact hzq.out.symm
   ·rw [if_neg e];exact hv.out j(by omega)
  ·obtain rfl:k=8:=by omega
   have he:=RQ.out vs vl hv
   subst he
   rw [C8.out]
   have r4:=hd(we.out.kept hB(by omega))
   have EE:Hid(Ext w wr):=Below.trans e0.out(hB.mono(by omega))
   clear hv hB e0 wa we C8 LS BN BLE LX LY ZX RQ XL hk hlt
   have S0:=jf vl
   have S1:=jf L1
   have S2:=jf L2
   have S2b:=jf L2b
   have S3:=jf L3
   have SR:=jf LR
   have O1:=jo l1
   have O2:=jo l2
   have O3:=jo l3
   have OR:=jo lr
   obtain⟨n1,hn1⟩:∃n1,n1=38 *h1:=⟨_,rfl⟩
   have g1:(38:Int)*(h1:Int)=(n1:Int):=by omega
   have g1w:IntKind.u64.wrap(n1:Int)=(n1:Int):=by rw [IntKind.wrap_u64];omega
   obtain⟨n2,hn2⟩:∃n2,n2=38 *h2:=⟨_,rfl⟩
   have g2:(38:Int)*(h2:Int)=(n2:Int):=by omega
   have g2w:IntKind.u64.wrap(n2:Int)=(n2:Int):=by rw [IntKind.wrap_u64];omega
   obtain⟨n3,hn3⟩:∃n3,n3=19 *tp:=⟨_,rfl⟩
   have g3:(19:Int)*(tp:Int)=(n3:Int):=by omega
   have g3w:IntKind.u64.wrap(n3:Int)=(n3:Int):=by rw [IntKind.wrap_u64];omega
   have t1:(w7:Int) / 2147483648=(tp:Int):=by have:=htop.out;omega
   have t1':(w7:Int) / 2 ^ 31=(tp:Int):=t1
   have t1w:IntKind.u64.wrap(tp:Int)=(tp:Int):=by rw [IntKind.wrap_u64];omega
   have q1:Op.shift .shr .u32(w7:Int) .u64 31=pure(.int .u32(tp:Int)):=by
    have:=shift_shr .u32 .u64(w7:Int)31(by omega)(by decide)
    rw [this]
    congr 2
   obtain⟨v7,hv7⟩:∃v7,v7=w7 % 2147483648:=⟨_,rfl⟩
   rw [← hv7] at hset
   have t2:bits .andNot .u32(w7:Int)2147483648=(v7:Int):=by
    have:=u32_andNot_nat w7 2147483648(by omega)(by omega)
    rw [hv7,← Nat.and_two_pow_sub_one_eq_mod w7 31]
    exact this
   replace hn1:=hd hn1
   replace hn2:=hd hn2
   replace hn3:=hd hn3
   replace hv7:=hd hv7
   replace hw:=hd hw
   have K0:Hid(Wr wr(w.heap.size+1+1)218 vs∧Wr wr(w.heap.size+1)233 zs∧Ext w wr):=⟨hw.out,r4.out,EE.out⟩
   clear hw r4 EE
   have k0:=hd K0.out.1
   go_wp2_with(refine wpList_load_row rfl 218 _ rfl(w.heap.size+1+1)rfl 218(jb vs).toArray(0,0)_ k0.out rfl rfl(by rw [S0];rfl)?_;go_frame)
   refine(PL1.out _ n1 hn1.out).mono ?_
   rintro e v1⟨rfl,e1⟩
   have r1:=hd((e1.block _ k0.out.lt).trans k0.out)
   have re1:=hd(K0.out.2.1.kept e1 K0.out.2.1.lt)
   have rx1:Hid(Ext w v1):=K0.out.2.2.trans e1
   clear K0 k0 e1
   go_upto_region 11 with(refine wpList_store_row rfl 218 _ _ rfl(w.heap.size+1+1)(jb l1).toArray rfl rfl 218 _ r1.out(by rw [S1];rfl)(by rw [S1,S0])O1 ?_;go_frame)
   refine jg(fun W=>Wr W(w.heap.size+1+1)218 l1∧Wr W(w.heap.size+1)233 zs∧Ext w W)⟨setRow_heap _ _ _ _ _ _ r1.out,(setRow_other _ _ _ _(by omega)).trans re1.out,below_setRow rx1.out(by omega)_⟩?_
   clear r1 re1 rx1
   rintro u1 K1'
   have K1:=hd K1'
   clear K1'
   have k0:=hd K1.out.1
   go_wp2_with(refine wpList_load_row rfl 218 _ rfl(w.heap.size+1+1)rfl 218(jb l1).toArray(0,0)_ k0.out rfl rfl(by rw [S1];rfl)?_;go_frame)
   refine(PL2.out _ n2 hn2.out).mono ?_
   rintro e v2⟨rfl,e1⟩
   have r2:=hd((e1.block _ k0.out.lt).trans k0.out)
   have re2:=hd(K1.out.2.1.kept e1 K1.out.2.1.lt)
   have rx2:Hid(Ext w v2):=K1.out.2.2.trans e1
   clear K1 k0 e1
   go_upto_region 12 with(refine wpList_store_row rfl 218 _ _ rfl(w.heap.size+1+1)(jb l2).toArray rfl rfl 218 _ r2.out(by rw [S2];rfl)(by rw [S2,S1])O2 ?_;go_frame)
   refine jg(fun W=>Wr W(w.heap.size+1+1)218 l2∧Wr W(w.heap.size+1)233 zs∧Ext w W)⟨setRow_heap _ _ _ _ _ _ r2.out,(setRow_other _ _ _ _(by omega)).trans re2.out,below_setRow rx2.out(by omega)_⟩?_
   clear r2 re2 rx2
   rintro u2 K2'
   have K2:=hd K2'
   clear K2'
   have c7:=K2.out.1.cell(i:=7)(by omega)
   have z7:=K2.out.1.frozen 7
   rw [W7.out] at c7
   have KB:Hid(Wr(u2.setCell⟨w.heap.size+1+1,7,none⟩(.int .u32(v7:Int)))(w.heap.size+1+1)218 l2b∧Wr(u2.setCell⟨w.heap.size+1+1,7,none⟩(.int .u32(v7:Int)))(w.heap.size+1)233 zs∧Ext w(u2.setCell⟨w.heap.size+1+1,7,none⟩(.int .u32(v7:Int)))):=by
    refine⟨?_,(Below.heap_setCell _ _ _ _(show w.heap.size+1≠w.heap.size+1+1 by omega)).trans K2.out.2.1,K2.out.2.2.setCell(show w.heap.size≤w.heap.size+1+1 by omega)_⟩
    have:=K2.out.1.set(k:=7)(x:=v7)
    rwa [hset.out] at this
   go_upto_region 14 with fail
   refine jg(fun W=>Wr W(w.heap.size+1+1)218 l2b∧Wr W(w.heap.size+1)233 zs∧Ext w W)KB.out ?_
   clear KB c7 z7 K2
   rintro u2 K2'
   have K2:=hd K2'
   clear K2'
   have k0:=hd K2.out.1
   go_wp2_with(refine wpList_load_row rfl 218 _ rfl(w.heap.size+1+1)rfl 218(jb l2b).toArray(0,0)_ k0.out rfl rfl(by rw [S2b];rfl)?_;go_frame)
   refine(PL3.out _ n3 hn3.out).mono ?_
   rintro e v3⟨cc,rfl,e1⟩
   have r3:=hd((e1.block _ k0.out.lt).trans k0.out)
   have re3:=hd(K2.out.2.1.kept e1 K2.out.2.1.lt)
   have rx3:Hid(Ext w v3):=K2.out.2.2.trans e1
   clear K2 k0 e1
   go_upto_region 15 with(refine wpList_store_row rfl 218 _ _ rfl(w.heap.size+1+1)(jb l3).toArray rfl rfl 218 _ r3.out(by rw [S3];rfl)(by rw [S3,S2b])O3 ?_;go_frame)
   refine jg(fun W=>Wr W(w.heap.size+1+1)218 l3∧Wr W(w.heap.size+1)233 zs∧Ext w W)⟨setRow_heap _ _ _ _ _ _ r3.out,(setRow_other _ _ _ _(by omega)).trans re3.out,below_setRow rx3.out(by omega)_⟩?_
   clear r3 re3 rx3
   rintro u3 K3'
   have K3:=hd K3'
   clear K3'
   have k0:=hd K3.out.1
   go_wp2_with(refine wpList_load_row rfl 218 _ rfl(w.heap.size+1+1)rfl 218(jb l3).toArray(0,0)_ k0.out rfl rfl(by rw [S3];rfl)?_;go_frame)
   refine(RED.out _ K3.out.2.2).mono ?_
   rintro e v4⟨rfl,e1⟩
   have re:=hd(K3.out.2.1.kept e1 K3.out.2.1.lt)
   have rx:Hid(Ext w v4):=K3.out.2.2.trans e1
   clear K3 k0 e1
   go_wp2_with(refine wpList_store_row rfl 233 _ _ rfl(w.heap.size+1)(jb lr).toArray rfl rfl 233 _ re.out(by rw [SR];rfl)(by rw [SR,ZS])OR ?_;go_frame)
   (try simp only [Exit.inBlock,Exit.then])
   refine bodyPost_ret(results_cell_row rfl _ _(w.heap.size+1)233(jb lr).toArray(0,0)_ rfl(setRow_heap _ _ _ _ _ _ re.out)rfl rfl(by rw [SR];rfl))rfl ?_
   exact⟨rfl,below_setRow rx.out(by omega)_⟩
def eV(x:Nat):Value:= .agg(jb(lbs 8 x)).toArray
theorem YO:0 < P25:=by decide +kernel
theorem jg1:P25 < M8:=by decide +kernel
set_option maxHeartbeats 1000000 in
theorem YW{x y:Nat}{w:World}(hx:x < P25)(hy:y < P25){tg:TypeId×Nat×Nat}(hG:Gp w tg):
  Calls Tryz.prog 161 #[eV x,eV y] w fun e w'=>e= .returned(eV((x+y)% P25))∧Ext w w':=by
 have C1:Hid(∀W,Calls Tryz.prog 177 #[.agg(jb(lbs 8 x)).toArray, .agg(jb(lbs 8 y)).toArray] W fun e w'=>e= .returned(.agg(jb(lbs 8(x+y))).toArray)∧Ext W w'):=fun W=>Zu
 have C2:Hid(∀W,Ext w W→Calls Tryz.prog 160 #[.agg(jb(lbs 8(x+y))).toArray] W fun e w'=>e= .returned(.agg(jb(lbs 8((x+y)% P25))).toArray)∧Ext W w'):=fun W e=>zF(by omega)(hG.ext e)
 clear hG
 unfold eV
 have XL:=jq 8 x
 have YL:=jq 8 y
 have RL:=jq 8((x+y)% P25)
 generalize lbs 8((x+y)% P25)=rr at *
 generalize lbs 8 x=xs at *
 generalize lbs 8 y=ys at *
 generalize lbs 8(x+y)=ms at *
 have XS:=jf XL
 have YS:=jf YL
 have RS:=jf RL
 have OR:=jo rr
 have hal2:=vp
 have hal:=yx
 have ZL:zw8.length=8:=rfl
 generalize zw8=zs at *
 have ZS:=jf ZL
 have B0:Hid(∀s,Ext(((w.alloc(Obj.cells(jb xs).toArray 233)).alloc(Obj.cells(jb ys).toArray 233)).alloc(Obj.cells(jb zs).toArray 233))s→Wr s w.heap.size 233 xs∧Wr s(w.heap.size+1)233 ys∧Wr s(w.heap.size+1+1)233 zs∧Ext w s):=fun s e=>⟨(e.block _(by rw [je,je,je];omega)).trans(jF _ _ _ _),(e.block _(by rw [je,je,je];omega)).trans(jH _ _ _ _),(e.block _(by rw [je,je,je];omega)).trans(jB _ _ _ _),((((Ext.refl w).alloc _).alloc _).alloc _).trans e⟩
 go_enter Tryz.func161,Tryz.ntmps161
 go_upto_region 1 with fail
 refine jg(fun W=>∀s,Ext W s→Wr s w.heap.size 233 xs∧Wr s(w.heap.size+1)233 ys∧Wr s(w.heap.size+1+1)233 zs∧Ext w s)B0.out ?_
 clear B0
 rintro w0 B0
 replace B0:=hd B0
 have ka:=hd(B0.out _(Ext.refl _)).1
 have kb:=hd(B0.out _(Ext.refl _)).2.1
 go_wp2_with(first
  |(refine wpList_load_row rfl 218 _ rfl w.heap.size rfl 233(jb xs).toArray(0,0)_ ka.out rfl rfl(by rw [XS];rfl)?_;go_frame)
  |(refine wpList_load_row rfl 218 _ rfl(w.heap.size+1)rfl 233(jb ys).toArray(0,0)_ kb.out rfl rfl(by rw [YS];rfl)?_;go_frame))
 refine(C1.out _).mono ?_
 rintro e w1⟨rfl,e1⟩
 go_wp2_with fail
 refine(C2.out _(B0.out _ e1).2.2.2).mono ?_
 rintro e w2⟨rfl,e2⟩
 obtain⟨-, -,kr,kx⟩ :=B0.out _(e1.trans e2)
 replace kr:=hd kr
 replace kx:=hd kx
 clear B0 ka kb C1 C2 e1 e2
 go_wp2_with(refine wpList_store_row rfl 233 _ _ rfl(w.heap.size+1+1)(jb rr).toArray rfl rfl 233 _ kr.out(by rw [RS];rfl)(by rw [RS,ZS])OR ?_;go_frame)
 (try simp only [Exit.inBlock,Exit.then])
 refine bodyPost_ret(results_cell_row rfl _ _(w.heap.size+1+1)233(jb rr).toArray(0,0)_ rfl(setRow_heap _ _ _ _ _ _ kr.out)rfl rfl(by rw [RS];rfl))rfl ?_
 exact⟨rfl,below_setRow kx.out(by omega)_⟩
set_option maxHeartbeats 1000000 in
theorem qO{x y:Nat}{w:World}(hx:x < P25)(hy:y < P25){tg:TypeId×Nat×Nat}(hG:Gp w tg):
  Calls Tryz.prog 141 #[eV x,eV y] w fun e w'=>e= .returned(eV(x *y % P25))∧Ext w w':=by
 have hxM:=Nat.lt_trans hx jg1
 have hyM:=Nat.lt_trans hy jg1
 have C1:Hid(∀W,Calls Tryz.prog 165 #[.agg(jb(lbs 8 x)).toArray, .agg(jb(lbs 8 y)).toArray] W fun e w'=>e= .returned(.agg(jb(lbs 16(x *y))).toArray)∧Ext W w'):=fun W=>jbk hxM hyM
 have C2:Hid(∀W,Ext w W→Calls Tryz.prog 164 #[.agg(jb(lbs 16(x *y))).toArray] W fun e w'=>e= .returned(.agg(jb(lbs 8(x *y % P25))).toArray)∧Ext W w'):=fun W e=>jcd(Nat.mul_lt_mul'' hxM hyM)(hG.ext e)
 clear hG
 unfold eV
 have XL:=jq 8 x
 have YL:=jq 8 y
 have RL:=jq 8(x *y % P25)
 generalize lbs 8(x *y % P25)=rr at *
 generalize lbs 8 x=xs at *
 generalize lbs 8 y=ys at *
 generalize lbs 16(x *y)=ms at *
 have XS:=jf XL
 have YS:=jf YL
 have RS:=jf RL
 have OR:=jo rr
 have hal2:=vp
 have hal:=yx
 have ZL:zw8.length=8:=rfl
 generalize zw8=zs at *
 have ZS:=jf ZL
 have B0:Hid(∀s,Ext(((w.alloc(Obj.cells(jb xs).toArray 233)).alloc(Obj.cells(jb ys).toArray 233)).alloc(Obj.cells(jb zs).toArray 233))s→Wr s w.heap.size 233 xs∧Wr s(w.heap.size+1)233 ys∧Wr s(w.heap.size+1+1)233 zs∧Ext w s):=fun s e=>⟨(e.block _(by rw [je,je,je];omega)).trans(jF _ _ _ _),(e.block _(by rw [je,je,je];omega)).trans(jH _ _ _ _),(e.block _(by rw [je,je,je];omega)).trans(jB _ _ _ _),((((Ext.refl w).alloc _).alloc _).alloc _).trans e⟩
 go_enter Tryz.func141,Tryz.ntmps141
 go_upto_region 1 with fail
 refine jg(fun W=>∀s,Ext W s→Wr s w.heap.size 233 xs∧Wr s(w.heap.size+1)233 ys∧Wr s(w.heap.size+1+1)233 zs∧Ext w s)B0.out ?_
 clear B0
 rintro w0 B0
 replace B0:=hd B0
 have ka:=hd(B0.out _(Ext.refl _)).1
 have kb:=hd(B0.out _(Ext.refl _)).2.1
 go_wp2_with(first
  |(refine wpList_load_row rfl 218 _ rfl w.heap.size rfl 233(jb xs).toArray(0,0)_ ka.out rfl rfl(by rw [XS];rfl)?_;go_frame)
  |(refine wpList_load_row rfl 218 _ rfl(w.heap.size+1)rfl 233(jb ys).toArray(0,0)_ kb.out rfl rfl(by rw [YS];rfl)?_;go_frame))
 refine(C1.out _).mono ?_
 rintro e w1⟨rfl,e1⟩
 go_wp2_with fail
 refine(C2.out _(B0.out _ e1).2.2.2).mono ?_
 rintro e w2⟨rfl,e2⟩
 obtain⟨-, -,kr,kx⟩ :=B0.out _(e1.trans e2)
 replace kr:=hd kr
 replace kx:=hd kx
 clear B0 ka kb C1 C2 e1 e2
 go_wp2_with(refine wpList_store_row rfl 233 _ _ rfl(w.heap.size+1+1)(jb rr).toArray rfl rfl 233 _ kr.out(by rw [RS];rfl)(by rw [RS,ZS])OR ?_;go_frame)
 (try simp only [Exit.inBlock,Exit.then])
 refine bodyPost_ret(results_cell_row rfl _ _(w.heap.size+1+1)233(jb rr).toArray(0,0)_ rfl(setRow_heap _ _ _ _ _ _ kr.out)rfl rfl(by rw [RS];rfl))rfl ?_
 exact⟨rfl,below_setRow kx.out(by omega)_⟩
set_option maxHeartbeats 1000000 in
theorem YX{x y:Nat}{w:World}(hx:x < P25)(hy:y < P25){tg:TypeId×Nat×Nat}(hG:Gp w tg):
  Calls Tryz.prog 162 #[eV x,eV y] w fun e w'=>e= .returned(eV((x+(P25 - y))% P25))∧Ext w w':=by
 have C0:Hid(∀W,Calls Tryz.prog 176 #[.agg(jb(lbs 8 P25)).toArray, .agg(jb(lbs 8 y)).toArray] W fun e w'=>∃c:Nat,e= .returned(.tuple #[.agg(jb(lbs 8(P25 - y))).toArray, .int .u64(c:Int)])∧Ext W w'):=fun W=>by
  refine(YJ(x:=P25)(y:=y)(w:=W)(Nat.lt_trans hy jeb)).mono ?_
  rintro e w'⟨rfl,ex⟩
  have hd:lbs 8(P25+4294967296 ^ 8 - y)=lbs 8(P25 - y):=by
   have h1:P25+4294967296 ^ 8 - y=P25 - y+4294967296 ^ 8:=by
    generalize 4294967296 ^ 8=M
    omega
   rw [h1,ZC]
  rw [hd]
  exact⟨bS P25 y 8,rfl,ex⟩
 have C1:Hid(∀W,Calls Tryz.prog 177 #[.agg(jb(lbs 8 x)).toArray, .agg(jb(lbs 8(P25 - y))).toArray] W fun e w'=>e= .returned(.agg(jb(lbs 8(x+(P25 - y)))).toArray)∧Ext W w'):=fun W=>Zu
 have C2:Hid(∀W,Ext w W→Calls Tryz.prog 160 #[.agg(jb(lbs 8(x+(P25 - y)))).toArray] W fun e w'=>e= .returned(.agg(jb(lbs 8((x+(P25 - y))% P25))).toArray)∧Ext W w'):=fun W e=>zF(by omega)(hG.ext e)
 have GP:Hid(∀W,Ext w W→W.heap[1]? =some(.cells(jb(lbs 8 P25)).toArray tg.1 tg.2)):=fun W e=>hG.ext e
 have PL:=jq 8 P25
 have DL:=jq 8(P25 - y)
 clear hG
 unfold eV
 have XL:=jq 8 x
 have YL:=jq 8 y
 have RL:=jq 8((x+(P25 - y))% P25)
 generalize lbs 8((x+(P25 - y))% P25)=rr at *
 generalize lbs 8 x=xs at *
 generalize lbs 8 y=ys at *
 generalize lbs 8(x+(P25 - y))=ms at *
 generalize lbs 8(P25 - y)=ds at *
 generalize lbs 8 P25=ps at *
 have PS:=jf PL
 have DS:=jf DL
 have OD:=jo ds
 have XS:=jf XL
 have YS:=jf YL
 have RS:=jf RL
 have OR:=jo rr
 have hal2:=vp
 have hal:=yx
 have ZL:zw8.length=8:=rfl
 generalize zw8=zs at *
 have ZS:=jf ZL
 have B0:Hid(∀s,Ext(((w.alloc(Obj.cells(jb xs).toArray 233)).alloc(Obj.cells(jb ys).toArray 233)).alloc(Obj.cells(jb zs).toArray 233))s→Wr s w.heap.size 233 xs∧Wr s(w.heap.size+1)233 ys∧Wr s(w.heap.size+1+1)233 zs∧Ext w s):=fun s e=>⟨(e.block _(by rw [je,je,je];omega)).trans(jF _ _ _ _),(e.block _(by rw [je,je,je];omega)).trans(jH _ _ _ _),(e.block _(by rw [je,je,je];omega)).trans(jB _ _ _ _),((((Ext.refl w).alloc _).alloc _).alloc _).trans e⟩
 go_enter Tryz.func162,Tryz.ntmps162
 go_upto_region 1 with fail
 refine jg(fun W=>∀s,Ext W s→Wr s w.heap.size 233 xs∧Wr s(w.heap.size+1)233 ys∧Wr s(w.heap.size+1+1)233 zs∧Ext w s)B0.out ?_
 clear B0
 rintro w0 B0
 replace B0:=hd B0
 have kb:=hd(B0.out _(Ext.refl _)).2.1
 have kp:=hd(GP.out _(B0.out _(Ext.refl _)).2.2.2)
 go_wp2_with(first
  |(refine wpList_load_row rfl 218 _ rfl 1 rfl tg.1(jb ps).toArray tg.2 _ kp.out rfl rfl(by rw [PS];rfl)?_;go_frame)
  |(refine wpList_load_row rfl 218 _ rfl(w.heap.size+1)rfl 233(jb ys).toArray(0,0)_ kb.out rfl rfl(by rw [YS];rfl)?_;go_frame))
 refine(C0.out _).mono ?_
 rintro e v⟨c,rfl,e1⟩
 have a1:Hid((v.alloc(Obj.cells(jb zs).toArray 218)).heap[v.heap.size]? =some(.cells(wcells zs).toArray 218(0,0))):=heap_alloc_new _ _
 have e5:Ext v((v.alloc(Obj.cells(wcells zs).toArray 218)).setRow v.heap.size(jb ds).toArray):=below_setRow((Ext.refl v).alloc _)(Nat.le_refl _)_
 go_upto_region 2 with(refine wpList_store_row rfl 218 _ _ rfl v.heap.size(jb ds).toArray rfl rfl 218 _ a1.out(by rw [DS];rfl)(by rw [DS,ZS])OD ?_;go_frame)
 obtain⟨f,hf⟩:∃f,f=v.heap.size:=⟨_,rfl⟩
 refine jg(fun W=>∀s,Ext W s→Wr s w.heap.size 233 xs∧Wr s f 218 ds∧Wr s(w.heap.size+1+1)233 zs∧Ext w s)(fun s e=>by
  obtain⟨p1, -,p3,p4⟩ :=B0.out s(e1.trans(e5.trans e))
  exact⟨p1,(e.block _(by simp [hf])).trans(by rw [hf];exact setRow_heap _ _ _ _ _ _ a1.out),p3,p4⟩)?_
 rw [← hf]
 clear hf a1 e5 e1 B0 kb kp GP C0
 rintro w1 B0
 replace B0:=hd B0
 have ka:=hd(B0.out _(Ext.refl _)).1
 have kb:=hd(B0.out _(Ext.refl _)).2.1
 go_wp2_with(first
  |(refine wpList_load_row rfl 218 _ rfl w.heap.size rfl 233(jb xs).toArray(0,0)_ ka.out rfl rfl(by rw [XS];rfl)?_;go_frame)
  |(refine wpList_load_row rfl 218 _ rfl f rfl 218(jb ds).toArray(0,0)_ kb.out rfl rfl(by rw [DS];rfl)?_;go_frame))
 refine(C1.out _).mono ?_
 rintro e w2⟨rfl,e1⟩
 go_wp2_with fail
 refine(C2.out _(B0.out _ e1).2.2.2).mono ?_
 rintro e w3⟨rfl,e2⟩
 obtain⟨-, -,kr,kx⟩ :=B0.out _(e1.trans e2)
 replace kr:=hd kr
 replace kx:=hd kx
 clear B0 ka kb C1 C2 e1 e2
 go_wp2_with(refine wpList_store_row rfl 233 _ _ rfl(w.heap.size+1+1)(jb rr).toArray rfl rfl 233 _ kr.out(by rw [RS];rfl)(by rw [RS,ZS])OR ?_;go_frame)
 (try simp only [Exit.inBlock,Exit.then])
 refine bodyPost_ret(results_cell_row rfl _ _(w.heap.size+1+1)233(jb rr).toArray(0,0)_ rfl(setRow_heap _ _ _ _ _ _ kr.out)rfl rfl(by rw [RS];rfl))rfl ?_
 exact⟨rfl,below_setRow kx.out(by omega)_⟩
end
section
open Go.ChangeShapes Go.WideShapes Go.ChangeAt Go.RowKit Go.Deep
theorem Za{xs:List UInt8}{j i x:Nat}(hj:j < xs.length)(hx:x < 256):bt(xs.set j(UInt8.ofNat x))i=if i=j then x else bt xs i:=by
 unfold bt
 by_cases h:i=j
 ·subst h
  simp [List.getD,hj]
  omega
 ·simp [List.getD,h,List.getElem?_set_ne(Ne.symm h)]
end
section
open Go.ChangeShapes Go.WideShapes Go.ChangeAt Go.RowKit Go.Deep
set_option maxRecDepth 100000
def kL(x:Nat):List UInt8:=qW(lbs 8 x)
theorem zw(x:Nat):(kL x).length=32:=by unfold kL;rw [v9,jq]
theorem jjU{x k:Nat}(h:k < 32):bt(kL x)k=lb x(k / 4) / 256 ^(k % 4)% 256:=by
 unfold kL
 rw [JK(by rw [jq];omega),yh(by omega)]
theorem Ky.setB6{w:World}{g j x:Nat}{xs:List UInt8}(h:Ky w g xs)(hj:j < 32)(hx:x < 256):Ky(w.setCell⟨g,j,none⟩(.int .u8(x:Int)))g(xs.set j(UInt8.ofNat x)):=by
 refine⟨?_,by rw [List.length_set];exact h.2⟩
 rw [setCell_eq_setRow w g j _ _(0,0)_ h.1,setRow_heap w g _ _ _ _ h.1]
 congr 2
 have hl:=h.2
 apply Array.ext'
 rw [Array.toList_setIfInBounds]
 apply List.ext_getElem?
 intro i
 simp only [List.getElem?_set,ja]
 by_cases hi:i < 32
 ·rw [jZ(xs:=xs.set j(UInt8.ofNat x))(by rw [List.length_set];omega),Za(by omega)hx]
  by_cases e:j=i
  ·subst e;simp [show j < xs.length by omega]
  ·rw [if_neg e,if_neg(Ne.symm e)]
   have:=jZ(xs:=xs)(j:=i)(by omega)
   simpa using this
 ·have h1:(cellsOf xs)[i]? =none:=List.getElem?_eq_none(by rw [ja];omega)
  have h2:(cellsOf(xs.set j(UInt8.ofNat x)))[i]? =none:=List.getElem?_eq_none(by rw [ja,List.length_set];omega)
  rw [if_neg(by omega)]
  simp only [h2]
  simpa using h1
set_option maxHeartbeats 2000000 in
theorem jeo{x:Nat}{w:World}:
  Calls Tryz.prog 143 #[eV x] w fun e w'=>e= .returned(.agg(cellsOf(kL x)).toArray)∧Ext w w':=by
 have XW:Hid(∀j,j < 8→wd(lbs 8 x)j=lb x j):=fun j hj=>yh hj
 have XL:=lbs_len 8 x
 have RB:Hid(∀k,k < 32→bt(kL x)k=lb x(k / 4) / 256 ^(k % 4)% 256):=fun k hk=>jjU hk
 have RL:=kL_len x
 have LB:Hid(∀i,lb x i < 4294967296):=yJ x
 unfold eV
 generalize kL x=rr at *
 generalize lbs 8 x=xs at *
 have hal:=j2
 have hz:=zeros32_cells
 have zl:(List.replicate 32(0:UInt8)).length=32:=rfl
 rw [← hz] at hal
 clear hz
 generalize List.replicate 32(0:UInt8)=zs at *
 have ZS:(cellsOf zs).toArray.size=32:=by simp [ja,zl]
 have B0:Hid(Wr(((w.alloc(Obj.cells(jb xs).toArray 233)).alloc(Obj.cells(cellsOf zs).toArray 23)).alloc(Obj.cells(cellsOf zs).toArray 23))w.heap.size 233 xs∧Ky(((w.alloc(Obj.cells(jb xs).toArray 233)).alloc(Obj.cells(cellsOf zs).toArray 23)).alloc(Obj.cells(cellsOf zs).toArray 23))(w.heap.size+1)zs∧Ky(((w.alloc(Obj.cells(jb xs).toArray 233)).alloc(Obj.cells(cellsOf zs).toArray 23)).alloc(Obj.cells(cellsOf zs).toArray 23))(w.heap.size+1+1)zs∧Ext w(((w.alloc(Obj.cells(jb xs).toArray 233)).alloc(Obj.cells(cellsOf zs).toArray 23)).alloc(Obj.cells(cellsOf zs).toArray 23))):=⟨jF _ _ _ _,⟨jH _ _ _ _,zl⟩,⟨jB _ _ _ _,zl⟩,(((Ext.refl w).alloc _).alloc _).alloc _⟩
 go_enter Tryz.func143,Tryz.ntmps143
 go_upto_region 2 with fail
 refine jg(fun W=>Wr W w.heap.size 233 xs∧Ky W(w.heap.size+1)zs∧Ky W(w.heap.size+1+1)zs∧Ext w W)B0.out ?_
 clear B0
 rintro W0⟨wa,k1,k2,e0⟩
 replace wa:=hd wa
 replace k1:=hd k1
 replace k2:=hd k2
 replace e0:=hd e0
 go_wp2_with fail
 go_loopw [5](fun v wr=>∃(k:Nat)(ys:List UInt8),k≤32∧v= .int .i64(k:Int)∧ys.length=32∧(∀j,j < k→bt ys j=bt rr j)∧Below(w.heap.size+1+1)W0 wr∧Ky wr(w.heap.size+1+1)ys)(fun v _=>32 - (intOf v).toNat)
 case atStart=>exact⟨0,zs,Nat.zero_le _,rfl,zl,fun j hj=>absurd hj(by omega),Below.refl _ _,k2.out⟩
 case round =>
  obtain⟨k,ys,hk,rfl,yl,hv,hB,ky⟩ :=hrel
  clear k2
  by_cases hlt:k < 32
  ·obtain⟨a,ha⟩:∃a,a=k / 4:=⟨_,rfl⟩
   obtain⟨b,hb⟩:∃b,b=k % 4:=⟨_,rfl⟩
   obtain⟨sh,hs⟩:∃sh,sh=8 *b:=⟨_,rfl⟩
   have ia:(k:Int) / 4=(a:Int):=by omega
   have ib:(k:Int)% 4=(b:Int):=by omega
   have ia':Int.tdiv(k:Int)4=(a:Int):=by rw [Int.tdiv_eq_ediv_of_nonneg(by omega)];omega
   have ib':Int.tmod(k:Int)4=(b:Int):=by rw [Int.tmod_eq_emod_of_nonneg(by omega)];omega
   have is:(8:Int)*(b:Int)=(sh:Int):=by omega
   have a8:a < 8:=by omega
   have a8':(a:Int) < 8:=by omega
   have b4:(b:Int) < 4:=by omega
   have s32:(sh:Int)≤32:=by omega
   have cv:=(wa.out.kept hB(by omega)).cell(i:=a)(by omega)
   rw [XW.out a a8] at cv
   have yb:bt rr k=lb x a / 2 ^ sh % 256:=by
    rw [RB.out k hlt,← ha,← hb,hs,show(256:Nat)=2 ^ 8 from rfl,← Nat.pow_mul]
   have hl:=LB.out a
   generalize lb x a=u at *
   obtain⟨y,hy⟩:∃y,y=u / 2 ^ sh:=⟨_,rfl⟩
   have q1:Op.shift .shr .u32(u:Int) .i64(sh:Int)=pure(.int .u32(y:Int)):=by
    have:=shift_shr .u32 .i64(u:Int)(sh:Int)(by omega)(by show(sh:Int)≤32;exact s32)
    rw [this,hy]
    simp
   have y8:IntKind.u8.wrap(y:Int)=((y % 256:Nat):Int):=by rw [IntKind.wrap_u8];omega
   have y8':(y:Int)% 256=((y % 256:Nat):Int):=by omega
   rw [← hy] at yb
   have hlt8:y % 256 < 256:=Nat.mod_lt _(by decide)
   generalize y % 256=z at *
   have g1:=ky.cell hlt
   have g2:=ky.frozen k
   have ik:(k:Int) < 32:=by omega
   replace yb:=hd yb
   replace hy:=hd hy
   replace ha:=hd ha
   replace hb:=hd hb
   replace hs:=hd hs
   replace hv:=hd hv
   replace hB:=hd hB
   replace ky:=hd ky
   clear hlt8
   go_wp2_with fail
   have hz:(u:Int) / 2 ^ sh % 256=(z:Int):=by
    rw [← y8',hy.out,Int.natCast_ediv,Int.natCast_pow];rfl
   rw [hz]
   have z256:z < 256:=by rw [← yb.out];exact vJ _ _
   refine⟨⟨k+1,ys.set k(UInt8.ofNat z),by omega,by go_num,by rw [List.length_set];exact yl,fun j hj=> ?_,Below.setCell hB.out(Nat.le_refl _)_,ky.out.setB6 hlt z256⟩,by simp [intOf];omega⟩
   rw [Za(by omega)z256]
   by_cases e:j=k
   ·rw [if_pos e,e];exact yb.out.symm
   ·rw [if_neg e];exact hv.out j(by omega)
  ·obtain rfl:k=32:=by omega
   have hy:ys=rr:=Y0(by rw [yl,RL])fun j hj=>hv j(by omega)
   subst hy
   have KK:Hid(Ky wr(w.heap.size+1)zs):=⟨(hB.block _(by omega)).trans k1.out.1,zl⟩
   have EE:Hid(Ext w wr):=Below.trans e0.out(hB.mono(by omega))
   have RS:(cellsOf ys).toArray.size=32:=by simp [ja,yl]
   have R1:=ji ys
   replace ky:=hd ky
   clear hv hB RB k1 wa e0
   go_wp2_with(first
    |(refine wpList_load_row rfl 23 _ rfl(w.heap.size+1+1)rfl 23(cellsOf ys).toArray(0,0)_ ky.out.1 rfl rfl(by rw [RS];rfl)?_;go_frame)
    |refine wpList_store_row rfl 23 _ _ rfl(w.heap.size+1)(cellsOf ys).toArray rfl rfl 23 _ KK.out.1(by rw [RS];rfl)(by rw [RS,ZS])R1 ?_)
   (try simp only [Exit.inBlock,Exit.then])
   refine bodyPost_ret(results_cell_row rfl _ _(w.heap.size+1)23(cellsOf ys).toArray(0,0)_ rfl(setRow_heap _ _ _ _ _ _ KK.out.1)rfl rfl(by rw [RS];rfl))rfl ?_
   exact⟨rfl,below_setRow EE.out(by omega)_⟩
end
end Go.Proofs.YtakpgbaijkhpmaaGreatDoor
