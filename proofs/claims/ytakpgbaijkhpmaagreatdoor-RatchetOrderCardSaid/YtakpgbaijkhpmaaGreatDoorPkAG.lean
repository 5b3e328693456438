import Derived.Test.YtakpgbaijkhpmaaGreatDoorPkAF
import Derived.Test.YtakpgbaijkhpmaaGreatDoorPkAC
import Derived.Test.YtakpgbaijkhpmaaGreatDoorPkAE
import Derived.Test.YtakpgbaijkhpmaaGreatDoorPkAA
import Derived.RegionTactic
namespace Go.Proofs.YtakpgbaijkhpmaaGreatDoor
section
open Go.ChangeShapes Go.WideShapes Go.ChangeAt Go.RowKit Go.Deep
set_option maxRecDepth 100000
def ofN(ks:List UInt8):Nat→Nat
 |0=>0
 |i+1=>ofN ks i+bt ks i *256 ^ i
theorem jcr(ks:List UInt8):∀i,ofN ks i < 256 ^ i
 |0=>by simp [ofN]
 |i+1=>by
  have ih:=jcr ks i
  have hb:=vJ ks i
  rw [ofN,Nat.pow_succ]
  have:bt ks i *256 ^ i≤255 *256 ^ i:=Nat.mul_le_mul_right _(by omega)
  generalize bt ks i *256 ^ i=t at *
  generalize 256 ^ i=P at *
  omega
theorem jaD(a b:Nat):256 ^(4 *a+b)=4294967296 ^ a *256 ^ b:=by rw [Nat.pow_add,Nat.pow_mul]
theorem jkv{ks:List UInt8}{i a b:Nat}(hi:i=4 *a+b)(hb:b < 4):lb(ofN ks(i+1))a=lb(ofN ks i)a+bt ks i *256 ^ b∧lb(ofN ks i)a < 256 ^ b:=by
 have h1:=jcr ks i
 have hp:0 < 4294967296 ^ a:=Nat.pow_pos(by decide)
 have e:256 ^ i=4294967296 ^ a *256 ^ b:=by rw [hi];exact jaD a b
 rw [e] at h1
 have h2:ofN ks i / 4294967296 ^ a < 256 ^ b:=Nat.div_lt_of_lt_mul h1
 have h3:256 ^ b≤16777216:=by
  have:b=0∨b=1∨b=2∨b=3:=by omega
  rcases this with rfl |rfl |rfl |rfl <;> decide
 have hbt:=vJ ks i
 have h4:bt ks i *256 ^ b≤255 *256 ^ b:=Nat.mul_le_mul_right _(by omega)
 have e2:ofN ks(i+1) / 4294967296 ^ a=ofN ks i / 4294967296 ^ a+bt ks i *256 ^ b:=by
  rw [ofN,e,Nat.mul_left_comm,Nat.add_mul_div_left _ _ hp]
 unfold lb
 rw [e2]
 generalize ofN ks i / 4294967296 ^ a=X at *
 generalize bt ks i *256 ^ b=t at *
 generalize 256 ^ b=Q at *
 omega
theorem jkw{ks:List UInt8}{i a b j:Nat}(hi:i=4 *a+b)(hj:j < a):lb(ofN ks(i+1))j=lb(ofN ks i)j:=by
 have hp:0 < 4294967296 ^ j:=Nat.pow_pos(by decide)
 obtain⟨d,hd⟩:∃d,a=j+1+d:=⟨a - (j+1),by omega⟩
 have e:bt ks i *256 ^ i=4294967296 ^ j *(4294967296 *(4294967296 ^ d *256 ^ b *bt ks i)):=by
  rw [hi,pow_four,hd,Nat.pow_add,Nat.pow_succ,Nat.mul_comm(bt _ _)]
  simp only [Nat.mul_assoc]
 unfold lb
 rw [ofN,e,Nat.add_mul_div_left _ _ hp,Nat.add_mul_mod_self_left]
theorem jjh{ks:List UInt8}{i a b j:Nat}(hi:i≤4 *a+b)(hb:b≤4)(hj:a < j):lb(ofN ks i)j=0:=by
 have h1:=jcr ks i
 have h2:256 ^ i≤4294967296 ^ j:=by
  have:(4294967296:Nat)^ j=256 ^(4 *j):=by rw [Nat.pow_mul]
  rw [this]
  exact Nat.pow_le_pow_right(by decide)(by omega)
 unfold lb
 rw [Nat.div_eq_of_lt(Nat.lt_of_lt_of_le h1 h2)]
def ofV(ks:List UInt8):Nat:=ofN ks 32 % H8 % P25
theorem jku(ks:List UInt8):ofV ks < P25:=Nat.mod_lt _ YO
theorem jex{xs:List UInt8}{w:World}{k:Nat}(hl:xs.length=32)(hk:k < 32):
  (Instr.index 23(.agg(cellsOf xs).toArray)(.int .i64(k:Int))).run Tryz.prog w= .ok(.int .u8(bt xs k:Int))w:=by
 have h1:(0:Int)≤(k:Int)∧(k:Int) < ((32:Nat):Int):=by omega
 have hs:(sizeOf 5).run Tryz.prog w= .ok 1 w:=rfl
 have hg:(cellsOf xs).toArray[k]? =some(.int .u8(bt xs k:Int)):=by
  rw [List.getElem?_toArray];exact jZ(by omega)
 have ht:Tryz.prog.underlying 23=some(.array 32 5):=rfl
 unfold Instr.index
 simp only [Sem.run_bind,asIntOf,Sem.run_pure,Result.andThen_ok,run_underlying ht]
 rw [if_pos h1]
 simp only [Sem.run_bind,hs,Result.andThen_ok]
 have ha:(isAgg 5).run Tryz.prog w= .ok false w:=rfl
 unfold part
 simp only [Sem.run_bind,ha,Result.andThen_ok,Int.toNat_natCast,Nat.mul_one,Bool.false_eq_true,if_false,hg,Sem.run_pure]
set_option maxHeartbeats 4000000 in
theorem jav{ks:List UInt8}{w:World}(hk:ks.length=32){tg:TypeId×Nat×Nat}(hG:Gp w tg):
  Calls Tryz.prog 136 #[.agg(cellsOf ks).toArray] w fun e w'=>e= .returned(eV(ofV ks))∧Ext w w':=by
 have hN:ofN ks 32 < M8:=by
  have:=jcr ks 32
  rwa [show(256:Nat)^ 32=M8 by decide +kernel] at this
 have hset:=(jcN hN).2
 have h7:=yJ(ofN ks 32)7
 have RED:Hid(∀(W:World),Ext w W→Calls Tryz.prog 160 #[.agg(jb(lbs 8(ofN ks 32 % H8))).toArray] W fun e w'=>e= .returned(.agg(jb(lbs 8(ofV ks))).toArray)∧Ext W w'):=fun W e=>by
  refine reduced_calls ?_(hG.ext e)
  have h1:=Nat.mod_lt(ofN ks 32)(show 0 < H8 by decide +kernel)
  have h2:H8 < 2 *P25:=by decide +kernel
  omega
 have RQ:Hid(∀vs:List Nat,vs.length=8→(∀j,j < 8→wd vs j=lb(ofN ks 32)j)→vs=lbs 8(ofN ks 32)):=fun vs h1 h2=>Ye h1 h2
 have W7:Hid(wd(lbs 8(ofN ks 32))7=lb(ofN ks 32)7):=yh(by omega)
 have L0:=jq 8(ofN ks 32)
 have L1:=jq 8(ofN ks 32 % H8)
 have LR:=jq 8(ofV ks)
 have HIT:Hid(∀i a b,i=4 *a+b→b < 4→lb(ofN ks(i+1))a=lb(ofN ks i)a+bt ks i *256 ^ b∧lb(ofN ks i)a < 256 ^ b):=fun i a b h1 h2=>jkv h1 h2
 have LOW:Hid(∀i a b j,i=4 *a+b→j < a→lb(ofN ks(i+1))j=lb(ofN ks i)j):=fun i a b j h1 h2=>jkw h1 h2
 have HIGH:Hid(∀i a b j,i≤4 *a+b→b≤4→a < j→lb(ofN ks i)j=0):=fun i a b j h1 h2 h3=>jjh h1 h2 h3
 unfold eV
 clear hG hN
 generalize lbs 8(ofN ks 32 % H8)=l1 at *
 generalize lbs 8(ofV ks)=lr at *
 have hix:=fun(w:World)(k:Nat)(h:k < 32) =>jex(xs:=ks)(w:=w)hk h
 have IX:=hd hix
 clear hix
 have KS:(cellsOf ks).toArray.size=32:=by simp [ja,hk]
 have hal:=yx
 have hal2:=elem_alloc
 have ZL:zw8.length=8:=rfl
 have ZZ:Hid(∀j,wd zw8 j=lb(ofN ks 0)j):=fun j=>by
  rw [show lb(ofN ks 0)j=0 by simp [lb,ofN]]
  by_cases q:j < 8
  ·have h:∀j,j < 8→wd zw8 j=0:=by decide
   exact h j q
  ·unfold wd zw8
   simp [List.getD,List.getElem?_replicate,q]
 generalize zw8=zs at *
 have ZS:=jf ZL
 generalize hKK:(cellsOf ks).toArray=KA at *
 replace hKK:=hd hKK
 have B0:Hid((((w.alloc(Obj.cells KA 23)).alloc(Obj.cells(jb zs).toArray 233)).alloc(Obj.cells(jb zs).toArray 218)).heap[w.heap.size]? =some(.cells KA 23(0,0))∧Wr(((w.alloc(Obj.cells KA 23)).alloc(Obj.cells(jb zs).toArray 233)).alloc(Obj.cells(jb zs).toArray 218))(w.heap.size+1)233 zs∧Wr(((w.alloc(Obj.cells KA 23)).alloc(Obj.cells(jb zs).toArray 233)).alloc(Obj.cells(jb zs).toArray 218))(w.heap.size+1+1)218 zs∧Ext w(((w.alloc(Obj.cells KA 23)).alloc(Obj.cells(jb zs).toArray 233)).alloc(Obj.cells(jb zs).toArray 218))):=⟨jF _ _ _ _,jH _ _ _ _,jB _ _ _ _,(((Ext.refl w).alloc _).alloc _).alloc _⟩
 go_enter Tryz.func136,Tryz.ntmps136
 go_upto_region 2 with fail
 refine jg(fun W=>W.heap[w.heap.size]? =some(.cells KA 23(0,0))∧Wr W(w.heap.size+1)233 zs∧Wr W(w.heap.size+1+1)218 zs∧Ext w W)B0.out ?_
 clear B0
 rintro W0⟨kk,we,wc4,e0⟩
 replace kk:=hd kk
 replace we:=hd we
 replace wc4:=hd wc4
 replace e0:=hd e0
 go_wp2_with(refine wpList_load_row rfl 23 _ rfl w.heap.size rfl 23 KA(0,0)_ kk.out rfl rfl(by rw [KS];rfl)?_;go_frame)
 go_loopw [7](fun iv wr=>∃(k:Nat)(vs:List Nat),k≤32∧iv= .int .i64(k:Int)∧vs.length=8∧(∀j,j < 8→wd vs j=lb(ofN ks k)j)∧Below(w.heap.size+1+1)W0 wr∧Wr wr(w.heap.size+1+1)218 vs)(fun iv _=>32 - (intOf iv).toNat)
 case atStart=>exact⟨0,zs,Nat.zero_le _,rfl,ZL,fun j hj=>ZZ.out j,Below.refl _ _,wc4.out⟩
 case round =>
  obtain⟨k,vs,hk',rfl,vl,hv,hB,hw⟩ :=hrel
  clear wc4 ZZ
  by_cases hlt:k < 32
  ·obtain⟨a,ha⟩:∃a,a=k / 4:=⟨_,rfl⟩
   obtain⟨b,hb⟩:∃b,b=k % 4:=⟨_,rfl⟩
   obtain⟨sh,hs⟩:∃sh,sh=8 *b:=⟨_,rfl⟩
   have kab:k=4 *a+b:=by omega
   have ia:(k:Int) / 4=(a:Int):=by omega
   have ib:(k:Int)% 4=(b:Int):=by omega
   have ia':Int.tdiv(k:Int)4=(a:Int):=by rw [Int.tdiv_eq_ediv_of_nonneg(by omega)];omega
   have ib':Int.tmod(k:Int)4=(b:Int):=by rw [Int.tmod_eq_emod_of_nonneg(by omega)];omega
   have iaw:IntKind.i64.wrap(a:Int)=(a:Int):=IntWalk.i64_in _(by omega)
   have is:(8:Int)*(b:Int)=(sh:Int):=by omega
   have isw:IntKind.i64.wrap(sh:Int)=(sh:Int):=IntWalk.i64_in _(by omega)
   have sh0:(0:Int)≤(sh:Int):=by omega
   have a8:a < 8:=by omega
   have a8':(a:Int) < 8:=by omega
   have a0:(0:Int)≤(a:Int):=by omega
   have b4:b < 4:=by omega
   obtain⟨hit,hlw⟩ :=HIT.out k a b kab b4
   have hvL:=fun j(hj:j < a) =>LOW.out k a b j kab hj
   have hvH:=fun j(hj:a < j) =>HIGH.out(k+1)a(b+1)j(by omega)(by omega)hj
   have hvH':=fun j(hj:a < j) =>HIGH.out k a b j(by omega)(by omega)hj
   have hbt:=vJ ks k
   have ix:=IX.out
   have ixk:∀w:World,(Instr.index 23(.agg KA)(.int .i64(k:Int))).run Tryz.prog w= .ok(.int .u8(bt ks k:Int))w:=fun w=>IX.out w k hlt
   clear ix
   have cl:Hid(∀s,Ext wr s→s.cell?⟨w.heap.size+1+1,a,none⟩=some(.int .u32(lb(ofN ks k)a:Int))):=fun s e=>by
    have g1:=(hw.kept e hw.lt).cell(i:=a)(by omega)
    rwa [hv a a8] at g1
   have h3:256 ^ b≤16777216:=by
    have:b=0∨b=1∨b=2∨b=3:=by omega
    rcases this with rfl |rfl |rfl |rfl <;> decide
   have e256:(256:Nat)^ b=2 ^ sh:=by rw [hs,show(256:Nat)=2 ^ 8 from rfl,← Nat.pow_mul]
   have hh:Hid(∀j,j < 8→j≠a→lb(ofN ks k)j=lb(ofN ks(k+1))j):=fun j hj hne=>by
    rcases Nat.lt_or_ge j a with q |q
    ·exact(hvL j q).symm
    ·rw [hvH j(by omega),hvH' j(by omega)]
   obtain⟨t,ht⟩:∃t,t=bt ks k *256 ^ b:=⟨_,rfl⟩
   have ht4:t≤255 *256 ^ b:=by rw [ht];exact Nat.mul_le_mul_right _(by omega)
   rw [← ht] at hit
   generalize lb(ofN ks k)a=u at *
   generalize bt ks k=c at *
   obtain⟨v,hvv⟩:∃v,v=u+t:=⟨_,rfl⟩
   rw [← hvv] at hit
   have f1:IntKind.u32.wrap(c:Int)=(c:Int):=by rw [IntKind.wrap_u32];omega
   have q1:Op.shift .shl .u32(c:Int) .i64(sh:Int)=pure(.int .u32(t:Int)):=by
    have h9:=shift_shl .u32 .i64(c:Int)(sh:Int)(by omega)(by show(sh:Int)≤32;omega)
    rw [h9]
    congr 2
    have:((c:Int)*2 ^(sh:Int).toNat)=(t:Int):=by
     rw [Int.toNat_natCast,ht,e256]
     simp
    rw [this,IntKind.wrap_u32]
    omega
   have f5:bits .or .u32(u:Int)(t:Int)=(v:Int):=by
    rw [u32_or_nat u t(by omega)(by omega)]
    congr 1
    rw [hvv,ht,Nat.or_comm,Nat.mul_comm,e256,← Nat.two_pow_add_eq_or_of_lt(by rw [← e256];exact hlw),Nat.add_comm]
   have t32:t < 4294967296:=by omega
   have cv:=hw.cell(i:=a)(by omega)
   have fv:=hw.frozen a
   rw [hv a a8] at cv
   have ik:(k:Int) < 32:=by omega
   replace hit:=hd hit
   replace kab:=hd kab
   replace ha:=hd ha
   replace hb:=hd hb
   replace hs:=hd hs
   replace ht:=hd ht
   replace hvv:=hd hvv
   replace e256:=hd e256
   replace hv:=hd hv
   replace hB:=hd hB
   replace hw:=hd hw
   clear hvL hvH hvH' hlw h3 ht4
   go_wp2_with fail
   refine yk 12 [0,1,2,3,4,5,6,7,8,9,10,11,12] [12] ?_
   repeat(refine qzR _(fun w' e=>cl.out w'((Ext.refl _).drew.trans e))?_;go_frame)
   refine qzD fun K1 hK1=> ?_
   go_simp
   refine hK1.out _ _(.inl rfl)?_
   clear hK1 K1
   refine jN ?_
   go_wp2_with fail
   have hz2:(c:Int)*2 ^ sh % 4294967296=(t:Int):=by
    have e1:(c:Int)*2 ^ sh=(t:Int):=by rw [ht.out,e256.out];simp
    rw [e1];omega
   rw [hz2,f5]
   refine⟨⟨k+1,vs.set a v,by omega,by go_num,by rw [List.length_set];exact vl,fun j hj=> ?_,Below.setCell(Below.trans hB.out((Ext.refl wr).drew.mono(Nat.le_of_lt hw.out.lt)))(Nat.le_refl _)_,(hw.out.set).kept(Ext.refl _).drew hw.out.set.lt⟩,by simp [intOf];omega⟩
   rw [Yy(by omega)]
   by_cases e:j=a
   ·rw [if_pos e,e];exact hit.out.symm
   ·rw [if_neg e,hv.out j hj];exact hh.out j hj e
  ·obtain rfl:k=32:=by omega
   have he:=RQ.out vs vl hv
   have we1:=hd(we.out.kept hB(by omega))
   have EE:Hid(Ext w wr):=Below.trans e0.out(hB.mono(by omega))
   rw [← he] at W7 hset
   clear hv hB e0 we kk IX RQ HIT LOW HIGH he L0
   generalize lb(ofN ks 32)7=w7 at *
   obtain⟨v7,hv7⟩:∃v7,v7=w7 % 2147483648:=⟨_,rfl⟩
   rw [← hv7] at hset
   have t2:bits .andNot .u32(w7:Int)2147483648=(v7:Int):=by
    have:=u32_andNot_nat w7 2147483648(by omega)(by omega)
    rw [hv7,← Nat.and_two_pow_sub_one_eq_mod w7 31]
    exact this
   have c7:=hw.cell(i:=7)(by omega)
   have z7:=hw.frozen 7
   rw [W7.out] at c7
   replace hset:=hd hset
   replace hv7:=hd hv7
   have S1:=wcells_size L1
   have SR:=wcells_size LR
   have OR:=wcells_one lr
   have KB:Hid(Wr(wr.setCell⟨w.heap.size+1+1,7,none⟩(.int .u32(v7:Int)))(w.heap.size+1+1)218 l1∧Wr(wr.setCell⟨w.heap.size+1+1,7,none⟩(.int .u32(v7:Int)))(w.heap.size+1)233 zs∧Ext w(wr.setCell⟨w.heap.size+1+1,7,none⟩(.int .u32(v7:Int)))):=by
    refine⟨?_,(Below.heap_setCell _ _ _ _(show w.heap.size+1≠w.heap.size+1+1 by omega)).trans we1.out,EE.out.setCell(show w.heap.size≤w.heap.size+1+1 by omega)_⟩
    have:=hw.set(k:=7)(x:=v7)
    rwa [hset.out] at this
   replace hw:=hd hw
   go_upto_region 8 with fail
   refine jg(fun W=>Wr W(w.heap.size+1+1)218 l1∧Wr W(w.heap.size+1)233 zs∧Ext w W)KB.out ?_
   clear KB c7 z7 hw we1 EE t2 hset
   rintro u2 K2'
   have K2:=hd K2'
   clear K2'
   have k0:=hd K2.out.1
   go_wp2_with(refine wpList_load_row rfl 218 _ rfl(w.heap.size+1+1)rfl 218(jb l1).toArray(0,0)_ k0.out rfl rfl(by rw [S1];rfl)?_;go_frame)
   refine(RED.out _ K2.out.2.2).mono ?_
   rintro e v4⟨rfl,e1⟩
   have re:=hd(K2.out.2.1.kept e1 K2.out.2.1.lt)
   have rx:Hid(Ext w v4):=K2.out.2.2.trans e1
   clear K2 k0 e1
   go_wp2_with(refine wpList_store_row rfl 233 _ _ rfl(w.heap.size+1)(jb lr).toArray rfl rfl 233 _ re.out(by rw [SR];rfl)(by rw [SR,ZS])OR ?_;go_frame)
   (try simp only [Exit.inBlock,Exit.then])
   refine bodyPost_ret(results_cell_row rfl _ _(w.heap.size+1)233(jb lr).toArray(0,0)_ rfl(setRow_heap _ _ _ _ _ _ re.out)rfl rfl(by rw [SR];rfl))rfl ?_
   exact⟨rfl,below_setRow rx.out(by omega)_⟩
def iA(x:Nat):Nat→Nat
 |0=>1
 |m+1=>if m=252∨m=250 then iA x m *iA x m % P25 else iA x m *iA x m % P25 *x % P25
theorem jhC(x:Nat):∀m,iA x m < P25
 |0=>by rw [iA];decide +kernel
 |m+1=>by rw [iA];split <;> exact Nat.mod_lt _ YO
def zK(x:Nat):Nat:=iA x 255
theorem ji6(x:Nat):zK x < P25:=jhC x 255
def jhY:List Nat:= [1,0,0,0,0,0,0,0]
theorem jjk:jhY=lbs 8 1:=by decide
theorem jeM:Tryz.prog.built 218 [(0, .int .u32 1)]=some(jb jhY).toArray:=by kernel_rfl
set_option maxHeartbeats 4000000 in
theorem jgl{x:Nat}{w:World}(hx:x < P25){tg:TypeId×Nat×Nat}(hG:Gp w tg):
  Calls Tryz.prog 142 #[eV x] w fun e w'=>e= .returned(eV(zK x))∧Ext w w':=by
 have SQ:Hid(∀(W:World)m,Ext w W→Calls Tryz.prog 141 #[.agg(jb(lbs 8(iA x m))).toArray, .agg(jb(lbs 8(iA x m))).toArray] W fun e w'=>e= .returned(.agg(jb(lbs 8(iA x m *iA x m % P25))).toArray)∧Ext W w'):=fun W m e=>qO(jhC x m)(jhC x m)(hG.ext e)
 have MX:Hid(∀(W:World)m,Ext w W→Calls Tryz.prog 141 #[.agg(jb(lbs 8(iA x m *iA x m % P25))).toArray, .agg(jb(lbs 8 x)).toArray] W fun e w'=>e= .returned(.agg(jb(lbs 8(iA x m *iA x m % P25 *x % P25))).toArray)∧Ext W w'):=fun W m e=>qO(Nat.mod_lt _ YO)hx(hG.ext e)
 have IS:Hid(∀m,(m=252∨m=250)→lbs 8(iA x(m+1))=lbs 8(iA x m *iA x m % P25)):=fun m h=>by rw [iA,if_pos h]
 have IN:Hid(∀m,¬(m=252∨m=250)→lbs 8(iA x(m+1))=lbs 8(iA x m *iA x m % P25 *x % P25)):=fun m h=>by rw [iA,if_neg h]
 have LL:Hid(∀m,(lbs 8(iA x m)).length=8):=fun m=>jq _ _
 have LS:Hid(∀m,(lbs 8(iA x m *iA x m % P25)).length=8):=fun m=>jq _ _
 have LN:Hid(∀m,(lbs 8(iA x m *iA x m % P25 *x % P25)).length=8):=fun m=>jq _ _
 obtain⟨f,hf⟩:∃f:Nat→List Nat,f=fun m=>lbs 8(iA x m):=⟨_,rfl⟩
 obtain⟨g,hg⟩:∃g:Nat→List Nat,g=fun m=>lbs 8(iA x m *iA x m % P25):=⟨_,rfl⟩
 obtain⟨h,hh⟩:∃h:Nat→List Nat,h=fun m=>lbs 8(iA x m *iA x m % P25 *x % P25):=⟨_,rfl⟩
 have f0:Hid(f 0=jhY):=by unfold Hid;rw [hf,jjk];rfl
 have f255:Hid(f 255=lbs 8(zK x)):=by unfold Hid;rw [hf];rfl
 have SQ':Hid(∀(W:World)m,Ext w W→Calls Tryz.prog 141 #[.agg(jb(f m)).toArray, .agg(jb(f m)).toArray] W fun e w'=>e= .returned(.agg(jb(g m)).toArray)∧Ext W w'):=by rw [hf,hg];exact SQ
 have MX':Hid(∀(W:World)m,Ext w W→Calls Tryz.prog 141 #[.agg(jb(g m)).toArray, .agg(jb(lbs 8 x)).toArray] W fun e w'=>e= .returned(.agg(jb(h m)).toArray)∧Ext W w'):=by rw [hg,hh];exact MX
 have IS':Hid(∀m,(m=252∨m=250)→f(m+1)=g m):=by rw [hf,hg];exact IS
 have IN':Hid(∀m,¬(m=252∨m=250)→f(m+1)=h m):=by rw [hf,hh];exact IN
 have FL:Hid(∀m,(f m).length=8):=by rw [hf];exact LL
 have GL:Hid(∀m,(g m).length=8):=by rw [hg];exact LS
 have HL:Hid(∀m,(h m).length=8):=by rw [hh];exact LN
 clear SQ MX IS IN LL LS LN hf hg hh hG hx
 unfold eV
 have XL:=jq 8 x
 have RL:=jq 8(zK x)
 generalize lbs 8(zK x)=rr at *
 generalize lbs 8 x=xs at *
 have XS:=jf XL
 have RS:=jf RL
 have OR:=jo rr
 have O1L:jhY.length=8:=rfl
 have hb1:=hd jeM
 generalize jhY=ow at *
 have OS:=jf O1L
 have O1:=jo ow
 have hb2:Hid(Tryz.prog.built 233 [(0, .agg(jb ow).toArray)]=some(jb ow).toArray):=Qq OS
 have hal2:=vp
 have ZL:zw8.length=8:=rfl
 generalize zw8=zs at *
 have ZS:=jf ZL
 have B0:Hid(Wr(((w.alloc(Obj.cells(jb xs).toArray 233)).alloc(Obj.cells(jb zs).toArray 233)).alloc(Obj.cells(jb zs).toArray 233))w.heap.size 233 xs∧Wr(((w.alloc(Obj.cells(jb xs).toArray 233)).alloc(Obj.cells(jb zs).toArray 233)).alloc(Obj.cells(jb zs).toArray 233))(w.heap.size+1)233 zs∧Wr(((w.alloc(Obj.cells(jb xs).toArray 233)).alloc(Obj.cells(jb zs).toArray 233)).alloc(Obj.cells(jb zs).toArray 233))(w.heap.size+1+1)233 zs∧Ext w(((w.alloc(Obj.cells(jb xs).toArray 233)).alloc(Obj.cells(jb zs).toArray 233)).alloc(Obj.cells(jb zs).toArray 233))):=⟨jF _ _ _ _,jH _ _ _ _,jB _ _ _ _,(((Ext.refl w).alloc _).alloc _).alloc _⟩
 go_enter Tryz.func142,Tryz.ntmps142
 go_upto_region 2 with(first
  |(refine jm rfl _ _ rfl(jb ow).toArray(by simp only [List.map_toArray,List.map_cons,List.map_nil];first |exact hb1.out |exact hb2.out)?_;go_frame)
  |(refine wpList_store_row rfl 233 _ _ rfl(w.heap.size+1+1)(jb ow).toArray rfl rfl 233 _ B0.out.2.2.1(by rw [OS];rfl)(by rw [OS,ZS])O1 ?_;go_frame))
 refine jg(fun W=>Wr W w.heap.size 233 xs∧Wr W(w.heap.size+1)233 zs∧Wr W(w.heap.size+1+1)233 ow∧Ext w W)⟨(setRow_other _ _ _ _(by omega)).trans B0.out.1,(setRow_other _ _ _ _(by omega)).trans B0.out.2.1,setRow_heap _ _ _ _ _ _ B0.out.2.2.1,below_setRow B0.out.2.2.2(by omega)_⟩?_
 clear B0
 rintro W0⟨wa,we,wc4,e0⟩
 replace wa:=hd wa
 replace we:=hd we
 replace wc4:=hd wc4
 replace e0:=hd e0
 go_wp2_with fail
 go_loopw [4](fun iv wr=>∃m:Nat,m≤255∧iv= .int .i64(254 - (m:Int))∧Below(w.heap.size+1+1)W0 wr∧Wr wr(w.heap.size+1+1)233(f m))(fun iv _=>(intOf iv+1).toNat)
 case atStart=>exact⟨0,Nat.zero_le _,rfl,Below.refl _ _,by rw [f0.out];exact wc4.out⟩
 case round =>
  obtain⟨m,hm,rfl,hB,hw⟩ :=hrel
  clear wc4
  by_cases hlt:m < 255
  ·obtain⟨b,hb⟩:∃b:Int,b=254 - (m:Int):=⟨_,rfl⟩
   rw [← hb]
   have b0:(0:Int)≤b:=by omega
   have b1:b≤254:=by omega
   have bw:IntKind.i64.wrap(b - 1)=b - 1:=IntWalk.i64_in _(by omega)
   have hbn:Hid(b - 1=254 - ((m+1:Nat):Int)):=by unfold Hid;omega
   have hme:Hid((b - 1+1).toNat < (b+1).toNat):=by unfold Hid;omega
   have FM:=FL.out m
   have GM:=GL.out m
   have HM:=HL.out m
   have SQm:=hd(fun W e=>SQ'.out W m e)
   have MXm:=hd(fun W e=>MX'.out W m e)
   have FS:=jf FM
   have GS:=jf GM
   have HS:=jf HM
   have G1:=jo(g m)
   have H1:=jo(h m)
   have CASE:Hid(((b=2∨b=4)∧f(m+1)=g m)∨((¬ b=2∧¬ b=4)∧f(m+1)=h m)):=by
    unfold Hid
    by_cases q:m=252∨m=250
    ·exact .inl⟨by omega,IS'.out m q⟩
    ·exact .inr⟨by omega,IN'.out m q⟩
   generalize f m=fm at *
   generalize g m=gm at *
   generalize h m=hm' at *
   obtain⟨fn,hfn⟩:∃fn,fn=f(m+1):=⟨_,rfl⟩
   rw [← hfn] at CASE
   replace hfn:=hd hfn
   replace hb:=hd hb
   have xw:Hid(Ext w wr):=Below.trans e0.out(hB.mono(by omega))
   replace hB:=hd hB
   replace hw:=hd hw
   go_wp2_with(refine wpList_load_row rfl 233 _ rfl(w.heap.size+1+1)rfl 233(jb fm).toArray(0,0)_ hw.out rfl rfl(by rw [FS];rfl)?_;go_frame)
   refine(SQm.out _ xw.out).mono ?_
   rintro e w1⟨rfl,e1⟩
   have r1:=hd(hw.out.kept e1 hw.out.lt)
   have hB1:Hid(Below(w.heap.size+1+1)W0 w1):=Below.trans hB.out(e1.mono(Nat.le_of_lt hw.out.lt))
   go_upto_region 6 with(refine wpList_store_row rfl 233 _ _ rfl(w.heap.size+1+1)(wcells gm).toArray rfl rfl 233 _ r1.out(by rw [GS];rfl)(by rw [GS,FS])G1 ?_;go_frame)
   refine jg(fun W=>Wr W(w.heap.size+1+1)233 gm∧Below(w.heap.size+1+1)W0 W)⟨setRow_heap _ _ _ _ _ _ r1.out,below_setRow hB1.out(Nat.le_refl _)_⟩?_
   clear r1 hB1 e1 hw hB xw
   rintro w2⟨hw,hB⟩
   have xw:Hid(Ext w w2):=Below.trans e0.out(hB.mono(by omega))
   have ka:=hd(wa.out.kept hB(by omega))
   replace hB:=hd hB
   replace hw:=hd hw
   rcases CASE.out with⟨hbb,rfl⟩ | ⟨⟨n2,n4⟩,rfl⟩
   ·clear CASE
    rcases hbb with rfl |rfl
    ·go_wp2_with fail
     refine⟨⟨m+1,by omega,by rw [← hbn.out];rfl,hB.out,by rw [← hfn.out];exact hw.out⟩,by simp [intOf]⟩
    ·go_wp2_with fail
     refine⟨⟨m+1,by omega,by rw [← hbn.out];rfl,hB.out,by rw [← hfn.out];exact hw.out⟩,by simp [intOf]⟩
   ·clear CASE
    have n2b:(b !=2)=true:=by simpa using n2
    have n4b:(b !=4)=true:=by simpa using n4
    go_wp2_with(first
     |(refine wpList_load_row rfl 233 _ rfl(w.heap.size+1+1)rfl 233(jb gm).toArray(0,0)_ hw.out rfl rfl(by rw [GS];rfl)?_;go_frame)
     |(refine wpList_load_row rfl 233 _ rfl w.heap.size rfl 233(jb xs).toArray(0,0)_ ka.out rfl rfl(by rw [XS];rfl)?_;go_frame))
    refine(MXm.out _ xw.out).mono ?_
    rintro e w3⟨rfl,e1⟩
    have r1:=hd(hw.out.kept e1 hw.out.lt)
    have hB1:Hid(Below(w.heap.size+1+1)W0 w3):=Below.trans hB.out(e1.mono(Nat.le_of_lt hw.out.lt))
    go_wp2_with(refine wpList_store_row rfl 233 _ _ rfl(w.heap.size+1+1)(jb fn).toArray rfl rfl 233 _ r1.out(by rw [HS];rfl)(by rw [HS,GS])H1 ?_;go_frame)
    refine⟨⟨m+1,by omega,by rw [← hbn.out],below_setRow hB1.out(Nat.le_refl _)_,by rw [← hfn.out];exact setRow_heap _ _ _ _ _ _ r1.out⟩,by simp [intOf];omega⟩
  ·obtain rfl:m=255:=by omega
   rw [f255.out] at hw
   have we1:=hd(we.out.kept hB(by omega))
   have EE:Hid(Ext w wr):=Below.trans e0.out(hB.mono(by omega))
   replace hw:=hd hw
   clear hB e0 we wa
   go_wp2_with(first
    |(refine wpList_load_row rfl 233 _ rfl(w.heap.size+1+1)rfl 233(jb rr).toArray(0,0)_ hw.out rfl rfl(by rw [RS];rfl)?_;go_frame)
    |(refine wpList_store_row rfl 233 _ _ rfl(w.heap.size+1)(jb rr).toArray rfl rfl 233 _ we1.out(by rw [RS];rfl)(by rw [RS,ZS])OR ?_;go_frame))
   (try simp only [Exit.inBlock,Exit.then])
   refine bodyPost_ret(results_cell_row rfl _ _(w.heap.size+1)233(jb rr).toArray(0,0)_ rfl(setRow_heap _ _ _ _ _ _ we1.out)rfl rfl(by rw [RS];rfl))rfl ?_
   exact⟨rfl,below_setRow EE.out(by omega)_⟩
end
section
open Go.ChangeShapes Go.WideShapes Go.ChangeAt Go.RowKit Go.Deep
def eA:Nat→Nat
 |0=>0
 |m+1=>if m=252∨m=250 then eA m+eA m else eA m+eA m+1
theorem jew(x:Nat):∀m,iA x m=x ^ eA m % P25
 |0=>by rw [iA,eA,Nat.pow_zero];decide +kernel
 |m+1=>by
  rw [iA,eA,jew x m]
  split
  ·rw [Nat.pow_add,← Nat.mul_mod]
  ·rw [Nat.pow_succ,Nat.pow_add,← Nat.mul_mod,Nat.mod_mul_mod]
theorem jhn:eA 255=P25 - 2:=by decide +kernel
theorem jea:P25=57896044618658097711785492504343953926634992332820282019728792003956564819949:=by decide +kernel
theorem jjB:Go.Pratt.Root P25 2:=by rw [jea];exact Go.Pratt.rootP
theorem jgk:zK 0=0:=by
 rw [zK,jew,jhn]
 rw [Nat.zero_pow(by decide +kernel)]
 exact Nat.zero_mod _
theorem jhT{x:Nat}(h0:x≠0)(hx:x < P25):x *zK x % P25=1:=by
 rw [zK,jew,jhn,Nat.mul_mod_mod,Nat.mul_comm,← Nat.pow_succ]
 have:=jjB.fermat(by omega)hx
 rwa [show(P25 - 2).succ=P25 - 1 by rw [jea]]
end
section
open Go.ChangeShapes Go.WideShapes Go.ChangeAt Go.RowKit Go.Deep
open Go.Edw (Fq Q25 stepF swapF ladF resF)
def yZ(x y:Nat):Nat:=(x+y)% P25
def zO(x y:Nat):Nat:=(x+(P25 - y))% P25
def qr(x y:Nat):Nat:=x *y % P25
theorem Z3(x y:Nat):yZ x y < P25:=Nat.mod_lt _ YO
theorem Z6(x y:Nat):zO x y < P25:=Nat.mod_lt _ YO
theorem vT(x y:Nat):qr x y < P25:=Nat.mod_lt _ YO
abbrev StN:=Nat×Nat×Nat×Nat
def yL(x:Nat)(s:StN):StN:=
 let e:=yZ s.1 s.2.2.1;let f:=zO s.1 s.2.2.1;let g:=yZ s.2.1 s.2.2.2;let h:=zO s.2.1 s.2.2.2
 let u:=qr e e;let v:=qr f f;let w:=zO u v;let y:=qr h e;let z:=qr g f
 (qr u v,qr(yZ y z)(yZ y z),qr w(yZ u(qr 121665 w)),qr(qr x(subP y z))(zO y z))
def YM(t:Bool)(s:StN):StN:=if t then(s.2.1,s.1,s.2.2.2,s.2.2.1)else s
def Zg(x:Nat)(bits:Nat→Bool):Nat→StN
 |0=>(1,x,0,1)
 |m+1=>YM(bits m)(yL x(YM(bits m)(Zg x bits m)))
def yj(ks:List UInt8)(i:Nat):Bool:=if i < 3∨i=255 then false else if i=254 then true else decide(bt ks(i / 8) / 2 ^(i % 8)% 2=1)
def jY(ks:List UInt8)(x:Nat):Nat:=qr(Zg x(fun m=>yj ks(254 - m))255).1(zK(Zg x(fun m=>yj ks(254 - m))255).2.2.1)
theorem yK(ks:List UInt8)(x:Nat):jY ks x < P25:=vT _ _
def LtS(s:StN):Prop:=s.1 < P25∧s.2.1 < P25∧s.2.2.1 < P25∧s.2.2.2 < P25
theorem jaX{t:Bool}{s:StN}(h:LtS s):LtS(YM t s):=by
 cases t
 ·exact h
 ·exact⟨h.2.1,h.1,h.2.2.2,h.2.2.1⟩
theorem jiD(x:Nat)(s:StN):LtS(yL x s):=⟨vT _ _,vT _ _,vT _ _,vT _ _⟩
theorem jcj{x:Nat}(hx:x < P25)(bits:Nat→Bool):∀m,LtS(Zg x bits m)
 |0=>⟨by show 1 < P25;decide +kernel,hx,YO,by show 1 < P25;decide +kernel⟩
 |_+1=>jaX(jiD _ _)
theorem jcA:Q25=P25:=jea.symm
def toF(n:Nat):Fq:=⟨n % Q25,Nat.mod_lt _(by decide)⟩
theorem zj(n:Nat):(toF n).val=n % P25:=by show n % Q25=_;rw [jcA]
theorem jjI{x y:Nat}(hx:x < P25)(hy:y < P25)(h:toF x=toF y):x=y:=by
 have:=congrArg Fin.val h
 rwa [zj,zj,Nat.mod_eq_of_lt hx,Nat.mod_eq_of_lt hy] at this
theorem jjH(x y:Nat):toF(yZ x y)=toF x+toF y:=Fin.ext(by
 rw [Fin.val_add,zj,zj,zj,yZ,Nat.mod_mod,jcA,← Nat.add_mod])
theorem jcK(x y:Nat):toF(qr x y)=toF x *toF y:=Fin.ext(by
 rw [Fin.val_mul,zj,zj,zj,qr,Nat.mod_mod,jcA,← Nat.mul_mod])
theorem jcL(x:Nat){y:Nat}(hy:y < P25):toF(zO x y)=toF x - toF y:=Fin.ext(by
 rw [Fin.sub_def]
 show(toF(zO x y)).val=(Q25 - (toF y).val+(toF x).val)% Q25
 rw [zj,zj,zj,zO,Nat.mod_mod,jcA,Nat.mod_eq_of_lt hy,Nat.add_mod_mod,Nat.add_comm])
theorem jjJ{c:Nat}(hc:c < P25):toF(zK c)=Go.Edw.fi(toF c):=by
 by_cases h:c=0
 ·subst h
  rw [jgk]
  have:toF 0=0:=rfl
  rw [this,Go.Edw.fi_zero]
 ·refine(Go.Edw.fi_uniq ?_).symm
  rw [← jcK]
  have:qr c(zK c)=1:=jhT h hc
  rw [this]
  decide +kernel
def toS(s:StN):Fq×Fq×Fq×Fq:=(toF s.1,toF s.2.1,toF s.2.2.1,toF s.2.2.2)
theorem jd6(t:Bool)(s:StN):toS(YM t s)=swapF t(toS s):=by cases t <;> rfl
theorem jiG{x:Nat}{s:StN}(h:LtS s):toS(yL x s)=stepF 121665(toF x)(toS s):=by
 obtain⟨a,b,c,d⟩ :=s
 obtain⟨h1,h2,h3,h4⟩ :=h
 have k:toF 121665=121665:=by decide +kernel
 simp only [toS,yL,stepF,jcK,jjH,jcL _ h3,jcL _ h4,jcL _(vT _ _),k]
theorem jcM{x:Nat}(hx:x < P25)(bits:Nat→Bool):∀m,toS(Zg x bits m)=ladF 121665(toF x)bits m
 |0=>by
  show((toF 1,toF x,toF 0,toF 1):Fq×Fq×Fq×Fq)=(1,toF x,0,1)
  rw [show toF 1=1 by decide +kernel,show toF 0=0 from rfl]
 |m+1=>by
  show toS(YM(bits m)(yL x(YM(bits m)(Zg x bits m))))=swapF(bits m)(stepF 121665(toF x)(swapF(bits m)(ladF 121665(toF x)bits m)))
  rw [jd6,jiG(jaX(jcj hx bits m)),jd6,jcM hx bits m]
theorem YN(ks:List UInt8){x:Nat}(hx:x < P25):toF(jY ks x)=resF 121665(toF x)(fun m=>yj ks(254 - m)):=by
 have h:=jcM hx(fun m=>yj ks(254 - m))255
 have hl:=jcj hx(fun m=>yj ks(254 - m))255
 unfold jY resF
 rw [← h,jcK,jjJ hl.2.2.1]
 rfl
theorem jgs(ks ls:List UInt8){x:Nat}(hx:x < P25):jY ls(jY ks x)=jY ks(jY ls x):=by
 refine jjI(yK _ _)(yK _ _)?_
 rw [YN _(yK _ _),YN _ hx,YN _(yK _ _),YN _ hx]
 exact Go.Edw.res_comm _ rfl rfl rfl rfl
end
section
open Go.ChangeShapes Go.WideShapes Go.ChangeAt Go.RowKit Go.Deep
set_option maxRecDepth 100000
theorem Yq(vs:List Nat):(jb vs).length=vs.length:=by simp [jb]
theorem jfk{vs:List Nat}{j:Nat}(h:j < vs.length):(jb vs)[j]? =some(.int .u32(wd vs j:Int)):=by simp [jb,wd,List.getD,h]
theorem jbo(xs ys:List Nat)(o:Nat):splice(jb xs)o(jb ys)=jb(splice xs o ys):=by simp [jb,splice]
theorem jfi{o:Oper}{a:Act}{K:Act→World→Prop}{Q:Exit→Act→World→Prop}{W:World}{b g off dLen dCap:Nat}{us vs:List Nat}{t t' dT sT ty:TypeId}{n c:Nat}(hu:Tryz.prog.underlying dT=some(.slice 133))(hg:Wr W g t us)(hb:Wr W b t' vs)(hn:vs.length=n)(hd:n≤dLen)(hfit:off+n≤us.length)
  (H:∀W',Hid(Wr W' g t(splice us off vs))→Hid(∀B,B≤g→Below B W W')→Oper.upon Tryz.prog o a K Q(.ok(Next.value(goInt n))W')):
  Oper.upon Tryz.prog o a K Q(((Builtin.copy_ #[dT,sT] ty #[.slice(some⟨g,off,none⟩)dLen dCap, .slice(some⟨b,0,none⟩)n c]).run Tryz.prog W).andThen fun a w'=> .ok(Next.value a)w'):=by
 have hsz:(Tryz.prog.info? 133).map(·.size)=some 1:=rfl
 have hr:=run_copy_row Tryz.prog W dT sT ty _ g off dLen dCap⟨b,0,none⟩n c(jb us).toArray t(jb vs)hu hsz hg(by rw [Yq,hn];exact(Nat.min_eq_left hd).symm)(fun j v hv=>by
  have hj:j < vs.length:=by
   rcases Nat.lt_or_ge j vs.length with q |q
   ·exact q
   ·rw [List.getElem?_eq_none(by rw [Yq];exact q)] at hv;cases hv
  rw [jfk hj] at hv
  injection hv with hv
  subst hv
  have:(⟨b,0,none⟩:Addr).add j=⟨b,j,none⟩ :=by unfold Addr.add;split <;> simp_all
  rw [this]
  exact hb.cell hj)(by rw [Yq];simp [jb];omega)(fun v hv=>by
  obtain⟨j,_,rfl⟩ :=List.mem_map.1 hv
  rfl)
 rw [Yq,hn] at hr
 rw [hr]
 refine H _ ?_(fun B hB=>below_setRow(Below.refl _ _)hB _)
 have:=setRow_heap W g _(((jb us).take off ++ jb vs ++(jb us).drop(off+n)).toArray)t _ hg
 show _=_
 rw [← jbo]
 simpa [splice,Yq,hn,List.append_assoc] using this
end
section
open Go.ChangeShapes Go.WideShapes Go.ChangeAt Go.RowKit Go.Deep
def J3(n m:Nat):List UInt8:=(List.range m).map fun i=>UInt8.ofNat(n / 256 ^ i)
theorem vL(n m:Nat):(J3 n m).length=m:=by simp [J3]
theorem jb1{n m k:Nat}(hk:k < m):bt(J3 n m)k=n / 256 ^ k % 256:=by
 unfold bt J3
 simp [List.getD,hk]
def Jd(n k:Nat):Nat:=n / 256 ^ k
theorem jeA(n k:Nat):Jd n k / 256=Jd n(k+1):=by unfold Jd;rw [Nat.div_div_eq_div_mul,Nat.pow_succ]
theorem jhO(n k:Nat):Jd n k≤n:=Nat.div_le_self _ _
theorem jgq(n k:Nat):(Jd n k:Int) / 256=(Jd n(k+1):Int):=by rw [← lowAt_succ];omega
theorem jez(n k:Nat):(Jd n k:Int)% 256=((n / 256 ^ k % 256:Nat):Int):=by
 show(Jd n k:Int)% 256=((Jd n k % 256:Nat):Int)
 omega
set_option maxHeartbeats 400000 in
theorem Zh{n m:Nat}{many:Int}{w:World}(hn:n < 18446744073709551616)(h1:0≤many)(h2:many≤9223372036854775807)(hm8:m≤8)(hM:(if(8:Int) < many then 8 else many)=(m:Int)):
  Calls Tryz.prog 147 #[.int .u64(n:Int), .int .i64 many] w(Qw(J3 n m)w):=by
 have hmk:=jhR m(by omega)
 have hz:Jd n 0=n:=by simp [Jd]
 go_enter Tryz.func147,Tryz.ntmps147
 go_wp2
 clear hmk hM
 go_loopw [0,13](fun x i wr=>∃k:Nat,k≤m∧i= .int .i64 k∧x= .int .u64(Jd n k:Int)∧Fill w wr m k(fun j=>n / 256 ^ j % 256))(fun _ i _=>m - (intOf i).toNat)
 case atStart=>exact⟨0,Nat.zero_le _,rfl,by rw [hz],Fill.start _ _ _⟩
 case round =>
  obtain⟨k,hk,rfl,rfl,hf⟩ :=hrel
  clear hz
  by_cases hlt:k < m
  ·have g3:=hf.cell hlt
   have g4:=hf.frozen k
   have hle:=Nat.lt_of_le_of_lt(jhO n k)hn
   go_wp2
   go_roundw
   case rel =>
    exact⟨k+1,by omega,by go_num,congrArg(Value.int .u64)(jgq n k),hf.step(jez n k)⟩
   case measure=>simp [intOf];omega
  ·obtain rfl:k=m:=by omega
   go_wp2
   go_ret
   exact⟨_,_,_,rfl,hf.done(vL n k)(by omega)(fun j hj=>(jb1 hj).symm),hf.1⟩
def vD:List UInt8→Nat
 | []=>0
 |x :: xs=>x.toNat+256 *vD xs
theorem Yd:∀xs:List UInt8,vD xs < 256 ^ xs.length
 | []=>by simp [vD]
 |x :: xs=>by
  have h:=ofLowL_lt xs
  have hx:x.toNat < 256:=x.toNat_lt
  simp only [vD,List.length_cons,Nat.pow_succ]
  omega
theorem Qf:∀(xs:List UInt8)(y:UInt8),vD(xs ++ [y])=vD xs+256 ^ xs.length *y.toNat
 | [],y=>by simp [vD]
 |x :: xs,y=>by
  rw [List.cons_append,vD,Qf xs y,vD,List.length_cons,Nat.pow_succ,Nat.mul_add,Nat.mul_comm(256 ^ xs.length)256,Nat.mul_assoc,Nat.add_assoc]
def Yv(xs:List UInt8)(k:Nat):Nat:=vD(xs.take k)
theorem jcp{xs:List UInt8}{k:Nat}(h:k < xs.length):Yv xs(k+1)=Yv xs k+256 ^ k *bt xs k:=by
 unfold Yv
 rw [List.take_succ_eq_append_getElem h,Qf,List.length_take,Nat.min_eq_left(by omega)]
 simp [bt,List.getD,h]
theorem jeH{xs:List UInt8}{k:Nat}(h:k≤xs.length):Yv xs k < 256 ^ k:=by
 have:=Yd(xs.take k)
 rwa [List.length_take,Nat.min_eq_left h] at this
theorem jeI{xs:List UInt8}{k:Nat}(h:k < xs.length)(hk:k < 8):
  bits .or .u64(Yv xs k:Int)(IntKind.u64.wrap((bt xs k:Int)*2 ^(8 *k)))=(ofLowAt xs(k+1):Int):=by
 have h1:=ofLowAt_lt(xs:=xs)(k:=k)(by omega)
 have hb:=bt_lt xs k
 have hp:(256:Nat)^ k=2 ^(8 *k):=by rw [Nat.pow_mul]
 have hpk:(2:Nat)^(8 *k)≤2 ^ 56:=Nat.pow_le_pow_right(by omega)(by omega)
 have hlt:bt xs k *2 ^(8 *k) < 18446744073709551616:=by
  have:bt xs k *2 ^(8 *k)≤255 *2 ^ 56:=Nat.mul_le_mul(by omega)hpk
  omega
 have hc:((bt xs k:Int)*2 ^(8 *k))=((bt xs k *2 ^(8 *k):Nat):Int):=by push_cast;rfl
 rw [hc,IntWalk.u64_in _(by omega),jcp h,hp]
 rw [hp] at h1
 generalize Yv xs k=y at *
 have hy:y < 18446744073709551616:=by omega
 rw [u64_or_nat _ _ hy hlt,Nat.or_comm,nat_join(8 *k)_ _(Nat.mul_mod_left _ _)h1,Nat.mul_comm,Nat.add_comm]
set_option maxHeartbeats 400000 in
theorem ZF{A:Option Addr}{n c:Nat}{m:Nat}{xs:List UInt8}{w:World}(h:Bs w A n c xs)(hm8:m≤8)(hmn:m≤n)(hM:(if(8:Int) < (n:Int)then 8 else(n:Int))=(m:Int)):
  Calls Tryz.prog 170 #[.slice A n c] w fun e w'=>e= .returned(.int .u64(vD(xs.take m):Int))∧w'=w:=by
 have h1:=h.le
 have h2:=h.cap
 go_enter Tryz.func170,Tryz.ntmps170
 go_wp2
 clear hM
 go_loop [3,8](fun x i=>∃k:Nat,k≤m∧i= .int .i64 k∧x= .int .u64(Yv xs k:Int))(fun _ i=>m - (intOf i).toNat)
 case atStart=>exact⟨0,Nat.zero_le _,rfl,rfl⟩
 case round =>
  obtain⟨k,hk,rfl,rfl⟩ :=hrel
  by_cases hlt:k < m
  ·obtain⟨b,off,rfl,hb,hc⟩ :=h.pos(by omega)
   have g1:=hc k(by omega)
   have hbt:=vJ xs k
   clear hc
   go_wp2
   go_round
   case rel =>
    exact⟨k+1,by omega,by go_num,congrArg(Value.int .u64)(jeI(by rw [h.len];omega)(by omega))⟩
   case measure=>simp [intOf];omega
  ·obtain rfl:k=m:=by omega
   go_wp2
   go_ret
   exact⟨rfl,rfl⟩
theorem rotr_int{n x:Nat}(hn:n≤32)(hx:x < 4294967296):bits .or .u32((x:Int)*2 ^(32 - n)% 4294967296)((x:Int) / 2 ^ n)=(QK n x:Int):=by
 have h1:(x:Int)*2 ^(32 - n)% 4294967296=((x *2 ^(32 - n)% 4294967296:Nat):Int):=by simp
 have h2:(x:Int) / 2 ^ n=((x / 2 ^ n:Nat):Int):=by simp
 rw [h1,h2,u32_or_nat _ _(Nat.mod_lt _(by omega))(Nat.lt_of_le_of_lt(Nat.div_le_self _ _)hx)]
 rfl
set_option maxHeartbeats 1000000 in
theorem rot_calls{n x:Nat}{k:Int}{w:World}(hx:x < 4294967296)(hk:bits .and .u64(IntKind.u64.wrap k)31=((32 - n:Nat):Int))(h1:1≤n)(h2:n≤31):
  Calls Tryz.prog 171 #[.int .u32(x:Int), .int .i64 k] w fun e w'=>e= .returned(.int .u32(QK n x:Int))∧w'=w:=by
 have hs:∃s:Nat,32 - n=s∧s≤31∧n=32 - s:=⟨32 - n,rfl,by omega,by omega⟩
 obtain⟨s,e1,e2,e3⟩ :=hs
 have hf:=hd(jdH(n:=n)(by omega)hx)
 rw [e1] at hk hf
 have hd:IntKind.u64.wrap(32 - (s:Int))=(n:Int):=by rw [IntWalk.u64_in _(by omega)];omega
 go_enter Tryz.func171,Tryz.ntmps171
 go_wp2_with fail
 go_ret
 refine⟨congrArg(fun v=>Ending.returned(Value.int .u32 v))(Eq.trans ?_ hf.out),rfl⟩
 rw [e3]
theorem rot16{x:Nat}{w:World}(hx:x < 4294967296):
  Calls Tryz.prog 171 #[.int .u32(x:Int), .int .i64(-16)] w fun e w'=>e= .returned(.int .u32(QK 16 x:Int))∧w'=w:=yV hx(by decide)(by omega)(by omega)
theorem rot12{x:Nat}{w:World}(hx:x < 4294967296):
  Calls Tryz.prog 171 #[.int .u32(x:Int), .int .i64(-12)] w fun e w'=>e= .returned(.int .u32(QK 12 x:Int))∧w'=w:=yV hx(by decide)(by omega)(by omega)
theorem rot8{x:Nat}{w:World}(hx:x < 4294967296):
  Calls Tryz.prog 171 #[.int .u32(x:Int), .int .i64(-8)] w fun e w'=>e= .returned(.int .u32(QK 8 x:Int))∧w'=w:=yV hx(by decide)(by omega)(by omega)
theorem rot7{x:Nat}{w:World}(hx:x < 4294967296):
  Calls Tryz.prog 171 #[.int .u32(x:Int), .int .i64(-7)] w fun e w'=>e= .returned(.int .u32(QK 7 x:Int))∧w'=w:=yV hx(by decide)(by omega)(by omega)
theorem rotl16{x:Nat}{w:World}(hx:x < 4294967296):
  Calls Tryz.prog 171 #[.int .u32(x:Int), .int .i64 16] w fun e w'=>e= .returned(.int .u32(QK 16 x:Int))∧w'=w:=yV hx(by decide)(by omega)(by omega)
theorem rotl12{x:Nat}{w:World}(hx:x < 4294967296):
  Calls Tryz.prog 171 #[.int .u32(x:Int), .int .i64 12] w fun e w'=>e= .returned(.int .u32(QK 20 x:Int))∧w'=w:=yV hx(by decide)(by omega)(by omega)
theorem rotl8{x:Nat}{w:World}(hx:x < 4294967296):
  Calls Tryz.prog 171 #[.int .u32(x:Int), .int .i64 8] w fun e w'=>e= .returned(.int .u32(QK 24 x:Int))∧w'=w:=yV hx(by decide)(by omega)(by omega)
theorem rotl7{x:Nat}{w:World}(hx:x < 4294967296):
  Calls Tryz.prog 171 #[.int .u32(x:Int), .int .i64 7] w fun e w'=>e= .returned(.int .u32(QK 25 x:Int))∧w'=w:=yV hx(by decide)(by omega)(by omega)
def vW(vs:List Nat)(a b x:Nat):List Nat:=vs.set a(qE(wd vs a)(qE(wd vs b)x))
def qZ(vs:List Nat)(a b c d x y:Nat):List Nat:=
 qa 7(qt(qa 8(vW(qa 12(qt(qa 16(vW vs a b x)d a)c d)b c)a b y)d a)c d)b c
theorem Y7(vs:List Nat)(a b x:Nat):(vW vs a b x).length=vs.length:=by simp [vW]
theorem vC(vs:List Nat)(a b c d x y:Nat):(qZ vs a b c d x y).length=vs.length:=by simp [qZ,vW,qa,qt]
set_option maxRecDepth 100000 in
set_option maxHeartbeats 4000000 in
theorem yS{g a b c d x y:Nat}{vs:List Nat}{w:World}(h:Arr w g vs)(hl:vs.length=16)(ha:a < 16)(hb:b < 16)(hc:c < 16)(hd:d < 16)(hx:x < 4294967296)(hy:y < 4294967296):
  Calls Tryz.prog 154 #[.pointer(some⟨g,0,none⟩), .int .i64(a:Int), .int .i64(b:Int), .int .i64(c:Int), .int .i64(d:Int), .int .u32(x:Int), .int .u32(y:Int)] w
   fun e w'=>e= .returned(.tuple #[])∧Arr w' g(qZ vs a b c d x y)∧w.grownBy w'(some g):=by
 have ha':(a:Int) < 16:=by omega
 have hb':(b:Int) < 16:=by omega
 have hc':(c:Int) < 16:=by omega
 have hd':(d:Int) < 16:=by omega
 go_enter Tryz.func154,Tryz.ntmps154
 go_wp2_with fail
 refine jg(fun w1=>Arr w1 g vs∧w.grownBy w1(some g))⟨h,jV(Ext.refl _)_⟩?_
 rintro w0⟨A0,G0⟩
 have L0:=hl
 clear h
 obtain⟨cp,fp,lp⟩ :=A0.fct(i:=a)(by omega)
 obtain⟨cq,fq,lq⟩ :=A0.fct(i:=b)(by omega)
 have KEEP:Hid(∀w',Ext w0 w'→w'.cell?⟨g,a,none⟩=some(.int .u32(wd vs a:Int))∧w'.cell?⟨g,b,none⟩=some(.int .u32(wd vs b:Int))):=fun w' e=>⟨((A0.ext e).fct(by omega)).1,((A0.ext e).fct(by omega)).1⟩
 have u1:IntKind.u32.wrap((wd vs b:Int)+(x:Int))=(qE(wd vs b)x:Int):=vO
 have u2:IntKind.u32.wrap((wd vs a:Int)+(qE(wd vs b)x:Int))=(qE(wd vs a)(add32(wd vs b)x):Int):=vO
 refine yk 15 [0,1,2,3,4,5,6,7,8,9,10,11,12,13,14,15] [15] ?_
 repeat(refine qzR _(fun w' e=>KEEP.out w'((Ext.refl _).drew.trans e))?_;go_frame)
 refine qzD fun K1 hK1=> ?_
 go_simp
 refine hK1.out _ _(.inl rfl)?_
 clear hK1 K1
 refine jN ?_
 go_wp2_with fail
 refine jg(fun w1=>Arr w1 g(putAdd vs a b x)∧w.grownBy w1(some g))⟨(A0.set(by omega)(q9 _ _)).ext(Ext.refl _).drew,qs G0⟩?_
 rintro w1⟨A1,G1⟩
 have L1:(vW vs a b x).length=16:=(Y7 ..).trans L0
 clear A0 G0 L0 cp fp lp cq fq lq KEEP u1 u2
 generalize HV0:vW vs a b x=v1 at A1 L1
 replace HV0:=hd HV0
 obtain⟨cp,fp,lp⟩ :=A1.fct(i:=d)(by omega)
 obtain⟨cq,fq,lq⟩ :=A1.fct(i:=a)(by omega)
 have KEEP:Hid(∀w',Ext w1 w'→w'.cell?⟨g,d,none⟩=some(.int .u32(wd v1 d:Int))∧w'.cell?⟨g,a,none⟩=some(.int .u32(wd v1 a:Int))):=fun w' e=>⟨((A1.ext e).fct(by omega)).1,((A1.ext e).fct(by omega)).1⟩
 have u1:bits .xor .u32(wd v1 d:Int)(wd v1 a:Int)=((wd v1 d ^^^ wd v1 a:Nat):Int):=u32_xor_nat _ _ lp lq
 have HR:=hd(fun w0:World=> @jk8(wd v1 d ^^^ wd v1 a)w0(jL lp lq))
 refine yk 16 [0,1,2,3,4,5,6,7,8,9,10,11,12,14,13,15,16] [13,16] ?_
 repeat(refine qzR _(fun w' e=>KEEP.out w'((Ext.refl _).drew.trans e))?_;go_frame)
 refine qzD fun K1 hK1=> ?_
 go_simp
 refine(HR.out _).mono ?_
 rintro e w1⟨rfl,rfl⟩
 refine hK1.out _ _(.inr(Ext.refl _))?_
 clear hK1 K1
 try go_frame
 repeat(refine qzR _(fun w' e=>KEEP.out w'((Ext.refl _).drew.trans e))?_;go_frame)
 refine qzD fun K1 hK1=> ?_
 go_simp
 refine hK1.out _ _(.inl rfl)?_
 clear hK1 K1
 refine jN ?_
 go_wp2_with fail
 refine jg(fun w1=>Arr w1 g(putRot 16 v1 d a)∧w.grownBy w1(some g))⟨(A1.set(by omega)(yA(jL lp lq))).ext(Ext.refl _).drew,qs G1⟩?_
 rintro w2⟨A2,G2⟩
 have L2:(qa 16 v1 d a).length=16:=(yc ..).trans L1
 clear A1 G1 L1 cp fp lp cq fq lq KEEP u1 HR
 generalize HV1:qa 16 v1 d a=v2 at A2 L2
 replace HV1:=hd HV1
 obtain⟨cp,fp,lp⟩ :=A2.fct(i:=c)(by omega)
 obtain⟨cq,fq,lq⟩ :=A2.fct(i:=d)(by omega)
 have KEEP:Hid(∀w',Ext w2 w'→w'.cell?⟨g,c,none⟩=some(.int .u32(wd v2 c:Int))∧w'.cell?⟨g,d,none⟩=some(.int .u32(wd v2 d:Int))):=fun w' e=>⟨((A2.ext e).fct(by omega)).1,((A2.ext e).fct(by omega)).1⟩
 have u1:IntKind.u32.wrap((wd v2 c:Int)+(wd v2 d:Int))=(qE(wd v2 c)(wd v2 d):Int):=u32_add
 refine yk 13 [0,1,2,3,4,5,6,7,8,9,10,11,12,13] [13] ?_
 repeat(refine qzR _(fun w' e=>KEEP.out w'((Ext.refl _).drew.trans e))?_;go_frame)
 refine qzD fun K1 hK1=> ?_
 go_simp
 refine hK1.out _ _(.inl rfl)?_
 clear hK1 K1
 refine jN ?_
 go_wp2_with fail
 refine jg(fun w1=>Arr w1 g(putSum v2 c d)∧w.grownBy w1(some g))⟨(A2.set(by omega)(q9 _ _)).ext(Ext.refl _).drew,qs G2⟩?_
 rintro w3⟨A3,G3⟩
 have L3:(qt v2 c d).length=16:=(putSum_len ..).trans L2
 clear A2 G2 L2 cp fp lp cq fq lq KEEP u1
 generalize HV2:qt v2 c d=v3 at A3 L3
 replace HV2:=hd HV2
 obtain⟨cp,fp,lp⟩ :=A3.fct(i:=b)(by omega)
 obtain⟨cq,fq,lq⟩ :=A3.fct(i:=c)(by omega)
 have KEEP:Hid(∀w',Ext w3 w'→w'.cell?⟨g,b,none⟩=some(.int .u32(wd v3 b:Int))∧w'.cell?⟨g,c,none⟩=some(.int .u32(wd v3 c:Int))):=fun w' e=>⟨((A3.ext e).fct(by omega)).1,((A3.ext e).fct(by omega)).1⟩
 have u1:bits .xor .u32(wd v3 b:Int)(wd v3 c:Int)=((wd v3 b ^^^ wd v3 c:Nat):Int):=u32_xor_nat _ _ lp lq
 have HR:=hd(fun w0:World=> @jk7(wd v3 b ^^^ wd v3 c)w0(jL lp lq))
 refine yk 16 [0,1,2,3,4,5,6,7,8,9,10,11,12,14,13,15,16] [13,16] ?_
 repeat(refine qzR _(fun w' e=>KEEP.out w'((Ext.refl _).drew.trans e))?_;go_frame)
 refine qzD fun K1 hK1=> ?_
 go_simp
 refine(HR.out _).mono ?_
 rintro e w1⟨rfl,rfl⟩
 refine hK1.out _ _(.inr(Ext.refl _))?_
 clear hK1 K1
 try go_frame
 repeat(refine qzR _(fun w' e=>KEEP.out w'((Ext.refl _).drew.trans e))?_;go_frame)
 refine qzD fun K1 hK1=> ?_
 go_simp
 refine hK1.out _ _(.inl rfl)?_
 clear hK1 K1
 refine jN ?_
 go_wp2_with fail
 refine jg(fun w1=>Arr w1 g(putRot 12 v3 b c)∧w.grownBy w1(some g))⟨(A3.set(by omega)(yA(jL lp lq))).ext(Ext.refl _).drew,qs G3⟩?_
 rintro w4⟨A4,G4⟩
 have L4:(qa 12 v3 b c).length=16:=(yc ..).trans L3
 clear A3 G3 L3 cp fp lp cq fq lq KEEP u1 HR
 generalize HV3:qa 12 v3 b c=v4 at A4 L4
 replace HV3:=hd HV3
 obtain⟨cp,fp,lp⟩ :=A4.fct(i:=a)(by omega)
 obtain⟨cq,fq,lq⟩ :=A4.fct(i:=b)(by omega)
 have KEEP:Hid(∀w',Ext w4 w'→w'.cell?⟨g,a,none⟩=some(.int .u32(wd v4 a:Int))∧w'.cell?⟨g,b,none⟩=some(.int .u32(wd v4 b:Int))):=fun w' e=>⟨((A4.ext e).fct(by omega)).1,((A4.ext e).fct(by omega)).1⟩
 have u1:IntKind.u32.wrap((wd v4 b:Int)+(y:Int))=(qE(wd v4 b)y:Int):=vO
 have u2:IntKind.u32.wrap((wd v4 a:Int)+(qE(wd v4 b)y:Int))=(qE(wd v4 a)(add32(wd v4 b)y):Int):=vO
 refine yk 15 [0,1,2,3,4,5,6,7,8,9,10,11,12,13,14,15] [15] ?_
 repeat(refine qzR _(fun w' e=>KEEP.out w'((Ext.refl _).drew.trans e))?_;go_frame)
 refine qzD fun K1 hK1=> ?_
 go_simp
 refine hK1.out _ _(.inl rfl)?_
 clear hK1 K1
 refine jN ?_
 go_wp2_with fail
 refine jg(fun w1=>Arr w1 g(putAdd v4 a b y)∧w.grownBy w1(some g))⟨(A4.set(by omega)(q9 _ _)).ext(Ext.refl _).drew,qs G4⟩?_
 rintro w5⟨A5,G5⟩
 have L5:(vW v4 a b y).length=16:=(Y7 ..).trans L4
 clear A4 G4 L4 cp fp lp cq fq lq KEEP u1 u2
 generalize HV4:vW v4 a b y=v5 at A5 L5
 replace HV4:=hd HV4
 obtain⟨cp,fp,lp⟩ :=A5.fct(i:=d)(by omega)
 obtain⟨cq,fq,lq⟩ :=A5.fct(i:=a)(by omega)
 have KEEP:Hid(∀w',Ext w5 w'→w'.cell?⟨g,d,none⟩=some(.int .u32(wd v5 d:Int))∧w'.cell?⟨g,a,none⟩=some(.int .u32(wd v5 a:Int))):=fun w' e=>⟨((A5.ext e).fct(by omega)).1,((A5.ext e).fct(by omega)).1⟩
 have u1:bits .xor .u32(wd v5 d:Int)(wd v5 a:Int)=((wd v5 d ^^^ wd v5 a:Nat):Int):=u32_xor_nat _ _ lp lq
 have HR:=hd(fun w0:World=> @jmi(wd v5 d ^^^ wd v5 a)w0(jL lp lq))
 refine yk 16 [0,1,2,3,4,5,6,7,8,9,10,11,12,14,13,15,16] [13,16] ?_
 repeat(refine qzR _(fun w' e=>KEEP.out w'((Ext.refl _).drew.trans e))?_;go_frame)
 refine qzD fun K1 hK1=> ?_
 go_simp
 refine(HR.out _).mono ?_
 rintro e w1⟨rfl,rfl⟩
 refine hK1.out _ _(.inr(Ext.refl _))?_
 clear hK1 K1
 try go_frame
 repeat(refine qzR _(fun w' e=>KEEP.out w'((Ext.refl _).drew.trans e))?_;go_frame)
 refine qzD fun K1 hK1=> ?_
 go_simp
 refine hK1.out _ _(.inl rfl)?_
 clear hK1 K1
 refine jN ?_
 go_wp2_with fail
 refine jg(fun w1=>Arr w1 g(putRot 8 v5 d a)∧w.grownBy w1(some g))⟨(A5.set(by omega)(yA(jL lp lq))).ext(Ext.refl _).drew,grown_set G5⟩?_
 rintro w6⟨A6,G6⟩
 have L6:(qa 8 v5 d a).length=16:=(yc ..).trans L5
 clear A5 G5 L5 cp fp lp cq fq lq KEEP u1 HR
 generalize HV5:qa 8 v5 d a=v6 at A6 L6
 replace HV5:=hd HV5
 obtain⟨cp,fp,lp⟩ :=A6.fct(i:=c)(by omega)
 obtain⟨cq,fq,lq⟩ :=A6.fct(i:=d)(by omega)
 have KEEP:Hid(∀w',Ext w6 w'→w'.cell?⟨g,c,none⟩=some(.int .u32(wd v6 c:Int))∧w'.cell?⟨g,d,none⟩=some(.int .u32(wd v6 d:Int))):=fun w' e=>⟨((A6.ext e).fct(by omega)).1,((A6.ext e).fct(by omega)).1⟩
 have u1:IntKind.u32.wrap((wd v6 c:Int)+(wd v6 d:Int))=(qE(wd v6 c)(wd v6 d):Int):=u32_add
 refine yk 13 [0,1,2,3,4,5,6,7,8,9,10,11,12,13] [13] ?_
 repeat(refine qzR _(fun w' e=>KEEP.out w'((Ext.refl _).drew.trans e))?_;go_frame)
 refine qzD fun K1 hK1=> ?_
 go_simp
 refine hK1.out _ _(.inl rfl)?_
 clear hK1 K1
 refine jN ?_
 go_wp2_with fail
 refine jg(fun w1=>Arr w1 g(putSum v6 c d)∧w.grownBy w1(some g))⟨(A6.set(by omega)(q9 _ _)).ext(Ext.refl _).drew,qs G6⟩?_
 rintro w7⟨A7,G7⟩
 have L7:(qt v6 c d).length=16:=(putSum_len ..).trans L6
 clear A6 G6 L6 cp fp lp cq fq lq KEEP u1
 generalize HV6:qt v6 c d=v7 at A7 L7
 replace HV6:=hd HV6
 obtain⟨cp,fp,lp⟩ :=A7.fct(i:=b)(by omega)
 obtain⟨cq,fq,lq⟩ :=A7.fct(i:=c)(by omega)
 have KEEP:Hid(∀w',Ext w7 w'→w'.cell?⟨g,b,none⟩=some(.int .u32(wd v7 b:Int))∧w'.cell?⟨g,c,none⟩=some(.int .u32(wd v7 c:Int))):=fun w' e=>⟨((A7.ext e).fct(by omega)).1,((A7.ext e).fct(by omega)).1⟩
 have u1:bits .xor .u32(wd v7 b:Int)(wd v7 c:Int)=((wd v7 b ^^^ wd v7 c:Nat):Int):=u32_xor_nat _ _ lp lq
 have HR:=hd(fun w0:World=> @jmh(wd v7 b ^^^ wd v7 c)w0(jL lp lq))
 refine yk 16 [0,1,2,3,4,5,6,7,8,9,10,11,12,14,13,15,16] [13,16] ?_
 repeat(refine qzR _(fun w' e=>KEEP.out w'((Ext.refl _).drew.trans e))?_;go_frame)
 refine qzD fun K1 hK1=> ?_
 go_simp
 refine(HR.out _).mono ?_
 rintro e w1⟨rfl,rfl⟩
 refine hK1.out _ _(.inr(Ext.refl _))?_
 clear hK1 K1
 try go_frame
 repeat(refine qzR _(fun w' e=>KEEP.out w'((Ext.refl _).drew.trans e))?_;go_frame)
 refine qzD fun K1 hK1=> ?_
 go_simp
 refine hK1.out _ _(.inl rfl)?_
 clear hK1 K1
 refine jN ?_
 go_wp2_with fail
 have HM:mixL vs a b c d x y=qa 7 v7 b c:=by
  unfold mixL
  rw [HV0.out,HV1.out,HV2.out,HV3.out,HV4.out,HV5.out,HV6.out]
 rw [HM]
 go_end0
 exact⟨rfl,(A7.set(by omega)(yA(xor_lt32 lp lq))).ext(Ext.refl _).drew,qs G7⟩
def qP(xs:List UInt8):List UInt8:=xs ++ List.replicate(64 - xs.length)0
theorem Yk{xs:List UInt8}(h:xs.length≤64):(qP xs).length=64:=by simp [qP];omega
theorem je6{xs:List UInt8}:splice(List.replicate 64(Value.int .u8 0))0(cellsOf xs)=cellsOf(qP xs):=by
 have hb:∀j,(if j < xs.length then Value.int .u8(bt xs j:Int)else .int .u8 0)= .int .u8(bt(qP xs)j:Int):=fun j=>by
  by_cases q:j < xs.length
  ·simp [q,bt,qP,List.getD,List.getElem?_append]
  ·rw [if_neg q]
   unfold bt qP
   simp only [List.getD,List.getElem?_append,if_neg q,List.getElem?_replicate]
   split <;> rfl
 unfold splice
 simp only [List.take_zero,List.nil_append,Nat.zero_add,List.drop_replicate,ja]
 apply List.ext_getElem?
 intro j
 rw [List.getElem?_append,ja]
 by_cases q:j < xs.length
 ·rw [if_pos q,jZ q,jZ(by simp [qP];omega)]
  have:=hb j
  rw [if_pos q] at this
  rw [this]
 ·rw [if_neg q,List.getElem?_replicate]
  by_cases q2:j - xs.length < 64 - xs.length
  ·have:=hb j
   rw [if_neg q] at this
   rw [if_pos q2,jZ(by simp [qP];omega),this]
  ·rw [if_neg q2,List.getElem?_eq_none(by rw [ja];simp [qP];omega)]
set_option maxRecDepth 100000 in
set_option maxHeartbeats 1000000 in
theorem Ya{A:Option Addr}{n c:Nat}{xs:List UInt8}{w:World}(h:Bs w A n c xs)(hn:n≤64):
  Calls Tryz.prog 125 #[.slice A n c] w fun e w'=>e= .returned(.agg(cellsOf(qP xs)).toArray)∧Ext w w':=by
 go_enter Tryz.func125,Tryz.ntmps125
 go_wp2_with fail
 refine JZ(cur:=List.replicate 64(Value.int .u8 0))rfl(jK _ _ _)(h.ext(((Ext.refl _).alloc _).alloc _))hn(by simp;omega)?_
 intro W' h1 h2
 have hE:Hid(Ext w W'):=Below.trans(((Ext.refl _).alloc _).alloc _)(h2.out w.heap.size(by omega))
 have h0:Hid(W'.heap[w.heap.size]? =some(.cells(List.replicate 64(Value.int .u8 0)).toArray 221(0,0))):=((h2.out(w.heap.size+1)(Nat.le_refl _)).block w.heap.size(by omega)).trans(jQ _ _ _)
 clear h2
 rw [je6] at h1
 have hlen:(cellsOf(qP xs)).toArray.size=64:=by simp [ja,Yk(xs:=xs)(by rw [h.len];exact hn)]
 have hone:(cellsOf(qP xs)).toArray.all(·.oneCell')=true:=ji _
 generalize hC:(cellsOf(qP xs)).toArray=C at h1 hlen hone
 replace hC:=hd hC
 go_wp2_with(first
  |refine wpList_load_row rfl 221 _ rfl(w.heap.size+1)rfl 221 C(0,0)_ h1.out rfl rfl(by rw [hlen];rfl)?_
  |refine wpList_store_row rfl 221 _ _ rfl w.heap.size C rfl rfl 221 _ h0.out(by rw [hlen];rfl)(by rw [hlen];rfl)hone ?_)
 (try simp only [Exit.inBlock,Exit.then])
 refine bodyPost_ret(results_cell_row rfl _ _ w.heap.size 221 C(0,0)_ rfl(setRow_heap W' _ _ _ _ _ h0.out)rfl rfl(by rw [hlen];rfl))rfl ?_
 exact⟨by rw [hC.out],below_setRow hE.out(Nat.le_refl _)_⟩
end
section
open Go.ChangeShapes Go.WideShapes Go.ChangeAt Go.RowKit Go.Deep
set_option maxRecDepth 100000
def zy(xs:List UInt8)(i:Nat):Nat:=vD((xs.drop(4 *i)).take 4)
theorem J0(xs:List UInt8)(i:Nat):zy xs i < 4294967296:=by
 have h:=ofLowL_lt((xs.drop(4 *i)).take 4)
 have hl:((xs.drop(4 *i)).take 4).length≤4:=by simp;omega
 exact Nat.lt_of_lt_of_le h(Nat.le_trans(Nat.pow_le_pow_right(by omega)hl)(by decide))
def qY(xs:List UInt8)(n:Nat):List Nat:=(List.range n).map(zy xs)
theorem jkH{w:World}{g k:Nat}(hk:k < 16):(Instr.sliceAt 221(.pointer(some⟨g,0,none⟩))(some(.int .i64(4 *(k:Int))))(some(.int .i64(4 *(k:Int)+4)))none).run Tryz.prog w= .ok(.slice(some⟨g,4 *k,none⟩)4(64 - 4 *k))w:=by
 have hn:Tryz.prog.arrayLen 221=64:=rfl
 rw [run_sliceAt_array_lh w 221 _ rfl .i64 .i64 _ _(by omega)(by omega)(by rw [hn];omega)]
 have hs:(sizeOf(Tryz.prog.elem 221)).run Tryz.prog w= .ok 1 w:=rfl
 rw [hs]
 have h1:(4 *(k:Int)).toNat=4 *k:=by omega
 have h2:(4 *(k:Int)+4).toNat=4 *k+4:=by omega
 have h3:(⟨g,0,none⟩:Addr).add(4 *k *1)=⟨g,4 *k,none⟩ :=by unfold Addr.add;split <;> simp_all
 show Result.ok(slicedAt _ _ _ _ _)w=_
 rw [hn,h1,h2]
 unfold slicedAt
 rw [if_neg(by omega),h3,show 4 *k+4 - 4 *k=4 by omega]
theorem jgU{vs:List Nat}{xs:List UInt8}{n:Nat}(hl:vs.length=n)(h:∀j,j < n→wd vs j=zy xs j):qY xs n=vs:=by
 refine List.ext_getElem(by simp [qY,hl])fun j h1 h2=> ?_
 have:=h j(by omega)
 unfold wd at this
 simp only [qY,List.getElem_map,List.getElem_range]
 rw [← this]
 simp [List.getD,h2]
set_option maxRecDepth 100000 in
set_option maxHeartbeats 1000000 in
theorem jbp{xs:List UInt8}{w:World}(h:xs.length=64):
  Calls Tryz.prog 152 #[.agg(cellsOf xs).toArray] w fun e w'=>e= .returned(.agg(jb(qY xs 16)).toArray)∧Ext w w':=by
 go_enter Tryz.func152,Tryz.ntmps152
 go_wp2_with fail
 go_loopw [5](fun i wr=>∃(k:Nat)(vs:List Nat),k≤16∧i= .int .i64 k∧vs.length=16∧(∀j,j < k→wd vs j=zy xs j)∧Ext w wr∧wr.heap[w.heap.size]? =some(.cells(cellsOf xs).toArray 221(0,0))∧Wr wr(w.heap.size+1)246(List.replicate 16 0)∧Wr wr(w.heap.size+1+1)246 vs)(fun i _=>16 - (intOf i).toNat)
 case atStart =>
  exact⟨0,List.replicate 16 0,Nat.zero_le _,rfl,rfl,fun j hj=>absurd hj(by omega),(((Ext.refl _).alloc _).alloc _).alloc _,jF _ _ _ _,jH _ _ _ _,jB _ _ _ _⟩
 case round =>
  obtain⟨k,vs,hk,rfl,hl,hv,he,h0,h1,h2⟩ :=hrel
  by_cases hlt:k < 16
  ·have g3:=h2.cell(i:=k)(by omega)
   have g4:=h2.frozen k
   have hsl:(Instr.sliceAt 221(.pointer(some⟨w.heap.size,0,none⟩))(some(.int .i64(4 *(k:Int))))(some(.int .i64(4 *(k:Int)+4)))none).run Tryz.prog wr= .ok(.slice(some⟨w.heap.size,4 *k,none⟩)4(64 - 4 *k))wr:=jkH hlt
   have HC:=hd(ZF(m:=4)(Bs.part h0(o:=4 *k)(n:=4)(c:=64 - 4 *k)(by omega)(by omega)(by omega))(by omega)(by omega)(by decide))
   have hcv:IntKind.u32.wrap(vD(((xs.drop(4 *k)).take 4).take 4):Int)=(zy xs k:Int):=by
    rw [List.take_take,IntKind.wrap_u32]
    have:=J0 xs k
    show(wordAt xs k:Int)% 4294967296=_
    omega
   go_wp2_with fail
   refine HC.out.mono ?_
   rintro e w1⟨rfl,rfl⟩
   go_wp2_with fail
   refine⟨⟨k+1,vs.set k(zy xs k),by omega,by go_num,by rw [List.length_set];exact hl,fun j hj=> ?_,he.setCell(by show w.heap.size≤w.heap.size+1+1;omega)_,?_,?_,h2.set⟩,by simp [intOf];omega⟩
   ·rw [j8(by omega)]
    by_cases q:j=k
    ·rw [if_pos q,q]
    ·rw [if_neg q];exact hv j(by omega)
   ·exact(Below.heap_setCell _ _ _ _(by show w.heap.size≠w.heap.size+1+1;omega)).trans h0
   ·exact(Below.heap_setCell _ _ _ _(by show w.heap.size+1≠w.heap.size+1+1;omega)).trans h1
  ·obtain rfl:k=16:=by omega
   have hvs:=hd(jgU hl hv)
   have HL:=jf hl
   have hone:=jo vs
   unfold Wr at h1 h2
   generalize hC:(jb vs).toArray=C at h2 HL hone
   replace h1:=hd h1
   replace h2:=hd h2
   go_wp2_with(first
    |refine wpList_load_row rfl 246 _ rfl(w.heap.size+1+1)rfl 246 C(0,0)_ h2.out rfl rfl(by rw [HL];rfl)?_
    |refine wpList_store_row rfl 246 _ _ rfl(w.heap.size+1)C rfl rfl 246 _ h1.out(by rw [HL];rfl)(by rw [HL];rfl)hone ?_)
   (try simp only [Exit.inBlock,Exit.then])
   refine bodyPost_ret(results_cell_row rfl _ _(w.heap.size+1)246 C(0,0)_ rfl(setRow_heap _ _ _ _ _ _ h1.out)rfl rfl(by rw [HL];rfl))rfl ?_
   exact⟨by rw [hvs.out,hC],below_setRow he(by omega)_⟩
end
section
open Go.ChangeShapes Go.WideShapes Go.ChangeAt Go.RowKit Go.Deep
def jdw:List(List Nat):= [
 [0,1,2,3,4,5,6,7,8,9,10,11,12,13,14,15],
 [14,10,4,8,9,15,13,6,1,12,0,2,11,7,5,3],
 [11,8,12,0,5,2,15,13,10,14,3,6,7,1,9,4],
 [7,9,3,1,13,12,11,14,2,6,5,10,4,0,15,8],
 [9,0,5,7,2,4,10,15,14,1,11,12,6,8,3,13],
 [2,12,6,10,0,11,8,3,4,13,7,5,15,14,1,9],
 [12,5,1,15,14,13,4,10,0,7,6,3,9,2,8,11],
 [13,11,7,14,12,1,3,9,5,0,15,4,8,6,2,10],
 [6,15,14,9,11,3,0,8,12,2,13,7,1,4,10,5],
 [10,2,8,4,7,6,1,5,15,11,9,14,3,12,13,0]]
def zM:Array Value:=((jdw.flatten).map fun x:Nat=>Value.int .u8(x:Int)).toArray
set_option maxRecDepth 100000 in
set_option maxHeartbeats 1000000 in
theorem jeP{w:World}:
  Calls Tryz.prog 153 #[] w fun e w'=>e= .returned(.agg zM)∧Ext w w':=by
 have hz:∀w,(zeroValue 249).run Tryz.prog w= .ok(.agg(Array.replicate 160(.int .u8 0)))w:=fun _=>by kernel_rfl
 have hg:=hd(heap_alloc_new w(Obj.cells(Array.replicate 160(.int .u8 0))249))
 have he:Hid(Ext w(w.alloc(Obj.cells(Array.replicate 160(.int .u8 0))249))):=(Ext.refl _).alloc _
 have hZ:(Array.replicate 160(Value.int .u8 0)).size=160:=by simp
 have hp:permC.size=160:=by kernel_rfl
 have hone:zM.all(·.oneCell')=true:=by kernel_rfl
 generalize Array.replicate 160(Value.int .u8 0)=Z at hz hg he hZ
 go_enter Tryz.func153,Tryz.ntmps153
 go_wp2_with(refine wpList_build rfl _ _ rfl(by kernel_rfl)?_)
 rename_i hyp
 clear hyp
 generalize hB:Option.getD(Program.built Tryz.prog 249 _)#[]=B
 have hBp:B=zM:=hB.symm.trans(by kernel_rfl)
 clear hB
 subst hBp
 have hst:=run_storeCells_from(P:=Tryz.prog)w.heap.size 249 zM.toList 0 Z _ hg.out(by rw [Array.length_toList,hp,hZ])(fun v hv=>(Array.all_eq_true_iff_forall_mem.1 hone)v(by simpa using hv))
 rw [hst]
 simp only [List.take_zero,List.nil_append,Array.toArray_toList]
 iterate 10(generalize Option.getD(Program.built Tryz.prog 248 _)#[]=B)
 go_wp2_with fail
 (try simp only [Exit.inBlock,Exit.then])
 refine bodyPost_ret(results_cell_row rfl _ _ w.heap.size 249 zM(0,0)_ rfl(setRow_heap _ _ _ _ _ _ hg.out)rfl rfl(by rw [hp];rfl))rfl ?_
 exact⟨rfl,below_setRow he.out(Nat.le_refl _)_⟩
def qI:List Nat:= [0x6a09e667,0xbb67ae85,0x3c6ef372,0xa54ff53a,0x510e527f,0x9b05688c,0x1f83d9ab,0x5be0cd19]
def Gl(w:World)(tg:TypeId×Nat×Nat):Prop:=w.heap[0]? =some(.cells(jb qI).toArray tg.1 tg.2)
section
variable{w w':World}{tg:TypeId×Nat×Nat}
theorem Gl.lt(h:Gl w tg):0 < w.heap.size:=by
 rcases Nat.lt_or_ge 0 w.heap.size with h1 |h1
 ·exact h1
 ·unfold Gl at h;rw [Array.getElem?_eq_none h1] at h;cases h
theorem Gl.cell(h:Gl w tg){i:Nat}(hi:i < qI.length):w.cell?⟨0,i,none⟩=some(.int .u32(wd qI i:Int)):=by
 rw [cell_of_row w 0 i _ tg.1 tg.2 h]
 simp [jb,wd,List.getD,hi]
theorem Gl.kept{B:Nat}(h:Gl w tg)(he:Below B w w')(hB:0 < B):Gl w' tg:=(he.block 0 hB).trans h
theorem Gl.ext(h:Gl w tg)(he:Ext w w'):Gl w' tg:=h.kept he h.lt
end
end
end Go.Proofs.YtakpgbaijkhpmaaGreatDoor
