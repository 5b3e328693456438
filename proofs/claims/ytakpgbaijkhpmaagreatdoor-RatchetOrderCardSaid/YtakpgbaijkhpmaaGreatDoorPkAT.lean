import Derived.Test.YtakpgbaijkhpmaaGreatDoorPkAS
import Derived.Test.YtakpgbaijkhpmaaGreatDoorPkAA
import Derived.Test.YtakpgbaijkhpmaaGreatDoorPkAF
import Derived.Test.YtakpgbaijkhpmaaGreatDoorPkAG
import Derived.Test.YtakpgbaijkhpmaaGreatDoorPkAM
namespace Go.Proofs.YtakpgbaijkhpmaaGreatDoor
section
open Go.ChangeShapes Go.WideShapes Go.ChangeAt Go.RowKit Go.Deep
set_option maxRecDepth 100000 in
set_option maxHeartbeats 1000000 in
theorem jcE{A:Option Addr}{m d:Nat}{bs:List UInt8}{w:World}(h:Bs w A m d bs)(hm:m≤1000000):
  Calls Tryz.prog 39 #[.slice A m d] w fun e w'=>e= .returned(.agg(cellsOf(jC [] bs)).toArray)∧Ext w w':=by
 have hal:∀w,(zeroValue 23).run Tryz.prog w= .ok(.agg jr)w:=fun _=>by kernel_rfl
 have HL:(cellsOf(jC [] bs)).toArray.size=32:=by simp [ja,qq]
 have H1:=ji(macL [] bs)
 have CALL:Hid(Calls Tryz.prog 70 #[.slice none 0 0, .slice A m d](w.alloc(Obj.cells jr 23))fun e w'=>e= .returned(.tuple #[.agg(cellsOf(jC [] bs)).toArray, .int .i64 0])∧Ext(w.alloc(Obj.cells jr 23))w'):=
  jcD(Bs.nil _)(h.ext((Ext.refl w).alloc _))(by omega)hm
 have hz0:=j7
 generalize jr=Z at *
 generalize(cellsOf(jC [] bs)).toArray=D at *
 go_enter Tryz.func39,Tryz.ntmps39
 go_wp2_with fail
 refine CALL.out.mono ?_
 rintro e w1⟨rfl,e1⟩
 have r0:=hd((e1.block w.heap.size(by rw [je];omega)).trans(heap_alloc_new w(Obj.cells Z 23)))
 have r1:Hid(((w1.alloc(Obj.cells Z 23)).setRow w1.heap.size D).heap[w.heap.size]? =some(Obj.cells Z 23)):=(setRow_other _ _ _ _(Nat.ne_of_lt(jh r0.out))).trans(((Ext.refl w1).alloc _ |>.block _(jh r0.out)).trans r0.out)
 clear CALL
 go_wp2_with(first
  |refine wpList_store_row rfl 23 _ _ rfl w1.heap.size D rfl rfl 23 _(by with_reducible exact heap_alloc_new _ _)(by rw [HL];rfl)(by rw [HL];exact hz0)H1 ?_
  |refine wpList_load_row rfl 23 _ rfl w1.heap.size rfl 23 D(0,0)_(by with_reducible exact setRow_heap _ _ _ _ _ _(heap_alloc_new _ _))rfl rfl(by rw [HL];rfl)?_
  |refine wpList_store_row rfl 23 _ _ rfl w.heap.size D rfl rfl 23 Z(by with_reducible exact r1.out)(by rw [HL];rfl)(by rw [HL];exact hz0)H1 ?_)
 (try simp only [Exit.inBlock,Exit.then])
 refine bodyPost_ret(results_cell_row rfl _ _ w.heap.size 23 D(0,0)_ rfl(setRow_heap _ _ _ _ _ _ r1.out)rfl rfl(by rw [HL];rfl))rfl ?_
 exact⟨rfl,below_setRow(below_setRow((((Ext.refl w).alloc _).trans e1).alloc _)(Nat.le_of_lt(jh r0.out))_)(Nat.le_refl _)_⟩
def jc(vs:List Nat):List Value:=vs.map fun x:Nat=>Value.int .u64(x:Int)
def Ur(w:World)(g:Nat)(t:TypeId)(vs:List Nat):Prop:=w.heap[g]? =some(.cells(jc vs).toArray t(0,0))
section
variable{w w':World}{g:Nat}{t:TypeId}{vs:List Nat}
theorem Ur.lt(h:Ur w g t vs):g < w.heap.size:=jh h
theorem Ur.cell(h:Ur w g t vs){i:Nat}(hi:i < vs.length):w.cell?⟨g,i,none⟩=some(.int .u64(wd vs i:Int)):=by
 rw [cell_of_row w g i _ t(0,0)h]
 simp [jc,wd,List.getD,hi]
theorem Ur.frozen(h:Ur w g t vs)(i:Nat):w.frozen?⟨g,i,none⟩=false:=by
 unfold Ur at h
 simp [World.frozen?,h]
theorem Ur.set(h:Ur w g t vs){k x:Nat}:Ur(w.setCell⟨g,k,none⟩(.int .u64(x:Int)))g t(vs.set k x):=by
 have h1:=setCell_eq_setRow w g k _ t(0,0)(.int .u64(x:Int))h
 unfold Ur
 rw [h1,setRow_heap w g _ _ t _ h]
 simp [jc,List.map_set]
theorem Ur.kept{B:Nat}(h:Ur w g t vs)(he:Below B w w')(hB:g < B):Ur w' g t vs:=(he.block g hB).trans h
end
theorem jn{vs:List Nat}{n:Nat}(h:vs.length=n):(jc vs).toArray.size=n:=by simp [jc,h]
theorem jw(vs:List Nat):(jc vs).toArray.all(·.oneCell')=true:=by
 rw [Array.all_eq_true_iff_forall_mem]
 intro v hv
 obtain⟨j,_,rfl⟩ :=List.mem_map.1(List.mem_toArray.1 hv)
 rfl
def dg(x i:Nat):Nat:=x / 65536 ^ i % 65536
def dgs(n x:Nat):List Nat:=(List.range n).map(dg x)
theorem zJ(x i:Nat):dg x i < 65536:=Nat.mod_lt _(by decide)
theorem qG(n x:Nat):(dgs n x).length=n:=by simp [dgs]
theorem yu{n x i:Nat}(h:i < n):wd(dgs n x)i=dg x i:=by simp [wd,dgs,List.getD,h]
def pV(ds:List Nat):Nat→Nat
 |0=>0
 |i+1=>pV ds i+wd ds i *65536 ^ i
theorem jj3(i:Nat):0 < 65536 ^ i:=Nat.pow_pos(by decide)
theorem jfQ(ds:List Nat)(i:Nat):∀n,∃k,pV ds(i+n)=pV ds i+65536 ^ i *k
 |0=>⟨0,by simp⟩
 |n+1=>by
  obtain⟨k,hk⟩ :=jfQ ds i n
  refine⟨k+wd ds(i+n)*65536 ^ n,?_⟩
  rw [← Nat.add_assoc,pV,hk,Nat.pow_add,Nat.mul_add,Nat.mul_left_comm,Nat.add_assoc]
def cR(ds:List Nat)(i:Nat):Nat:=pV ds i / 65536 ^ i
theorem jhh(ds:List Nat)(i:Nat):pV ds(i+1) / 65536 ^ i=wd ds i+cR ds i:=by
 rw [pV,Nat.add_mul_div_right _ _(jj3 i),cR,Nat.add_comm]
theorem jb2(ds:List Nat)(i:Nat):cR ds(i+1)=(wd ds i+cR ds i) / 65536:=by
 rw [← jhh,cR,Nat.pow_succ,Nat.div_div_eq_div_mul]
theorem jb3(ds:List Nat):cR ds 0=0:=by simp [cR,pV]
theorem jhg{ds:List Nat}{n:Nat}(h:∀i,i < n→wd ds i < 576460752303423488):∀i,i≤n→cR ds i < 17592186044416
 |0,_=>by rw [jb3];omega
 |i+1,hi=>by
  have:=jhg h i(by omega)
  have:=h i(by omega)
  rw [jb2]
  omega
theorem jjY(ds:List Nat){i n:Nat}(h:i < n):dg(pV ds n)i=(wd ds i+cR ds i)% 65536:=by
 obtain⟨k,hk⟩ :=jfQ ds(i+1)(n - (i+1))
 rw [show i+1+(n - (i+1))=n by omega] at hk
 rw [dg,hk,Nat.pow_succ,Nat.mul_assoc,Nat.add_mul_div_left _ _(pow16 i),jhh,Nat.add_mul_mod_self_left]
theorem Jv(n x:Nat):∀i,i≤n→pV(dgs n x)i=x % 65536 ^ i
 |0,_=>by rw [pV,Nat.pow_zero,Nat.mod_one]
 |i+1,h=>by rw [pV,Jv n x i(by omega),yu(by omega),Nat.pow_succ,Nat.mod_mul,dg,Nat.mul_comm(65536 ^ i)]
theorem jfR{ds:List Nat}{z:Nat}(h:0 < ds.length):∀i,pV(ds.set 0 z)(i+1)+wd ds 0=pV ds(i+1)+z
 |0=>by rw [pV,pV,pV,pV,j8 h,if_pos rfl,Nat.pow_zero];omega
 |i+1=>by
  have:=jfR(z:=z)h i
  show pV(ds.set 0 z)(i+1)+wd(ds.set 0 z)(i+1)*65536 ^(i+1)+wd ds 0=pV ds(i+1)+wd ds(i+1)*65536 ^(i+1)+z
  rw [j8 h,if_neg(by omega)]
  omega
def B16:Nat:=115792089237316195423570985008687907853269984665640564039457584007913129639936
theorem Yz:65536 ^ 16=B16:=by decide +kernel
def rr(V:Nat):Nat:=V % B16+38 *(V / B16)
theorem jix(V:Nat):rr V % P25=V % P25:=by
 have h:=Nat.mod_add_div V B16
 have e:V=rr V+P25 *(2 *(V / B16)):=by
  unfold rr
  have hb:B16=2 *P25+38:=by decide +kernel
  conv=>lhs;rw [← h]
  generalize V % B16=r
  generalize V / B16=q
  rw [hb,Nat.add_mul,← Nat.mul_assoc,Nat.mul_comm P25 2]
  omega
 conv=>rhs;rw [e]
 rw [Nat.add_mul_mod_self_left]
theorem jdJ{V:Nat}(h:V / B16 < 17592186044416):rr(rr V) < B16:=by
 have h0:(0:Nat) < B16:=by decide +kernel
 have h1:V % B16 < B16:=Nat.mod_lt _ h0
 have hb:38 *17592186044416+38 < B16:=by decide +kernel
 have h2:rr V < B16+38 *17592186044416:=by unfold rr;omega
 have h3:=Nat.div_add_mod(rr V)B16
 have h4:=Nat.mod_lt(rr V)h0
 rw [show rr(rr V)=rr V % B16+38 *(rr V / B16)from rfl]
 generalize rr V=U at *
 clear h h1
 generalize B16=M at *
 have hq:U / M < 2:=Nat.div_lt_of_lt_mul(by omega)
 generalize U / M=q at *
 generalize U % M=r at *
 have:q=0∨q=1:=by omega
 rcases this with rfl |rfl <;> omega
theorem jiw{V:Nat}(h:V < B16):rr V=V:=by
 unfold rr
 rw [Nat.mod_eq_of_lt h,Nat.div_eq_of_lt h,Nat.mul_zero,Nat.add_zero]
def rd(V:Nat):List Nat:=(dgs 16 V).set 0(dg V 0+38 *(V / B16))
theorem jkB(V:Nat):(rd V).length=16:=by unfold rd;rw [List.length_set,qG]
theorem jcB(V:Nat):pV(rd V)16=rr V:=by
 have:pV((dgs 16 V).set 0(dg V 0+38 *(V / B16)))16+wd(dgs 16 V)0=pV(dgs 16 V)16+(dg V 0+38 *(V / B16)):=jfR(ds:=dgs 16 V)(z:=dg V 0+38 *(V / B16))(by rw [qG];omega)15
 rw [Jv 16 V 16(Nat.le_refl _),yu(by omega),Yz] at this
 unfold rd rr
 omega
theorem jk5{V:Nat}(h:V / B16 < 17592186044416):∀i,i < 16→wd(rd V)i < 576460752303423488:=fun i hi=>by
 unfold rd
 rw [j8(by rw [qG];omega)]
 have:=zJ V 0
 split
 ·omega
 ·rw [yu hi];have:=zJ V i;omega
theorem jkA{V:Nat}(h:V < B16):rd V=dgs 16 V:=by
 unfold rd
 rw [Nat.div_eq_of_lt h,Nat.mul_zero,Nat.add_zero]
 refine List.ext_getElem(by simp)fun i h1 h2=> ?_
 rw [List.getElem_set]
 split
 ·rename_i q
  subst q
  simp [dgs]
 ·rfl
end
section
open Go.ChangeShapes Go.WideShapes Go.ChangeAt Go.RowKit Go.Deep
set_option maxRecDepth 100000
def pd(i:Nat):Nat:=if i=0 then 65517 else if i=15 then 32767 else 65535
theorem jdv:∀i,i < 16→pd i=dg P25 i:=by decide +kernel
theorem jj2(i:Nat):pd i < 65536:=by unfold pd;split <;> (try split) <;> omega
theorem ZI{i:Nat}{w:World}:Calls Tryz.prog 132 #[.int .i64(i:Int)] w fun e w'=>e= .returned(.int .u64(pd i:Int))∧Ext w w':=by
 by_cases h0:i=0
 ·have b0:((i:Int) == 0)=true:=by simpa using h0
  have hp:Hid(pd i=65517):=if_pos h0
  clear h0
  go_enter Tryz.func132,Tryz.ntmps132
  go_wp2_with fail
  go_ret
  exact⟨by rw [hp.out];rfl,Ext.refl _⟩
 ·have b0:((i:Int) == 0)=false:=by simpa using h0
  by_cases h15:i=15
  ·have b1:((i:Int) == 15)=true:=by rw [h15];rfl
   have hp:Hid(pd i=32767):=(if_neg h0).trans(if_pos h15)
   clear h0 h15
   go_enter Tryz.func132,Tryz.ntmps132
   go_wp2_with fail
   go_ret
   exact⟨by rw [hp.out];rfl,Ext.refl _⟩
  ·have b1:((i:Int) == 15)=false:=by
    have: ¬(i:Int)=15:=by omega
    simpa using this
   have hp:Hid(pd i=65535):=(if_neg h0).trans(if_neg h15)
   clear h0 h15
   go_enter Tryz.func132,Tryz.ntmps132
   go_wp2_with fail
   go_ret
   exact⟨by rw [hp.out];rfl,Ext.refl _⟩
theorem jb7(v i:Nat):v / 65536 ^ i=65536 *(v / 65536 ^(i+1))+dg v i:=by
 rw [dg,show(65536:Nat)^(i+1)=65536 ^ i *65536 from Nat.pow_succ _ _,← Nat.div_div_eq_div_mul]
 omega
theorem jfe{v p i:Nat}(h:v / 65536 ^(i+1)=p / 65536 ^(i+1))(hd:dg v i≠dg p i):decide(dg p i < dg v i)=decide(p≤v):=by
 have h1:=jb7 v i
 have h2:=jb7 p i
 rw [h] at h1
 by_cases q:dg p i < dg v i
 ·rw [decide_eq_true q]
  refine(decide_eq_true ?_).symm
  rcases Nat.lt_or_ge v p with r |r
  ·have:=Nat.div_le_div_right(c:=65536 ^ i)(Nat.le_of_lt r)
   omega
  ·exact r
 ·rw [decide_eq_false q]
  refine(decide_eq_false fun r=> ?_).symm
  have:=Nat.div_le_div_right(c:=65536 ^ i)r
  omega
theorem jeZ{v p i:Nat}(h:v / 65536 ^(i+1)=p / 65536 ^(i+1))(hd:dg v i=dg p i):v / 65536 ^ i=p / 65536 ^ i:=by
 rw [jb7 v i,div_up p i,h,hd]
def J6:List Nat:=List.replicate 16 0
theorem zx(w:World):(zeroValue 200).run Tryz.prog w= .ok(.agg(jc J6).toArray)w:=by kernel_rfl
theorem Zt{vs:List Nat}{x:Nat}(hl:vs.length=16)(h:∀j,j < 16→wd vs j=dg x j):vs=dgs 16 x:=by
 refine List.ext_getElem(by rw [qG,hl])fun i h1 h2=> ?_
 have:=h i(by omega)
 simp [wd,List.getD,h1] at this
 simp [dgs,this]
def RL(ds:List Nat):Nat→List Nat
 |0=>ds
 |k+1=>rd(pV(RL ds k)16)
def Dig(ds:List Nat):Prop:=ds.length=16∧∀i,i < 16→wd ds i < 576460752303423488
theorem Dig.top{ds:List Nat}(h:Dig ds):pV ds 16 / B16 < 17592186044416:=by
 have:=jhg(n:=16)h.2 16(Nat.le_refl _)
 rw [cR,Yz] at this
 exact this
theorem jg2{ds:List Nat}(h:Dig ds):∀k,Dig(RL ds k)
 |0=>h
 |k+1=>⟨jkB _,jk5(jg2 h k).top⟩
def cN(ds:List Nat):Nat:=rr(rr(pV ds 16))
theorem jj6{ds:List Nat}(h:Dig ds):RL ds 4=dgs 16(cN ds):=by
 have h1:=jdJ h.top
 have e1:pV(RL ds 1)16=rr(pV ds 16):=jcB _
 have e2:pV(RL ds 2)16=cN ds:=by rw [show RL ds 2=rd(pV(RL ds 1)16)from rfl,jcB,e1];rfl
 have e3:pV(RL ds 3)16=cN ds:=by rw [show RL ds 3=rd(pV(RL ds 2)16)from rfl,jcB,e2];exact jiw h1
 rw [show RL ds 4=rd(pV(RL ds 3)16)from rfl,e3]
 exact jkA h1
theorem jhe{ds:List Nat}(h:Dig ds):cN ds < B16:=jdJ h.top
theorem jej(ds:List Nat):cN ds % P25=pV ds 16 % P25:=by unfold cN;rw [jix,jix]
set_option maxHeartbeats 4000000 in
theorem zD{ds:List Nat}{w:World}(hd:Dig ds):
  Calls Tryz.prog 130 #[.agg(jc ds).toArray] w fun e w'=>e= .returned(.agg(jc(dgs 16(cN ds))).toArray)∧Ext w w':=by
 have hal:=zx
 have ZL:J6.length=16:=rfl
 generalize J6=zs at *
 have ZS:=jn ZL
 have RD:Hid(∀k,Dig(RL ds k)):=jg2 hd
 have RE:=hd(jj6 hd)
 obtain⟨R,hR⟩:∃R:Nat→List Nat,R=RL ds:=⟨_,rfl⟩
 have RS:Hid(∀(k:Nat)(_:Unit),rd(pV(R k)16)=R(k+1)):=fun k _=>by rw [hR];rfl
 have R0:Hid(∀_:Unit,R 0=ds):=fun _=>by rw [hR];rfl
 rw [← hR] at RD RE
 clear hR
 generalize dgs 16(cN ds)=rs at *
 have B0:Hid(Ur((w.alloc(Obj.cells(jc ds).toArray 200)).alloc(Obj.cells(jc zs).toArray 200))w.heap.size 200 ds∧Ur((w.alloc(Obj.cells(jc ds).toArray 200)).alloc(Obj.cells(jc zs).toArray 200))(w.heap.size+1)200 zs∧Ext w((w.alloc(Obj.cells(jc ds).toArray 200)).alloc(Obj.cells(jc zs).toArray 200))):=⟨jQ _ _ _,jK _ _ _,((Ext.refl w).alloc _).alloc _⟩
 clear hd
 go_enter Tryz.func130,Tryz.ntmps130
 go_upto_region 1 with fail
 refine jg(fun W=>Ur W w.heap.size 200 ds∧Ur W(w.heap.size+1)200 zs∧Ext w W)B0.out ?_
 clear B0
 rintro W0⟨k0,k1,e0⟩
 replace k0:=hd k0
 replace k1:=hd k1
 replace e0:=hd e0
 go_wp2_with fail
 go_loopw [3](fun iv wr=>∃k:Nat,k≤4∧iv= .int .i64(k:Int)∧Ur wr w.heap.size 200(R k)∧Ur wr(w.heap.size+1)200 zs∧Ext w wr)(fun iv _=>4 - (intOf iv).toNat)
 case atStart=>exact⟨0,Nat.zero_le _,rfl,by rw [R0.out()];exact k0.out,k1.out,e0.out⟩
 case round =>
  clear k0 k1 e0 R0
  obtain⟨k,hk,rfl,k0,k1,e0⟩ :=hrel
  replace k0:=hd k0
  replace k1:=hd k1
  replace e0:=hd e0
  by_cases hlt:k < 4
  ·have ik:(k:Int) < 4:=by omega
   have ik0:(0:Int)≤(k:Int):=by omega
   have VL:=(RD.out k).1
   have VB:Hid(∀i,i < 16→wd(R k)i < 576460752303423488):=(RD.out k).2
   have HN:=hd(RS.out k)
   have DG:Hid(∀i,i < 16→dg(pV(R k)16)i=(wd(R k)i+cR(R k)i)% 65536):=fun i hi=>jjY _ hi
   have CS:Hid(∀i,cR(R k)(i+1)=(wd(R k)i+cR(R k)i) / 65536):=jb2 _
   have CB:Hid(∀i,i≤16→cR(R k)i < 17592186044416):=jhg(RD.out k).2
   have C0:=hd(jb3(R k))
   have C16:Hid(cR(R k)16=pV(R k)16 / B16):=by unfold Hid;rw [cR,Yz]
   clear RD RE RS
   obtain⟨rn,hrn⟩:∃rn,rn=R(k+1):=⟨_,rfl⟩
   rw [← hrn] at HN
   replace hrn:=hd hrn
   generalize R k=vs at *
   obtain⟨V,hV⟩:∃V,V=pV vs 16:=⟨_,rfl⟩
   rw [← hV] at HN DG C16
   clear hV
   go_wp2_with fail
   go_loopw [4,5](fun cv jv wr=>∃(i:Nat)(us:List Nat),i≤16∧jv= .int .i64(i:Int)∧cv= .int .u64(cR vs i:Int)∧us.length=16∧(∀j,j < i→wd us j=dg V j)∧(∀j,i≤j→wd us j=wd vs j)∧Ur wr w.heap.size 200 us∧Ur wr(w.heap.size+1)200 zs∧Ext w wr)(fun _ jv _=>16 - (intOf jv).toNat)
   case atStart=>exact⟨0,vs,Nat.zero_le _,rfl,by rw [C0.out];rfl,VL,fun j hj=>absurd hj(by omega),fun _ _=>rfl,k0.out,k1.out,e0.out⟩
   case round =>
    clear k0 k1 e0 C0
    obtain⟨i,us,hi,rfl,rfl,ul,ud,ur,k0,k1,e0⟩ :=hrel
    by_cases hlt2:i < 16
    ·have ii:(i:Int) < 16:=by omega
     have ii0:(0:Int)≤(i:Int):=by omega
     have cv:=k0.cell(i:=i)(by omega)
     have fv:=k0.frozen i
     rw [ur i(Nat.le_refl _)] at cv
     have b1:=VB.out i hlt2
     have b2:=CB.out i(by omega)
     have hz:=hd(DG.out i hlt2)
     have hc:=hd(CS.out i)
     generalize wd vs i=a at *
     generalize cR vs i=c at *
     obtain⟨T,hT⟩:∃T,T=a+c:=⟨_,rfl⟩
     obtain⟨z,hzz⟩:∃z,z=T % 65536:=⟨_,rfl⟩
     obtain⟨d,hd⟩:∃d,d=T / 65536:=⟨_,rfl⟩
     rw [← hT,← hzz] at hz
     rw [← hT,← hd] at hc
     have f4:(a:Int)+(c:Int)=(T:Int):=by omega
     have f4w:IntKind.u64.wrap(T:Int)=(T:Int):=by rw [IntKind.wrap_u64];omega
     have f5:(T:Int)% 65536=(z:Int):=by omega
     have f5t:Int.tmod(T:Int)65536=(z:Int):=by rw [Int.tmod_eq_emod_of_nonneg(by omega)];exact f5
     have f5w:IntKind.u64.wrap(z:Int)=(z:Int):=by rw [IntKind.wrap_u64];omega
     have f6:(T:Int) / 65536=(d:Int):=by omega
     have f6t:Int.tdiv(T:Int)65536=(d:Int):=by rw [Int.tdiv_eq_ediv_of_nonneg(by omega)];exact f6
     have f6w:IntKind.u64.wrap(d:Int)=(d:Int):=by rw [IntKind.wrap_u64];omega
     have Tlt:T < 18446744073709551616:=by omega
     have il:Hid(i < us.length):=by unfold Hid;omega
     have gne:Hid(¬ w.heap.size+1=w.heap.size):=by unfold Hid;omega
     replace hT:=hd hT
     replace hzz:=hd hzz
     replace hd:=hd hd
     replace ud:=hd ud
     replace ur:=hd ur
     replace k0:=hd k0
     replace k1:=hd k1
     replace e0:=hd e0
     clear b1 b2
     go_wp2_with fail
     refine⟨⟨i+1,us.set i z,by omega,by go_num,by rw [hc.out],by rw [List.length_set];exact ul,fun j hj=> ?_,fun j hj=> ?_,k0.out.set,(Below.heap_setCell _ _ _ _ gne.out).trans k1.out,Ext.setCell e0.out(Nat.le_refl _)_⟩,by simp [intOf];omega⟩
     ·rw [j8 il.out]
      by_cases e:j=i
      ·rw [if_pos e,e];exact hz.out.symm
      ·rw [if_neg e];exact ud.out j(by omega)
     ·rw [j8 il.out,if_neg(by omega)];exact ur.out j(by omega)
    ·obtain rfl:i=16:=by omega
     have hu:=Zt ul ud
     have c0:=k0.cell(i:=0)(by omega)
     have fv:=k0.frozen 0
     rw [ud 0(by omega)] at c0
     have b1:=zJ V 0
     have b2:=CB.out 16(Nat.le_refl _)
     have hrd:Hid(∀_:Unit,us.set 0(dg V 0+38 *cR vs 16)=rn):=fun _=>by rw [← HN.out(),C16.out,hu];rfl
     generalize dg V 0=a at *
     generalize cR vs 16=c at *
     obtain⟨p,hp⟩:∃p,p=38 *c:=⟨_,rfl⟩
     obtain⟨T,hT⟩:∃T,T=a+p:=⟨_,rfl⟩
     rw [← hp,← hT] at hrd
     have f3:(38:Int)*(c:Int)=(p:Int):=by omega
     have f3w:IntKind.u64.wrap(p:Int)=(p:Int):=by rw [IntKind.wrap_u64];omega
     have f4:(a:Int)+(p:Int)=(T:Int):=by omega
     have f4w:IntKind.u64.wrap(T:Int)=(T:Int):=by rw [IntKind.wrap_u64];omega
     have gne:Hid(¬ w.heap.size+1=w.heap.size):=by unfold Hid;omega
     replace hp:=hd hp
     replace hT:=hd hT
     replace k0:=hd k0
     replace k1:=hd k1
     replace e0:=hd e0
     clear b1 b2 ud ur hu HN DG CS CB C16 VB hlt2 hi
     go_wp2_with fail
     refine⟨⟨k+1,by omega,by go_num,?_,(Below.heap_setCell _ _ _ _ gne.out).trans k1.out,Ext.setCell e0.out(Nat.le_refl _)_⟩,by simp [intOf];omega⟩
     rw [← hrn.out,← hrd.out()]
     exact k0.out.set
  ·obtain rfl:k=4:=by omega
   rw [RE.out] at k0
   have L4:Hid(rs.length=16):=by unfold Hid;rw [← RE.out];exact(RD.out 4).1
   have RSZ:=jn L4.out
   have R1:=jw rs
   clear RD RE RS L4
   go_wp2_with(first
    |(refine wpList_load_row rfl 200 _ rfl w.heap.size rfl 200(jc rs).toArray(0,0)_ k0.out rfl rfl(by rw [RSZ];rfl)?_;go_frame)
    |(refine wpList_store_row rfl 200 _ _ rfl(w.heap.size+1)(jc rs).toArray rfl rfl 200 _ k1.out(by rw [RSZ];rfl)(by rw [RSZ,ZS])R1 ?_;go_frame))
   (try simp only [Exit.inBlock,Exit.then])
   refine bodyPost_ret(results_cell_row rfl _ _(w.heap.size+1)200(jc rs).toArray(0,0)_ rfl(setRow_heap _ _ _ _ _ _ k1.out)rfl rfl(by rw [RSZ];rfl))rfl ?_
   exact⟨rfl,below_setRow e0.out(by omega)_⟩
end
section
open Go.ChangeShapes Go.WideShapes Go.ChangeAt Go.RowKit Go.Deep
def bK(v:Nat):Nat→Nat
 |0=>0
 |i+1=>1 - (dg v i+65536 - dg P25 i - bK v i) / 65536
theorem jg7(v:Nat):∀i,bK v i≤1
 |0=>Nat.zero_le _
 |i+1=>by rw [bK];omega
theorem jb6(x i:Nat):x / 65536 ^(i+1)=x / 65536 ^ i / 65536:=by rw [Nat.pow_succ,Nat.div_div_eq_div_mul]
theorem jfI{v:Nat}(h:P25≤v):∀i,(v - P25) / 65536 ^ i+P25 / 65536 ^ i+bK v i=v / 65536 ^ i
 |0=>by rw [Nat.pow_zero,Nat.div_one,Nat.div_one,Nat.div_one,bK];omega
 |i+1=>by
  have ih:=jfI h i
  have hb:=jg7 v i
  rw [jb6,jb6 P25,jb6 v,bK]
  unfold dg
  generalize(v - P25) / 65536 ^ i=D at *
  generalize P25 / 65536 ^ i=P at *
  generalize v / 65536 ^ i=V at *
  generalize bK v i=b at *
  omega
theorem jkm{v:Nat}(h:P25≤v)(i:Nat):dg(v - P25)i=(dg v i+65536 - dg P25 i - bK v i)% 65536:=by
 have ih:=jfI h i
 have hb:=jg7 v i
 unfold dg
 generalize(v - P25) / 65536 ^ i=D at *
 generalize P25 / 65536 ^ i=P at *
 generalize v / 65536 ^ i=V at *
 generalize bK v i=b at *
 omega
theorem jiY(x:Nat):Dig(dgs 16 x):=⟨qG 16 x,fun i hi=>by rw [yu hi];have:=zJ x i;omega⟩
theorem jkd{x:Nat}(h:x < B16):cN(dgs 16 x)=x:=by
 unfold cN
 rw [Jv 16 x 16(Nat.le_refl _),Yz,Nat.mod_eq_of_lt h,jiw h,jiw h]
theorem ji9{x i:Nat}(hi:i < 16):bt(kL x)(2 *i)=dg x i % 256:=by
 rw [Q0(by omega),dg,show(256:Nat)^(2 *i)=65536 ^ i by rw [Nat.pow_mul]]
 generalize x / 65536 ^ i=X
 omega
theorem jhI{x i:Nat}(hi:i < 16):bt(kL x)(2 *i+1)=dg x i / 256:=by
 rw [Q0(by omega),dg,show(256:Nat)^(2 *i+1)=65536 ^ i *256 by rw [Nat.pow_succ,Nat.pow_mul],← Nat.div_div_eq_div_mul]
 generalize x / 65536 ^ i=X
 omega
theorem jhS{v x:Nat}(h:P25≤v)(hm:v % P25=x % P25):(v - P25)% P25=x % P25:=by
 rw [← hm,Nat.mod_eq_sub_mod h]
def mW(w:World)(g:Nat):Nat:=match w.heap[g]? with
 |some(.cells cs _ _) =>pV(cs.toList.map fun v=>match v with | .int _ z=>z.toNat |_=>0)16
 |_=>0
theorem jkZ{w:World}{g:Nat}{t:TypeId}{vs:List Nat}(h:Ur w g t vs):mW w g=pV vs 16:=by
 unfold mW
 unfold Ur at h
 rw [h]
 simp [jc,List.map_map,Function.comp_def]
theorem jhP{w:World}{g:Nat}{t:TypeId}{v:Nat}(h:Ur w g t(dgs 16 v))(hv:v < B16):mW w g=v:=by
 rw [jkZ h,Jv 16 v 16(Nat.le_refl _),Yz,Nat.mod_eq_of_lt hv]
end
section
open Go.ChangeShapes Go.WideShapes Go.ChangeAt Go.RowKit Go.Deep
set_option maxRecDepth 100000
theorem Ur.boxed(w:World)(t:TypeId)(vs:List Nat):Ur(w.alloc(.cells(jc vs).toArray t))w.heap.size t vs:=heap_alloc_new _ _
set_option maxHeartbeats 4000000 in
theorem jdj{v:Nat}{w:World}(hv:v < B16):
  Calls Tryz.prog 131 #[.agg(jc(dgs 16 v)).toArray] w fun e w'=>e= .returned(.bool(decide(P25≤v)))∧Ext w w':=by
 have PR:Hid(∀(W:World)(i:Nat),Calls Tryz.prog 132 #[.int .i64(i:Int)] W fun e w'=>e= .returned(.int .u64(pd i:Int))∧Ext W w'):=fun W i=>ZI
 have st:Hid(v / 65536 ^ 16=P25 / 65536 ^ 16):=by
  unfold Hid
  rw [Yz,Nat.div_eq_of_lt hv,Nat.div_eq_of_lt(show P25 < B16 by decide +kernel)]
 obtain⟨L,hL⟩:∃L,L=decide(P25≤v):=⟨_,rfl⟩
 have TD:Hid(∀i,i < 16→v / 65536 ^(i+1)=P25 / 65536 ^(i+1)→dg v i≠pd i→decide(pd i < dg v i)=L):=fun i hi h hd=>by
  rw [hL,jdv i hi]
  exact jfe h(by rw [← jdv i hi];exact hd)
 have SD:Hid(∀i,i < 16→v / 65536 ^(i+1)=P25 / 65536 ^(i+1)→dg v i=pd i→v / 65536 ^ i=P25 / 65536 ^ i):=fun i hi h hd=>jeZ h(by rw [← jdv i hi];exact hd)
 have LT:Hid(v / 65536 ^ 0=P25 / 65536 ^ 0→L=true):=fun h=>by
  rw [Nat.pow_zero,Nat.div_one,Nat.div_one] at h
  rw [hL,h]
  exact decide_eq_true(Nat.le_refl _)
 rw [← hL]
 clear hL hv
 have XL:=qG 16 v
 have WX:Hid(∀j,j < 16→wd(dgs 16 v)j=dg v j):=fun j hj=>yu hj
 have DL:Hid(∀j,dg v j < 65536):=zJ v
 generalize dgs 16 v=xs at *
 obtain⟨E,hE⟩:∃E:Nat→Prop,E=fun m=>v / 65536 ^ m=P25 / 65536 ^ m:=⟨_,rfl⟩
 have hE':∀m,(v / 65536 ^ m=P25 / 65536 ^ m)=E m:=fun m=>by rw [hE]
 simp only [hE'] at st TD SD LT
 clear hE hE'
 obtain⟨D,hD⟩:∃D:Nat→Nat,D=dg v:=⟨_,rfl⟩
 rw [← hD] at TD SD WX DL
 clear hD
 have B0:Hid(Ur(w.alloc(Obj.cells(jc xs).toArray 200))w.heap.size 200 xs∧Ext w(w.alloc(Obj.cells(jc xs).toArray 200))):=⟨Ur.boxed _ _ _,(Ext.refl w).alloc _⟩
 go_enter Tryz.func131,Tryz.ntmps131
 go_upto_region 1 with fail
 refine jg(fun W=>Ur W w.heap.size 200 xs∧Ext w W)B0.out ?_
 clear B0
 rintro W0⟨k0,e0⟩
 replace k0:=hd k0
 replace e0:=hd e0
 go_wp2_with fail
 go_loopw [3](fun iv wr=>∃m:Nat,m≤16∧iv= .int .i64((m:Int) - 1)∧E m∧Ur wr w.heap.size 200 xs∧Ext w wr)(fun iv _=>(intOf iv+1).toNat)
 case atStart=>exact⟨16,Nat.le_refl _,rfl,st.out,k0.out,e0.out⟩
 case round =>
  clear k0 e0 st
  obtain⟨m,hm,rfl,hs,k0,e0⟩ :=hrel
  cases m with
  |zero =>
   have hl:=LT.out hs
   replace hl:=hd hl
   clear k0 hs TD SD LT PR WX DL
   replace e0:=hd e0
   rw [show((0:Nat):Int) - 1= -1 from rfl]
   go_wp2_with fail
   (try simp only [Exit.inBlock,Exit.then])
   go_ret
   exact⟨by rw [hl.out];rfl,e0.out⟩
  |succ i =>
   have hi:i < 16:=by omega
   rw [show((i+1:Nat):Int) - 1=(i:Int)by omega]
   have ii:(i:Int) < 16:=by omega
   have ii0:(0:Int)≤(i:Int):=by omega
   have PRi:=hd(fun W=>PR.out W i)
   have b1:=DL.out i
   have b2:=jj2 i
   have KC:Hid(∀s,Ext wr s→s.cell?⟨w.heap.size,i,none⟩=some(.int .u64(D i:Int))):=fun s e=>by
    have:=(k0.kept e k0.lt).cell(i:=i)(by omega)
    rw [WX.out i hi] at this
    exact this
   have TDi:=hd(TD.out i hi hs)
   have SDi:=hd(SD.out i hi hs)
   have KK:Hid(∀s,Ext wr s→Ur s w.heap.size 200 xs∧Ext w s):=fun s e=>⟨k0.kept e k0.lt,e0.trans e⟩
   clear k0 e0 hs TD SD LT PR WX DL
   have bw:IntKind.i64.wrap((i:Int) - 1)=(i:Int) - 1:=IntWalk.i64_in _(by omega)
   generalize D i=a at *
   generalize pd i=p at *
   by_cases q:a=p
   ·have nb:((a:Int) !=(p:Int))=false:=by rw [q];simp
    have hn:=hd(SDi.out q)
    clear SDi TDi q
    go_wp2_with fail
    refine qgE [0,1,2,3,4,5] [4] ?_
    repeat((first |refine qR _(fun w' e=>KC.out w'((Ext.refl _).drew.trans e))?_ |refine qS ?_);go_frame)
    refine qD fun K1 hK1=> ?_
    go_simp
    refine(PRi.out _).mono ?_
    rintro e w2⟨rfl,e1⟩
    refine hK1.out _ _ e1 ?_
    clear hK1 K1
    try go_frame
    repeat((first |refine qR0 ?_ |refine qS ?_);go_frame)
    refine jp ?_
    have E1:=hd(KK.out w2((Ext.refl _).drew.trans e1))
    clear KK KC e1 PRi
    go_wp2_with fail
    refine⟨⟨i,by omega,rfl,hn.out,E1.out.1,E1.out.2⟩,by simp [intOf]⟩
   ·have nb:((a:Int) !=(p:Int))=true:=by
     have: ¬(a:Int)=(p:Int):=by omega
     simpa using this
    have dt:Hid(decide(p < a)=L):=TDi.out q
    clear SDi TDi q
    go_wp2_with fail
    refine qgE [0,1,2,3,4,5] [4] ?_
    repeat((first |refine qR _(fun w' e=>KC.out w'((Ext.refl _).drew.trans e))?_ |refine qS ?_);go_frame)
    refine qD fun K1 hK1=> ?_
    go_simp
    refine(PRi.out _).mono ?_
    rintro e w2⟨rfl,e1⟩
    refine hK1.out _ _ e1 ?_
    clear hK1 K1
    try go_frame
    repeat((first |refine qR0 ?_ |refine qS ?_);go_frame)
    refine jp ?_
    have E1:=hd(KK.out w2((Ext.refl _).drew.trans e1))
    have KC2:Hid(∀s,Ext w2 s→s.cell?⟨w.heap.size,i,none⟩=some(.int .u64(a:Int))):=fun s e=>KC.out s((Ext.refl _).drew.trans(e1.trans e))
    clear KK KC e1
    go_upto_region 5 with fail
    refine qgE [0,1,2,3,4,5,6] [4] ?_
    repeat((first |refine qR _(fun w' e=>KC2.out w'((Ext.refl _).drew.trans e))?_ |refine qS ?_);go_frame)
    refine qD fun K1 hK1=> ?_
    go_simp
    refine(PRi.out _).mono ?_
    rintro e w3⟨rfl,e1⟩
    refine hK1.out _ _ e1 ?_
    clear hK1 K1
    try go_frame
    repeat((first |refine qR0 ?_ |refine qS ?_);go_frame)
    refine jp ?_
    have EE:=hd(E1.out.2.trans((Ext.refl _).drew.trans e1))
    clear KC2 E1 e1 PRi
    go_wp2_with fail
    (try simp only [Exit.inBlock,Exit.then])
    go_ret
    exact⟨by rw [← dt.out];rfl,EE.out⟩
set_option maxHeartbeats 8000000 in
theorem jdD{x:Nat}{w:World}(hx:x < B16):
  Calls Tryz.prog 104 #[.agg(jc(dgs 16 x)).toArray] w fun e w'=>e= .returned(.agg(cellsOf(kL(x % P25))).toArray)∧Ext w w':=by
 have CA:Hid(∀W,Calls Tryz.prog 130 #[.agg(jc(dgs 16 x)).toArray] W fun e w'=>e= .returned(.agg(jc(dgs 16 x)).toArray)∧Ext W w'):=fun W=>by
  have:=zD(w:=W)(jiY x)
  rw [jkd hx] at this
  exact this
 have LE:Hid(∀(W:World)(v:Nat),v < B16→Calls Tryz.prog 131 #[.agg(jc(dgs 16 v)).toArray] W fun e w'=>e= .returned(.bool(decide(P25≤v)))∧Ext W w'):=fun W v h=>jdj h
 have PR:Hid(∀(W:World)(i:Nat),Calls Tryz.prog 132 #[.int .i64(i:Int)] W fun e w'=>e= .returned(.int .u64(pd i:Int))∧Ext W w'):=fun W i=>ZI
 have RL:=zw(x % P25)
 have RB:Hid(∀i,i < 16→bt(kL(x % P25))(2 *i)=dg(x % P25)i % 256∧bt(kL(x % P25))(2 *i+1)=dg(x % P25)i / 256):=fun i hi=>⟨ji9 hi,jhI hi⟩
 generalize kL(x % P25)=rr at *
 have hal:=j2
 have hz:=jU
 have zl:(List.replicate 32(0:UInt8)).length=32:=rfl
 rw [← hz] at hal
 clear hz
 generalize List.replicate 32(0:UInt8)=zs at *
 have ZS:(cellsOf zs).toArray.size=32:=by simp [ja,zl]
 have XL:=qG 16 x
 have XS:=jn XL
 have X1:=jw(dgs 16 x)
 have B0:Hid(Ur((w.alloc(Obj.cells(jc(dgs 16 x)).toArray 200)).alloc(Obj.cells(cellsOf zs).toArray 23))w.heap.size 200(dgs 16 x)∧Ky((w.alloc(Obj.cells(jc(dgs 16 x)).toArray 200)).alloc(Obj.cells(cellsOf zs).toArray 23))(w.heap.size+1)zs∧Ext w((w.alloc(Obj.cells(jc(dgs 16 x)).toArray 200)).alloc(Obj.cells(cellsOf zs).toArray 23))):=⟨jQ _ _ _,⟨jK _ _ _,zl⟩,((Ext.refl w).alloc _).alloc _⟩
 obtain⟨xs,hxs⟩:∃xs,xs=dgs 16 x:=⟨_,rfl⟩
 rw [← hxs] at CA XL XS X1 B0 ⊢
 replace hxs:=hd(fun _:Unit=>hxs)
 go_enter Tryz.func104,Tryz.ntmps104
 go_upto_region 1 with fail
 refine jg(fun W=>Ur W w.heap.size 200 xs∧Ky W(w.heap.size+1)zs∧Ext w W)B0.out ?_
 clear B0
 rintro W0⟨k0,k1,e0⟩
 replace k0:=hd k0
 replace k1:=hd k1
 replace e0:=hd e0
 go_wp2_with(refine wpList_load_row rfl 200 _ rfl w.heap.size rfl 200(jc xs).toArray(0,0)_ k0.out rfl rfl(by rw [XS];rfl)?_;go_frame)
 refine(CA.out _).mono ?_
 rintro e W1⟨rfl,e1⟩
 have m0:=hd(k0.out.kept e1 k0.out.lt)
 have m1:=hd(k1.out.ext e1)
 have m2:=hd(e0.out.trans e1)
 clear k0 k1 e0 e1 CA
 go_upto_region 2 with(refine wpList_store_row rfl 200 _ _ rfl w.heap.size(jc xs).toArray rfl rfl 200 _ m0.out(by rw [XS];rfl)(by rw [XS])X1 ?_;go_frame)
 refine jg(fun W=>Ur W w.heap.size 200 xs∧Ky W(w.heap.size+1)zs∧Ext w W)⟨setRow_heap _ _ _ _ _ _ m0.out,⟨(setRow_other _ _ _ _(by omega)).trans m1.out.1,zl⟩,below_setRow m2.out(Nat.le_refl _)_⟩?_
 clear m0 m1 m2
 rintro W2⟨k0,k1,e0⟩
 replace k0:=hd k0
 replace k1:=hd k1
 replace e0:=hd e0
 have gne:Hid(¬ w.heap.size+1=w.heap.size):=by unfold Hid;omega
 go_loopw [3](fun _ wr=>∃v:Nat,v < B16∧v % P25=x % P25∧Ur wr w.heap.size 200(dgs 16 v)∧Ky wr(w.heap.size+1)zs∧Ext w wr)(fun _ wr=>mW wr w.heap.size)
 case atStart=>exact⟨x,hx,rfl,by rw [← hxs.out()];exact k0.out,k1.out,e0.out⟩
 case round =>
  clear k0 k1 e0 hxs
  obtain⟨v,hv,hm,k0,k1,e0⟩ :=hrel
  have LEv:=hd(fun W=>LE.out W v hv)
  have hmw:=hd(mW_dgs k0 hv)
  have VL:=qG 16 v
  have VS:=jn VL
  by_cases hge:P25≤v
  ·rw [decide_eq_true hge] at LEv
   have hv2:v - P25 < B16:=by omega
   have hm2:=jhS hge hm
   have hlt3:v - P25 < v:=by
    have:0 < P25:=by decide +kernel
    omega
   have DG:Hid(∀i,i < 16→dg(v - P25)i=(dg v i+65536 - pd i - bK v i)% 65536):=fun i hi=>by rw [jdv i hi];exact jkm hge i
   have BS:Hid(∀i,i < 16→bK v(i+1)=1 - (dg v i+65536 - pd i - bK v i) / 65536):=fun i hi=>by rw [jdv i hi];rfl
   have WV:Hid(∀j,j < 16→wd(dgs 16 v)j=dg v j):=fun j hj=>yu hj
   have b00:Hid(bK v 0=0):=rfl
   have WE:Hid(∀us:List Nat,us.length=16→(∀j,j < 16→wd us j=dg(v - P25)j)→us=dgs 16(v - P25)):=fun us h1 h2=>Zt h1 h2
   have mwn:Hid(∀(W:World),Ur W w.heap.size 200(dgs 16(v - P25))→mW W w.heap.size < mW wr w.heap.size):=fun W h=>by
    rw [jhP h hv2,hmw.out]
    exact hlt3
   obtain⟨y,hy⟩:∃y,y=v - P25:=⟨_,rfl⟩
   rw [← hy] at DG WE hv2 hm2 mwn
   clear hy hge hlt3 hmw hm
   generalize dgs 16 v=vs at *
   replace hv2:=hd hv2
   replace hm2:=hd hm2
   replace k0:=hd k0
   replace k1:=hd k1
   replace e0:=hd e0
   replace hv:=hd hv
   go_wp2_with(refine wpList_load_row rfl 200 _ rfl w.heap.size rfl 200(jc vs).toArray(0,0)_ k0.out rfl rfl(by rw [VS];rfl)?_;go_frame)
   refine(LEv.out _).mono ?_
   rintro e W3⟨rfl,e1⟩
   have m0:=hd(k0.out.kept e1 k0.out.lt)
   have m1:=hd(k1.out.ext e1)
   have m2:=hd(e0.out.trans e1)
   clear k0 k1 e0 e1 LEv LE
   go_wp2_with fail
   go_loopw [3,4](fun ov jv wc=>∃(i:Nat)(us:List Nat),i≤16∧jv= .int .i64(i:Int)∧ov= .int .u64(bK v i:Int)∧us.length=16∧(∀j,j < i→wd us j=dg y j)∧(∀j,i≤j→j < 16→wd us j=dg v j)∧Ur wc w.heap.size 200 us∧Ky wc(w.heap.size+1)zs∧Ext w wc)(fun _ jv _=>16 - (intOf jv).toNat)
   case atStart=>exact⟨0,vs,Nat.zero_le _,rfl,by rw [b00.out];rfl,VL,fun j hj=>absurd hj(by omega),fun j _ hj=>WV.out j hj,m0.out,m1.out,m2.out⟩
   case round =>
    clear m0 m1 m2 b00 WV
    obtain⟨i,us,hi,rfl,rfl,ul,ud,ur,k0,k1,e0⟩ :=hrel
    by_cases hlt2:i < 16
    ·have ii:(i:Int) < 16:=by omega
     have ii0:(0:Int)≤(i:Int):=by omega
     have PRi:=hd(fun W=>PR.out W i)
     have b1:=zJ v i
     have b2:=jj2 i
     have b3:=jg7 v i
     have CC:Hid(∀s,Ext wr s→s.cell?⟨w.heap.size,i,none⟩=some(.int .u64(dg v i:Int))):=fun s e=>by
      have:=(k0.kept e k0.lt).cell(i:=i)(by omega)
      rw [ur i(Nat.le_refl _)hlt2] at this
      exact this
     have hz:=hd(DG.out i hlt2)
     have hc:=hd(BS.out i hlt2)
     generalize bK v i=b at *
     generalize pd i=p at *
     generalize dg v i=a at *
     obtain⟨s,hs⟩:∃s,s=a+65536:=⟨_,rfl⟩
     obtain⟨t,ht⟩:∃t,t=s - p:=⟨_,rfl⟩
     obtain⟨T,hT⟩:∃T,T=t - b:=⟨_,rfl⟩
     obtain⟨z,hzz⟩:∃z,z=T % 65536:=⟨_,rfl⟩
     obtain⟨d,hd⟩:∃d,d=T / 65536:=⟨_,rfl⟩
     obtain⟨o,ho⟩:∃o,o=1 - d:=⟨_,rfl⟩
     rw [← hs,← ht,← hT,← hzz] at hz
     rw [← hs,← ht,← hT,← hd,← ho] at hc
     have f1:(a:Int)+65536=(s:Int):=by omega
     have f1w:IntKind.u64.wrap(s:Int)=(s:Int):=by rw [IntKind.wrap_u64];omega
     have f2:(s:Int) - (p:Int)=(t:Int):=by omega
     have f2w:IntKind.u64.wrap(t:Int)=(t:Int):=by rw [IntKind.wrap_u64];omega
     have f4:(t:Int) - (b:Int)=(T:Int):=by omega
     have f4w:IntKind.u64.wrap(T:Int)=(T:Int):=by rw [IntKind.wrap_u64];omega
     have f5:(T:Int)% 65536=(z:Int):=by omega
     have f5t:Int.tmod(T:Int)65536=(z:Int):=by rw [Int.tmod_eq_emod_of_nonneg(by omega)];exact f5
     have f5w:IntKind.u64.wrap(z:Int)=(z:Int):=by rw [IntKind.wrap_u64];omega
     have f6:(T:Int) / 65536=(d:Int):=by omega
     have f6t:Int.tdiv(T:Int)65536=(d:Int):=by rw [Int.tdiv_eq_ediv_of_nonneg(by omega)];exact f6
     have f6w:IntKind.u64.wrap(d:Int)=(d:Int):=by rw [IntKind.wrap_u64];omega
     have f7:1 - (d:Int)=(o:Int):=by omega
     have f7w:IntKind.u64.wrap(o:Int)=(o:Int):=by rw [IntKind.wrap_u64];omega
     have il:Hid(i < us.length):=by unfold Hid;omega
     have KC:Hid(∀s,Ext wr s→s.cell?⟨w.heap.size,i,none⟩=some(.int .u64(a:Int))∧Ur s w.heap.size 200 us∧Ky s(w.heap.size+1)zs∧Ext w s):=fun s e=>And.intro(CC.out s e)(And.intro(k0.kept e k0.lt)(And.intro(k1.ext e)(e0.trans e)))
     replace hs:=hd hs
     replace ht:=hd ht
     replace hT:=hd hT
     replace hzz:=hd hzz
     replace hd:=hd hd
     replace ho:=hd ho
     replace ud:=hd ud
     replace ur:=hd ur
     clear b1 b2 b3 DG BS WE PR CC k0 k1 e0
     go_upto_region 7 with fail
     refine qgE [0,1,2,3,4,7,5,6,8,9] [5] ?_
     repeat((first |refine qR _(fun w' e=>(KC.out w'((Ext.refl _).drew.trans e)).1)?_ |refine qS ?_);go_frame)
     refine qD fun K1 hK1=> ?_
     go_simp
     refine(PRi.out _).mono ?_
     rintro e w2⟨rfl,e1⟩
     refine hK1.out _ _ e1 ?_
     clear hK1 K1
     try go_frame
     repeat((first |refine qR0 ?_ |refine qS ?_);go_frame)
     refine jp ?_
     have Q:=KC.out w2((Ext.refl _).drew.trans e1)
     have m0:=hd Q.2.1
     have m1:=hd Q.2.2.1
     have m2:=hd Q.2.2.2
     have cv:=m0.out.cell(i:=i)il.out
     have fv:=m0.out.frozen i
     clear Q KC e1 PRi
     generalize wd us i=old at *
     go_wp2_with fail
     refine⟨⟨i+1,us.set i z,by omega,by go_num,by rw [hc.out],by rw [List.length_set];exact ul,fun j hj=> ?_,fun j hj hj2=> ?_,m0.out.set,⟨(Below.heap_setCell _ _ _ _ gne.out).trans m1.out.1,zl⟩,Ext.setCell m2.out(Nat.le_refl _)_⟩,by simp [intOf];omega⟩
     ·rw [j8 il.out]
      by_cases e:j=i
      ·rw [if_pos e,e];exact hz.out.symm
      ·rw [if_neg e];exact ud.out j(by omega)
     ·rw [j8 il.out,if_neg(by omega)];exact ur.out j(by omega)hj2
    ·obtain rfl:i=16:=by omega
     have hu:=WE.out us ul ud
     subst hu
     have hmm:=hd(mwn.out wr k0)
     replace k0:=hd k0
     replace k1:=hd k1
     replace e0:=hd e0
     clear ud ur DG BS WE PR mwn ul
     go_wp2_with fail
     exact⟨⟨y,hv2.out,hm2.out,k0.out,k1.out,e0.out⟩,hmm.out⟩
  ·rw [decide_eq_false hge] at LEv
   have hx3:x % P25=v:=by rw [← hm];exact Nat.mod_eq_of_lt(by omega)
   rw [hx3] at RB
   have WV:Hid(∀j,j < 16→wd(dgs 16 v)j=dg v j):=fun j hj=>yu hj
   clear hx3 hm hge hmw PR hv LE
   generalize dgs 16 v=vs at *
   replace k0:=hd k0
   replace k1:=hd k1
   replace e0:=hd e0
   go_wp2_with(refine wpList_load_row rfl 200 _ rfl w.heap.size rfl 200(jc vs).toArray(0,0)_ k0.out rfl rfl(by rw [VS];rfl)?_;go_frame)
   refine(LEv.out _).mono ?_
   rintro e W3⟨rfl,e1⟩
   have m0:=hd(k0.out.kept e1 k0.out.lt)
   have m1:=hd(k1.out.ext e1)
   have m2:=hd(e0.out.trans e1)
   clear k0 k1 e0 e1 LEv
   have a1:=hd(Ky.boxed W3 zl)
   have e5:=hd((Ext.refl W3).alloc(Obj.cells(cellsOf zs).toArray 23))
   go_upto_region 11 with fail
   obtain⟨g,hg⟩:∃g,g=W3.heap.size:=⟨_,rfl⟩
   have lg:w.heap.size+1 < g:=by rw [hg];exact jh m1.out.1
   rw [← hg]
   rw [← hg] at a1
   refine jg(fun W=>Ur W w.heap.size 200 vs∧Ky W(w.heap.size+1)zs∧Ky W g zs∧Ext w W)⟨m0.out.kept e5.out m0.out.lt,m1.out.ext e5.out,a1.out,m2.out.trans e5.out⟩?_
   clear hg a1 e5 m0 m1 m2
   rintro W4⟨k0,k1,k2,e0⟩
   replace k0:=hd k0
   replace k1:=hd k1
   replace k2:=hd k2
   replace e0:=hd e0
   go_wp2_with fail
   go_loopw [7](fun jv wc=>∃(i:Nat)(ks:List UInt8),i≤16∧jv= .int .i64(i:Int)∧ks.length=32∧(∀j,j < 2 *i→bt ks j=bt rr j)∧Ur wc w.heap.size 200 vs∧Ky wc(w.heap.size+1)zs∧Ky wc g ks∧Ext w wc)(fun jv _=>16 - (intOf jv).toNat)
   case atStart=>exact⟨0,zs,Nat.zero_le _,rfl,zl,fun j hj=>absurd hj(by omega),k0.out,k1.out,k2.out,e0.out⟩
   case round =>
    clear k0 k1 k2 e0
    obtain⟨i,ks,hi,rfl,kl,kd,k0,k1,k2,e0⟩ :=hrel
    by_cases hlt2:i < 16
    ·have ii:(i:Int) < 16:=by omega
     have ii0:(0:Int)≤(i:Int):=by omega
     have b1:=zJ v i
     have rb:=RB.out i hlt2
     obtain⟨p,hp⟩:∃p,p=2 *i:=⟨_,rfl⟩
     obtain⟨q,hq⟩:∃q,q=p+1:=⟨_,rfl⟩
     rw [← hp,← hq] at rb
     have cn:=k0.cell(i:=i)(by omega)
     rw [WV.out i hlt2] at cn
     generalize dg v i=a at *
     obtain⟨z,hz⟩:∃z,z=a % 256:=⟨_,rfl⟩
     obtain⟨y,hy⟩:∃y,y=a / 256:=⟨_,rfl⟩
     rw [← hz,← hy] at rb
     have z8:z < 256:=by omega
     have y8:y < 256:=by omega
     have g1:(2:Int)*(i:Int)=(p:Int):=by omega
     have g1w:IntKind.i64.wrap(p:Int)=(p:Int):=IntWalk.i64_in _(by omega)
     have g2:(p:Int)+1=(q:Int):=by omega
     have g2w:IntKind.i64.wrap(q:Int)=(q:Int):=IntWalk.i64_in _(by omega)
     have p0:(0:Int)≤(p:Int):=by omega
     have p32:(p:Int) < 32:=by omega
     have q0:(0:Int)≤(q:Int):=by omega
     have q32:(q:Int) < 32:=by omega
     have pn:Hid(p < 32):=by unfold Hid;omega
     have qn:Hid(q < 32):=by unfold Hid;omega
     have f1:IntKind.u8.wrap(a:Int)=(z:Int):=by rw [IntKind.wrap_u8];omega
     have f1m:(a:Int)% 256=(z:Int):=by omega
     have f2:(a:Int) / 256=(y:Int):=by omega
     have f2t:Int.tdiv(a:Int)256=(y:Int):=by rw [Int.tdiv_eq_ediv_of_nonneg(by omega)];exact f2
     have f2w:IntKind.u64.wrap(y:Int)=(y:Int):=by rw [IntKind.wrap_u64];omega
     have f3:IntKind.u8.wrap(y:Int)=(y:Int):=by rw [IntKind.wrap_u8];omega
     have f3m:(y:Int)% 256=(y:Int):=by omega
     have cg:=k2.cell pn.out
     have fg:=k2.frozen p
     generalize bt ks p=old at *
     have gn:Hid(¬ w.heap.size=g∧¬ w.heap.size+1=g∧w.heap.size≤g):=by unfold Hid;omega
     have z8':=hd z8
     have y8':=hd y8
     replace rb:=hd rb
     replace hz:=hd hz
     replace hy:=hd hy
     replace hp:=hd hp
     replace hq:=hd hq
     replace kd:=hd kd
     have cn2:Hid(∀s,Ur s w.heap.size 200 vs→s.cell?⟨w.heap.size,i,none⟩=some(.int .u64(a:Int))):=fun s h=>by
      simp only [World.cell?] at cn ⊢
      unfold Ur at h k0
      rw [k0] at cn
      rw [h]
      exact cn
     replace k0:=hd k0
     replace k1:=hd k1
     replace k2:=hd k2
     replace e0:=hd e0
     clear b1 z8 y8 RB WV
     go_upto_region 15 with fail
     refine jg(fun W=>Ur W w.heap.size 200 vs∧Ky W(w.heap.size+1)zs∧Ky W g(ks.set p(UInt8.ofNat z))∧Ext w W)⟨(Below.heap_setCell _ _ _ _ gn.out.1).trans k0.out,⟨(Below.heap_setCell _ _ _ _ gn.out.2.1).trans k1.out.1,zl⟩,k2.out.setB6 pn.out z8'.out,Ext.setCell e0.out gn.out.2.2 _⟩?_
     clear k0 k1 k2 e0 cn cg fg old
     rintro W5⟨k0,k1,k2,e0⟩
     have cn:=cn2.out _ k0
     have cg:=k2.cell qn.out
     have fg:=k2.frozen q
     generalize bt(ks.set p(UInt8.ofNat z))q=old at *
     replace k0:=hd k0
     replace k1:=hd k1
     replace k2:=hd k2
     replace e0:=hd e0
     go_wp2_with fail
     refine⟨⟨i+1,(ks.set p(UInt8.ofNat z)).set q(UInt8.ofNat y),by omega,by go_num,by rw [List.length_set,List.length_set];exact kl,fun j hj=> ?_,(Below.heap_setCell _ _ _ _ gn.out.1).trans k0.out,⟨(Below.heap_setCell _ _ _ _ gn.out.2.1).trans k1.out.1,zl⟩,k2.out.setB6 qn.out y8'.out,Ext.setCell e0.out gn.out.2.2 _⟩,by simp [intOf];omega⟩
     have h1:=hp.out
     have h2:=hq.out
     have h3:=pn.out
     have h4:=qn.out
     rw [Za(by rw [List.length_set];omega)y8'.out]
     by_cases e:j=q
     ·rw [if_pos e,e];exact rb.out.2.symm
     ·rw [if_neg e,Za(by omega)z8'.out]
      by_cases e2:j=p
      ·rw [if_pos e2,e2];exact rb.out.1.symm
      ·rw [if_neg e2];exact kd.out j(by omega)
    ·obtain rfl:i=16:=by omega
     have hy:ks=rr:=list_bt(by rw [kl,RL])fun j hj=>kd j(by omega)
     subst hy
     have RS:(cellsOf ks).toArray.size=32:=by simp [ja,kl]
     have R1:=ji ks
     replace k1:=hd k1
     replace k2:=hd k2
     replace e0:=hd e0
     clear kd RB WV k0
     go_wp2_with(first
      |(refine wpList_load_row rfl 23 _ rfl g rfl 23(cellsOf ks).toArray(0,0)_ k2.out.1 rfl rfl(by rw [RS];rfl)?_;go_frame)
      |(refine wpList_store_row rfl 23 _ _ rfl(w.heap.size+1)(cellsOf ks).toArray rfl rfl 23 _ k1.out.1(by rw [RS];rfl)(by rw [RS,ZS])R1 ?_;go_frame))
     (try simp only [Exit.inBlock,Exit.then])
     refine bodyPost_ret(results_cell_row rfl _ _(w.heap.size+1)23(cellsOf ks).toArray(0,0)_ rfl(setRow_heap _ _ _ _ _ _ k1.out.1)rfl rfl(by rw [RS];rfl))rfl ?_
     exact⟨rfl,below_setRow e0.out(by omega)_⟩
def Zr(x y:Nat):List Nat:=(List.range 16).map fun i=>dg x i+dg y i
theorem jf3{x y i:Nat}(h:i < 16):wd(Zr x y)i=dg x i+dg y i:=by simp [wd,Zr,List.getD,h]
theorem jaV(x y:Nat):Dig(Zr x y):=⟨by simp [Zr],fun i hi=>by rw [jf3 hi];have:=dg_lt x i;have:=zJ y i;omega⟩
theorem jfS(x y:Nat):∀i,i≤16→pV(Zr x y)i=pV(dgs 16 x)i+pV(dgs 16 y)i
 |0,_=>rfl
 |i+1,h=>by rw [pV,pV,pV,jfS x y i(by omega),jf3(by omega),yu(by omega),yu(by omega),Nat.add_mul];omega
theorem jfn{vs:List Nat}{x y:Nat}(hl:vs.length=16)(h:∀j,j < 16→wd vs j=dg x j+dg y j):vs=Zr x y:=by
 refine List.ext_getElem(by simp [Zr,hl])fun i h1 h2=> ?_
 have:=h i(by omega)
 simp [wd,List.getD,h1] at this
 simp [Zr,this]
def jcT(x y:Nat):Nat:=cN(Zr x y)
theorem jiS(x y:Nat):jcT x y < B16:=jhe(jaV x y)
theorem jg5{x y:Nat}(hx:x < B16)(hy:y < B16):jcT x y % P25=(x+y)% P25:=by
 unfold jcT
 rw [jej,jfS x y 16(Nat.le_refl _),Jv 16 x 16(Nat.le_refl _),Jv 16 y 16(Nat.le_refl _),Yz,Nat.mod_eq_of_lt hx,Nat.mod_eq_of_lt hy]
set_option maxHeartbeats 4000000 in
theorem jdB{x y:Nat}{w:World}:
  Calls Tryz.prog 101 #[.agg(jc(dgs 16 x)).toArray, .agg(jc(dgs 16 y)).toArray] w fun e w'=>e= .returned(.agg(jc(dgs 16(jcT x y))).toArray)∧Ext w w':=by
 have CA:Hid(∀W,Calls Tryz.prog 130 #[.agg(jc(Zr x y)).toArray] W fun e w'=>e= .returned(.agg(jc(dgs 16(jcT x y))).toArray)∧Ext W w'):=fun W=>zD(jaV x y)
 have hal:=zx
 have ZL:J6.length=16:=rfl
 generalize J6=zs at *
 have ZS:=jn ZL
 have RL:=qG 16(jcT x y)
 have XL:=qG 16 x
 have YL:=qG 16 y
 have WX:Hid(∀j,j < 16→wd(dgs 16 x)j=dg x j):=fun j hj=>yu hj
 have WY:Hid(∀j,j < 16→wd(dgs 16 y)j=dg y j):=fun j hj=>yu hj
 generalize dgs 16(jcT x y)=rs at *
 generalize dgs 16 x=xs at *
 generalize dgs 16 y=ys at *
 have RS:=jn RL
 have R1:=jw rs
 have WS:Hid(∀vs:List Nat,vs.length=16→(∀j,j < 16→wd vs j=dg x j+dg y j)→vs=Zr x y):=fun vs h1 h2=>jfn h1 h2
 have SL:Hid((Zr x y).length=16):=(jaV x y).1
 generalize Zr x y=ss at *
 have B0:Hid(Ur(((w.alloc(Obj.cells(jc xs).toArray 200)).alloc(Obj.cells(jc ys).toArray 200)).alloc(Obj.cells(jc zs).toArray 200))w.heap.size 200 xs∧Ur(((w.alloc(Obj.cells(jc xs).toArray 200)).alloc(Obj.cells(jc ys).toArray 200)).alloc(Obj.cells(jc zs).toArray 200))(w.heap.size+1)200 ys∧Ur(((w.alloc(Obj.cells(jc xs).toArray 200)).alloc(Obj.cells(jc ys).toArray 200)).alloc(Obj.cells(jc zs).toArray 200))(w.heap.size+1+1)200 zs∧Ext w(((w.alloc(Obj.cells(jc xs).toArray 200)).alloc(Obj.cells(jc ys).toArray 200)).alloc(Obj.cells(jc zs).toArray 200))):=⟨jF _ _ _ _,jH _ _ _ _,jB _ _ _ _,(((Ext.refl w).alloc _).alloc _).alloc _⟩
 go_enter Tryz.func101,Tryz.ntmps101
 go_upto_region 1 with fail
 refine jg(fun W=>Ur W w.heap.size 200 xs∧Ur W(w.heap.size+1)200 ys∧Ur W(w.heap.size+1+1)200 zs∧Ext w W)B0.out ?_
 clear B0
 rintro W0⟨k0,k1,k2,e0⟩
 replace k0:=hd k0
 replace k1:=hd k1
 replace k2:=hd k2
 replace e0:=hd e0
 go_wp2_with fail
 go_loopw [5](fun jv wr=>∃(i:Nat)(us:List Nat),i≤16∧jv= .int .i64(i:Int)∧us.length=16∧(∀j,j < i→wd us j=dg x j+dg y j)∧(∀j,i≤j→j < 16→wd us j=dg x j)∧Ur wr w.heap.size 200 us∧Ur wr(w.heap.size+1)200 ys∧Ur wr(w.heap.size+1+1)200 zs∧Ext w wr)(fun jv _=>16 - (intOf jv).toNat)
 case atStart=>exact⟨0,xs,Nat.zero_le _,rfl,XL,fun j hj=>absurd hj(by omega),fun j _ hj=>WX.out j hj,k0.out,k1.out,k2.out,e0.out⟩
 case round =>
  clear k0 k1 k2 e0
  obtain⟨i,us,hi,rfl,ul,ud,ur,k0,k1,k2,e0⟩ :=hrel
  by_cases hlt2:i < 16
  ·have ii:(i:Int) < 16:=by omega
   have ii0:(0:Int)≤(i:Int):=by omega
   have KC:Hid(∀s,Ext wr s→s.cell?⟨w.heap.size,i,none⟩=some(.int .u64(dg x i:Int))∧s.cell?⟨w.heap.size+1,i,none⟩=some(.int .u64(dg y i:Int))):=fun s e=>by
    have h1:=(k0.kept e k0.lt).cell(i:=i)(by omega)
    have h2:=(k1.kept e k1.lt).cell(i:=i)(by omega)
    rw [ur i(Nat.le_refl _)hlt2] at h1
    rw [WY.out i hlt2] at h2
    exact And.intro h1 h2
   have cv:=k0.cell(i:=i)(by omega)
   have fv:=k0.frozen i
   rw [ur i(Nat.le_refl _)hlt2] at cv
   have b1:=zJ x i
   have b2:=zJ y i
   have hz:Hid(∀z,z=dg x i+dg y i→z=dg x i+dg y i):=fun _ h=>h
   obtain⟨a,ha⟩:∃a,a=dg x i:=⟨_,rfl⟩
   obtain⟨b,hb⟩:∃b,b=dg y i:=⟨_,rfl⟩
   obtain⟨T,hT⟩:∃T,T=a+b:=⟨_,rfl⟩
   rw [← ha] at KC b1 cv
   rw [← hb] at KC b2
   have hTz:Hid(T=dg x i+dg y i):=by unfold Hid;rw [hT,ha,hb]
   clear hz
   have f4:(a:Int)+(b:Int)=(T:Int):=by omega
   have f4w:IntKind.u64.wrap(T:Int)=(T:Int):=by rw [IntKind.wrap_u64];omega
   have il:Hid(i < us.length):=by unfold Hid;omega
   have gne:Hid(¬ w.heap.size+1=w.heap.size∧¬ w.heap.size+1+1=w.heap.size):=by unfold Hid;omega
   replace ha:=hd ha
   replace hb:=hd hb
   replace hT:=hd hT
   replace ud:=hd ud
   replace ur:=hd ur
   have d0:Ext wr wr.drew:=(Ext.refl _).drew
   have m0:=hd(k0.kept d0 k0.lt)
   have m1:=hd(k1.kept d0 k1.lt)
   have m2:=hd(k2.kept d0 k2.lt)
   have m3:=hd(e0.trans d0)
   clear k0 k1 k2 e0 d0 b1 b2 WX WY WS CA
   go_wp2_with fail
   refine yk 9 [0,1,2,3,4,5,6,7,8,9] [9] ?_
   repeat(refine qzR _(fun w' e=>KC.out w'((Ext.refl _).drew.trans e))?_;go_frame)
   refine qzD fun K1 hK1=> ?_
   go_simp
   refine hK1.out _ _(.inl rfl)?_
   clear hK1 K1
   refine jN ?_
   go_wp2_with fail
   refine⟨⟨i+1,us.set i T,by omega,by go_num,by rw [List.length_set];exact ul,fun j hj=> ?_,fun j hj hj2=> ?_,m0.out.set,(Below.heap_setCell _ _ _ _ gne.out.1).trans m1.out,(Below.heap_setCell _ _ _ _ gne.out.2).trans m2.out,Ext.setCell m3.out(Nat.le_refl _)_⟩,by simp [intOf];omega⟩
   ·rw [j8 il.out]
    by_cases e:j=i
    ·rw [if_pos e,e];exact hTz.out
    ·rw [if_neg e];exact ud.out j(by omega)
   ·rw [j8 il.out,if_neg(by omega)];exact ur.out j(by omega)hj2
  ·obtain rfl:i=16:=by omega
   have hu:=WS.out us ul ud
   rw [hu] at k0
   have SS:=jn SL.out
   replace k0:=hd k0
   replace k1:=hd k1
   replace k2:=hd k2
   replace e0:=hd e0
   clear ud ur hu ul WX WY WS us SL
   go_wp2_with(refine wpList_load_row rfl 200 _ rfl w.heap.size rfl 200(jc ss).toArray(0,0)_ k0.out rfl rfl(by rw [SS];rfl)?_;go_frame)
   refine(CA.out _).mono ?_
   rintro e w2⟨rfl,e1⟩
   have r2:=hd(k2.out.kept e1 k2.out.lt)
   have rx:=hd(e0.out.trans e1)
   clear k0 k1 k2 e0 e1 CA
   go_wp2_with(refine wpList_store_row rfl 200 _ _ rfl(w.heap.size+1+1)(jc rs).toArray rfl rfl 200 _ r2.out(by rw [RS];rfl)(by rw [RS,ZS])R1 ?_;go_frame)
   (try simp only [Exit.inBlock,Exit.then])
   refine bodyPost_ret(results_cell_row rfl _ _(w.heap.size+1+1)200(jc rs).toArray(0,0)_ rfl(setRow_heap _ _ _ _ _ _ r2.out)rfl rfl(by rw [RS];rfl))rfl ?_
   exact⟨rfl,below_setRow rx.out(by omega)_⟩
def zR(i:Nat):Nat:=if i=0 then 130996 else 131070
theorem Zb(i:Nat):65536≤zR i∧four6 i≤131070:=by unfold zR;split <;> omega
def Qo(x y:Nat):List Nat:=(List.range 16).map fun i=>dg x i+zR i - dg y i
theorem jf2{x y i:Nat}(h:i < 16):wd(Qo x y)i=dg x i+zR i - dg y i:=by simp [wd,Qo,List.getD,h]
theorem jaf(x y:Nat):Dig(Qo x y):=⟨by simp [Qo],fun i hi=>by rw [jf2 hi];have:=dg_lt x i;have:=Zb i;omega⟩
def jfF:List Nat:=(List.range 16).map zR
theorem jiL{i:Nat}(h:i < 16):wd jfF i=zR i:=by simp [wd,jfF,List.getD,h]
theorem jfP(x y:Nat):∀i,i≤16→pV(Qo x y)i+pV(dgs 16 y)i=pV(dgs 16 x)i+pV jfF i
 |0,_=>rfl
 |i+1,h=>by
  have ih:=jfP x y i(by omega)
  have h1:=zJ y i
  have h2:=Zb i
  rw [pV,pV,pV,pV,jf2(by omega),yu(by omega),yu(by omega),jiL(by omega)]
  have:(dg x i+zR i - dg y i)*65536 ^ i+dg y i *65536 ^ i=dg x i *65536 ^ i+zR i *65536 ^ i:=by
   rw [← Nat.add_mul,← Nat.add_mul]
   congr 1
   omega
  omega
theorem jgg:pV jfF 16=4 *P25:=by decide +kernel
theorem jfm{vs:List Nat}{x y:Nat}(hl:vs.length=16)(h:∀j,j < 16→wd vs j=dg x j+zR j - dg y j):vs=Qo x y:=by
 refine List.ext_getElem(by simp [Qo,hl])fun i h1 h2=> ?_
 have:=h i(by omega)
 simp [wd,List.getD,h1] at this
 simp [Qo,this]
def jd3(x y:Nat):Nat:=cN(Qo x y)
theorem jjF(x y:Nat):jd3 x y < B16:=jhe(jaf x y)
theorem jiF{x y:Nat}(hx:x < B16)(hy:y < B16):pV(Qo x y)16+y=x+4 *P25:=by
 have:=jfP x y 16(Nat.le_refl _)
 rw [Jv 16 x 16(Nat.le_refl _),Jv 16 y 16(Nat.le_refl _),Yz,Nat.mod_eq_of_lt hx,Nat.mod_eq_of_lt hy,jgg] at this
 exact this
theorem jiE{x y:Nat}(hx:x < B16)(hy:y < B16):jd3 x y % P25=(x % P25+(P25 - y % P25))% P25:=by
 unfold jd3
 rw [jej]
 have h:=jiF hx hy
 generalize pV(Qo x y)16=D at *
 have hp:0 < P25:=by decide +kernel
 have h1:=Nat.mod_lt y hp
 have h2:=Nat.div_add_mod y P25
 generalize hq:y / P25=q at *
 generalize y % P25=r at *
 have e:D+P25 *q=x+(P25 - r)+P25 *3:=by omega
 have e2:(D+P25 *q)% P25=D % P25:=Nat.add_mul_mod_self_left _ _ _
 rw [← e2,e,Nat.add_mul_mod_self_left,Nat.mod_add_mod]
set_option maxHeartbeats 4000000 in
theorem jdE{x y:Nat}{w:World}:
  Calls Tryz.prog 102 #[.agg(jc(dgs 16 x)).toArray, .agg(jc(dgs 16 y)).toArray] w fun e w'=>e= .returned(.agg(jc(dgs 16(jd3 x y))).toArray)∧Ext w w':=by
 have CA:Hid(∀W,Calls Tryz.prog 130 #[.agg(jc(Qo x y)).toArray] W fun e w'=>e= .returned(.agg(jc(dgs 16(jd3 x y))).toArray)∧Ext W w'):=fun W=>zD(jaf x y)
 have hal:=zx
 have ZL:J6.length=16:=rfl
 generalize J6=zs at *
 have ZS:=jn ZL
 have RL:=qG 16(jd3 x y)
 have XL:=qG 16 x
 have YL:=qG 16 y
 have WX:Hid(∀j,j < 16→wd(dgs 16 x)j=dg x j):=fun j hj=>yu hj
 have WY:Hid(∀j,j < 16→wd(dgs 16 y)j=dg y j):=fun j hj=>yu hj
 generalize dgs 16(jd3 x y)=rs at *
 generalize dgs 16 x=xs at *
 generalize dgs 16 y=ys at *
 have RS:=jn RL
 have R1:=jw rs
 have WS:Hid(∀vs:List Nat,vs.length=16→(∀j,j < 16→wd vs j=dg x j+zR j - dg y j)→vs=Qo x y):=fun vs h1 h2=>jfm h1 h2
 have SL:Hid((Qo x y).length=16):=(jaf x y).1
 generalize Qo x y=ss at *
 have B0:Hid(Ur(((w.alloc(Obj.cells(jc xs).toArray 200)).alloc(Obj.cells(jc ys).toArray 200)).alloc(Obj.cells(jc zs).toArray 200))w.heap.size 200 xs∧Ur(((w.alloc(Obj.cells(jc xs).toArray 200)).alloc(Obj.cells(jc ys).toArray 200)).alloc(Obj.cells(jc zs).toArray 200))(w.heap.size+1)200 ys∧Ur(((w.alloc(Obj.cells(jc xs).toArray 200)).alloc(Obj.cells(jc ys).toArray 200)).alloc(Obj.cells(jc zs).toArray 200))(w.heap.size+1+1)200 zs∧Ext w(((w.alloc(Obj.cells(jc xs).toArray 200)).alloc(Obj.cells(jc ys).toArray 200)).alloc(Obj.cells(jc zs).toArray 200))):=⟨jF _ _ _ _,jH _ _ _ _,jB _ _ _ _,(((Ext.refl w).alloc _).alloc _).alloc _⟩
 go_enter Tryz.func102,Tryz.ntmps102
 go_upto_region 1 with fail
 refine jg(fun W=>Ur W w.heap.size 200 xs∧Ur W(w.heap.size+1)200 ys∧Ur W(w.heap.size+1+1)200 zs∧Ext w W)B0.out ?_
 clear B0
 rintro W0⟨k0,k1,k2,e0⟩
 replace k0:=hd k0
 replace k1:=hd k1
 replace k2:=hd k2
 replace e0:=hd e0
 go_wp2_with fail
 go_loopw [5](fun jv wr=>∃(i:Nat)(us:List Nat),i≤16∧jv= .int .i64(i:Int)∧us.length=16∧(∀j,j < i→wd us j=dg x j+zR j - dg y j)∧(∀j,i≤j→j < 16→wd us j=dg x j)∧Ur wr w.heap.size 200 us∧Ur wr(w.heap.size+1)200 ys∧Ur wr(w.heap.size+1+1)200 zs∧Ext w wr)(fun jv _=>16 - (intOf jv).toNat)
 case atStart=>exact⟨0,xs,Nat.zero_le _,rfl,XL,fun j hj=>absurd hj(by omega),fun j _ hj=>WX.out j hj,k0.out,k1.out,k2.out,e0.out⟩
 case round =>
  clear k0 k1 k2 e0
  obtain⟨i,us,hi,rfl,ul,ud,ur,k0,k1,k2,e0⟩ :=hrel
  by_cases hlt2:i < 16
  ·have ii:(i:Int) < 16:=by omega
   have ii0:(0:Int)≤(i:Int):=by omega
   have KC:Hid(∀s,Ext wr s→s.cell?⟨w.heap.size,i,none⟩=some(.int .u64(dg x i:Int))∧s.cell?⟨w.heap.size+1,i,none⟩=some(.int .u64(dg y i:Int))):=fun s e=>by
    have h1:=(k0.kept e k0.lt).cell(i:=i)(by omega)
    have h2:=(k1.kept e k1.lt).cell(i:=i)(by omega)
    rw [ur i(Nat.le_refl _)hlt2] at h1
    rw [WY.out i hlt2] at h2
    exact And.intro h1 h2
   have cv:=k0.cell(i:=i)(by omega)
   have fv:=k0.frozen i
   rw [ur i(Nat.le_refl _)hlt2] at cv
   have b1:=zJ x i
   have b2:=zJ y i
   obtain⟨a,ha⟩:∃a,a=dg x i:=⟨_,rfl⟩
   obtain⟨b,hb⟩:∃b,b=dg y i:=⟨_,rfl⟩
   obtain⟨f,hf⟩:∃f,f=zR i:=⟨_,rfl⟩
   have b3:=Zb i
   obtain⟨S,hS⟩:∃S,S=a+f:=⟨_,rfl⟩
   obtain⟨T,hT⟩:∃T,T=S - b:=⟨_,rfl⟩
   rw [← ha] at KC b1 cv
   rw [← hb] at KC b2
   rw [← hf] at b3
   have hTz:Hid(T=dg x i+zR i - dg y i):=by unfold Hid;rw [hT,hS,ha,hb,hf]
   have CASE:Hid((((i:Int) == 0)=true∧(a:Int)+130996=(S:Int))∨(((i:Int) == 0)=false∧(a:Int)+131070=(S:Int))):=by
    unfold Hid
    by_cases q:i=0
    ·have h7:f=130996:=by rw [hf,zR,if_pos q]
     exact .inl(And.intro(by simpa using q)(by omega))
    ·have h7:f=131070:=by rw [hf,zR,if_neg q]
     exact .inr(And.intro(by simpa using q)(by omega))
   have f3w:IntKind.u64.wrap(S:Int)=(S:Int):=by rw [IntKind.wrap_u64];omega
   have f4:(S:Int) - (b:Int)=(T:Int):=by omega
   have f4w:IntKind.u64.wrap(T:Int)=(T:Int):=by rw [IntKind.wrap_u64];omega
   replace hf:=hd hf
   replace hS:=hd hS
   have il:Hid(i < us.length):=by unfold Hid;omega
   have gne:Hid(¬ w.heap.size+1=w.heap.size∧¬ w.heap.size+1+1=w.heap.size):=by unfold Hid;omega
   replace ha:=hd ha
   replace hb:=hd hb
   replace hT:=hd hT
   replace ud:=hd ud
   replace ur:=hd ur
   have d0:Ext wr wr.drew:=(Ext.refl _).drew
   have m0:=hd(k0.kept d0 k0.lt)
   have m1:=hd(k1.kept d0 k1.lt)
   have m2:=hd(k2.kept d0 k2.lt)
   have m3:=hd(e0.trans d0)
   clear k0 k1 k2 e0 d0 b1 b2 WX WY WS CA
   rcases CASE.out with⟨n0b,f3⟩ | ⟨n0b,f3⟩
   ·clear CASE
    go_wp2_with fail
    refine yk 11 [0,1,2,3,4,5,6,7,8,9,10,11] [11] ?_
    repeat(refine qzR _(fun w' e=>KC.out w'((Ext.refl _).drew.trans e))?_;go_frame)
    refine qzD fun K1 hK1=> ?_
    go_simp
    refine hK1.out _ _(.inl rfl)?_
    clear hK1 K1
    refine jN ?_
    go_wp2_with fail
    refine⟨⟨i+1,us.set i T,by omega,by go_num,by rw [List.length_set];exact ul,fun j hj=> ?_,fun j hj hj2=> ?_,m0.out.set,(Below.heap_setCell _ _ _ _ gne.out.1).trans m1.out,(Below.heap_setCell _ _ _ _ gne.out.2).trans m2.out,Ext.setCell m3.out(Nat.le_refl _)_⟩,by simp [intOf];omega⟩
    ·rw [j8 il.out]
     by_cases e:j=i
     ·rw [if_pos e,e];exact hTz.out
     ·rw [if_neg e];exact ud.out j(by omega)
    ·rw [j8 il.out,if_neg(by omega)];exact ur.out j(by omega)hj2
   ·clear CASE
    go_wp2_with fail
    refine yk 11 [0,1,2,3,4,5,6,7,8,9,10,11] [11] ?_
    repeat(refine qzR _(fun w' e=>KC.out w'((Ext.refl _).drew.trans e))?_;go_frame)
    refine qzD fun K1 hK1=> ?_
    go_simp
    refine hK1.out _ _(.inl rfl)?_
    clear hK1 K1
    refine jN ?_
    go_wp2_with fail
    refine⟨⟨i+1,us.set i T,by omega,by go_num,by rw [List.length_set];exact ul,fun j hj=> ?_,fun j hj hj2=> ?_,m0.out.set,(Below.heap_setCell _ _ _ _ gne.out.1).trans m1.out,(Below.heap_setCell _ _ _ _ gne.out.2).trans m2.out,Ext.setCell m3.out(Nat.le_refl _)_⟩,by simp [intOf];omega⟩
    ·rw [j8 il.out]
     by_cases e:j=i
     ·rw [if_pos e,e];exact hTz.out
     ·rw [if_neg e];exact ud.out j(by omega)
    ·rw [j8 il.out,if_neg(by omega)];exact ur.out j(by omega)hj2
  ·obtain rfl:i=16:=by omega
   have hu:=WS.out us ul ud
   rw [hu] at k0
   have SS:=jn SL.out
   replace k0:=hd k0
   replace k1:=hd k1
   replace k2:=hd k2
   replace e0:=hd e0
   clear ud ur hu ul WX WY WS us SL
   go_wp2_with(refine wpList_load_row rfl 200 _ rfl w.heap.size rfl 200(jc ss).toArray(0,0)_ k0.out rfl rfl(by rw [SS];rfl)?_;go_frame)
   refine(CA.out _).mono ?_
   rintro e w2⟨rfl,e1⟩
   have r2:=hd(k2.out.kept e1 k2.out.lt)
   have rx:=hd(e0.out.trans e1)
   clear k0 k1 k2 e0 e1 CA
   go_wp2_with(refine wpList_store_row rfl 200 _ _ rfl(w.heap.size+1+1)(jc rs).toArray rfl rfl 200 _ r2.out(by rw [RS];rfl)(by rw [RS,ZS])R1 ?_;go_frame)
   (try simp only [Exit.inBlock,Exit.then])
   refine bodyPost_ret(results_cell_row rfl _ _(w.heap.size+1+1)200(jc rs).toArray(0,0)_ rfl(setRow_heap _ _ _ _ _ _ r2.out)rfl rfl(by rw [RS];rfl))rfl ?_
   exact⟨rfl,below_setRow rx.out(by omega)_⟩
theorem jh1{ds:List Nat}{q z:Nat}(h:q < ds.length):∀n,q < n→pV(ds.set q z)n+wd ds q *65536 ^ q=pV ds n+z *65536 ^ q
 |0,hn=>absurd hn(by omega)
 |n+1,hn=>by
  by_cases e:q=n
  ·subst e
   have hp:∀i,i≤q→pV(ds.set q z)i=pV ds i:=by
    intro i
    induction i with
    |zero=>intro _;rfl
    |succ i ih=>intro hi;rw [pV,pV,ih(by omega),j8 h,if_neg(by omega)]
   rw [pV,pV,hp q(Nat.le_refl _),j8 h,if_pos rfl]
   omega
  ·have ih:=jh1(z:=z)h n(by omega)
   rw [pV,pV,j8 h,if_neg(by omega)]
   omega
theorem jaq(y l:Nat):y % 65536 ^(l+1)=y % 65536 ^ l+dg y l *65536 ^ l:=by
 rw [Nat.pow_succ,Nat.mod_mul,dg,Nat.mul_comm(65536 ^ l)]
theorem jhU{us:List Nat}{x y k l u T:Nat}(hl:k+l < us.length)(hl2:k+l < 32)(hu:wd us(k+l)=u)(hT:T=u+dg x k *dg y l)
  (h:pV us 32=x % 65536 ^ k *y+dg x k *(y % 65536 ^ l)*65536 ^ k):pV(us.set(k+l)T)32=x % 65536 ^ k *y+dg x k *(y % 65536 ^(l+1))*65536 ^ k:=by
 subst hT
 have h1:=jh1(z:=u+dg x k *dg y l)hl 32 hl2
 rw [hu,h,Nat.add_mul] at h1
 rw [jaq,Nat.mul_add,Nat.add_mul,show dg x k *(dg y l *65536 ^ l)*65536 ^ k=dg x k *dg y l *65536 ^(k+l)by rw [Nat.pow_add,← Nat.mul_assoc,Nat.mul_assoc(dg x k *dg y l),Nat.mul_comm(65536 ^ l)]]
 omega
theorem jje{us:List Nat}{x y k:Nat}(hy:y < 65536 ^ 16)(h:pV us 32=x % 65536 ^ k *y+dg x k *(y % 65536 ^ 16)*65536 ^ k):pV us 32=x % 65536 ^(k+1)*y:=by
 rw [h,Nat.mod_eq_of_lt hy,jaq,Nat.add_mul]
 congr 1
 rw [Nat.mul_assoc,Nat.mul_comm y,← Nat.mul_assoc]
def upL(us:List Nat):List Nat:=(List.range 16).map fun i=>wd us i+38 *wd us(i+16)
theorem jiM{us:List Nat}{i:Nat}(h:i < 16):wd(upL us)i=wd us i+38 *wd us(i+16):=by simp [wd,upL,List.getD,h]
theorem jgW{vs us:List Nat}(hl:vs.length=16)(h:∀j,j < 16→wd vs j=wd us j+38 *wd us(j+16)):vs=upL us:=by
 refine List.ext_getElem(by simp [upL,hl])fun i h1 h2=> ?_
 have:=h i(by omega)
 simp only [wd,List.getD,h1,List.getElem?_eq_getElem,Option.getD_some] at this
 simp [upL,wd,List.getD,this]
theorem jf0{us:List Nat}(h:∀j,wd us j≤68717379600):Dig(upL us):=⟨by simp [upL],fun i hi=>by
 rw [jiM hi]
 have:=h i
 have:=h(i+16)
 omega⟩
theorem jf1(us:List Nat){M:Nat}(hM:∀i,65536 ^(16+i)=M *65536 ^ i):∀i,i≤16→∃H,pV us(16+i)=pV us 16+M *H∧pV(upL us)i=pV us i+38 *H
 |0,_=>⟨0,by rw [Nat.mul_zero,Nat.add_zero,Nat.add_zero],by rw [pV,pV]⟩
 |i+1,hi=>by
  obtain⟨H,h1,h2⟩ :=upL_val us hM i(by omega)
  have hp:=hM i
  refine⟨H+wd us(i+16)*65536 ^ i,?_,?_⟩
  ·show pV us(16+i)+wd us(16+i)*65536 ^(16+i)=_
   rw [h1,hp,Nat.mul_add,Nat.add_assoc,Nat.add_comm 16 i,Nat.mul_left_comm]
  ·rw [pV,pV,h2,wd_upL(by omega),Nat.add_mul,Nat.mul_add,Nat.mul_assoc]
   omega
theorem jjO(us:List Nat):pV(upL us)16 % P25=pV us 32 % P25:=by
 have hb:(65536:Nat)^ 16=2 *P25+38:=by decide +kernel
 obtain⟨H,h1,h2⟩ :=jf1 us(M:=2 *P25+38)(fun i=>by rw [Nat.pow_add,hb])16(Nat.le_refl _)
 rw [show pV us 32=pV us 16+(2 *P25+38)*H from h1,h2,Nat.add_mul,show pV us 16+(2 *P25 *H+38 *H)=pV us 16+38 *H+P25 *(2 *H)by
  rw [← Nat.mul_assoc,Nat.mul_comm P25 2];omega,Nat.add_mul_mod_self_left]
set_option maxHeartbeats 8000000 in
theorem Jy{x y:Nat}{w:World}(hx:x < B16)(hy:y < B16):
  Calls Tryz.prog 103 #[.agg(jc(dgs 16 x)).toArray, .agg(jc(dgs 16 y)).toArray] w fun e w'=>∃z,z < B16∧z % P25=x *y % P25∧e= .returned(.agg(jc(dgs 16 z)).toArray)∧Ext w w':=by
 have hx':x < 65536 ^ 16:=by rw [Yz];exact hx
 have hy':y < 65536 ^ 16:=by rw [Yz];exact hy
 have hal:=zx
 have hal3:∀w,(zeroValue 228).run Tryz.prog w= .ok(.agg(jc(List.replicate 32 0)).toArray)w:=fun w=>by kernel_rfl
 have ZL:J6.length=16:=rfl
 generalize J6=zs at *
 have ZS:=jn ZL
 have XL:=qG 16 x
 have YL:=qG 16 y
 have WX:Hid(∀j,j < 16→wd(dgs 16 x)j=dg x j):=fun j hj=>yu hj
 have WY:Hid(∀j,j < 16→wd(dgs 16 y)j=dg y j):=fun j hj=>yu hj
 generalize dgs 16 x=xs at *
 generalize dgs 16 y=ys at *
 have TL:(List.replicate 32 0:List Nat).length=32:=rfl
 have T0:Hid(∀j,wd(List.replicate 32 0)j=0):=fun j=>by
  unfold wd
  simp only [List.getD,List.getElem?_replicate]
  split <;> rfl
 have TV:Hid(pV(List.replicate 32 0)32=0):=by unfold Hid;decide +kernel
 generalize(List.replicate 32 0:List Nat)=ts at *
 have CA:Hid(∀W us,(∀j,wd us j≤68717379600)→pV us 32=x *y→Calls Tryz.prog 130 #[.agg(jc(upL us)).toArray] W fun e w'=>∃z,z < B16∧z % P25=x *y % P25∧e= .returned(.agg(jc(dgs 16 z)).toArray)∧Ext W w'):=fun W us h1 h2=>(zD(jf0 h1)).mono fun e w' h=>⟨cN(upL us),jhe(jf0 h1),by rw [jej,jjO,h2],h.1,h.2⟩
 have ME:Hid(∀us:List Nat,pV us 32=x % 65536 ^ 16 *y→pV us 32=x *y):=fun us h=>by rw [h,Nat.mod_eq_of_lt hx']
 have MR:Hid(∀(us:List Nat)k,pV us 32=x % 65536 ^ k *y+dg x k *(y % 65536 ^ 16)*65536 ^ k→pV us 32=x % 65536 ^(k+1)*y):=fun us k h=>jje hy' h
 have B0:Hid(Ur((((w.alloc(Obj.cells(jc xs).toArray 200)).alloc(Obj.cells(jc ys).toArray 200)).alloc(Obj.cells(jc zs).toArray 200)).alloc(Obj.cells(jc ts).toArray 228))w.heap.size 200 xs∧Ur((((w.alloc(Obj.cells(jc xs).toArray 200)).alloc(Obj.cells(jc ys).toArray 200)).alloc(Obj.cells(jc zs).toArray 200)).alloc(Obj.cells(jc ts).toArray 228))(w.heap.size+1)200 ys∧Ur((((w.alloc(Obj.cells(jc xs).toArray 200)).alloc(Obj.cells(jc ys).toArray 200)).alloc(Obj.cells(jc zs).toArray 200)).alloc(Obj.cells(jc ts).toArray 228))(w.heap.size+1+1)200 zs∧Ur((((w.alloc(Obj.cells(jc xs).toArray 200)).alloc(Obj.cells(jc ys).toArray 200)).alloc(Obj.cells(jc zs).toArray 200)).alloc(Obj.cells(jc ts).toArray 228))(w.heap.size+1+1+1)228 ts∧Ext w((((w.alloc(Obj.cells(jc xs).toArray 200)).alloc(Obj.cells(jc ys).toArray 200)).alloc(Obj.cells(jc zs).toArray 200)).alloc(Obj.cells(jc ts).toArray 228))):=by
  have e3:Ext((((w.alloc(Obj.cells(jc xs).toArray 200)).alloc(Obj.cells(jc ys).toArray 200)).alloc(Obj.cells(jc zs).toArray 200)))((((w.alloc(Obj.cells(jc xs).toArray 200)).alloc(Obj.cells(jc ys).toArray 200)).alloc(Obj.cells(jc zs).toArray 200)).alloc(Obj.cells(jc ts).toArray 228)):=(Ext.refl _).alloc _
  have u0:Ur(((w.alloc(Obj.cells(jc xs).toArray 200)).alloc(Obj.cells(jc ys).toArray 200)).alloc(Obj.cells(jc zs).toArray 200))w.heap.size 200 xs:=jF _ _ _ _
  have u1:Ur(((w.alloc(Obj.cells(jc xs).toArray 200)).alloc(Obj.cells(jc ys).toArray 200)).alloc(Obj.cells(jc zs).toArray 200))(w.heap.size+1)200 ys:=jH _ _ _ _
  have u2:Ur(((w.alloc(Obj.cells(jc xs).toArray 200)).alloc(Obj.cells(jc ys).toArray 200)).alloc(Obj.cells(jc zs).toArray 200))(w.heap.size+1+1)200 zs:=jB _ _ _ _
  refine⟨u0.kept e3 u0.lt,u1.kept e3 u1.lt,u2.kept e3 u2.lt,?_,((((Ext.refl w).alloc _).alloc _).alloc _).alloc _⟩
  have:=heap_alloc_new(((w.alloc(Obj.cells(jc xs).toArray 200)).alloc(Obj.cells(jc ys).toArray 200)).alloc(Obj.cells(jc zs).toArray 200))(Obj.cells(jc ts).toArray 228)
  rw [je,je,je] at this
  exact this
 clear hx' hy' hx hy
 go_enter Tryz.func103,Tryz.ntmps103
 go_upto_region 2 with fail
 refine jg(fun W=>Ur W w.heap.size 200 xs∧Ur W(w.heap.size+1)200 ys∧Ur W(w.heap.size+1+1)200 zs∧Ur W(w.heap.size+1+1+1)228 ts∧Ext w W)B0.out ?_
 clear B0
 rintro W0⟨k0,k1,k2,k3,e0⟩
 replace k0:=hd k0
 replace k1:=hd k1
 replace k2:=hd k2
 replace k3:=hd k3
 replace e0:=hd e0
 have gne:Hid(¬ w.heap.size=w.heap.size+1+1+1∧¬ w.heap.size+1=w.heap.size+1+1+1∧¬ w.heap.size+1+1=w.heap.size+1+1+1):=by unfold Hid;omega
 go_wp2_with fail
 go_loopw [6](fun iv wr=>∃(k:Nat)(vs:List Nat),k≤16∧iv= .int .i64(k:Int)∧vs.length=32∧(∀j,wd vs j≤k *4294836225)∧pV vs 32=x % 65536 ^ k *y∧Ur wr w.heap.size 200 xs∧Ur wr(w.heap.size+1)200 ys∧Ur wr(w.heap.size+1+1)200 zs∧Ur wr(w.heap.size+1+1+1)228 vs∧Ext w wr)(fun iv _=>16 - (intOf iv).toNat)
 case atStart=>exact⟨0,ts,Nat.zero_le _,rfl,TL,fun j=>by rw [T0.out];omega,by rw [TV.out,Nat.pow_zero,Nat.mod_one,Nat.zero_mul],k0.out,k1.out,k2.out,k3.out,e0.out⟩
 case round =>
  clear k0 k1 k2 k3 e0
  obtain⟨k,vs,hk,rfl,vl,vb,vv,k0,k1,k2,k3,e0⟩ :=hrel
  by_cases hlt:k < 16
  ·have ik:(k:Int) < 16:=by omega
   have ik0:(0:Int)≤(k:Int):=by omega
   replace vb:=hd vb
   replace vv:=hd(fun _:Unit=>vv)
   replace k0:=hd k0
   replace k1:=hd k1
   replace k2:=hd k2
   replace k3:=hd k3
   replace e0:=hd e0
   go_wp2_with fail
   go_loopw [7](fun jv wr=>∃(l:Nat)(us:List Nat),l≤16∧jv= .int .i64(l:Int)∧us.length=32∧(∀j,wd us j≤(k+1)*4294836225∧(k+l≤j→wd us j≤k *4294836225))∧pV us 32=x % 65536 ^ k *y+dg x k *(y % 65536 ^ l)*65536 ^ k∧Ur wr w.heap.size 200 xs∧Ur wr(w.heap.size+1)200 ys∧Ur wr(w.heap.size+1+1)200 zs∧Ur wr(w.heap.size+1+1+1)228 us∧Ext w wr)(fun jv _=>16 - (intOf jv).toNat)
   case atStart=>exact⟨0,vs,Nat.zero_le _,rfl,vl,fun j=>⟨Nat.le_trans(vb.out j)(Nat.mul_le_mul_right _(Nat.le_succ k)),fun _=>vb.out j⟩,by rw [vv.out(),Nat.pow_zero,Nat.mod_one,Nat.mul_zero,Nat.zero_mul,Nat.add_zero],k0.out,k1.out,k2.out,k3.out,e0.out⟩
   case round =>
    clear vv vb vl k0 k1 k2 k3 e0
    obtain⟨l,us,hl,rfl,ul,ub,uv,k0,k1,k2,k3,e0⟩ :=hrel
    by_cases hlt2:l < 16
    ·have il:(l:Int) < 16:=by omega
     have il0:(0:Int)≤(l:Int):=by omega
     obtain⟨q,hq⟩:∃q,q=k+l:=⟨_,rfl⟩
     obtain⟨u,hu⟩:∃u,wd us(k+l)=u:=⟨_,rfl⟩
     have u1:=(ub(k+l)).2(Nat.le_refl _)
     rw [hu] at u1
     have cv:=k3.cell(i:=q)(by omega)
     have fv:=k3.frozen q
     rw [hq,hu,← hq] at cv
     have b1:=zJ x k
     have b2:=zJ y l
     have KC:Hid(∀s,Ext wr s→s.cell?⟨w.heap.size,k,none⟩=some(.int .u64(dg x k:Int))∧s.cell?⟨w.heap.size+1,l,none⟩=some(.int .u64(dg y l:Int))∧s.cell?⟨w.heap.size+1+1+1,q,none⟩=some(.int .u64(u:Int))):=fun s e=>by
      have h1:=(k0.kept e k0.lt).cell(i:=k)(by omega)
      have h2:=(k1.kept e k1.lt).cell(i:=l)(by omega)
      have h3:=(k3.kept e k3.lt).cell(i:=q)(by omega)
      rw [WX.out k hlt] at h1
      rw [WY.out l hlt2] at h2
      rw [hq,hu,← hq] at h3
      exact And.intro h1(And.intro h2 h3)
     have hm1:dg x k *dg y l≤4294836225:=by
      have h1:dg x k *dg y l≤65535 *65535:=Nat.mul_le_mul(by omega)(by omega)
      omega
     obtain⟨T,hT⟩:∃T,T=u+dg x k *dg y l:=⟨_,rfl⟩
     have hstep:=hd(fun _:Unit=>jhU(us:=us)(x:=x)(y:=y)(k:=k)(l:=l)(by omega)(by omega)hu hT uv)
     generalize dg x k=a at *
     generalize dg y l=b at *
     obtain⟨m,hm⟩:∃m,m=a *b:=⟨_,rfl⟩
     rw [← hm] at hT hm1
     have f0:(a:Int)*(b:Int)=(m:Int):=by rw [hm];exact(Int.natCast_mul a b).symm
     have f0w:IntKind.u64.wrap(m:Int)=(m:Int):=by rw [IntKind.wrap_u64];omega
     have f4:(u:Int)+(m:Int)=(T:Int):=by omega
     have f4w:IntKind.u64.wrap(T:Int)=(T:Int):=by rw [IntKind.wrap_u64];omega
     have fq:(k:Int)+(l:Int)=(q:Int):=by omega
     have fqw:IntKind.i64.wrap(q:Int)=(q:Int):=IntWalk.i64_in _(by omega)
     have q32:(q:Int) < 32:=by omega
     have q0:(0:Int)≤(q:Int):=by omega
     have ql:Hid(q < us.length):=by unfold Hid;omega
     have Tb:Hid(T≤(k+1)*4294836225):=by unfold Hid;omega
     rw [← hq] at hstep
     replace hq:=hd hq
     replace hu:=hd hu
     replace hT:=hd hT
     replace hm:=hd hm
     replace ub:=hd ub
     have d0:Ext wr wr.drew:=(Ext.refl _).drew
     have m0:=hd(k0.kept d0 k0.lt)
     have m1:=hd(k1.kept d0 k1.lt)
     have m2:=hd(k2.kept d0 k2.lt)
     have m3:=hd(k3.kept d0 k3.lt)
     have m4:=hd(e0.trans d0)
     clear k0 k1 k2 k3 e0 d0 b1 b2 hm1 u1 uv WX WY CA ME MR
     go_wp2_with fail
     refine yk 17 [0,1,2,3,4,5,6,7,8,9,10,11,12,13,14,15,16,17] [17] ?_
     repeat(refine qzR _(fun w' e=>KC.out w'((Ext.refl _).drew.trans e))?_;go_frame)
     refine qzD fun K1 hK1=> ?_
     go_simp
     refine hK1.out _ _(.inl rfl)?_
     clear hK1 K1
     refine jN ?_
     go_wp2_with fail
     refine⟨⟨l+1,us.set q T,by omega,by go_num,by rw [List.length_set];exact ul,fun j=> ?_,hstep.out(),(Below.heap_setCell _ _ _ _ gne.out.1).trans m0.out,(Below.heap_setCell _ _ _ _ gne.out.2.1).trans m1.out,(Below.heap_setCell _ _ _ _ gne.out.2.2).trans m2.out,m3.out.set,Ext.setCell m4.out(show w.heap.size≤w.heap.size+1+1+1 by omega)_⟩,by simp [intOf];omega⟩
     rw [j8 ql.out]
     have h1:=ub.out j
     by_cases e:j=q
     ·rw [if_pos e]
      have:=hq.out
      exact⟨Tb.out,fun h=>absurd h(by omega)⟩
     ·rw [if_neg e];exact⟨h1.1,fun h=>h1.2(by omega)⟩
    ·obtain rfl:l=16:=by omega
     have hend:=hd(fun _:Unit=>MR.out us k uv)
     replace ub:=hd ub
     replace k0:=hd k0
     replace k1:=hd k1
     replace k2:=hd k2
     replace k3:=hd k3
     replace e0:=hd e0
     clear uv WX WY CA ME MR hlt2 hl
     go_wp2_with fail
     refine⟨⟨k+1,us,by omega,by go_num,ul,fun j=>(ub.out j).1,hend.out(),k0.out,k1.out,k2.out,k3.out,e0.out⟩,by simp [intOf];omega⟩
  ·obtain rfl:k=16:=by omega
   have CAu:=hd(fun W=>CA.out W vs(fun j=>by have:=vb j;omega)(ME.out vs vv))
   have VBD:Hid(∀j,wd vs j≤68717379600):=fun j=>by have:=vb j;omega
   have WU:Hid(∀us:List Nat,us.length=16→(∀j,j < 16→wd us j=wd vs j+38 *wd vs(j+16))→us=upL vs):=fun us h1 h2=>jgW h1 h2
   have UL:(upL vs).length=16:=by simp [upL]
   generalize upL vs=uu at *
   have US:=jn UL
   replace k0:=hd k0
   replace k1:=hd k1
   replace k2:=hd k2
   replace k3:=hd k3
   replace e0:=hd e0
   clear vv vb CA ME MR WX WY k0 k1 hk hlt
   have a1:=hd(heap_alloc_new wr(Obj.cells(jc zs).toArray 200))
   have e5:=hd((Ext.refl wr).alloc(Obj.cells(jc zs).toArray 200))
   go_upto_region 10 with fail
   obtain⟨g,hg⟩:∃g,g=wr.heap.size:=⟨_,rfl⟩
   have lg:w.heap.size+1+1+1 < g:=by rw [hg];exact k3.out.lt
   rw [← hg]
   rw [← hg] at a1
   refine jg(fun W=>Ur W(w.heap.size+1+1)200 zs∧Ur W(w.heap.size+1+1+1)228 vs∧Ur W g 200 zs∧Ext w W)⟨k2.out.kept e5.out k2.out.lt,k3.out.kept e5.out k3.out.lt,a1.out,e0.out.trans e5.out⟩?_
   clear hg a1 e5 k2 k3 e0
   rintro W3⟨k2,k3,k4,e0⟩
   replace k2:=hd k2
   replace k3:=hd k3
   replace k4:=hd k4
   replace e0:=hd e0
   go_wp2_with fail
   rw [show((16:Nat):Int)=16 from rfl]
   go_loopw [9](fun jv wr=>∃(i:Nat)(us:List Nat),i≤16∧jv= .int .i64(i:Int)∧us.length=16∧(∀j,j < i→wd us j=wd vs j+38 *wd vs(j+16))∧Ur wr(w.heap.size+1+1)200 zs∧Ur wr(w.heap.size+1+1+1)228 vs∧Ur wr g 200 us∧Ext w wr)(fun jv _=>16 - (intOf jv).toNat)
   case atStart=>exact⟨0,zs,Nat.zero_le _,rfl,ZL,fun j hj=>absurd hj(by omega),k2.out,k3.out,k4.out,e0.out⟩
   case round =>
    clear k2 k3 k4 e0
    obtain⟨i,us,hi,rfl,ul,ud,k2,k3,k4,e0⟩ :=hrel
    by_cases hlt2:i < 16
    ·have il:(i:Int) < 16:=by omega
     have il0:(0:Int)≤(i:Int):=by omega
     obtain⟨q,hq⟩:∃q,q=i+16:=⟨_,rfl⟩
     have cv:=k4.cell(i:=i)(by omega)
     have fv:=k4.frozen i
     have b1:=VBD.out i
     have b2:=VBD.out q
     have KC:Hid(∀s,Ext wr s→s.cell?⟨w.heap.size+1+1+1,i,none⟩=some(.int .u64(wd vs i:Int))∧s.cell?⟨w.heap.size+1+1+1,q,none⟩=some(.int .u64(wd vs q:Int))):=fun s e=>And.intro((k3.kept e k3.lt).cell(by omega))((k3.kept e k3.lt).cell(by omega))
     obtain⟨T,hT⟩:∃T,T=wd vs i+38 *wd vs q:=⟨_,rfl⟩
     have hTz:Hid(∀j,j=i→T=wd vs j+38 *wd vs(j+16)):=fun j e=>by rw [hT,hq,e]
     generalize wd vs i=a at *
     generalize wd vs q=b at *
     generalize wd us i=old at *
     obtain⟨m,hm⟩:∃m,m=38 *b:=⟨_,rfl⟩
     rw [← hm] at hT
     have f3:(38:Int)*(b:Int)=(m:Int):=by omega
     have f3w:IntKind.u64.wrap(m:Int)=(m:Int):=by rw [IntKind.wrap_u64];omega
     have f4:(a:Int)+(m:Int)=(T:Int):=by omega
     have f4w:IntKind.u64.wrap(T:Int)=(T:Int):=by rw [IntKind.wrap_u64];omega
     have fq:(i:Int)+16=(q:Int):=by omega
     have fqw:IntKind.i64.wrap(q:Int)=(q:Int):=IntWalk.i64_in _(by omega)
     have q32:(q:Int) < 32:=by omega
     have q0:(0:Int)≤(q:Int):=by omega
     have i32:(i:Int) < 32:=by omega
     have lg2:w.heap.size≤g:=by omega
     have ql:Hid(i < us.length):=by unfold Hid;omega
     have gn2:Hid(¬ w.heap.size+1+1=g∧¬ w.heap.size+1+1+1=g):=by unfold Hid;omega
     replace hq:=hd hq
     replace hT:=hd hT
     replace hm:=hd hm
     replace ud:=hd ud
     have d0:Ext wr wr.drew:=(Ext.refl _).drew
     have m2:=hd(k2.kept d0 k2.lt)
     have m3:=hd(k3.kept d0 k3.lt)
     have m4:=hd(k4.kept d0 k4.lt)
     have m5:=hd(e0.trans d0)
     clear k2 k3 k4 e0 d0 b1 b2 CAu VBD WU
     go_wp2_with fail
     refine yk 11 [0,1,2,3,4,5,6,7,8,9,10,11] [11] ?_
     repeat(refine qzR _(fun w' e=>KC.out w'((Ext.refl _).drew.trans e))?_;go_frame)
     refine qzD fun K1 hK1=> ?_
     go_simp
     refine hK1.out _ _(.inl rfl)?_
     clear hK1 K1
     refine jN ?_
     go_wp2_with fail
     refine⟨⟨i+1,us.set i T,by omega,by go_num,by rw [List.length_set];exact ul,fun j hj=> ?_,(Below.heap_setCell _ _ _ _ gn2.out.1).trans m2.out,(Below.heap_setCell _ _ _ _ gn2.out.2).trans m3.out,m4.out.set,Ext.setCell m5.out lg2 _⟩,by simp [intOf];omega⟩
     rw [j8 ql.out]
     by_cases e:j=i
     ·rw [if_pos e];exact hTz.out j e
     ·rw [if_neg e];exact ud.out j(by omega)
    ·obtain rfl:i=16:=by omega
     have hu:=WU.out us ul ud
     rw [hu] at k4
     replace k2:=hd k2
     replace k4:=hd k4
     replace e0:=hd e0
     clear ud hu ul us WU VBD k3
     go_wp2_with(refine wpList_load_row rfl 200 _ rfl g rfl 200(jc uu).toArray(0,0)_ k4.out rfl rfl(by rw [US];rfl)?_;go_frame)
     refine(CAu.out _).mono ?_
     rintro e w2⟨z,hz,hzm,rfl,e1⟩
     have RL:=qG 16 z
     have r2:=hd(k2.out.kept e1 k2.out.lt)
     have rx:=hd(e0.out.trans e1)
     obtain⟨rs,hrs⟩:∃rs,rs=dgs 16 z:=⟨_,rfl⟩
     rw [← hrs] at RL ⊢
     have RS:=jn RL
     have R1:=jw rs
     replace hrs:=hd hrs
     replace hz:=hd hz
     replace hzm:=hd hzm
     clear k2 k4 e0 e1 CAu
     go_wp2_with(refine wpList_store_row rfl 200 _ _ rfl(w.heap.size+1+1)(jc rs).toArray rfl rfl 200 _ r2.out(by rw [RS];rfl)(by rw [RS,ZS])R1 ?_;go_frame)
     (try simp only [Exit.inBlock,Exit.then])
     refine bodyPost_ret(results_cell_row rfl _ _(w.heap.size+1+1)200(jc rs).toArray(0,0)_ rfl(setRow_heap _ _ _ _ _ _ r2.out)rfl rfl(by rw [RS];rfl))rfl ?_
     exact⟨z,hz.out,hzm.out,by rw [hrs.out],below_setRow rx.out(by omega)_⟩
theorem jfx{ds:List Nat}{n:Nat}(h:∀i,i < n→wd ds i < 65536):∀i,i≤n→cR ds i=0
 |0,_=>jb3 ds
 |i+1,hi=>by
  rw [jb2,jfx h i(by omega)]
  have:=h i(by omega)
  omega
theorem jgJ{vs:List Nat}(hl:vs.length=16)(h:∀i,i < 16→wd vs i < 65536):vs=dgs 16(pV vs 16):=
 Zt hl fun j hj=>by
  rw [jjY vs hj,jfx h j(by omega)]
  have:=h j hj
  omega
theorem jj0{vs:List Nat}{n:Nat}(h:∀i,i < n→wd vs i < 65536):∀i,i≤n→pV vs i < 65536 ^ i
 |0,_=>by simp [pV]
 |i+1,hi=>by
  have h1:=jj0 h i(by omega)
  have h2:=h i(by omega)
  rw [pV,show(65536:Nat)^(i+1)=65536 ^ i *65536 from Nat.pow_succ _ _]
  have:wd vs i *65536 ^ i≤65535 *65536 ^ i:=Nat.mul_le_mul_right _(by omega)
  generalize wd vs i *65536 ^ i=t at *
  generalize 65536 ^ i=P at *
  omega
def ofM(ks:List UInt8):Nat:=ofN ks 32 % H8
theorem jkt(ks:List UInt8):ofM ks < B16:=Nat.lt_of_lt_of_le(Nat.mod_lt _(by decide +kernel))(by decide +kernel)
theorem jjg(ks:List UInt8):ofV ks=ofM ks % P25:=rfl
theorem jj1{ks:List UInt8}{vs:List Nat}(h:∀j,j < 16→wd vs j=bt ks(2 *j)+256 *bt ks(2 *j+1)):∀i,i≤16→pV vs i=ofN ks(2 *i)
 |0,_=>rfl
 |i+1,hi=>by
  have e:(65536:Nat)^ i=256 ^(2 *i):=by rw [Nat.pow_mul]
  rw [pV,jj1 h i(by omega),h i(by omega),show 2 *(i+1)=2 *i+1+1 by omega,ofN,ofN,e,show(256:Nat)^(2 *i+1)=256 ^(2 *i)*256 from Nat.pow_succ _ _,Nat.add_mul]
  generalize 256 ^(2 *i)=P
  rw [show bt ks(2 *i+1)*(P *256)=256 *bt ks(2 *i+1)*P by rw [Nat.mul_comm 256,Nat.mul_assoc,Nat.mul_comm 256 P]]
  omega
theorem jhX{ks:List UInt8}{vs:List Nat}(hl:vs.length=16)(h:∀j,j < 16→wd vs j=bt ks(2 *j)+256 *bt ks(2 *j+1)):vs.set 15(wd vs 15 % 32768)=dgs 16(ofM ks):=by
 have h16:∀i,i < 16→wd vs i < 65536:=fun i hi=>by
  rw [h i hi]
  have:=vJ ks(2 *i)
  have:=vJ ks(2 *i+1)
  omega
 have l15:15 < vs.length:=by omega
 have hs:∀i,i < 16→wd(vs.set 15(wd vs 15 % 32768))i < 65536:=fun i hi=>by
  rw [j8 l15]
  split
  ·omega
  ·exact h16 i hi
 rw [jgJ(vs:=vs.set 15(wd vs 15 % 32768))(by simp [hl])hs]
 congr 1
 have hp:∀i,i≤15→pV(vs.set 15(wd vs 15 % 32768))i=pV vs i:=by
  intro i
  induction i with
  |zero=>intro _;rfl
  |succ i ih=>intro hi;rw [pV,pV,ih(by omega),j8 l15,if_neg(by omega)]
 have e1:pV(vs.set 15(wd vs 15 % 32768))16=pV vs 15+wd vs 15 % 32768 *65536 ^ 15:=by
  rw [show pV(vs.set 15(wd vs 15 % 32768))16=pV(vs.set 15(wd vs 15 % 32768))15+wd(vs.set 15(wd vs 15 % 32768))15 *65536 ^ 15 from rfl,hp 15(Nat.le_refl _),j8 l15,if_pos rfl]
 have e2:pV vs 15+wd vs 15 *65536 ^ 15=ofN ks 32:=jj1 h 16(Nat.le_refl _)
 have h3:=jj0 h16 15(by omega)
 have hH:H8=32768 *65536 ^ 15:=by decide +kernel
 rw [e1,ofM,← e2,hH]
 have h4:=Nat.div_add_mod(wd vs 15)32768
 have h5:wd vs 15 % 32768 < 32768:=Nat.mod_lt _(by decide)
 generalize wd vs 15 % 32768=r at *
 generalize wd vs 15 / 32768=q at *
 rw [← h4]
 generalize pV vs 15=t at *
 generalize(65536:Nat)^ 15=M at *
 clear hH
 rw [Nat.add_mul,show 32768 *q *M=32768 *M *q by rw [Nat.mul_assoc,Nat.mul_comm q,Nat.mul_assoc],show t+(32768 *M *q+r *M)=(t+r *M)+32768 *M *q by omega,Nat.add_mul_mod_self_left]
 refine(Nat.mod_eq_of_lt ?_).symm
 have:r *M≤32767 *M:=Nat.mul_le_mul_right _(by omega)
 generalize r *M=u at *
 omega
set_option maxHeartbeats 4000000 in
theorem jeV{ks:List UInt8}{w:World}(hk:ks.length=32):
  Calls Tryz.prog 99 #[.agg(cellsOf ks).toArray] w fun e w'=>e= .returned(.agg(jc(dgs 16(ofM ks))).toArray)∧Ext w w':=by
 have hal:=zx
 have ZL:J6.length=16:=rfl
 generalize J6=zs at *
 have ZS:=jn ZL
 have RL:=qG 16(ofM ks)
 have WS:Hid(∀vs:List Nat,vs.length=16→(∀j,j < 16→wd vs j=bt ks(2 *j)+256 *bt ks(2 *j+1))→vs.set 15(wd vs 15 % 32768)=dgs 16(ofM ks)):=fun vs h1 h2=>jhX h1 h2
 generalize dgs 16(ofM ks)=rs at *
 have RS:=jn RL
 have R1:=jw rs
 have B0:Hid(Ky(((w.alloc(Obj.cells(cellsOf ks).toArray 23)).alloc(Obj.cells(jc zs).toArray 200)).alloc(Obj.cells(jc zs).toArray 200))w.heap.size ks∧Ur(((w.alloc(Obj.cells(cellsOf ks).toArray 23)).alloc(Obj.cells(jc zs).toArray 200)).alloc(Obj.cells(jc zs).toArray 200))(w.heap.size+1)200 zs∧Ur(((w.alloc(Obj.cells(cellsOf ks).toArray 23)).alloc(Obj.cells(jc zs).toArray 200)).alloc(Obj.cells(jc zs).toArray 200))(w.heap.size+1+1)200 zs∧Ext w(((w.alloc(Obj.cells(cellsOf ks).toArray 23)).alloc(Obj.cells(jc zs).toArray 200)).alloc(Obj.cells(jc zs).toArray 200))):=⟨⟨jF _ _ _ _,hk⟩,jH _ _ _ _,jB _ _ _ _,(((Ext.refl w).alloc _).alloc _).alloc _⟩
 go_enter Tryz.func99,Tryz.ntmps99
 go_upto_region 2 with fail
 refine jg(fun W=>Ky W w.heap.size ks∧Ur W(w.heap.size+1)200 zs∧Ur W(w.heap.size+1+1)200 zs∧Ext w W)B0.out ?_
 clear B0
 rintro W0⟨k0,k1,k2,e0⟩
 replace k0:=hd k0
 replace k1:=hd k1
 replace k2:=hd k2
 replace e0:=hd e0
 go_wp2_with fail
 go_loopw [4](fun jv wr=>∃(i:Nat)(us:List Nat),i≤16∧jv= .int .i64(i:Int)∧us.length=16∧(∀j,j < i→wd us j=bt ks(2 *j)+256 *bt ks(2 *j+1))∧Ky wr w.heap.size ks∧Ur wr(w.heap.size+1)200 zs∧Ur wr(w.heap.size+1+1)200 us∧Ext w wr)(fun jv _=>16 - (intOf jv).toNat)
 case atStart=>exact⟨0,zs,Nat.zero_le _,rfl,ZL,fun j hj=>absurd hj(by omega),k0.out,k1.out,k2.out,e0.out⟩
 case round =>
  clear k0 k1 k2 e0
  obtain⟨i,us,hi,rfl,ul,ud,k0,k1,k2,e0⟩ :=hrel
  by_cases hlt2:i < 16
  ·have ii:(i:Int) < 16:=by omega
   have ii0:(0:Int)≤(i:Int):=by omega
   obtain⟨p,hp⟩:∃p,p=2 *i:=⟨_,rfl⟩
   obtain⟨q,hq⟩:∃q,q=p+1:=⟨_,rfl⟩
   have KC:Hid(∀s,Ext wr s→s.cell?⟨w.heap.size,p,none⟩=some(.int .u8(bt ks p:Int))∧s.cell?⟨w.heap.size,q,none⟩=some(.int .u8(bt ks q:Int))):=fun s e=>And.intro(Ky.cell(k0.ext e)(by omega))(Ky.cell(k0.ext e)(by omega))
   have cv:=k2.cell(i:=i)(by omega)
   have fv:=k2.frozen i
   have b1:=vJ ks p
   have b2:=vJ ks q
   obtain⟨a,ha⟩:∃a,a=bt ks p:=⟨_,rfl⟩
   obtain⟨b,hb⟩:∃b,b=bt ks q:=⟨_,rfl⟩
   obtain⟨m,hm⟩:∃m,m=256 *b:=⟨_,rfl⟩
   obtain⟨T,hT⟩:∃T,T=a+m:=⟨_,rfl⟩
   have hTz:Hid(T=bt ks(2 *i)+256 *bt ks(2 *i+1)):=by unfold Hid;rw [hT,hm,ha,hb,hq,hp]
   rw [← ha] at KC b1
   rw [← hb] at KC b2
   generalize wd us i=old at *
   have g1:(2:Int)*(i:Int)=(p:Int):=by omega
   have g1w:IntKind.i64.wrap(p:Int)=(p:Int):=IntWalk.i64_in _(by omega)
   have g2:(p:Int)+1=(q:Int):=by omega
   have g2w:IntKind.i64.wrap(q:Int)=(q:Int):=IntWalk.i64_in _(by omega)
   have p0:(0:Int)≤(p:Int):=by omega
   have p32:(p:Int) < 32:=by omega
   have q0:(0:Int)≤(q:Int):=by omega
   have q32:(q:Int) < 32:=by omega
   have f1:IntKind.u64.wrap(a:Int)=(a:Int):=by rw [IntKind.wrap_u64];omega
   have f2:IntKind.u64.wrap(b:Int)=(b:Int):=by rw [IntKind.wrap_u64];omega
   have f3:(256:Int)*(b:Int)=(m:Int):=by omega
   have f3w:IntKind.u64.wrap(m:Int)=(m:Int):=by rw [IntKind.wrap_u64];omega
   have f4:(a:Int)+(m:Int)=(T:Int):=by omega
   have f4w:IntKind.u64.wrap(T:Int)=(T:Int):=by rw [IntKind.wrap_u64];omega
   have il:Hid(i < us.length):=by unfold Hid;omega
   have gne:Hid(¬ w.heap.size=w.heap.size+1+1∧¬ w.heap.size+1=w.heap.size+1+1):=by unfold Hid;omega
   replace hp:=hd hp
   replace hq:=hd hq
   replace ha:=hd ha
   replace hb:=hd hb
   replace hm:=hd hm
   replace hT:=hd hT
   replace ud:=hd ud
   have d0:Ext wr wr.drew:=(Ext.refl _).drew
   have m0:=hd(k0.ext d0)
   have m1:=hd(k1.kept d0 k1.lt)
   have m2:=hd(k2.kept d0 k2.lt)
   have m3:=hd(e0.trans d0)
   clear k0 k1 k2 e0 d0 b1 b2 WS
   go_wp2_with fail
   refine yk 15 [0,1,2,3,4,5,6,7,8,9,10,11,12,13,14,15] [15] ?_
   repeat(refine qzR _(fun w' e=>KC.out w'((Ext.refl _).drew.trans e))?_;go_frame)
   refine qzD fun K1 hK1=> ?_
   go_simp
   refine hK1.out _ _(.inl rfl)?_
   clear hK1 K1
   refine jN ?_
   go_wp2_with fail
   refine⟨⟨i+1,us.set i T,by omega,by go_num,by rw [List.length_set];exact ul,fun j hj=> ?_,⟨(Below.heap_setCell _ _ _ _ gne.out.1).trans m0.out.1,hk⟩,(Below.heap_setCell _ _ _ _ gne.out.2).trans m1.out,m2.out.set,Ext.setCell m3.out(show w.heap.size≤w.heap.size+1+1 by omega)_⟩,by simp [intOf];omega⟩
   rw [j8 il.out]
   by_cases e:j=i
   ·rw [if_pos e,e];exact hTz.out
   ·rw [if_neg e];exact ud.out j(by omega)
  ·obtain rfl:i=16:=by omega
   have hu:Hid(∀_:Unit,us.set 15(wd us 15 % 32768)=rs):=fun _=>WS.out us ul ud
   have c0:=k2.cell(i:=15)(by omega)
   have fv:=k2.frozen 15
   have b1:wd us 15 < 65536:=by rw [ud 15(by omega)];have:=vJ ks(2 *15);have:=vJ ks(2 *15+1);omega
   generalize wd us 15=a at *
   obtain⟨z,hz⟩:∃z,z=a % 32768:=⟨_,rfl⟩
   rw [← hz] at hu
   have f5:(a:Int)% 32768=(z:Int):=by omega
   have f5t:Int.tmod(a:Int)32768=(z:Int):=by rw [Int.tmod_eq_emod_of_nonneg(by omega)];exact f5
   have f5w:IntKind.u64.wrap(z:Int)=(z:Int):=by rw [IntKind.wrap_u64];omega
   replace hz:=hd hz
   have gne:Hid(¬ w.heap.size+1=w.heap.size+1+1):=by unfold Hid;omega
   replace k1:=hd k1
   replace k2:=hd k2
   replace e0:=hd e0
   clear ud b1 WS k0
   go_upto_region 7 with fail
   refine jg(fun W=>Ur W(w.heap.size+1)200 zs∧Ur W(w.heap.size+1+1)200 rs∧Ext w W)⟨(Below.heap_setCell _ _ _ _ gne.out).trans k1.out,by rw [← hu.out()];exact k2.out.set,Ext.setCell e0.out(show w.heap.size≤w.heap.size+1+1 by omega)_⟩?_
   clear k1 k2 e0 c0 fv hu f5 f5t f5w hz ul
   rintro W2⟨k1,k2,e0⟩
   go_wp2_with(first
    |(refine wpList_load_row rfl 200 _ rfl(w.heap.size+1+1)rfl 200(jc rs).toArray(0,0)_ k2 rfl rfl(by rw [RS];rfl)?_;go_frame)
    |(refine wpList_store_row rfl 200 _ _ rfl(w.heap.size+1)(jc rs).toArray rfl rfl 200 _ k1(by rw [RS];rfl)(by rw [RS,ZS])R1 ?_;go_frame))
   (try simp only [Exit.inBlock,Exit.then])
   refine bodyPost_ret(results_cell_row rfl _ _(w.heap.size+1)200(jc rs).toArray(0,0)_ rfl(setRow_heap _ _ _ _ _ _ k1)rfl rfl(by rw [RS];rfl))rfl ?_
   exact⟨rfl,below_setRow e0(by omega)_⟩
end
end Go.Proofs.YtakpgbaijkhpmaaGreatDoor
