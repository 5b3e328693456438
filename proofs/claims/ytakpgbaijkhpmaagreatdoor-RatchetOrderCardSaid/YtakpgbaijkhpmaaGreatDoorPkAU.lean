import Derived.Test.YtakpgbaijkhpmaaGreatDoorPkAT
import Derived.Test.YtakpgbaijkhpmaaGreatDoorPkAG
import Derived.Test.YtakpgbaijkhpmaaGreatDoorPkAL
namespace Go.Proofs.YtakpgbaijkhpmaaGreatDoor
section
open Go.ChangeShapes Go.WideShapes Go.ChangeAt Go.RowKit Go.Deep
set_option maxRecDepth 100000
def jeL:List Nat:= [1,0,0,0,0,0,0,0,0,0,0,0,0,0,0,0]
theorem jji:oneD=dgs 16 1:=by decide +kernel
theorem jaw:Tryz.prog.built 200 [(0, .int .u64 1)]=some(jc jeL).toArray:=by kernel_rfl
set_option maxHeartbeats 8000000 in
theorem jdC{x:Nat}{w:World}(hx:x < B16):
  Calls Tryz.prog 105 #[.agg(jc(dgs 16 x)).toArray] w fun e w'=>∃z,z < B16∧z % P25=zK(x % P25)∧e= .returned(.agg(jc(dgs 16 z)).toArray)∧Ext w w':=by
 have SQ:Hid(∀(W:World)(a m:Nat),a < B16→a % P25=iA(x % P25)m→Calls Tryz.prog 103 #[.agg(jc(dgs 16 a)).toArray, .agg(jc(dgs 16 a)).toArray] W fun e w'=>∃cs:List Nat,cs.length=16∧(∃c,c < B16∧c % P25=iA(x % P25)m *iA(x % P25)m % P25∧cs=dgs 16 c)∧e= .returned(.agg(jc cs).toArray)∧Ext W w'):=fun W a m h hm=>by
  refine(Jy h h).mono ?_
  rintro e w'⟨z,hz,hzm,rfl,e1⟩
  exact⟨dgs 16 z,qG 16 z,⟨z,hz,by rw [hzm,Nat.mul_mod,hm],rfl⟩,rfl,e1⟩
 have MX:Hid(∀(W:World)(a t:Nat),a < B16→a % P25=t→Calls Tryz.prog 103 #[.agg(jc(dgs 16 a)).toArray, .agg(jc(dgs 16 x)).toArray] W fun e w'=>∃cs:List Nat,cs.length=16∧(∃c,c < B16∧c % P25=t *(x % P25)% P25∧cs=dgs 16 c)∧e= .returned(.agg(jc cs).toArray)∧Ext W w'):=fun W a t h hm=>by
  refine(Jy h hx).mono ?_
  rintro e w'⟨z,hz,hzm,rfl,e1⟩
  exact⟨dgs 16 z,qG 16 z,⟨z,hz,by rw [hzm,Nat.mul_mod,hm],rfl⟩,rfl,e1⟩
 have hxP:Hid(x % P25 *1 % P25=x % P25):=by unfold Hid;rw [Nat.mul_one,Nat.mod_mod]
 obtain⟨X,hX⟩:∃X,X=x % P25:=⟨_,rfl⟩
 rw [← hX] at SQ MX hxP ⊢
 have IS:Hid(∀m,(m=252∨m=250)→iA X(m+1)=iA X m *iA X m % P25):=fun m h=>by rw [iA,if_pos h]
 have IN:Hid(∀m,¬(m=252∨m=250)→iA X(m+1)=iA X m *iA X m % P25 *X % P25):=fun m h=>by rw [iA,if_neg h]
 have I0:Hid(1 % P25=iA X 0):=by unfold Hid;rw [iA];decide +kernel
 have IE:Hid(iA X 255=zK X):=rfl
 generalize zK X=R at *
 obtain⟨f,hf⟩:∃f:Nat→Nat,f=iA X:=⟨_,rfl⟩
 rw [← hf] at SQ IS IN I0 IE
 clear hf hX hxP hx
 have hal:=zx
 have ZL:J6.length=16:=rfl
 generalize J6=zs at *
 have ZS:=jn ZL
 have XL:=qG 16 x
 have XS:=jn XL
 generalize dgs 16 x=xs at *
 have O1L:jeL.length=16:=rfl
 have hb1:=hd jaw
 have o1e:Hid(∀_:Unit,jeL=dgs 16 1):=fun _=>jji
 generalize jeL=ow at *
 have OS:=jn O1L
 have O1:=jw ow
 have B0:Hid(Ur(((w.alloc(Obj.cells(jc xs).toArray 200)).alloc(Obj.cells(jc zs).toArray 200)).alloc(Obj.cells(jc zs).toArray 200))w.heap.size 200 xs∧Ur(((w.alloc(Obj.cells(jc xs).toArray 200)).alloc(Obj.cells(jc zs).toArray 200)).alloc(Obj.cells(jc zs).toArray 200))(w.heap.size+1)200 zs∧Ur(((w.alloc(Obj.cells(jc xs).toArray 200)).alloc(Obj.cells(jc zs).toArray 200)).alloc(Obj.cells(jc zs).toArray 200))(w.heap.size+1+1)200 zs∧Ext w(((w.alloc(Obj.cells(jc xs).toArray 200)).alloc(Obj.cells(jc zs).toArray 200)).alloc(Obj.cells(jc zs).toArray 200))):=⟨jF _ _ _ _,jH _ _ _ _,jB _ _ _ _,(((Ext.refl w).alloc _).alloc _).alloc _⟩
 go_enter Tryz.func105,Tryz.ntmps105
 go_upto_region 2 with(first
  |(refine jm rfl _ _ rfl(ucells ow).toArray(by simp only [List.map_toArray,List.map_cons,List.map_nil];exact hb1.out)?_;go_frame)
  |(refine wpList_store_row rfl 200 _ _ rfl(w.heap.size+1+1)(jc ow).toArray rfl rfl 200 _ B0.out.2.2.1(by rw [OS];rfl)(by rw [OS,ZS])O1 ?_;go_frame))
 refine jg(fun W=>Ur W w.heap.size 200 xs∧Ur W(w.heap.size+1)200 zs∧Ur W(w.heap.size+1+1)200 ow∧Ext w W)⟨(setRow_other _ _ _ _(by omega)).trans B0.out.1,(setRow_other _ _ _ _(by omega)).trans B0.out.2.1,setRow_heap _ _ _ _ _ _ B0.out.2.2.1,below_setRow B0.out.2.2.2(by omega)_⟩?_
 clear B0
 rintro W0⟨k0,k1,k2,e0⟩
 replace k0:=hd k0
 replace k1:=hd k1
 replace k2:=hd k2
 replace e0:=hd e0
 go_wp2_with fail
 go_loopw [4](fun iv wr=>∃(m z:Nat),m≤255∧iv= .int .i64(254 - (m:Int))∧z < B16∧z % P25=f m∧Ur wr w.heap.size 200 xs∧Ur wr(w.heap.size+1)200 zs∧Ur wr(w.heap.size+1+1)200(dgs 16 z)∧Ext w wr)(fun iv _=>(intOf iv+1).toNat)
 case atStart=>exact⟨0,1,Nat.zero_le _,rfl,by decide +kernel,I0.out,k0.out,k1.out,by rw [← o1e.out()];exact k2.out,e0.out⟩
 case round =>
  clear k0 k1 k2 e0 I0 o1e
  obtain⟨m,z,hm,rfl,hz,hzm,k0,k1,k2,e0⟩ :=hrel
  have L_z:=qG 16 z
  have S_z:=jn L_z
  by_cases hlt:m < 255
  ·obtain⟨b,hb⟩:∃b:Int,b=254 - (m:Int):=⟨_,rfl⟩
   rw [← hb]
   have b0:(0:Int)≤b:=by omega
   have b1:b≤254:=by omega
   have bw:IntKind.i64.wrap(b - 1)=b - 1:=IntWalk.i64_in _(by omega)
   have hbn:Hid(b - 1=254 - ((m+1:Nat):Int)):=by unfold Hid;omega
   have SQm:=hd(fun W=>SQ.out W z m hz hzm)
   have CASE:Hid(((b=2∨b=4)∧f(m+1)=f m *f m % P25)∨((¬ b=2∧¬ b=4)∧f(m+1)=f m *f m % P25 *X % P25)):=by
    unfold Hid
    by_cases q:m=252∨m=250
    ·exact .inl⟨by omega,IS.out m q⟩
    ·exact .inr⟨by omega,IN.out m q⟩
   clear IS IN IE SQ hz hzm
   replace hb:=hd hb
   generalize dgs 16 z=zz at *
   replace k0:=hd k0
   replace k1:=hd k1
   replace k2:=hd k2
   replace e0:=hd e0
   go_wp2_with(refine wpList_load_row rfl 200 _ rfl(w.heap.size+1+1)rfl 200(jc zz).toArray(0,0)_ k2.out rfl rfl(by rw [S_z];rfl)?_;go_frame)
   refine(SQm.out _).mono ?_
   rintro e w1⟨cs,cl,hc,rfl,e1⟩
   replace hc:=hd hc
   have S_c:=jn cl
   have O_c:=jw cs
   have m0:=hd(k0.out.kept e1 k0.out.lt)
   have m1:=hd(k1.out.kept e1 k1.out.lt)
   have m2:=hd(k2.out.kept e1 k2.out.lt)
   have m3:=hd(e0.out.trans e1)
   clear k0 k1 k2 e0 e1 SQm
   go_upto_region 6 with(refine wpList_store_row rfl 200 _ _ rfl(w.heap.size+1+1)(jc cs).toArray rfl rfl 200 _ m2.out(by rw [S_c];rfl)(by rw [S_c,S_z])O_c ?_;go_frame)
   refine jg(fun W=>Ur W w.heap.size 200 xs∧Ur W(w.heap.size+1)200 zs∧Ur W(w.heap.size+1+1)200 cs∧Ext w W)⟨(setRow_other _ _ _ _(by omega)).trans m0.out,(setRow_other _ _ _ _(by omega)).trans m1.out,setRow_heap _ _ _ _ _ _ m2.out,below_setRow m3.out(by omega)_⟩?_
   clear m0 m1 m2 m3 S_z L_z
   rintro w2⟨k0,k1,k2,e0⟩
   replace k0:=hd k0
   replace k1:=hd k1
   replace k2:=hd k2
   replace e0:=hd e0
   rcases CASE.out with⟨hbb,hfe⟩ | ⟨⟨n2,n4⟩,hfe⟩
   ·clear CASE MX
    have hfe':=hd(fun _:Unit=>hfe)
    clear hfe
    rcases hbb with rfl |rfl <;>
    ·go_wp2_with fail
     obtain⟨c,hcB,hcm,hce⟩ :=hc.out
     exact⟨⟨m+1,c,by omega,by rw [← hbn.out];rfl,hcB,by rw [hfe'.out()];exact hcm,k0.out,k1.out,by rw [← hce];exact k2.out,e0.out⟩,by simp [intOf]⟩
   ·clear CASE
    have hfe':=hd(fun _:Unit=>hfe)
    clear hfe
    have n2b:(b !=2)=true:=by simpa using n2
    have n4b:(b !=4)=true:=by simpa using n4
    have MXc:Hid(∀W,Calls Tryz.prog 103 #[.agg(jc cs).toArray, .agg(jc xs).toArray] W fun e w'=>∃ds:List Nat,ds.length=16∧(∃c,c < B16∧c % P25=f m *f m % P25 *X % P25∧ds=dgs 16 c)∧e= .returned(.agg(jc ds).toArray)∧Ext W w'):=fun W=>by
     obtain⟨c,hcB,hcm,hce⟩ :=hc.out
     rw [hce]
     exact MX.out W c _ hcB hcm
    clear MX hc
    go_wp2_with(first
     |(refine wpList_load_row rfl 200 _ rfl(w.heap.size+1+1)rfl 200(jc cs).toArray(0,0)_ k2.out rfl rfl(by rw [S_c];rfl)?_;go_frame)
     |(refine wpList_load_row rfl 200 _ rfl w.heap.size rfl 200(jc xs).toArray(0,0)_ k0.out rfl rfl(by rw [XS];rfl)?_;go_frame))
    refine(MXc.out _).mono ?_
    rintro e w3⟨ds,dl,hd,rfl,e1⟩
    replace hd:=hd hd
    have S_d:=jn dl
    have O_d:=jw ds
    have m0:=hd(k0.out.kept e1 k0.out.lt)
    have m1:=hd(k1.out.kept e1 k1.out.lt)
    have m2:=hd(k2.out.kept e1 k2.out.lt)
    have m3:=hd(e0.out.trans e1)
    clear k0 k1 k2 e0 e1 MXc
    go_wp2_with(refine wpList_store_row rfl 200 _ _ rfl(w.heap.size+1+1)(jc ds).toArray rfl rfl 200 _ m2.out(by rw [S_d];rfl)(by rw [S_d,S_c])O_d ?_;go_frame)
    obtain⟨c,hcB,hcm,hce⟩ :=hd.out
    exact⟨⟨m+1,c,by omega,by rw [← hbn.out],hcB,by rw [hfe'.out()];exact hcm,(setRow_other _ _ _ _(by omega)).trans m0.out,(setRow_other _ _ _ _(by omega)).trans m1.out,by rw [← hce];exact setRow_heap _ _ _ _ _ _ m2.out,below_setRow m3.out(by omega)_⟩,by simp [intOf];omega⟩
  ·obtain rfl:m=255:=by omega
   rw [IE.out] at hzm
   have O_z:=jw(dgs 16 z)
   obtain⟨zz,hzz⟩:∃zz,zz=dgs 16 z:=⟨_,rfl⟩
   rw [← hzz] at k2 L_z S_z O_z
   replace hzz:=hd(fun _:Unit=>hzz)
   replace hz:=hd hz
   replace hzm:=hd hzm
   replace k1:=hd k1
   replace k2:=hd k2
   replace e0:=hd e0
   clear k0 IS IN IE SQ MX
   go_wp2_with(first
    |(refine wpList_load_row rfl 200 _ rfl(w.heap.size+1+1)rfl 200(jc zz).toArray(0,0)_ k2.out rfl rfl(by rw [S_z];rfl)?_;go_frame)
    |(refine wpList_store_row rfl 200 _ _ rfl(w.heap.size+1)(jc zz).toArray rfl rfl 200 _ k1.out(by rw [S_z];rfl)(by rw [S_z,ZS])O_z ?_;go_frame))
   (try simp only [Exit.inBlock,Exit.then])
   refine bodyPost_ret(results_cell_row rfl _ _(w.heap.size+1)200(jc zz).toArray(0,0)_ rfl(setRow_heap _ _ _ _ _ _ k1.out)rfl rfl(by rw [S_z];rfl))rfl ?_
   exact⟨z,hz.out,hzm.out,by rw [hzz.out()],below_setRow e0.out(by omega)_⟩
def IsN(cs:List Nat)(v:Nat):Prop:= ∃c,c < B16∧c % P25=v∧cs=dgs 16 c
theorem IsN.len{cs:List Nat}{v:Nat}(h:IsN cs v):cs.length=16:=by obtain⟨c,_,_,rfl⟩ :=h;exact qG 16 c
section
variable{cs ds:List Nat}{x y:Nat}{w:World}
theorem yn(hx:IsN cs x)(hy:IsN ds y):Calls Tryz.prog 101 #[.agg(jc cs).toArray, .agg(jc ds).toArray] w fun e w'=>∃es,IsN es(yZ x y)∧e= .returned(.agg(jc es).toArray)∧Ext w w':=by
 obtain⟨a,ha,hm,rfl⟩ :=hx
 obtain⟨b,hb,hn,rfl⟩ :=hy
 refine jdB.mono ?_
 rintro e w'⟨rfl,e1⟩
 exact⟨_,⟨jcT a b,jiS a b,by rw [jg5 ha hb,Nat.add_mod,hm,hn];rfl,rfl⟩,rfl,e1⟩
theorem yo(hx:IsN cs x)(hy:IsN ds y):Calls Tryz.prog 102 #[.agg(jc cs).toArray, .agg(jc ds).toArray] w fun e w'=>∃es,IsN es(zO x y)∧e= .returned(.agg(jc es).toArray)∧Ext w w':=by
 obtain⟨a,ha,hm,rfl⟩ :=hx
 obtain⟨b,hb,hn,rfl⟩ :=hy
 refine jdE.mono ?_
 rintro e w'⟨rfl,e1⟩
 exact⟨_,⟨jd3 a b,jjF a b,by rw [jiE ha hb,hm,hn];rfl,rfl⟩,rfl,e1⟩
theorem j9(hx:IsN cs x)(hy:IsN ds y):Calls Tryz.prog 103 #[.agg(jc cs).toArray, .agg(jc ds).toArray] w fun e w'=>∃es,IsN es(qr x y)∧e= .returned(.agg(jc es).toArray)∧Ext w w':=by
 obtain⟨a,ha,hm,rfl⟩ :=hx
 obtain⟨b,hb,hn,rfl⟩ :=hy
 refine(Jy ha hb).mono ?_
 rintro e w'⟨z,hz,hzm,rfl,e1⟩
 exact⟨_,⟨z,hz,by rw [hzm,Nat.mul_mod,hm,hn];rfl,rfl⟩,rfl,e1⟩
theorem jeD(hx:IsN cs x):Calls Tryz.prog 105 #[.agg(jc cs).toArray] w fun e w'=>∃es,IsN es(zK x)∧e= .returned(.agg(jc es).toArray)∧Ext w w':=by
 obtain⟨a,ha,hm,rfl⟩ :=hx
 refine(jdC ha).mono ?_
 rintro e w'⟨z,hz,hzm,rfl,e1⟩
 exact⟨_,⟨z,hz,by rw [hzm,hm],rfl⟩,rfl,e1⟩
theorem jeE(hx:IsN cs x):Calls Tryz.prog 104 #[.agg(jc cs).toArray] w fun e w'=>e= .returned(.agg(cellsOf(kL x)).toArray)∧Ext w w':=by
 obtain⟨a,ha,hm,rfl⟩ :=hx
 have:=jdD(w:=w)ha
 rwa [hm] at this
theorem jgu{ks:List UInt8}(hk:ks.length=32):Calls Tryz.prog 99 #[.agg(cellsOf ks).toArray] w fun e w'=>∃es,IsN es(ofV ks)∧e= .returned(.agg(jc es).toArray)∧Ext w w':=by
 refine(jeV hk).mono ?_
 rintro e w'⟨rfl,e1⟩
 exact⟨_,⟨ofM ks,jkt ks,(jjg ks).symm,rfl⟩,rfl,e1⟩
end
def jkk:List Nat:= [56129,1,0,0,0,0,0,0,0,0,0,0,0,0,0,0]
theorem jep:Tryz.prog.built 200 [(0, .int .u64 56129),(1, .int .u64 1)]=some(jc jkk).toArray:=by kernel_rfl
theorem jd9:Tryz.prog.built 200 []=some(jc J6).toArray:=by kernel_rfl
theorem ji5:IsN jkk 121665:=⟨121665,by decide +kernel,by decide +kernel,by decide +kernel⟩
theorem jjj:IsN jeL 1:=⟨1,by decide +kernel,by decide +kernel,by decide +kernel⟩
theorem jjR:IsN J6 0:=⟨0,by decide +kernel,by decide +kernel,by decide +kernel⟩
set_option maxHeartbeats 2000000 in
theorem jeU{ks:List UInt8}{n:Nat}{w:World}(hk:ks.length=32)(hn:n≤254):
  Calls Tryz.prog 100 #[.agg(cellsOf ks).toArray, .int .i64(n:Int)] w fun e w'=>e= .returned(.bool(yj ks n))∧Ext w w':=by
 have B0:Hid(Ky(w.alloc(Obj.cells(cellsOf ks).toArray 23))w.heap.size ks∧Ext w(w.alloc(Obj.cells(cellsOf ks).toArray 23))):=⟨Ky.boxed w hk,(Ext.refl w).alloc _⟩
 by_cases h3:n < 3
 ·have hb:Hid(yj ks n=false):=by unfold Hid yj;rw [if_pos(by omega)]
  have t1:decide((n:Int) < 3)=true:=decide_eq_true(by omega)
  go_enter Tryz.func100,Tryz.ntmps100
  go_wp2_with fail
  go_ret
  exact⟨by rw [hb.out];rfl,B0.out.2⟩
 ·have t1:decide((n:Int) < 3)=false:=decide_eq_false(by omega)
  have t2:((n:Int) == 255)=false:=by simp;omega
  by_cases h4:n=254
  ·have hb:Hid(yj ks n=true):=by unfold Hid yj;rw [if_neg(by omega),if_pos h4]
   have t3:((n:Int) == 254)=true:=by simp;omega
   replace h4:=hd(fun _:Unit=>h4)
   go_enter Tryz.func100,Tryz.ntmps100
   go_wp2_with fail
   go_ret
   exact⟨by rw [hb.out];rfl,B0.out.2⟩
  ·have t3:((n:Int) == 254)=false:=by simp;omega
   obtain⟨q,hq⟩:∃q,q=n / 8:=⟨_,rfl⟩
   obtain⟨r,hr⟩:∃r,r=n % 8:=⟨_,rfl⟩
   have hb:Hid(yj ks n=decide(bt ks q / 2 ^ r % 2=1)):=by unfold Hid yj;rw [if_neg(by omega),if_neg h4,hq,hr]
   have iq:(n:Int) / 8=(q:Int):=by omega
   have ir:(n:Int)% 8=(r:Int):=by omega
   have iq':Int.tdiv(n:Int)8=(q:Int):=by rw [Int.tdiv_eq_ediv_of_nonneg(by omega)];omega
   have ir':Int.tmod(n:Int)8=(r:Int):=by rw [Int.tmod_eq_emod_of_nonneg(by omega)];omega
   have q32:q < 32:=by omega
   have q32':(q:Int) < 32:=by omega
   have q0:(0:Int)≤(q:Int):=by omega
   have r8:(r:Int) < 8:=by omega
   have c6:=B0.out.1.cell q32
   have b256:=vJ ks q
   generalize bt ks q=u at *
   obtain⟨y,hy⟩:∃y,y=u / 2 ^ r:=⟨_,rfl⟩
   have y8:y < 256:=by rw [hy];exact Nat.lt_of_le_of_lt(Nat.div_le_self _ _)b256
   have s1:Op.shift .shr .u8(u:Int) .i64(r:Int)=pure(.int .u8(y:Int)):=by
    have:=shift_shr .u8 .i64(u:Int)(r:Int)(by omega)(by show(r:Int)≤8;omega)
    rw [this,hy]
    simp
   have s3:(u:Int) / 2 ^ r=(y:Int):=by rw [hy];simp
   rw [← hy] at hb
   obtain⟨t,ht⟩:∃t,t=y % 2:=⟨_,rfl⟩
   have s4:(y:Int)% 2=(t:Int):=by omega
   have s4':Int.tmod(y:Int)2=(t:Int):=by rw [Int.tmod_eq_emod_of_nonneg(by omega)];omega
   rw [← ht] at hb
   have t01:t=0∨t=1:=by omega
   clear hy ht hq hr y8 b256 h3 h4 hn
   rcases t01 with h |h
   ·have t5:((t:Int) == 1)=false:=by rw [h];rfl
    have hb':Hid(yj ks n=false):=by unfold Hid;rw [hb.out,h];rfl
    clear h hb
    go_enter Tryz.func100,Tryz.ntmps100
    go_wp2_with fail
    go_ret
    exact⟨by rw [hb'.out];rfl,B0.out.2⟩
   ·have t5:((t:Int) == 1)=true:=by rw [h];rfl
    have hb':Hid(yj ks n=true):=by unfold Hid;rw [hb.out,h];rfl
    clear h hb
    go_enter Tryz.func100,Tryz.ntmps100
    go_wp2_with fail
    go_ret
    exact⟨by rw [hb'.out];rfl,B0.out.2⟩
end
end Go.Proofs.YtakpgbaijkhpmaaGreatDoor
