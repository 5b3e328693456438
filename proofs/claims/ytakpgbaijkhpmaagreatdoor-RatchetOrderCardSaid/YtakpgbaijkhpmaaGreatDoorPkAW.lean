import Derived.Test.YtakpgbaijkhpmaaGreatDoorPkAV
import Derived.Test.YtakpgbaijkhpmaaGreatDoorPkAL
import Derived.Test.YtakpgbaijkhpmaaGreatDoorPkAH
import Derived.Test.YtakpgbaijkhpmaaGreatDoorPkAT
import Derived.Test.YtakpgbaijkhpmaaGreatDoorPkAS
import Derived.Test.YtakpgbaijkhpmaaGreatDoorPkAJ
import Derived.Test.YtakpgbaijkhpmaaGreatDoorPkAA
import Derived.Deep.Grids
import Derived.Test.YtakpgbaijkhpmaaGreatDoorPkAG
import Derived.Lib.LaidTab
import Derived.Test.YtakpgbaijkhpmaaGreatDoorPkAF
import Derived.Deep.Matrix
namespace Go.Proofs.YtakpgbaijkhpmaaGreatDoor
section
open Go.ChangeShapes Go.WideShapes Go.ChangeAt Go.RowKit Go.Deep
set_option maxRecDepth 100000
set_option maxHeartbeats 2000000 in
theorem jdz{ks:List UInt8}{w:World}(hk:ks.length=32):
  Calls Tryz.prog 40 #[.agg(cellsOf ks).toArray] w fun e w'=>e= .returned(.agg(cellsOf(kL(jY ks 9))).toArray)∧Ext w w':=by
 have MU:Hid(∀W,Calls Tryz.prog 71 #[.agg(cellsOf ks).toArray, .agg(cellsOf jdg).toArray] W fun e w'=>e= .returned(.agg(cellsOf(kL(jY ks 9))).toArray)∧Ext W w'):=fun W=>by
  have:=jdF(w:=W)hk(show jdg.length=32 from rfl)
  rwa [jk3] at this
 have L_rk:=zw(jY ks 9)
 generalize kL(jY ks 9)=rk at *
 have S_rk:(cellsOf rk).toArray.size=32:=by simp [ja,L_rk]
 have O_rk:=ji rk
 have S_ks:(cellsOf ks).toArray.size=32:=by simp [ja,hk]
 have hb:=hd jha
 generalize jdg=k9 at *
 have hal:∀w,(zeroValue 23).run Tryz.prog w= .ok(.agg(cellsOf(List.replicate 32 0)).toArray)w:=fun w=>by rw [jU];exact j2 w
 have L_zk:(List.replicate 32(0:UInt8)).length=32:=rfl
 generalize List.replicate 32(0:UInt8)=zk at *
 have S_zk:(cellsOf zk).toArray.size=32:=by simp [ja,L_zk]
 have B0:Hid(Ky((w.alloc(Obj.cells(cellsOf ks).toArray 23)).alloc(Obj.cells(cellsOf zk).toArray 23))w.heap.size ks∧Ky((w.alloc(Obj.cells(cellsOf ks).toArray 23)).alloc(Obj.cells(cellsOf zk).toArray 23))(w.heap.size+1)zk∧Ext w((w.alloc(Obj.cells(cellsOf ks).toArray 23)).alloc(Obj.cells(cellsOf zk).toArray 23))):=⟨⟨jQ _ _ _,hk⟩,⟨jK _ _ _,L_zk⟩,((Ext.refl w).alloc _).alloc _⟩
 go_enter Tryz.func40,Tryz.ntmps40
 go_wp2_with(first
  |(refine wpList_load_row rfl 23 _ rfl w.heap.size rfl 23(cellsOf ks).toArray(0,0)_ B0.out.1.1 rfl rfl(by rw [S_ks];rfl)?_;go_frame)
  |(refine jm rfl _ _ rfl(cellsOf k9).toArray(by simp only [List.map_toArray,List.map_cons,List.map_nil];exact hb.out)?_;go_frame))
 refine(MU.out _).mono ?_
 rintro e w1⟨rfl,e1⟩
 have kr:=hd(B0.out.2.1.ext e1)
 have kx:Hid(Ext w w1):=B0.out.2.2.trans e1
 clear B0 MU e1
 go_wp2_with(refine wpList_store_row rfl 23 _ _ rfl(w.heap.size+1)(cellsOf rk).toArray rfl rfl 23 _ kr.out.1(by rw [S_rk];rfl)(by rw [S_rk,S_zk])O_rk ?_;go_frame)
 (try simp only [Exit.inBlock,Exit.then])
 refine bodyPost_ret(results_cell_row rfl _ _(w.heap.size+1)23(cellsOf rk).toArray(0,0)_ rfl(setRow_heap _ _ _ _ _ _ kr.out.1)rfl rfl(by rw [S_rk];rfl))rfl ?_
 exact⟨rfl,below_setRow kx.out(by omega)_⟩
set_option maxHeartbeats 4000000 in
theorem jdI{w:World}{A:Option Addr}{n c:Nat}{xs:List UInt8}(h:Bs w A n c xs)(hn:n≤1000000):
  Calls Tryz.prog 18 #[.slice A n c] w fun e w'=>e= .returned(.agg(cellsOf(j3 xs)).toArray)∧Ext w w':=by
 have SUM:Hid(∀W,Ext w W→Calls Tryz.prog 39 #[.slice A n c] W fun e w'=>e= .returned(.agg(cellsOf(jC [] xs)).toArray)∧Ext W w'):=fun W e=>jcE(h.ext e)hn
 have BAS:Hid(∀W,Ext w W→Calls Tryz.prog 40 #[.agg(cellsOf(jC [] xs)).toArray] W fun e w'=>e= .returned(.agg(cellsOf(kL(jY(jC [] xs)9))).toArray)∧Ext W w'):=fun W e=>jdz(qq _ _)
 have BLT:=hd(Zv(qq [] xs)(zw(jY(jC [] xs)9)))
 have RLe:=yT xs
 have hR_:Hid(jC [] xs ++ kL(jY(jC [] xs)9)=j3 xs):=rfl
 rw [hR_.out] at BLT
 clear hn
 have L_sk:=qq [] xs
 have L_pk:=zw(jY(jC [] xs)9)
 clear hR_
 generalize kL(jY(macL [] xs)9)=pk at *
 generalize jC [] xs=sk at *
 generalize j3 xs=rr at *
 have S_sk:(cellsOf sk).toArray.size=32:=by simp [ja,L_sk]
 have O_sk:=ji sk
 have S_rr:(cellsOf rr).toArray.size=64:=by simp [ja,RLe]
 have O_rr:=ji rr
 have hal:∀w,(zeroValue 23).run Tryz.prog w= .ok(.agg(cellsOf(List.replicate 32 0)).toArray)w:=fun w=>by rw [jU];exact j2 w
 have hal2:=yR
 have L_zk:(List.replicate 32(0:UInt8)).length=32:=rfl
 have L_zp:(List.replicate 64(0:UInt8)).length=64:=by simp
 generalize List.replicate 32(0:UInt8)=zk at *
 generalize List.replicate 64(0:UInt8)=zp at *
 have S_zk:(cellsOf zk).toArray.size=32:=by simp [ja,L_zk]
 have S_zp:(cellsOf zp).toArray.size=64:=by simp [ja,L_zp]
 have B0:Hid(Kp(w.alloc(Obj.cells(cellsOf zp).toArray 31))w.heap.size zp∧Ext w(w.alloc(Obj.cells(cellsOf zp).toArray 31))):=⟨⟨heap_alloc_new _ _,L_zp⟩,(Ext.refl w).alloc _⟩
 go_enter Tryz.func18,Tryz.ntmps18
 go_wp2_with fail
 refine(SUM.out _ B0.out.2).mono ?_
 rintro e u_⟨rfl,e1⟩
 have a1:Hid((u_.alloc(Obj.cells(cellsOf zk).toArray 23)).heap[u_.heap.size]? =some(.cells(cellsOf zk).toArray 23(0,0))):=heap_alloc_new _ _
 have E_:Ext(w.alloc(Obj.cells(cellsOf zp).toArray 31))((u_.alloc(Obj.cells(cellsOf zk).toArray 23)).setRow u_.heap.size(cellsOf sk).toArray):=e1.trans(below_setRow((Ext.refl u_).alloc _)(Nat.le_refl _)_)
 go_upto_region 2 with(refine wpList_store_row rfl 23 _ _ rfl u_.heap.size(cellsOf sk).toArray rfl rfl 23 _ a1.out(by rw [S_sk];rfl)(by rw [S_sk,S_zk])O_sk ?_;simp only [Act.put])
 obtain⟨g3,hg_⟩:∃g,g=u_.heap.size:=⟨_,rfl⟩
 obtain⟨r,hr_⟩:∃r,r=w.heap.size:=⟨_,rfl⟩
 refine jg(fun W=>Ky W g3 sk∧Kp W r zp∧Ext w W)⟨⟨by rw [hg_];exact setRow_heap _ _ _ _ _ _ a1.out,L_sk⟩,by rw [hr_];exact B0.out.1.ext E_,B0.out.2.trans E_⟩?_
 rw [← hg_,← hr_]
 replace hr_:=hd hr_
 clear hg_ a1 E_ e1 B0 SUM
 rintro w1⟨k1,p1,x1⟩
 have Q1:Hid(∀s,Ext w1 s→Ky s g3 sk∧Kp s r zp∧Ext w s):=fun s e=>⟨k1.ext e,p1.ext e,x1.trans e⟩
 clear k1 p1 x1
 refine qgF(R:=Ext)Ext.refl(fun _ _ _=>Ext.trans) [0,1,2,3] [4] [0,0,2,7,15] [true,true,true,true,false] ?_
 refine jl(fun _=>Ext.refl _)_ rfl(v:= .agg(cellsOf sk).toArray)(d:=7)rfl rfl ?_ ?_
 ·intro a_ w_ hev hR hk
  have e3:a_.eval(.tmp 3)=_:=hk 3 rfl
  exact(jd rfl e3(Q1.out w_(Ext.trans(Ext.refl _).drew hR)).1.1 rfl rfl(by rw [S_sk];rfl))
 refine jl(fun _=>Ext.refl _)_ rfl(v:= .agg(cellsOf sk).toArray)(d:=8)rfl rfl ?_ ?_
 ·intro a_ w_ hev hR hk
  have e3:a_.eval(.tmp 3)=_:=hk 3 rfl
  exact(jd rfl e3(Q1.out w_(Ext.trans(Ext.refl _).drew hR)).1.1 rfl rfl(by rw [S_sk];rfl))
 refine jx _ rfl(fun u _=>u= .agg(cellsOf pk).toArray)(d:=9)rfl(fun _ _ _ h _=>h)rfl ?_ ?_
 ·intro a_ w_ hev hR hk K1 hK1
  have e7:a_.eval(.tmp 7)=_:=hk 7 rfl
  clear hk
  have f7:=jz.trans e7
  go_simp
  refine(BAS.out _(Q1.out w_(Ext.trans(Ext.refl _).drew hR)).2.2).mono ?_
  rintro e_ w2_⟨rfl,x_⟩
  exact hK1.out _ _ x_ rfl
 refine jl(fun _=>Ext.refl _)_ rfl(v:= .agg(cellsOf rr).toArray)(d:=10)rfl rfl ?_ ?_
 ·intro a_ w_ hev hR hk
  have e6:a_.eval(.tmp 6)=_:=hk 6 rfl
  have e8:a_.eval(.tmp 8)=_:=hk 8 rfl
  exact(qe rfl(by simp only [List.map_toArray,List.map_cons,List.map_nil,e6,e8];exact BLT.out))
 intro v_ w2 hR hV_ hN_
 obtain⟨hv3,hv2,hv1,hv0,_⟩ :=hV_
 replace hv0:v_ 0=_:=hv0
 replace hv1:v_ 1=_:=hv1
 replace hv2:v_ 2=_:=hv2
 replace hv3:v_ 3=_:=hv3
 dsimp only [yP,zu]
 clear hN_
 rw [hv0,hv1,hv2,hv3]
 go_frame
 clear hv0 hv1 hv2 hv3
 have kz:=hd(Q1.out w2((Ext.refl _).drew.trans hR)).2
 refine qi(z:=4)_ rfl rfl(by kernel_rfl)?_
 intro K1 hK1
 refine wp_store_row _ _ _ rfl r(cellsOf rr).toArray rfl rfl 31(cellsOf zp).toArray kz.out.1.1(by rw [S_rr];rfl)(by rw [S_rr,S_zp])O_rr ?_
 refine hK1.out _ _ ?_
 clear hK1 K1
 refine qQ(by kernel_rfl)?_
 clear hR Q1
 go_wp2_with fail
 (try simp only [Exit.inBlock,Exit.then])
 refine bodyPost_ret(results_cell_row rfl _ _ r 31(cellsOf rr).toArray(0,0)_ rfl(setRow_heap _ _ _ _ _ _ kz.out.1.1)rfl rfl(by rw [S_rr];rfl))rfl ?_
 exact⟨rfl,below_setRow kz.out.2(by rw [hr_.out];exact Nat.le_refl _)_⟩
end
section
open Go.ChangeShapes Go.WideShapes Go.ChangeAt Go.RowKit Go.Deep
theorem Bs.lit8(w:World)(t:TypeId)(xs:List UInt8)(cs:Array Value)(hcs:cs=(xs.map fun x=>Value.int .u8(x.toNat:Int)).toArray)(n:Nat)(hn:xs.length=n)(hm:n≤1000000):
  Bs(w.alloc(.cells cs t))(some⟨w.heap.size,0,none⟩)n n xs:=by
 subst hcs
 have hr:=World.rowIs_alloc w(xs.map fun x=>Value.int .u8(x.toNat:Int)).toArray t(fun i=> .int .u8(bt xs i:Int))(fun i hi=>by
  have hi':i < xs.length:=by simpa using hi
  simp [bt,List.getD,hi'])
 refine⟨hn,Nat.le_refl _,by unfold maxLen;omega,fun _=>⟨w.heap.size,0,rfl,by simp,fun j hj=> ?_⟩⟩
 rw [Nat.zero_add]
 exact hr.cell(by simp;omega)
theorem Bs.one8(w:World)(t:TypeId)(x:UInt8)(v:Int)(hv:v=(x.toNat:Int)):Bs(w.alloc(.cells #[.int .u8 v] t))(some⟨w.heap.size,0,none⟩)1 1 [x]:=
 Bs.lit8 w t [x] _(by rw [hv];rfl)1 rfl(by omega)
end
section
open Go.ChangeShapes Go.WideShapes Go.ChangeAt Go.RowKit Go.Deep Go.Maps
set_option maxRecDepth 100000
def zP:List UInt8:=j3 [98]
theorem jay:zP.length=64:=yT _
theorem jdt:zP.drop 32=jE [98]:=by
 unfold zP
 rw [jaz]
 exact List.drop_left'(qq _ _)
theorem Y6(x:List UInt8):(j3 x).take 32=jC [] x:=by rw [jaz];exact List.take_left'(qq _ _)
theorem jeO(x:List UInt8):(j3 x).drop 32=jE x:=by rw [jaz];exact List.drop_left'(qq _ _)
def J2(shared:List UInt8):Rt:=qg(beg0 shared(jE [98]))(j3(jO [120] 0))
theorem jfu(shared:List UInt8):qh(ZU shared(jE [98]))(j3(jO [120] 0))=0:=by
 unfold qh rtTurnC
 rw [Y6]
 exact jel _ _
theorem jem(w:World)(x:Int):(convert 33 33(.slice(some⟨w.heap.size,0,none⟩)1 1)).run Tryz.prog(w.alloc(.cells #[.int .u8 x] 5))= .ok(.slice(some⟨w.heap.size,0,none⟩)1 1)(w.alloc(.cells #[.int .u8 x] 5(1,2))):=Qn w _ 1 1
theorem Bs.one13(w:World)(x:UInt8)(v:Int)(hv:v=(x.toNat:Int)):Bs(w.alloc(.cells #[.int .u8 v] 5(1,2)))(some⟨w.heap.size,0,none⟩)1 1 [x]:=by
 subst hv
 refine⟨rfl,Nat.le_refl _,by unfold maxLen;omega,fun _=>⟨w.heap.size,0,rfl,by rw [je];omega,fun j hj=> ?_⟩⟩
 obtain rfl:j=0:=by omega
 rw [cell_of_row _ _ _ _ _(1,2)(heap_alloc_new _ _)]
 rfl
theorem QD{B:Nat}{w:World}{o o':Obj}(h:B≤w.heap.size):Below B(w.alloc o)(w.alloc o'):=⟨rfl,rfl,rfl,by rw [je,je];exact Nat.le_refl _,fun i hi=>by
 have e:Ext w(w.alloc o):=(Ext.refl w).alloc o
 have e':Ext w(w.alloc o'):=(Ext.refl w).alloc o'
 rw [e.block i(by omega),e'.block i(by omega)]⟩
theorem jds{B x:Nat}{w:World}{o o':Obj}(h:B≤w.heap.size):Ot(fun i=>i=x∨B≤i)(w.alloc o)(w.alloc o'):=by
 have z:=QD(o:=o)(o':=o')h
 exact⟨z.os,z.tape,z.output,z.size,fun i _ hn=>z.block i(by omega)⟩
def jjK:List Value:= [.pointer none, .pointer none]
theorem JD(w:World):(zeroValue 28).run Tryz.prog w= .ok(.agg jjK.toArray)w:=by kernel_rfl
theorem jd7(a b:Nat):Tryz.prog.built 28 [(0, .pointer(some⟨a,0,none⟩)),(1, .pointer(some⟨b,0,none⟩))]=some #[.pointer(some⟨a,0,none⟩), .pointer(some⟨b,0,none⟩)]:=by kernel_rfl
def jh2(s kp mb g lo:Nat)(shared:List UInt8):Pty:=⟨s,kp,mb,g,lo, [120],1,⟨J2 shared, [],0⟩⟩
def jjl(s kp mb g lo:Nat)(shared:List UInt8):Pty:=⟨s,kp,mb,g,lo, [121],0,⟨YB shared zP, [],0⟩⟩
set_option maxHeartbeats 8000000 in
theorem jbQ{w:World}{shared:List UInt8}(lr:shared.length=32){tg tp:TypeId×Nat×Nat}(hG:Gl w tg)(hP:Gp w tp):
  Calls Tryz.prog 17 #[.agg(cellsOf shared).toArray] w fun e w'=>∃sa ka ma ga la sb kb mb gb lb,e= .returned(.agg #[.pointer(some⟨sa,0,none⟩), .pointer(some⟨sb,0,none⟩)])∧Duo w'(jh2 sa ka ma ga la shared)(jjl sb kb mb gb lb shared)tg tp∧Ext w w'∧w.heap.size≤la∧w.heap.size≤lb:=by
 have PAI:Hid(∀(W:World)(A:Option Addr)(c:Nat),Bs W A 1 c [98]→Calls Tryz.prog 18 #[.slice A 1 c] W fun e w'=>e= .returned(.agg(cellsOf zP).toArray)∧Ext W w'):=fun W A c h=>jdI h(by omega)
 have NEW:Hid(∀(W:World)(A:Option Addr)(c:Nat)(x:UInt8),Ext w W→Bs W A 1 c [x]→Calls Tryz.prog 27 #[.slice A 1 c] W fun e w'=>∃g,e= .returned(.pointer(some⟨g,0,none⟩))∧SrcSt w' W.heap.size g [x] 0∧Ext W w'):=fun W A c x e h=>jgt h(by omega)(hG.kept e hG.lt)
 have gl:=hG.lt
 have pl:=hP.lt
 have GG:Hid(∀W,Ext w W→Gl W tg∧Gp W tp):=fun W e=>⟨hG.kept e hG.lt,hP.ext e⟩
 have BEG:Hid(∀(W:World)(lo gs:Nat),SrcSt W lo gs [120] 0→Ext w W→1 < lo→Calls Tryz.prog 26 #[.agg(cellsOf shared).toArray, .agg(cellsOf(jE [98])).toArray, .pointer(some⟨gs,0,none⟩)] W fun e w'=>SrcSt w' lo gs [120] 1∧W.grownBy w'(some gs)∧∃sg kp mb,e= .returned(.tuple #[.pointer(some⟨sg,0,none⟩), .int .i64 0])∧(W.heap.size≤sg∧W.heap.size≤kp∧W.heap.size≤mb)∧SS w' sg kp mb gs⟨J2 shared, [],0⟩):=fun W lo gs z1 z2 z3 =>
  (jbe lr(pubL_len _)z1(by omega)(GG.out W z2).1(GG.out W z2).2 z3).mono fun e w' q=>by
   obtain⟨q1,q2,q3 |q3⟩ :=q
   ·exact⟨q1,q2,q3.2⟩
   ·exact absurd(jfu shared)q3.1
 have ANS:Hid(∀(W:World)(gs:Nat),Calls Tryz.prog 36 #[.agg(cellsOf shared).toArray, .agg(cellsOf zP).toArray, .pointer(some⟨gs,0,none⟩)] W fun e w'=>∃sg kp mb,e= .returned(.pointer(some⟨sg,0,none⟩))∧(W.heap.size≤sg∧W.heap.size≤kp∧W.heap.size≤mb)∧SS w' sg kp mb gs⟨YB shared zP, [],0⟩∧Ext W w'):=fun W gs=>Z9 lr jay
 have L_o:=jay
 have PUB:=hd(fun _:Unit=>jdt)
 have Lpb:=YH [98]
 have PSP:Hid(cellsOf zP=cellsOf(zP.take 32)++(cellsOf(jE [98])++ [])):=by
  rw [← jdt,List.append_nil,← Yr,List.take_append_drop];exact hd rfl
 have LPT:(cellsOf(zP.take 32)).length=32:=by rw [ja,List.length_take,jay];rfl
 clear hG hP
 obtain⟨pA,hpA⟩:∃f:Nat→Nat→Nat→Nat→Nat→Pty,f=fun s kp mb g lo=>jh2 s kp mb g lo shared:=⟨_,rfl⟩
 obtain⟨BA0,hBA0⟩:∃x,x=J2 shared:=⟨_,rfl⟩
 obtain⟨AN0,hAN0⟩:∃x,x=YB shared zP:=⟨_,rfl⟩
 rw [← hBA0] at BEG
 rw [← hAN0] at ANS
 have PA:Hid(∀s kp mb g lo,jh2 s kp mb g lo shared=⟨s,kp,mb,g,lo, [120],1,⟨BA0, [],0⟩⟩):=fun s kp mb g lo=>by rw [hBA0];rfl
 have PB:Hid(∀s kp mb g lo,jjl s kp mb g lo shared=⟨s,kp,mb,g,lo, [121],0,⟨AN0, [],0⟩⟩):=fun s kp mb g lo=>by rw [hAN0];rfl
 clear hpA pA hBA0 hAN0
 generalize jE [98]=pb at *
 generalize zP=ob at *
 have S_sh:(cellsOf shared).toArray.size=32:=by simp [ja,lr]
 have S_o:(cellsOf ob).toArray.size=64:=by simp [ja,L_o]
 have O_o:=ji ob
 have C_pb:(cellsOf pb).length=32:=by rw [ja,Lpb]
 have halp:=yR
 have L_zp:(List.replicate 64(0:UInt8)).length=64:=rfl
 generalize List.replicate 64(0:UInt8)=zp at *
 have S_zp:(cellsOf zp).toArray.size=64:=by simp [ja,L_zp]
 have hal2:=JD
 obtain⟨T0,hT0⟩:∃x,x=jjK:=⟨_,rfl⟩
 rw [← hT0] at hal2
 have S_T0:T0.toArray.size=2:=by rw [hT0];rfl
 clear hT0
 obtain⟨r,hr⟩:∃r,r=w.heap.size:=⟨_,rfl⟩
 have B0:Hid(Cb((w.alloc(.cells(cellsOf shared).toArray 23)).alloc(.cells T0.toArray 28))r 23(cellsOf shared)∧Cb((w.alloc(.cells(cellsOf shared).toArray 23)).alloc(.cells T0.toArray 28))(r+1)28 T0∧Ext w((w.alloc(.cells(cellsOf shared).toArray 23)).alloc(.cells T0.toArray 28))):=by rw [hr];exact⟨jQ _ _ _,jK _ _ _,((Ext.refl w).alloc _).alloc _⟩
 go_enter Tryz.func17,Tryz.ntmps17
 go_upto_region 1 with fail
 refine jg(fun W=>Cb W r 23(cellsOf shared)∧Cb W(r+1)28 T0∧Ext w W)B0.out ?_
 rw [← hr]
 have wr_:w.heap.size≤r:=Nat.le_of_eq hr.symm
 clear B0
 replace hr:=hd hr
 rintro w0⟨k1,k2,x0⟩
 have P0:Hid(∀u,Ext w0 u→Cb u r 23(cellsOf shared)∧Cb u(r+1)28 T0∧Ext w u):=fun u x=>⟨k1.ext x,k2.ext x,x0.trans x⟩
 have l2:=k2.lt
 have L1:=hd(PAI.out _ _ _(Bs.one13 w0 98 98 rfl))
 have cv0:=jem w0 98
 clear k1 k2 x0 PAI
 go_wp2_with fail
 refine L1.out.mono ?_
 rintro e w1⟨rfl,x1⟩
 have y1:=hd(((Ext.refl w0).alloc(.cells #[.int .u8 98] 5(1,2))).trans x1)
 have Y:Hid(Cb((w1.alloc(.cells(cellsOf zp).toArray 31)).setRow w1.heap.size(cellsOf ob).toArray)w1.heap.size 31(cellsOf ob)∧Ext w1((w1.alloc(.cells(cellsOf zp).toArray 31)).setRow w1.heap.size(cellsOf ob).toArray)):=⟨Cb.set(Cb.new _ _ _),Ext.newRow _ _ _⟩
 have w01:=y1.out.size
 clear L1 x1 cv0
 go_upto_region 2 with(refine wpList_store_row rfl 31 _ _ rfl w1.heap.size(cellsOf ob).toArray rfl rfl 31(cellsOf zp).toArray(heap_alloc_new _ _)(by rw [S_o];rfl)(by rw [S_o,S_zp])O_o ?_;simp only [Act.put])
 obtain⟨g3,hg3⟩:∃x,x=w1.heap.size:=⟨_,rfl⟩
 refine jg(fun W=>Cb W w1.heap.size 31(cellsOf ob)∧Ext w1 W)Y.out ?_
 rw [← hg3]
 have w1g:w1.heap.size≤g3:=Nat.le_of_eq hg3.symm
 clear Y
 replace hg3:=hd hg3
 rintro w2⟨k3,x2⟩
 have P2:Hid(∀u,Below w2.heap.size w2.drew u→Cb u g3 31(cellsOf ob)∧Cb u r 23(cellsOf shared)∧Cb u(r+1)28 T0∧Ext w u):=fun u x=>by
  have x':Ext w2 u:=Ext.trans(Ext.refl w2).drew x
  obtain⟨a1,a2,a3⟩ :=P0.out u((y1.out.trans x2).trans x')
  exact⟨k3.ext x',a1,a2,a3⟩
 have P2m:Hid(∀u,Below w2.heap.size w2.drew u→∀j v,(cellsOf pb)[j]? =some v→u.cell?⟨g3,32+j,none⟩=some v):=fun u x=>(P2.out u x).1.mid PSP.out LPT
 have l3:=k3.lt
 clear P0 k3 x2 y1
 refine qgB w2.heap.size [0,1,2,3,4,5,6,7,8,9,10,11] [3,4,5,6] ?_
 refine qV rfl(fun w'=>w'.heap[r]? =some(.cells(cellsOf shared).toArray 23(0,0)))(fun w' e=>(P2.out w' e).2.1)(.agg(cellsOf shared).toArray)(fun w' hF=>jd rfl rfl hF rfl rfl(by rw [S_sh];rfl))?_
 go_frame
 repeat((first |refine qR0 ?_ |refine qS ?_);go_frame)
 refine qV rfl(fun w'=>∀q_ v,(cellsOf pb)[q_]? =some v→w'.cell?⟨g3,32+q_,none⟩=some v)(fun w' e=>P2m.out w' e)(.agg(cellsOf pb).toArray)(fun w' hF=>jy rfl rfl hF rfl rfl(by rw [C_pb];rfl))?_
 go_frame
 have X2:Hid(Below w2.heap.size w2.drew w2.drew):=Below.refl _ _
 have z2:w2.heap.size≤w2.drew.heap.size:=Nat.le_refl _
 generalize w2.drew=V at *
 refine qD fun K hK=> ?_
 go_simp
 have b3:=hd(Bs.one13 V 120 120 rfl)
 have e3:Ext V(V.alloc(.cells #[.int .u8 120] 5(1,2))):=(Ext.refl V).alloc _
 have cv:=jem V 120
 refine hK.out _ _(((Ext.refl V).alloc _).mono z2)?_
 clear hK K
 try go_frame
 refine qD fun K hK=> ?_
 go_simp
 refine hK.out _ _(QD z2)?_
 clear hK K
 try go_frame
 replace X2:=hd(Below.trans X2.out(e3.mono z2))
 clear cv
 repeat((first |refine qR0 ?_ |refine qS ?_);go_frame)
 have N3:=hd(NEW.out _ _ _ 120(P2.out _ X2.out).2.2.2 b3.out)
 have z3:w2.heap.size≤(V.alloc(.cells #[.int .u8 120] 5(1,2))).heap.size:=Nat.le_trans z2 e3.size
 clear e3 b3
 generalize V.alloc(.cells #[.int .u8 120] 5(1,2))=V3 at *
 refine qD fun K hK=> ?_
 go_simp
 refine N3.out.mono ?_
 rintro e w4⟨ga,rfl,s4,x4⟩
 refine hK.out _ _(x4.mono z3)?_
 clear hK K
 try go_frame
 replace X2:=hd(Below.trans X2.out(x4.mono z3))
 have z4:=Nat.le_trans z3 x4.size
 have ws:=(P2.out _ X2.out).2.2.2.size
 have wV3:w.heap.size≤V3.heap.size:=by omega
 have lga:=s4.1
 have BG:=hd(BEG.out w4 V3.heap.size ga s4(P2.out _ X2.out).2.2.2(by omega))
 obtain⟨la,hla⟩:∃x,x=V3.heap.size:=⟨_,rfl⟩
 rw [← hla] at BG lga
 have wla:w2.heap.size≤la:=by omega
 have lgs:=s4.lt
 clear N3 s4 x4 BEG hla
 repeat((first |refine qR0 ?_ |refine qS ?_);go_frame)
 refine qD fun K hK=> ?_
 go_simp
 refine BG.out.mono ?_
 rintro e w5⟨s5,g5,sa,ka,ma,rfl,⟨l1,l2',l3'⟩,ss5⟩
 have X5:Below w2.heap.size w4 w5:=⟨g5.os,g5.tape,g5.output,g5.size,fun i hi=>g5.block i(by omega)(fun z=>by have:=Option.some.inj z;omega)⟩
 refine hK.out _ _ X5 ?_
 clear hK K
 try go_frame
 replace X2:=hd(Below.trans X2.out X5)
 have z5:=Nat.le_trans z4 g5.size
 replace s5:=hd s5
 replace ss5:=hd ss5
 clear BG X5 g5
 repeat((first |refine qR0 ?_ |refine qS ?_);go_frame)
 refine jp ?_
 have P5:Hid(∀u,Ext w5 u→Cb u g3 31(cellsOf ob)∧Cb u r 23(cellsOf shared)∧Cb u(r+1)28 T0∧Ext w u):=fun u x=>P2.out u(Below.trans X2.out(x.mono z5))
 have lsa:=ss5.out.sl
 have lka:=ss5.out.kl
 have lma:=ss5.out.ml
 clear P2 P2m X2
 go_upto_region 5 with fail
 have P6:Hid(∀u,Ot(fun i=>i=r+1∨w5.heap.size≤i)w5.drew u→Cb u g3 31(cellsOf ob)∧Cb u r 23(cellsOf shared)):=fun u x=>by
  obtain⟨a1,a2,_,_⟩ :=P5.out w5.drew(Ext.refl w5).drew
  have a1l:=a1.lt
  have a2l:=a2.lt
  have q5:w5.drew.heap.size=w5.heap.size:=rfl
  exact⟨x.block a1(by omega),x.block a2(by omega)⟩
 have z50:w5.heap.size≤w5.drew.heap.size:=Nat.le_refl _
 have X6:Hid(Ext w5 w5.drew):=(Ext.refl w5).drew
 refine qgR(R:=Ot(fun i=>i=r+1∨w5.heap.size≤i))(Ot.refl _)(fun _ _ _=>Ot.trans) [0,1,2,3,4,5,6,7,8] [3,4,5,6,8] ?_
 repeat((first |refine qR0 ?_ |refine qS ?_);go_frame)
 refine qV rfl(fun w'=>w'.heap[r]? =some(.cells(cellsOf shared).toArray 23(0,0)))(fun w' e=>(P6.out w' e).2)(.agg(cellsOf shared).toArray)(fun w' hF=>jd rfl rfl hF rfl rfl(by rw [S_sh];rfl))?_
 go_frame
 refine qV rfl(fun w'=>w'.heap[g3]? =some(.cells(cellsOf ob).toArray 31(0,0)))(fun w' e=>(P6.out w' e).1)(.agg(cellsOf ob).toArray)(fun w' hF=>jd rfl rfl hF rfl rfl(by rw [S_o];rfl))?_
 go_frame
 generalize w5.drew=V at *
 refine qD fun K hK=> ?_
 go_simp
 have b3:=hd(Bs.one13 V 121 121 rfl)
 have e3:Ext V(V.alloc(.cells #[.int .u8 121] 5(1,2))):=(Ext.refl V).alloc _
 have cv:=jem V 121
 refine hK.out _ _(Ot.of_ext((Ext.refl V).alloc _))?_
 clear hK K
 try go_frame
 refine qD fun K hK=> ?_
 go_simp
 refine hK.out _ _(jds z50)?_
 clear hK K
 try go_frame
 replace X6:=hd(X6.out.trans e3)
 clear cv
 repeat((first |refine qR0 ?_ |refine qS ?_);go_frame)
 have N3:=hd(NEW.out _ _ _ 121(P5.out _ X6.out).2.2.2 b3.out)
 clear e3 b3 NEW
 generalize V.alloc(.cells #[.int .u8 121] 5(1,2))=V3 at *
 refine qD fun K hK=> ?_
 go_simp
 refine N3.out.mono ?_
 rintro e w7⟨gb,rfl,s7,x7⟩
 refine hK.out _ _(Ot.of_ext x7)?_
 clear hK K
 try go_frame
 have z6:=X6.out.size
 replace X6:=hd(X6.out.trans x7)
 obtain⟨lb,hlb⟩:∃x,x=V3.heap.size:=⟨_,rfl⟩
 rw [← hlb] at s7 z6
 have lgb:=s7.1
 have lgs7:=s7.lt
 replace s7:=hd s7
 clear N3 x7 hlb
 repeat((first |refine qR0 ?_ |refine qS ?_);go_frame)
 have AN:=hd(ANS.out w7 gb)
 clear ANS
 refine qD fun K hK=> ?_
 go_simp
 refine AN.out.mono ?_
 rintro e w8⟨sb,kb,mb,rfl,⟨m1,m2,m3⟩,ss8,x8⟩
 refine hK.out _ _(Ot.of_ext x8)?_
 clear hK K
 try go_frame
 refine qV rfl(fun _=>True)(fun _ _=>trivial)(.agg #[.pointer(some⟨sa,0,none⟩), .pointer(some⟨sb,0,none⟩)])(fun w' _=>qe rfl(by simp only [List.map_toArray,List.map_cons,List.map_nil];exact jd7 sa sb))?_
 go_frame
 replace X6:=hd(X6.out.trans x8)
 obtain⟨_,_,k2,xw⟩ :=P5.out w8 X6.out
 replace k2:Hid(Cb w8(r+1)28 T0):=k2
 have g8:=GG.out w8 xw
 have sA:=s5.out.ext X6.out
 have ssA:=ss5.out.ext X6.out
 have sB:=s7.out.ext x8
 have nr:r+1 < w2.heap.size:=by omega
 have RW:w8.grownBy(w8.setRow(r+1)#[.pointer(some⟨sa,0,none⟩), .pointer(some⟨sb,0,none⟩)])(some(r+1)):=qF _ _ _
 have FIN:Hid(Duo(w8.setRow(r+1)#[.pointer(some⟨sa,0,none⟩), .pointer(some⟨sb,0,none⟩)])(jh2 sa ka ma ga la shared)(jjl sb kb mb gb lb shared)tg tp∧Ext w(w8.setRow(r+1)#[.pointer(some⟨sa,0,none⟩), .pointer(some⟨sb,0,none⟩)])):=by
  have hb:∀i,i < w8.heap.size→i≠r+1→(w8.setRow(r+1)#[.pointer(some⟨sa,0,none⟩), .pointer(some⟨sb,0,none⟩)]).heap[i]? =w8.heap[i]?:=fun i hi hne=>RW.block i hi(fun z=>hne(Option.some.inj z))
  rw [PA.out,PB.out]
  refine⟨⟨⟨ssA.stay(hb _ ssA.sl(by omega))(hb _ ssA.kl(by omega))(hb _ ssA.ml(by omega)),sA.other RW(.inl(by omega)),by dsimp only;omega,by dsimp only;omega⟩,⟨ss8.stay(hb _ ss8.sl(by omega))(hb _ ss8.kl(by omega))(hb _ ss8.ml(by omega)),sB.other RW(.inl(by omega)),by dsimp only;omega,by dsimp only;omega⟩,by dsimp only;omega,⟨by unfold Off;dsimp only;omega,by unfold Off;dsimp only;omega⟩,⟨by unfold Off;dsimp only;omega,by unfold Off;dsimp only;omega⟩,(hb _ g8.1.lt(by omega)).trans g8.1,(hb _ g8.2.lt(by omega)).trans g8.2⟩,below_setRow xw(by omega)_⟩
 have OO: #[Value.pointer(some⟨sa,0,none⟩), .pointer(some⟨sb,0,none⟩)].all(·.oneCell')=true:=one_cells(L:= [Value.pointer(some⟨sa,0,none⟩), .pointer(some⟨sb,0,none⟩)])(fun v hv=>by
  rcases List.mem_cons.1 hv with rfl |hv
  ·rfl
  ·rcases List.mem_cons.1 hv with rfl |hv
   ·rfl
   ·cases hv)
 clear P5 P6 X6 s5 ss5 s7 ss8 x8 sA ssA sB g8 xw RW AN PA PB GG
 refine qD fun K hK=> ?_
 refine wp_store_row _ _ _ rfl(r+1)#[.pointer(some⟨sa,0,none⟩), .pointer(some⟨sb,0,none⟩)] rfl rfl 28 T0.toArray k2.out rfl(by rw [S_T0];rfl)OO ?_
 refine hK.out _ _(Ot.row _ _(.inl rfl))?_
 clear hK K
 try simp only [Act.put]
 refine jp ?_
 go_wp2_with fail
 (try simp only [Exit.inBlock,Exit.then])
 refine bodyPost_ret(results_cell_row rfl _ _(r+1)28 #[.pointer(some⟨sa,0,none⟩), .pointer(some⟨sb,0,none⟩)](0,0)_ rfl(setRow_heap _ _ _ _ _ _ k2.out)rfl rfl rfl)rfl ?_
 exact⟨sa,ka,ma,ga,la,sb,kb,mb,gb,lb,rfl,FIN.out.1,FIN.out.2,by omega,by omega⟩
end
section
open Go.ChangeShapes Go.WideShapes Go.ChangeAt Go.RowKit Go.Deep
theorem jgR{ks ns:List UInt8}{n:Nat}{bs:List UInt8}:yX ks ns n(yX ks ns n bs)=bs:=by
 refine Y0(by rw [yD,yD])fun j hj=> ?_
 rw [yD,yD] at hj
 rw [jad(by rw [yD];exact hj),jad hj,Nat.xor_assoc,Nat.xor_self,Nat.xor_zero]
theorem jdP(ks bs:List UInt8):zh ks(sealT ks bs)=bs:=jgR
theorem jaO{ks bs ts:List UInt8}{n:Nat}(h:ts.length=n):(qz ks bs ts).take n=sealT ks ts:=by
 unfold qz
 exact List.take_left'(by rw [JW];exact h)
theorem je1{ks bs ts:List UInt8}{n:Nat}(h:ts.length=n):(qz ks bs ts).drop n=sealM ks bs(zh ks ts):=by
 unfold qz
 exact List.drop_left'(by rw [JW];exact h)
end
section
open Go.ChangeShapes Go.WideShapes Go.ChangeAt Go.RowKit Go.Deep Go.Maps
set_option maxRecDepth 100000
theorem jdr(k data text:List UInt8):J4 k data(qz k data text)=0∧J5 k data(qz k data text)=text:=by
 have hl:=JV k data text
 have h1: ¬(qz k data text).length < 32:=by omega
 have h2:(qz k data text).length - 32=text.length:=by omega
 have h3:YI k data((qz k data text).take text.length)=(qz k data text).drop text.length:=by rw [jaO rfl,je1 rfl]
 unfold J4 J5
 rw [if_neg h1,if_neg h1,h2,if_pos h3,if_pos h3,jaO rfl,jdP]
 exact⟨rfl,rfl⟩
structure Ahead(s u:Rt)(x y:List UInt8):Prop where
 own:s.own=j3 x
 uown:u.own=j3 y
 si:s.si=true
 mt:s.mt=false
 ho:s.ho=true
 ot:s.ot=jE y
 un: ¬(u.ho=true∧jE x=u.ot)
 root:s.root=jM(jC u.root(zt(jC [] x)(jE y)))yF
 sc:s.sc=Yg(jM(jC u.root(zt(jC [] x)(jE y)))vG)s.sm.toNat
 sm:0≤s.sm
 fwd:u.ri=true→s.bf≤u.rm
structure Insync(s u:Rt)(x y:List UInt8):Prop where
 own:s.own=j3 x
 uown:u.own=j3 y
 si:s.si=true
 mt:s.mt=false
 ho:s.ho=true
 ot:s.ot=jE y
 uho:u.ho=true
 uot:u.ot=jE x
 umt:u.mt=true
 uri:u.ri=true
 root:s.root=u.root
 sc:s.sc=Yg u.rc(s.sm - u.rm).toNat
 rm:0≤u.rm∧u.rm≤s.sm
theorem jiz{s:Rt}{x:List UInt8}(h:s.own=j3 x):s.sec=jC [] x:=by unfold Rt.sec;rw [h,Y6]
theorem jaE{s:Rt}{x:List UInt8}(h:s.own=j3 x):s.pub=jE x:=by unfold Rt.pub;rw [h,jeO]
theorem jga(a b:List UInt8):zt(jC [] a)(pubL b)=zt(jC [] b)(jE a):=jhi
theorem QX{s u:Rt}{x y:List UInt8}(h:Ahead s u x y):YG u(jE x)=0∧Insync s(y9 u(jE x))x y∧(y9 u(jE x)).rm=0∧(y9 u(jE x)).sm=u.sm:=by
 have hc:YY u(jE x)=zt(jC [] x)(jE y):=by unfold YY;rw [jiz h.uown];exact jga y x
 have he:YG u(jE x)=0:=by unfold YG;rw [hc];exact jel _ _
 have hs:y9 u(jE x)= {u with root:=s.root,ri:=true,rc:=jM(jC u.root(zt(jC [] x)(jE y)))vG,rm:=0,ho:=true,ot:=jE x,mt:=true} :=by
  unfold y9
  rw [if_pos he,hc,h.root]
 rw [hs]
 refine⟨he,⟨h.own,h.uown,h.si,h.mt,h.ho,h.ot,rfl,rfl,rfl,rfl,rfl,?_,Int.le_refl 0,h.sm⟩,rfl,rfl⟩
 show s.sc=Yg(jM(jC u.root(zt(jC [] x)(jE y)))vG)(s.sm - 0).toNat
 rw [Int.sub_zero]
 exact h.sc
theorem jbD{s u:Rt}{x y:List UInt8}(h:Ahead s u x y)(L:List Ke)(p:Int):opA⟨u,L,p⟩(pubL x)s.bf=(⟨y9 u(jE x),L,p⟩,0):=by
 obtain⟨_,_,_,A4⟩ :=jcu⟨u,L,p⟩(jE x)s.bf
 rw [A4 h.un(fun z=>by have:=h.fwd z.1;have z2:=z.2;dsimp only at z2;omega)]
 rw [(QX h).1]
theorem jdp{s u:Rt}{x y:List UInt8}(h:Insync s u x y)(L:List Ke)(p prev:Int):opA⟨u,L,p⟩(pubL x)prev=(⟨u,L,p⟩,0):=(jcu⟨u,L,p⟩(jE x)prev).1 h.uho h.uot.symm
theorem jgH(u:Rt)(L:List Ke)(p:Int):qN u u.rm=0∧jX⟨u,L,p⟩u.rm=⟨u,L,p⟩ :=by
 have h0:Jf u u.rm=0:=by unfold Jf;omega
 have e:qN u u.rm=0:=by unfold qN;rw [h0];rfl
 refine⟨e,?_⟩
 have:=(yt⟨u,L,p⟩u.rm).2 e
 rw [this]
 have hw:wkL u u.rm= []:=by unfold wkL;rw [if_pos e,h0];rfl
 have hc:wkC u u.rm=u.rc:=by unfold wkC;rw [if_pos e,h0];rfl
 dsimp only
 rw [hw,hc]
 rfl
theorem jbM{s u:Rt}{x y:List UInt8}(h:Insync s u x y)(hm:u.rm=s.sm)(p:Int)(data text:List UInt8):
  zi⟨u, [],p⟩s.sm data(qz(jM s.sc qd)data text)=(⟨yW u, [],p⟩,text,0)∧Insync(jW s)(yW u)x y∧(yW u).rm=(jW s).sm:=by
 obtain⟨e0,e1⟩ :=jgH u [] p
 have hsc:s.sc=u.rc:=by have:=h.sc;rw [hm,Int.sub_self] at this;exact this
 obtain⟨_,_,B3⟩ :=Y5⟨u, [],p⟩s.sm
 rw [← hm] at B3 ⊢
 have hB:opB⟨u, [],p⟩u.rm=(⟨yW u, [],p⟩,0):=by
  rw [B3(by rintro(z |z);dsimp only at z;rw [h.uri] at z;cases z;dsimp only at z;omega)e0,e1]
 have hK:opK⟨u, [],p⟩u.rm=jM s.sc qd:=by unfold opK;rw [e1,hsc]
 refine⟨?_,⟨h.own,h.uown,h.si,h.mt,h.ho,h.ot,h.uho,h.uot,h.umt,h.uri,h.root,?_,?_⟩,?_⟩
 ·unfold zi
  rw [hB,if_neg(fun z=>z rfl),hK]
  rw [(jdr _ _ _).1,(jdr _ _ _).2]
 ·show jM s.sc vG=Yg(jM u.rc vG)(s.sm+1 - (u.rm+1)).toNat
  rw [hsc,show s.sm+1 - (u.rm+1)=0 by omega]
  rfl
 ·show 0≤u.rm+1∧u.rm+1≤s.sm+1
  have:=h.rm;omega
 ·show u.rm+1=s.sm+1
  omega
theorem jal{s u:Rt}{x y:List UInt8}(h:Ahead s u x y)(h0:s.sm=0)(p:Int)(bs text:List UInt8)(hk:okH s.bf s.sm=true):
  yr⟨u, [],p⟩bs(jE x)s.bf s.sm(qz(jM s.sc qd)(qb bs(jE x)s.bf s.sm)text)=0∧Ym⟨u, [],p⟩bs(jE x)s.bf s.sm(qz(jM s.sc qd)(qb bs(jE x)s.bf s.sm)text)=text∧
  ze⟨u, [],p⟩bs(jE x)s.bf s.sm(qz(jM s.sc qd)(qb bs(jE x)s.bf s.sm)text)=⟨yW(y9 u(jE x)), [],p⟩∧Insync(jW s)(yW(y9 u(jE x)))x y∧(yW(y9 u(jE x))).rm=(jW s).sm:=by
 obtain⟨_,f2,f3,_⟩ :=QX h
 obtain⟨t1,t2,t3⟩ :=jbM f2(f3.trans h0.symm)p(qb bs(jE x)s.bf s.sm)text
 have ho:vY⟨u, [],p⟩(jE x)s.bf s.sm(qb bs(pubL x)s.bf s.sm)(qz(jM s.sc qd)(qb bs(jE x)s.bf s.sm)text)=(⟨yW(y9 u(jE x)), [],p⟩,text,0):=by
  rw [(QI _ _ _ _ _ _).2.2 rfl(by rw [jbD h]),jbD h]
  exact t1
 have e:yr⟨u, [],p⟩bs(jE x)s.bf s.sm(qz(jM s.sc qd)(qb bs(jE x)s.bf s.sm)text)=0:=by unfold yr;rw [hk,ho];rfl
 exact⟨e,by unfold Ym;rw [if_pos e,ho],by unfold ze;rw [if_pos e,ho],t2,t3⟩
theorem jgj{s u:Rt}{x y:List UInt8}(h:Insync s u x y)(hm:u.rm=s.sm)(p:Int)(bs text:List UInt8)(hk:okH s.bf s.sm=true):
  yr⟨u, [],p⟩bs(jE x)s.bf s.sm(qz(jM s.sc qd)(qb bs(jE x)s.bf s.sm)text)=0∧Ym⟨u, [],p⟩bs(jE x)s.bf s.sm(qz(jM s.sc qd)(qb bs(jE x)s.bf s.sm)text)=text∧
  ze⟨u, [],p⟩bs(jE x)s.bf s.sm(qz(jM s.sc qd)(qb bs(jE x)s.bf s.sm)text)=⟨yW u, [],p⟩∧Insync(jW s)(yW u)x y∧(yW u).rm=(jW s).sm:=by
 obtain⟨t1,t2,t3⟩ :=jbM h hm p(qb bs(jE x)s.bf s.sm)text
 have ho:vY⟨u, [],p⟩(jE x)s.bf s.sm(qb bs(pubL x)s.bf s.sm)(qz(jM s.sc qd)(qb bs(jE x)s.bf s.sm)text)=(⟨yW u, [],p⟩,text,0):=by
  rw [(QI _ _ _ _ _ _).2.2 rfl(by rw [jdp h]),jdp h]
  exact t1
 have e:yr⟨u, [],p⟩bs(jE x)s.bf s.sm(qz(jM s.sc qd)(qb bs(jE x)s.bf s.sm)text)=0:=by unfold yr;rw [hk,ho];rfl
 exact⟨e,by unfold Ym;rw [if_pos e,ho],by unfold ze;rw [if_pos e,ho],t2,t3⟩
theorem jfg{s u:Rt}{x y z:List UInt8}(h:Insync s u x y)(hm:u.rm=s.sm)(rev:s.ri=true→u.sm≤s.rm)(hz:jE z≠jE y):
  qh u(j3 z)=0∧Ahead(qg u(j3 z))s z x∧(qg u(j3 z)).sm=0∧(qg u(pairL z)).bf=u.sm∧(qg u(j3 z)).ri=true∧(qg u(pairL z)).rm=s.sm:=by
 have hc:qC u(j3 z)=zt(jC [] z)(jE x):=by unfold qC;rw [Y6,h.uot]
 have he:qh u(j3 z)=0:=by unfold qh;rw [hc];exact jel _ _
 have hs:qg u(j3 z)= {u with own:=j3 z,root:=jM(jC s.root(zt(jC [] z)(pubL x)))yF,bf:=u.sm,si:=true,sc:=jM(jC s.root(zt(jC [] z)(jE x)))vG,sm:=0,mt:=false} :=by
  unfold qg
  rw [if_pos he,hc,h.root]
 rw [hs]
 refine⟨he,⟨rfl,h.own,rfl,rfl,h.uho,h.uot,fun q=>hz ?_,rfl,rfl,Int.le_refl 0,rev⟩,rfl,rfl,h.uri,hm⟩
 rw [← h.ot];exact q.2
theorem Zw(shared:List UInt8):Ahead(J2 shared)(YB shared zP)(jO [120] 0) [98]∧(J2 shared).sm=0∧(J2 shared).bf=0∧(J2 shared).ri=false:=by
 have he:=jfu shared
 have hc:qC(ZU shared(jE [98]))(j3(jO [120] 0))=zt(jC [](jO [120] 0))(jE [98]):=by unfold qC;rw [Y6];rfl
 have hs:J2 shared= {ZU shared(jE [98])with own:=j3(jO [120] 0),root:=jM(jC shared(zt(jC [](jO [120] 0))(jE [98])))yF,bf:=0,si:=true,sc:=jM(jC shared(zt(jC [](jO [120] 0))(jE [98])))vG,sm:=0,mt:=false} :=by
  unfold J2 qg
  rw [if_pos he,hc]
  rfl
 rw [hs]
 exact⟨⟨rfl,rfl,rfl,rfl,rfl,rfl,(fun q=>absurd q.1(fun z=>by cases z)),rfl,rfl,Int.le_refl 0,(fun q=>by cases q)⟩,rfl,rfl,rfl⟩
theorem je0{s:Rt}{p text:List UInt8}(si:s.si=true)(mt:s.mt=false)(ht:text.length≤300)(hk:okH s.bf s.sm=true):
  qU s p text=0∧yi s p text=jW s∧yH s p text=hdC s.pub s.bf s.sm∧(∀bs,yG s p bs text=qz(jM s.sc qd)(qb bs s.pub s.bf s.sm)text)∧∀k,yf s text k=k:=by
 have hT:qL s p=s:=by unfold qL;rw [mt];rfl
 have e:qU s p text=0:=by
  unfold qU
  rw [if_neg(fun z=>by rw [si] at z;cases z.1),if_neg(by omega),if_neg(fun z=>by rw [mt] at z;cases z.1),hT,hk]
  rfl
 refine⟨e,by unfold yi;rw [if_pos e,hT],by unfold yH;rw [if_pos e,hT],fun bs=>by unfold yG;rw [if_pos e,hT],fun k=>by unfold yf;rw [if_pos(.inr(.inr mt))]⟩
theorem jiy{s:Rt}{p text:List UInt8}(mt:s.mt=true)(he:qh s p=0)(ht:text.length≤300)(hk:okH(qg s p).bf(qg s p).sm=true):
  qU s p text=0∧yi s p text=jW(qg s p)∧yH s p text=hdC(qg s p).pub(qg s p).bf(qg s p).sm∧(∀bs,yG s p bs text=qz(jM(qg s p).sc qd)(qb bs(qg s p).pub(qg s p).bf(qg s p).sm)text)∧∀k,yf s text k=k+1:=by
 have hT:qL s p=qg s p:=by unfold qL;rw [mt];rfl
 have e:qU s p text=0:=by
  unfold qU
  rw [if_neg(fun z=>by rw [mt] at z;cases z.2),if_neg(by omega),if_neg(fun z=>z.2 he),hT,hk]
  rfl
 refine⟨e,by unfold yi;rw [if_pos e,hT],by unfold yH;rw [if_pos e,hT],fun bs=>by unfold yG;rw [if_pos e,hT],fun k=>by unfold yf;rw [if_neg(by rintro(z |z |z);rw [mt] at z;cases z.2;omega;rw [mt] at z;cases z)]⟩
theorem jiW(w:World)(o:Obj)(C:Array Value)(n c:Nat):(convert 33 33(.slice(some⟨w.heap.size+1,0,none⟩)n c)).run Tryz.prog((w.alloc o).alloc(.cells C 5))= .ok(.slice(some⟨w.heap.size+1,0,none⟩)n c)((w.alloc o).alloc(.cells C 5(C.size,C.size+1))):=by
 have:=Qn(w.alloc o)C n c
 rwa [je] at this
theorem Bs.lit13(w:World)(t:TypeId)(fr:Nat×Nat)(xs:List UInt8)(cs:Array Value)(hcs:cs=(xs.map fun x=>Value.int .u8(x.toNat:Int)).toArray)(n:Nat)(hn:xs.length=n)(hm:n≤1000000):
  Bs(w.alloc(.cells cs t fr))(some⟨w.heap.size,0,none⟩)n n xs:=by
 refine⟨hn,Nat.le_refl _,by unfold maxLen;omega,fun _=>⟨w.heap.size,0,rfl,by rw [je];omega,fun j hj=> ?_⟩⟩
 rw [cell_of_row _ _ _ _ _ fr(heap_alloc_new _ _),hcs]
 simp [bt,List.getD,show j < xs.length by omega]
theorem Bs.two13{w u:World}{b off n c i j:Nat}{xs:List UInt8}(h:Bs w(some⟨b,off,none⟩)n c xs)(x:Two i j w u)(h1:b≠i)(h2:b≠j):Bs u(some⟨b,off,none⟩)n c xs:=
 ⟨h.1,h.2.1,h.2.2.1,fun h0=>by
  obtain⟨b',off',e,hb,hc⟩ :=h.2.2.2 h0
  cases e
  exact⟨b,off,rfl,Nat.lt_of_lt_of_le hb x.2.2.2.1,fun k hk=>(World.cell?_of_block(x.2.2.2.2 b hb h1 h2)).trans(hc k hk)⟩⟩
theorem JP{w:World}{a b:Pty}{tg tp:TypeId×Nat×Nat}(h:Duo w a b tg tp){A B:Option Addr}{m1 c1 m2 c2:Nat}{bs text:List UInt8}(hk:a.k < 1000000)(hm1:m1≤900000)(hM:∀u,Two a.s a.g w u→Bs u A m1 c1 bs∧Bs u B m2 c2 text)
  {E:Int}{H:List Value}{SB:List UInt8}{S':Rt}{K':Nat}(hE:qU a.t.s a.pair text=E)(hH:yH a.t.s a.pair text=H)(hB:yG a.t.s a.pair bs text=SB)(hS:yi a.t.s a.pair text=S')(hK:yf a.t.s text a.k=K'):
  Calls Tryz.prog 21 #[.pointer(some⟨a.s,0,none⟩), .slice A m1 c1, .slice B m2 c2] w fun e w'=>∃A' n' c',e= .returned(.tuple #[.agg H.toArray, .slice A' n' c', .int .i64 E])∧Own w.heap.size w' A' n' c' SB∧Duo w'{a with k:=K',t:=⟨S',a.t.L,a.t.puts⟩}b tg tp∧Two a.s a.g w w':=by
 subst hE hH hB hS hK
 exact jhm h hk hm1 hM
theorem jbw{w:World}{a b:Pty}{tg tp:TypeId×Nat×Nat}(h:Duo w a b tg tp){A B:Option Addr}{m1 c1 m2 c2:Nat}{bs body pk:List UInt8}{prev n:Int}(hp:a.t.puts≤1000000000)(hb:Bs w A m1 c1 bs)(hb':Bs w B m2 c2 body)(hm1:m1≤900000)(hm2:m2≤1000000)(lp:pk.length=32)
  {E:Int}{T:List UInt8}{S':Rz}(hE:yr a.t bs pk prev n body=E)(hT:Ym a.t bs pk prev n body=T)(hS:ze a.t bs pk prev n body=S'):
  Calls Tryz.prog 23 #[.pointer(some⟨a.s,0,none⟩), .slice A m1 c1, .agg(hdC pk prev n).toArray, .slice B m2 c2] w fun e w'=>∃A' n' c' kp' mb',e= .returned(.tuple #[.slice A' n' c', .int .i64 E])∧Own w.heap.size w' A' n' c' T∧Duo w'{a with kp:=kp',mb:=mb',t:=S'}b tg tp∧w.grownBy w'(some a.s):=by
 subst hE hT hS
 exact jhl h hp hb hb' hm1 hm2 lp
def Qe:List UInt8:=1 :: List.replicate 31 0
theorem jdf:Tryz.prog.built 23 [(0, .int .u8 1)]=some(cellsOf Qe).toArray:=by kernel_rfl
theorem jg6(shared:List UInt8)(p text bs:List UInt8)(k:Nat):qU(YB shared zP)p text=7∧yi(YB shared zP)p text=YB shared zP∧yH(YB shared zP)p text=hdC(List.replicate 32 0)0 0∧yG(YB shared zP)p bs text= []∧yf(YB shared zP)text k=k:=by
 have e:qU(YB shared zP)p text=7:=by unfold qU;rw [if_pos⟨rfl,rfl⟩]
 exact⟨e,by unfold yi;rw [e];rfl,by unfold sendH;rw [e];rfl,by unfold yG;rw [e];rfl,by unfold yf;rw [if_pos(.inl⟨rfl,rfl⟩)]⟩
set_option maxHeartbeats 16000000 in
theorem jbd{w:World}{tg tp:TypeId×Nat×Nat}(hG:Gl w tg)(hP:Gp w tp):
  Calls Tryz.prog 15 #[] w fun e w'=>e= .returned(.bool true)∧Ext w w':=by
 have TW:=hd(jbQ(w:=w)(shared:=Qe)rfl hG hP)
 have bk:=hd jdf
 have gl:=hG.lt
 have pl:=hP.lt
 obtain⟨mE,mS,mH,mB,mK⟩ :=jg6 Qe(pairL(jO [121] 0)) [] [] 0
 obtain⟨aA,a0,a1,a2⟩ :=Zw Qe
 have okA:okH(J2 Qe).bf(J2 Qe).sm=true:=by rw [a0,a1];rfl
 obtain⟨sE,sS,sH,sB,sK⟩ :=je0(p:=j3(jO [120] 1))(text:= [104,101,108,108,111])aA.si aA.mt(by decide)okA
 obtain⟨hE,hT,_,_,_⟩ :=jal aA a0 0 [120] [104,101,108,108,111] okA
 rw [jaE aA.own] at sH sB
 have SB1:=sB [120]
 clear hG hP aA a0 a1 a2 sB
 obtain⟨ans,hans⟩:∃x,x=YB Qe zP:=⟨_,rfl⟩
 obtain⟨beg,hbeg⟩:∃x,x=J2 Qe:=⟨_,rfl⟩
 have TW2:Hid(Calls Tryz.prog 17 #[.agg(cellsOf Qe).toArray] w fun e w'=>∃sa ka ma ga la sb kb mb gb lb,e= .returned(.agg #[.pointer(some⟨sa,0,none⟩), .pointer(some⟨sb,0,none⟩)])∧Duo w'⟨sa,ka,ma,ga,la, [120],1,⟨beg, [],0⟩⟩⟨sb,kb,mb,gb,lb, [121],0,⟨ans, [],0⟩⟩tg tp∧Ext w w'∧w.heap.size≤la∧w.heap.size≤lb):=by rw [hans,hbeg];exact TW
 rw [← hans] at mE mS mH mB mK hE hT
 rw [← hbeg] at sE sS sH SB1 sK hE hT okA
 clear TW hans hbeg okA
 have DS1:Hid(∀(W:World)(sa ka ma ga la sb kb mb gb lb:Nat),Duo W⟨sa,ka,ma,ga,la, [120],1,⟨beg, [],0⟩⟩⟨sb,kb,mb,gb,lb, [121],0,⟨ans, [],0⟩⟩tg tp→Calls Tryz.prog 21 #[.pointer(some⟨sb,0,none⟩), .slice none 0 0, .slice none 0 0] W fun e w'=>∃A' n' c',e= .returned(.tuple #[.agg(hdC(List.replicate 32 0)0 0).toArray, .slice A' n' c', .int .i64 7])∧Own W.heap.size w' A' n' c' []∧Duo w'⟨sb,kb,mb,gb,lb, [121],0,⟨ans, [],0⟩⟩⟨sa,ka,ma,ga,la, [120],1,⟨beg, [],0⟩⟩tg tp∧Two sb gb W w'):=fun W sa ka ma ga la sb kb mb gb lb D =>
  JP D.swap(bs:= [])(text:= [])(by show(0:Nat) < 1000000;omega)(by omega)(fun u _=>⟨Bs.nil u,Bs.nil u⟩)mE mH mB mS mK
 have DS2:Hid(∀(W:World)(sa ka ma ga la sb kb mb gb lb b1 b2:Nat),Duo W⟨sa,ka,ma,ga,la, [120],1,⟨beg, [],0⟩⟩⟨sb,kb,mb,gb,lb, [121],0,⟨ans, [],0⟩⟩tg tp→Bs W(some⟨b1,0,none⟩)1 1 [120]→Bs W(some⟨b2,0,none⟩)5 5 [104,101,108,108,111]→(b1≠sa∧b1≠ga)→(b2≠sa∧b2≠ga)→Calls Tryz.prog 21 #[.pointer(some⟨sa,0,none⟩), .slice(some⟨b1,0,none⟩)1 1, .slice(some⟨b2,0,none⟩)5 5] W fun e w'=>∃A' n' c',e= .returned(.tuple #[.agg(hdC(jE(jO [120] 0))beg.bf beg.sm).toArray, .slice A' n' c', .int .i64 0])∧Own W.heap.size w' A' n' c'(qz(jM beg.sc qd)(qb [120](jE(jO [120] 0))beg.bf beg.sm) [104,101,108,108,111])∧Duo w'⟨sa,ka,ma,ga,la, [120],1,⟨jW beg, [],0⟩⟩⟨sb,kb,mb,gb,lb, [121],0,⟨ans, [],0⟩⟩tg tp∧Two sa ga W w'):=fun W sa ka ma ga la sb kb mb gb lb b1 b2 D h1 h2 n1 n2 =>
  JP D(by show(1:Nat) < 1000000;omega)(by omega)(fun u x=>⟨h1.two13 x n1.1 n1.2,h2.two13 x n2.1 n2.2⟩)sE sH SB1 sS(sK 1)
 have LSB:=JV(jM beg.sc qd)(qb [120](jE(jO [120] 0))beg.bf beg.sm) [104,101,108,108,111]
 have DR:Hid(∀(W:World)(sa ka ma ga la sb kb mb gb lb b1:Nat)(A':Option Addr)(n' c':Nat),Duo W⟨sa,ka,ma,ga,la, [120],1,⟨jW beg, [],0⟩⟩⟨sb,kb,mb,gb,lb, [121],0,⟨ans, [],0⟩⟩tg tp→Bs W(some⟨b1,0,none⟩)1 1 [120]→Bs W A' n' c'(qz(jM beg.sc qd)(qb [120](jE(jO [120] 0))beg.bf beg.sm) [104,101,108,108,111])→Calls Tryz.prog 23 #[.pointer(some⟨sb,0,none⟩), .slice(some⟨b1,0,none⟩)1 1, .agg(hdC(jE(jO [120] 0))beg.bf beg.sm).toArray, .slice A' n' c'] W fun e w'=>∃A2 n2 c2,e= .returned(.tuple #[.slice A2 n2 c2, .int .i64 0])∧Own W.heap.size w' A2 n2 c2 [104,101,108,108,111]∧W.grownBy w'(some sb)):=fun W sa ka ma ga la sb kb mb gb lb b1 A' n' c' D h1 h2 =>
  (jbw D.swap(by show(0:Int)≤1000000000;decide)h1 h2(by omega)(by have:=h2.len;rw [LSB] at this;show n'≤1000000;simp at this;omega)(YH _)hE hT rfl).mono fun e w' q=>by
   obtain⟨A2,n2,c2,_,_,q1,q2,_,q4⟩ :=q
   exact⟨A2,n2,c2,q1,q2,q4⟩
 generalize qz(jM beg.sc qd)(qb [120](jE(jO [120] 0))beg.bf beg.sm) [104,101,108,108,111]=SB at *
 have L_H1:=yy(YH(jO [120] 0))beg.bf beg.sm
 have O_H1:(hdC(pubL(jO [120] 0))beg.bf beg.sm).toArray.all(·.oneCell')=true:=YZ
 have L_hz:(hdC(List.replicate 32 0)0 0).length=34:=yy rfl _ _
 have O_hz:(hdC(List.replicate 32 0)0 0).toArray.all(·.oneCell')=true:=YZ
 have hal:=Jp
 generalize hdC(pubL(jO [120] 0))beg.bf beg.sm=H1 at *
 generalize hdC(List.replicate 32 0)0 0=ZH at *
 have S_H1:H1.toArray.size=34:=by rw [List.size_toArray,L_H1]
 have S_hz:ZH.toArray.size=34:=by rw [List.size_toArray,L_hz]
 generalize jW beg=beg2 at *
 clear sE sS sH SB1 sK mE mS mH mB mK hE hT LSB L_H1 L_hz
 have hal2:=JD
 obtain⟨T0,hT0⟩:∃x,x=jjK:=⟨_,rfl⟩
 rw [← hT0] at hal2
 have S_T0:T0.toArray.size=2:=by rw [hT0];rfl
 clear hT0
 generalize(cellsOf Qe).toArray=K1 at *
 have CV:Hid(∀(W:World)A n c(ys:List UInt8),Bs W A n c ys→(convert 33 9(.slice A n c)).run Tryz.prog W= .ok(.string(vQ ys))W):=fun W A n c ys h=>jfA h
 go_enter Tryz.func15,Tryz.ntmps15
 go_wp2_with(first |((with_reducible refine jm(o:=⟨some 10, .build 23 _,_,_,_,_⟩)?_ 23 _ rfl K1 ?_ ?_);(·rfl);(·simp only [List.map_toArray,List.map_cons,List.map_nil];exact bk.out);go_frame))
 refine TW2.out.mono ?_
 rintro e w1⟨sa,ka,ma,ga,la,sb,kb,mb,gb,lb,rfl,D1,x1,l1,l2⟩
 have a1:=D1.pa.ss.sl
 have a2:=D1.pa.gs
 have b1:=D1.pb.ss.sl
 have b2:=D1.pb.gs
 dsimp only at a1 a2 b1 b2
 have OO: #[Value.pointer(some⟨sa,0,none⟩), .pointer(some⟨sb,0,none⟩)].all(·.oneCell')=true:=qB(L:= [Value.pointer(some⟨sa,0,none⟩), .pointer(some⟨sb,0,none⟩)])(fun v hv=>by
  rcases List.mem_cons.1 hv with rfl |hv
  ·rfl
  ·rcases List.mem_cons.1 hv with rfl |hv
   ·rfl
   ·cases hv)
 have Y:Hid(Cb((w1.alloc(.cells T0.toArray 28)).setRow w1.heap.size #[.pointer(some⟨sa,0,none⟩), .pointer(some⟨sb,0,none⟩)])w1.heap.size 28 [.pointer(some⟨sa,0,none⟩), .pointer(some⟨sb,0,none⟩)]∧Ext w1((w1.alloc(.cells T0.toArray 28)).setRow w1.heap.size #[.pointer(some⟨sa,0,none⟩), .pointer(some⟨sb,0,none⟩)])):=⟨Cb.set(L':= [.pointer(some⟨sa,0,none⟩), .pointer(some⟨sb,0,none⟩)])(Cb.new _ _ _),Ext.newRow _ _ _⟩
 replace D1:=hd D1
 replace x1:=hd x1
 clear TW2 bk
 go_upto_region 2 with(refine wpList_store_row rfl 28 _ _ rfl w1.heap.size #[.pointer(some⟨sa,0,none⟩), .pointer(some⟨sb,0,none⟩)] rfl rfl 28 T0.toArray(heap_alloc_new _ _)rfl(by rw [S_T0];rfl)OO ?_;simp only [Act.put])
 obtain⟨r1,hr1⟩:∃x,x=w1.heap.size:=⟨_,rfl⟩
 refine jg(fun W=>Cb W w1.heap.size 28 [.pointer(some⟨sa,0,none⟩), .pointer(some⟨sb,0,none⟩)]∧Ext w1 W)Y.out ?_
 rw [← hr1]
 have wr1:w1.heap.size≤r1:=Nat.le_of_eq hr1.symm
 clear Y
 replace hr1:=hd hr1
 rintro w2⟨k1,x2⟩
 have D2:=D1.out.ext x2
 have X2:=hd(x1.out.trans x2)
 have S2:=hd(DS1.out w2 _ _ _ _ _ _ _ _ _ _ D2)
 have c0:=k1.cell(j:=0)rfl
 have c1:=k1.cell(j:=1)rfl
 have r1l:=k1.lt
 replace k1:=hd k1
 clear D1 x1 x2 D2 DS1
 go_wp2_with fail
 refine S2.out.mono ?_
 rintro e w3⟨A3,n3,d3,rfl,_,D3,t3⟩
 have k3:Cb w3 r1 28 [.pointer(some⟨sa,0,none⟩), .pointer(some⟨sb,0,none⟩)]:=t3.block k1.out(by omega)(by omega)
 have X3:Ext w w3:=by
  have hl:=D3.pa.src.1
  dsimp only at hl
  exact Two.ext X2.out t3(by omega)(by omega)
 have Y:Hid(Ext w3((w3.alloc(.cells ZH.toArray 47)).setRow w3.heap.size ZH.toArray)):=Ext.newRow _ _ _
 replace D3:=hd D3
 clear S2 k1 X2 t3 c0 c1
 go_upto_region 5 with(refine wpList_store_row rfl 47 _ _ rfl w3.heap.size ZH.toArray rfl rfl 47 ZH.toArray(heap_alloc_new _ _)(by rw [S_hz];rfl)rfl O_hz ?_;simp only [Act.put])
 refine jg(fun W=>Ext w3 W)Y.out ?_
 clear Y
 rintro w4 x4
 have k4:=k3.ext x4
 have c0:=k4.cell(j:=0)rfl
 have D4:=D3.out.swap.ext x4
 have X4:=hd(X3.trans x4)
 have r4l:=k4.lt
 have hcv:=Qn
 have hcv1:=jiW
 have v1:Hid(Bs((w4.alloc(Obj.cells #[.int .u8 120] 5(1,2))).alloc(Obj.cells #[.int .u8 104, .int .u8 101, .int .u8 108, .int .u8 108, .int .u8 111] 5(5,6)))(some⟨w4.heap.size,0,none⟩)1 1 [120]):=(Bs.lit13 w4 _(1,2) [120] _ rfl 1 rfl(by omega)).ext((Ext.refl _).alloc _)
 have v2:Hid(Bs((w4.alloc(Obj.cells #[.int .u8 120] 5(1,2))).alloc(Obj.cells #[.int .u8 104, .int .u8 101, .int .u8 108, .int .u8 108, .int .u8 111] 5(5,6)))(some⟨w4.heap.size+1,0,none⟩)5 5 [104,101,108,108,111]):=by
  have:=Bs.lit13(w4.alloc(Obj.cells #[.int .u8 120] 5(1,2)))5(5,6) [104,101,108,108,111] _ rfl 5 rfl(by omega)
  rwa [je] at this
 have x5:Hid(Ext w4((w4.alloc(Obj.cells #[.int .u8 120] 5(1,2))).alloc(Obj.cells #[.int .u8 104, .int .u8 101, .int .u8 108, .int .u8 108, .int .u8 111] 5(5,6)))):=((Ext.refl w4).alloc _).alloc _
 have S5:=hd(DS2.out _ _ _ _ _ _ _ _ _ _ _ _ _(D4.ext x5.out)v1.out v2.out⟨by omega,by omega⟩⟨by omega,by omega⟩)
 replace D4:=hd D4
 replace k4:=hd k4
 clear DS2 D3 k3 X3 x4
 go_wp2_with fail
 refine S5.out.mono ?_
 rintro e w6⟨A6,n6,d6,rfl,o6,D6,t6⟩
 have k6:Cb w6 r1 28 [.pointer(some⟨sa,0,none⟩), .pointer(some⟨sb,0,none⟩)]:=t6.block(k4.out.ext x5.out)(by omega)(by omega)
 have X6:Ext w w6:=by
  have hl:=D6.pa.src.1
  dsimp only at hl
  exact Two.ext(X4.out.trans x5.out)t6(by omega)(by omega)
 have Y:Hid(Cb((w6.alloc(.cells ZH.toArray 47)).setRow w6.heap.size H1.toArray)w6.heap.size 47 H1∧Ext w6((w6.alloc(.cells ZH.toArray 47)).setRow w6.heap.size H1.toArray)):=⟨Cb.set(Cb.new _ _ _),Ext.newRow _ _ _⟩
 have b6:=o6.bs
 replace D6:=hd D6
 replace b6:=hd b6
 clear S5 k4 X4 x5 t6 o6 c0 v1 v2 D4
 go_upto_region 6 with(refine wpList_store_row rfl 47 _ _ rfl w6.heap.size H1.toArray rfl rfl 47 ZH.toArray(heap_alloc_new _ _)(by rw [S_H1];rfl)(by rw [S_H1,S_hz])O_H1 ?_;simp only [Act.put])
 obtain⟨r5,hr5⟩:∃x,x=w6.heap.size:=⟨_,rfl⟩
 refine jg(fun W=>Cb W w6.heap.size 47 H1∧Ext w6 W)Y.out ?_
 rw [← hr5]
 clear Y
 replace hr5:=hd hr5
 rintro w7⟨k5,x7⟩
 have k7:=k6.ext x7
 have c1:=k7.cell(j:=1)rfl
 have v1:Hid(Bs(w7.alloc(Obj.cells #[.int .u8 120] 5(1,2)))(some⟨w7.heap.size,0,none⟩)1 1 [120]):=Bs.lit13 w7 _(1,2) [120] _ rfl 1 rfl(by omega)
 have x8:Hid(Ext w7(w7.alloc(Obj.cells #[.int .u8 120] 5(1,2)))):=(Ext.refl w7).alloc _
 have k58:Hid(Cb(w7.alloc(Obj.cells #[.int .u8 120] 5(1,2)))r5 47 H1):=k5.ext x8.out
 have R8:=hd(DR.out _ _ _ _ _ _ _ _ _ _ _ _ A6 n6 d6((D6.out.ext x7).ext x8.out)v1.out((b6.out.ext x7).ext x8.out))
 have lbb:=D6.out.pb.src.1
 dsimp only at lbb
 have X8:=hd((X6.trans x7).trans x8.out)
 clear DR D6 k6 X6 b6 k5 x7 k7
 go_wp2_with(first |((with_reducible refine js(o:=⟨some 43,_,_,_,_,_⟩)?_ 47 _ rfl r5 ?_ 47 H1.toArray(0,0)_ ?_ Tryz.underlying47 ?_ ?_ ?_);(·rfl);(·rfl);(·exact k58.out);(·rfl);(·rw [S_H1];rfl);go_frame))
 refine R8.out.mono ?_
 rintro e w9⟨A9,n9,d9,rfl,o9,g9⟩
 have F:Hid(Ext w w9):=JQ X8.out g9(by omega)
 have cv:=CV.out _ _ _ _ _ o9.bs
 have u7:((vQ [104,101,108,108,111]).toList == [104,101,108,108,111])=true:=by simp [vQ]
 generalize vQ [104,101,108,108,111]=HS at *
 clear R8 X8 x8 k58 v1 o9 g9 c1 CV
 go_wp2_with fail
 all_goals(go_ret;exact⟨rfl,F.out⟩)
end
section
open Go.ChangeShapes Go.WideShapes Go.ChangeAt Go.RowKit Go.Deep
set_option maxRecDepth 100000
theorem ja1:jC [] [120]= [236,48,140,7,200,53,130,198,99,233,34,6,108,68,146,59,247,27,193,4,255,184,36,121,251,6,220,34,80,60,155,12]:=by decide +kernel
theorem ja2:jC [] [121]= [107,114,177,210,244,7,6,228,142,7,135,191,82,23,64,253,181,94,127,138,208,242,70,97,155,57,113,167,218,127,166,220]:=by decide +kernel
theorem jml:jC [] [98]= [4,68,158,146,201,167,101,126,242,214,119,184,239,157,164,108,8,143,19,87,94,168,135,228,129,143,196,85,162,188,165,0]:=by decide +kernel
theorem jmk:kL(jY [4,68,158,146,201,167,101,126,242,214,119,184,239,157,164,108,8,143,19,87,94,168,135,228,129,143,196,85,162,188,165,0] 9)= [215,119,235,107,105,49,36,248,78,208,136,217,223,252,95,215,158,120,231,18,137,255,69,80,54,185,25,219,235,179,108,23]:=by decide +kernel
theorem jk4:jE [98]= [215,119,235,107,105,49,36,248,78,208,136,217,223,252,95,215,158,120,231,18,137,255,69,80,54,185,25,219,235,179,108,23]:=by unfold jE;rw [jml,jmk]
theorem jlc:jO [120] 0= [252,126,216,77,23,179,145,126,229,75,171,213,36,244,170,62,150,17,54,87,68,43,212,24,231,39,116,16,168,173,31,55]:=by unfold jO;rw [ja1];decide +kernel
theorem jlQ:jC [] [252,126,216,77,23,179,145,126,229,75,171,213,36,244,170,62,150,17,54,87,68,43,212,24,231,39,116,16,168,173,31,55]= [85,94,105,132,167,67,164,39,46,142,119,79,225,64,255,116,19,169,159,152,203,40,62,224,166,157,36,84,80,60,4,84]:=by decide +kernel
theorem jlw:kL(jY [85,94,105,132,167,67,164,39,46,142,119,79,225,64,255,116,19,169,159,152,203,40,62,224,166,157,36,84,80,60,4,84] 9)= [212,109,48,244,21,12,18,163,143,160,26,211,133,84,163,51,58,175,76,154,188,215,219,21,118,173,117,146,220,132,82,87]:=by decide +kernel
theorem jkz:jE(jO [120] 0)= [212,109,48,244,21,12,18,163,143,160,26,211,133,84,163,51,58,175,76,154,188,215,219,21,118,173,117,146,220,132,82,87]:=by rw [jlc];unfold jE;rw [jlQ,jlw]
theorem jld:jO [120] 1= [229,128,211,26,192,109,49,110,192,80,240,148,133,152,44,0,59,102,252,20,7,217,111,87,223,3,142,47,169,240,224,34]:=by unfold jO;rw [ja1];decide +kernel
theorem jlR:jC [] [229,128,211,26,192,109,49,110,192,80,240,148,133,152,44,0,59,102,252,20,7,217,111,87,223,3,142,47,169,240,224,34]= [223,130,14,136,235,26,124,85,63,121,27,236,82,97,185,69,70,72,104,155,158,228,165,243,103,97,42,143,96,106,199,87]:=by decide +kernel
theorem jlx:kL(jY [223,130,14,136,235,26,124,85,63,121,27,236,82,97,185,69,70,72,104,155,158,228,165,243,103,97,42,143,96,106,199,87] 9)= [177,127,78,226,150,20,25,164,132,51,117,60,226,233,149,4,113,178,29,22,36,87,161,72,56,98,85,1,233,43,18,103]:=by decide +kernel
theorem jh6:jE(jO [120] 1)= [177,127,78,226,150,20,25,164,132,51,117,60,226,233,149,4,113,178,29,22,36,87,161,72,56,98,85,1,233,43,18,103]:=by rw [jld];unfold jE;rw [jlR,jlx]
theorem jle:jO [120] 2= [22,158,187,107,153,145,28,94,129,249,121,95,246,228,94,245,174,121,194,20,160,7,186,127,183,241,185,144,37,241,213,112]:=by unfold jO;rw [ja1];decide +kernel
theorem jlS:jC [] [22,158,187,107,153,145,28,94,129,249,121,95,246,228,94,245,174,121,194,20,160,7,186,127,183,241,185,144,37,241,213,112]= [11,170,33,210,254,5,255,233,69,209,120,55,51,0,253,118,167,157,118,164,44,117,27,18,161,6,181,97,59,150,47,217]:=by decide +kernel
theorem jly:kL(jY [11,170,33,210,254,5,255,233,69,209,120,55,51,0,253,118,167,157,118,164,44,117,27,18,161,6,181,97,59,150,47,217] 9)= [160,251,3,70,222,90,11,255,36,81,220,218,241,8,16,51,240,179,4,66,248,174,135,25,230,82,211,57,60,167,193,61]:=by decide +kernel
theorem jh7:jE(jO [120] 2)= [160,251,3,70,222,90,11,255,36,81,220,218,241,8,16,51,240,179,4,66,248,174,135,25,230,82,211,57,60,167,193,61]:=by rw [jle];unfold jE;rw [jlS,jly]
theorem jlf:jO [120] 3= [197,216,223,126,143,161,200,210,172,130,151,20,150,197,204,199,11,33,62,53,189,22,138,195,66,218,184,222,100,20,77,220]:=by unfold jO;rw [ja1];decide +kernel
theorem jlT:jC [] [197,216,223,126,143,161,200,210,172,130,151,20,150,197,204,199,11,33,62,53,189,22,138,195,66,218,184,222,100,20,77,220]= [36,116,185,18,208,161,46,160,75,181,88,125,226,48,13,18,56,63,158,53,60,148,219,199,129,36,34,38,142,87,225,221]:=by decide +kernel
theorem jlz:kL(jY [36,116,185,18,208,161,46,160,75,181,88,125,226,48,13,18,56,63,158,53,60,148,219,199,129,36,34,38,142,87,225,221] 9)= [24,50,181,136,90,88,21,55,66,191,184,3,224,156,208,136,60,42,100,52,200,51,213,56,7,24,187,127,255,215,79,67]:=by decide +kernel
theorem jh8:jE(jO [120] 3)= [24,50,181,136,90,88,21,55,66,191,184,3,224,156,208,136,60,42,100,52,200,51,213,56,7,24,187,127,255,215,79,67]:=by rw [jlf];unfold jE;rw [jlT,jlz]
theorem jlg:jO [120] 4= [180,44,173,198,172,155,16,105,48,167,32,249,117,114,150,0,78,20,113,241,27,204,232,54,40,246,234,70,232,179,101,73]:=by unfold jO;rw [ja1];decide +kernel
theorem jlU:jC [] [180,44,173,198,172,155,16,105,48,167,32,249,117,114,150,0,78,20,113,241,27,204,232,54,40,246,234,70,232,179,101,73]= [142,168,244,79,95,198,255,84,239,135,78,135,148,228,184,49,48,248,251,96,103,53,75,135,9,128,61,132,69,160,23,82]:=by decide +kernel
theorem jlA:kL(jY [142,168,244,79,95,198,255,84,239,135,78,135,148,228,184,49,48,248,251,96,103,53,75,135,9,128,61,132,69,160,23,82] 9)= [238,20,62,77,240,15,3,149,135,107,153,78,142,160,190,101,221,45,226,11,88,8,167,219,57,205,200,70,106,213,41,122]:=by decide +kernel
theorem jh9:jE(jO [120] 4)= [238,20,62,77,240,15,3,149,135,107,153,78,142,160,190,101,221,45,226,11,88,8,167,219,57,205,200,70,106,213,41,122]:=by rw [jlg];unfold jE;rw [jlU,jlA]
theorem jlh:jO [120] 5= [117,252,122,188,222,87,77,62,15,0,40,80,13,120,234,146,50,184,76,177,166,201,248,108,32,208,237,81,30,16,47,191]:=by unfold jO;rw [ja1];decide +kernel
theorem jlV:jC [] [117,252,122,188,222,87,77,62,15,0,40,80,13,120,234,146,50,184,76,177,166,201,248,108,32,208,237,81,30,16,47,191]= [166,142,59,210,59,159,17,30,140,193,143,211,209,44,0,183,213,101,88,178,4,48,132,34,207,168,37,115,255,198,161,160]:=by decide +kernel
theorem jlB:kL(jY [166,142,59,210,59,159,17,30,140,193,143,211,209,44,0,183,213,101,88,178,4,48,132,34,207,168,37,115,255,198,161,160] 9)= [149,110,209,158,53,198,13,231,174,133,168,143,185,169,110,230,179,16,46,11,180,129,55,140,242,169,1,237,131,228,163,100]:=by decide +kernel
theorem jia:jE(jO [120] 5)= [149,110,209,158,53,198,13,231,174,133,168,143,185,169,110,230,179,16,46,11,180,129,55,140,242,169,1,237,131,228,163,100]:=by rw [jlh];unfold jE;rw [jlV,jlB]
theorem jli:jO [120] 6= [37,156,74,54,34,174,41,196,106,102,56,61,158,162,58,43,216,185,138,177,145,242,108,84,145,168,117,124,116,33,104,129]:=by unfold jO;rw [ja1];decide +kernel
theorem jlW:jC [] [37,156,74,54,34,174,41,196,106,102,56,61,158,162,58,43,216,185,138,177,145,242,108,84,145,168,117,124,116,33,104,129]= [92,199,157,46,140,176,4,94,162,212,86,252,18,151,134,57,128,0,135,247,239,121,247,152,104,169,52,51,162,33,191,255]:=by decide +kernel
theorem jlC:kL(jY [92,199,157,46,140,176,4,94,162,212,86,252,18,151,134,57,128,0,135,247,239,121,247,152,104,169,52,51,162,33,191,255] 9)= [93,166,90,143,58,156,148,32,21,186,49,29,48,4,20,100,114,59,94,162,27,49,170,191,242,212,237,47,252,37,4,115]:=by decide +kernel
theorem jib:jE(jO [120] 6)= [93,166,90,143,58,156,148,32,21,186,49,29,48,4,20,100,114,59,94,162,27,49,170,191,242,212,237,47,252,37,4,115]:=by rw [jli];unfold jE;rw [jlW,jlC]
theorem jlj:jO [120] 7= [229,238,171,79,80,102,154,108,51,48,87,187,238,99,31,237,228,151,95,47,213,171,184,118,87,117,251,176,122,214,52,77]:=by unfold srcK;rw [ja1];decide +kernel
theorem jlX:jC [] [229,238,171,79,80,102,154,108,51,48,87,187,238,99,31,237,228,151,95,47,213,171,184,118,87,117,251,176,122,214,52,77]= [14,54,126,18,109,247,238,126,0,82,174,113,116,130,93,206,227,8,68,213,184,217,225,91,111,82,65,45,221,210,240,135]:=by decide +kernel
theorem jlD:kL(jY [14,54,126,18,109,247,238,126,0,82,174,113,116,130,93,206,227,8,68,213,184,217,225,91,111,82,65,45,221,210,240,135] 9)= [7,112,58,141,233,93,104,203,160,109,150,37,71,206,214,18,91,109,210,179,58,138,28,121,82,64,205,109,151,136,55,13]:=by decide +kernel
theorem jic:jE(jO [120] 7)= [7,112,58,141,233,93,104,203,160,109,150,37,71,206,214,18,91,109,210,179,58,138,28,121,82,64,205,109,151,136,55,13]:=by rw [jlj];unfold jE;rw [jlX,jlD]
theorem jlk:jO [120] 8= [124,31,42,68,129,18,211,183,224,77,120,56,74,84,151,229,38,160,154,8,225,41,238,228,148,197,29,169,197,8,78,223]:=by unfold jO;rw [ja1];decide +kernel
theorem jlY:jC [] [124,31,42,68,129,18,211,183,224,77,120,56,74,84,151,229,38,160,154,8,225,41,238,228,148,197,29,169,197,8,78,223]= [112,58,194,65,251,7,62,54,235,140,107,133,174,171,244,105,81,50,27,124,110,181,167,105,224,7,100,89,56,101,71,49]:=by decide +kernel
theorem jlE:kL(jY [112,58,194,65,251,7,62,54,235,140,107,133,174,171,244,105,81,50,27,124,110,181,167,105,224,7,100,89,56,101,71,49] 9)= [36,140,188,56,71,236,3,99,140,204,228,245,113,71,228,226,181,245,43,160,125,224,220,31,238,136,82,141,191,27,95,61]:=by decide +kernel
theorem jid:jE(jO [120] 8)= [36,140,188,56,71,236,3,99,140,204,228,245,113,71,228,226,181,245,43,160,125,224,220,31,238,136,82,141,191,27,95,61]:=by rw [jlk];unfold jE;rw [jlY,jlE]
theorem jll:jO [120] 9= [88,250,11,7,58,55,77,13,88,122,76,77,162,173,236,156,110,3,62,194,136,250,62,210,198,124,85,52,220,128,236,83]:=by unfold jO;rw [ja1];decide +kernel
theorem jlZ:jC [] [88,250,11,7,58,55,77,13,88,122,76,77,162,173,236,156,110,3,62,194,136,250,62,210,198,124,85,52,220,128,236,83]= [201,32,148,90,5,238,159,126,165,29,211,252,170,13,213,147,230,137,218,163,142,210,183,17,23,242,146,122,197,159,182,188]:=by decide +kernel
theorem jlF:kL(jY [201,32,148,90,5,238,159,126,165,29,211,252,170,13,213,147,230,137,218,163,142,210,183,17,23,242,146,122,197,159,182,188] 9)= [188,24,212,189,231,102,62,115,76,137,191,111,200,105,72,60,84,90,148,67,74,211,168,20,188,191,132,71,65,226,84,25]:=by decide +kernel
theorem jie:jE(jO [120] 9)= [188,24,212,189,231,102,62,115,76,137,191,111,200,105,72,60,84,90,148,67,74,211,168,20,188,191,132,71,65,226,84,25]:=by rw [jll];unfold jE;rw [jlZ,jlF]
theorem jkK:jO [120] 10= [234,218,204,102,126,202,101,97,126,125,86,60,195,7,177,66,209,70,118,192,113,201,40,75,201,218,201,222,113,189,227,44]:=by unfold jO;rw [ja1];decide +kernel
theorem jkO:jC [] [234,218,204,102,126,202,101,97,126,125,86,60,195,7,177,66,209,70,118,192,113,201,40,75,201,218,201,222,113,189,227,44]= [26,22,41,69,113,160,219,61,74,164,220,133,180,132,87,28,230,235,179,181,230,252,99,232,199,150,255,84,85,91,251,134]:=by decide +kernel
theorem jkM:kL(jY [26,22,41,69,113,160,219,61,74,164,220,133,180,132,87,28,230,235,179,181,230,252,99,232,199,150,255,84,85,91,251,134] 9)= [173,41,219,91,202,94,68,168,11,112,158,112,255,64,183,169,145,254,107,169,79,63,62,69,34,130,179,151,158,197,130,92]:=by decide +kernel
theorem jjw:jE(jO [120] 10)= [173,41,219,91,202,94,68,168,11,112,158,112,255,64,183,169,145,254,107,169,79,63,62,69,34,130,179,151,158,197,130,92]:=by rw [jkK];unfold jE;rw [jkO,jkM]
theorem jlm:jO [121] 0= [20,13,166,112,65,152,126,219,103,65,140,7,178,194,56,100,184,150,191,140,152,127,190,238,108,123,239,80,220,211,122,161]:=by unfold jO;rw [ja2];decide +kernel
theorem jl0:jC [] [20,13,166,112,65,152,126,219,103,65,140,7,178,194,56,100,184,150,191,140,152,127,190,238,108,123,239,80,220,211,122,161]= [55,243,72,3,163,240,95,114,136,89,102,176,228,127,217,92,36,69,195,30,51,35,93,57,87,135,109,172,182,98,55,138]:=by decide +kernel
theorem jlG:kL(jY [55,243,72,3,163,240,95,114,136,89,102,176,228,127,217,92,36,69,195,30,51,35,93,57,87,135,109,172,182,98,55,138] 9)= [162,123,81,249,137,197,254,151,122,222,58,40,10,186,111,55,198,132,56,129,84,108,168,40,243,202,230,210,155,133,14,85]:=by decide +kernel
theorem jif:jE(jO [121] 0)= [162,123,81,249,137,197,254,151,122,222,58,40,10,186,111,55,198,132,56,129,84,108,168,40,243,202,230,210,155,133,14,85]:=by rw [jlm];unfold jE;rw [jl0,jlG]
theorem jln:jO [121] 1= [201,58,58,110,229,169,157,108,170,129,13,39,73,65,131,240,221,189,242,8,144,216,136,40,206,41,247,228,147,90,162,126]:=by unfold jO;rw [ja2];decide +kernel
theorem jl1:jC [] [201,58,58,110,229,169,157,108,170,129,13,39,73,65,131,240,221,189,242,8,144,216,136,40,206,41,247,228,147,90,162,126]= [102,18,160,100,250,249,86,192,219,101,24,4,68,60,40,226,126,11,212,188,232,207,46,97,141,19,128,190,249,222,203,39]:=by decide +kernel
theorem jlH:kL(jY [102,18,160,100,250,249,86,192,219,101,24,4,68,60,40,226,126,11,212,188,232,207,46,97,141,19,128,190,249,222,203,39] 9)= [65,223,211,57,162,58,193,218,47,216,194,184,111,147,27,175,130,230,191,152,117,220,10,203,249,118,151,25,157,189,102,84]:=by decide +kernel
theorem jig:jE(jO [121] 1)= [65,223,211,57,162,58,193,218,47,216,194,184,111,147,27,175,130,230,191,152,117,220,10,203,249,118,151,25,157,189,102,84]:=by rw [jln];unfold jE;rw [jl1,jlH]
theorem jlo:jO [121] 2= [209,12,24,115,142,40,119,73,202,209,54,222,16,148,187,183,181,112,20,201,99,194,54,101,96,240,111,142,2,221,168,68]:=by unfold jO;rw [ja2];decide +kernel
theorem jl2:jC [] [209,12,24,115,142,40,119,73,202,209,54,222,16,148,187,183,181,112,20,201,99,194,54,101,96,240,111,142,2,221,168,68]= [244,59,49,223,31,152,7,89,92,28,23,208,69,50,93,170,76,0,181,62,82,129,92,90,240,62,174,63,161,187,66,235]:=by decide +kernel
theorem jlI:kL(jY [244,59,49,223,31,152,7,89,92,28,23,208,69,50,93,170,76,0,181,62,82,129,92,90,240,62,174,63,161,187,66,235] 9)= [63,5,74,62,89,246,76,84,204,46,58,150,167,125,78,125,46,50,76,201,16,104,64,144,31,132,255,42,94,61,48,85]:=by decide +kernel
theorem jih:jE(jO [121] 2)= [63,5,74,62,89,246,76,84,204,46,58,150,167,125,78,125,46,50,76,201,16,104,64,144,31,132,255,42,94,61,48,85]:=by rw [jlo];unfold jE;rw [jl2,jlI]
theorem jlp:jO [121] 3= [176,95,176,85,193,130,251,208,101,119,49,95,158,78,104,127,183,243,180,45,25,225,224,165,166,45,63,178,26,95,151,27]:=by unfold srcK;rw [ja2];decide +kernel
theorem jl3:jC [] [176,95,176,85,193,130,251,208,101,119,49,95,158,78,104,127,183,243,180,45,25,225,224,165,166,45,63,178,26,95,151,27]= [183,154,230,46,49,211,166,74,254,244,165,178,164,244,101,138,40,21,131,72,235,111,67,110,214,88,151,89,104,183,164,17]:=by decide +kernel
theorem jlJ:kL(jY [183,154,230,46,49,211,166,74,254,244,165,178,164,244,101,138,40,21,131,72,235,111,67,110,214,88,151,89,104,183,164,17] 9)= [239,242,13,171,74,117,5,96,127,51,77,167,191,228,130,29,42,209,170,30,157,219,94,92,185,90,80,147,175,122,201,69]:=by decide +kernel
theorem jii:jE(jO [121] 3)= [239,242,13,171,74,117,5,96,127,51,77,167,191,228,130,29,42,209,170,30,157,219,94,92,185,90,80,147,175,122,201,69]:=by rw [jlp];unfold jE;rw [jl3,jlJ]
theorem jlq:jO [121] 4= [219,127,196,16,81,57,138,156,249,69,224,144,139,10,50,120,192,71,41,86,30,48,139,194,230,113,190,176,15,119,201,50]:=by unfold jO;rw [ja2];decide +kernel
theorem jl4:jC [] [219,127,196,16,81,57,138,156,249,69,224,144,139,10,50,120,192,71,41,86,30,48,139,194,230,113,190,176,15,119,201,50]= [133,131,201,178,114,25,226,207,25,234,65,144,227,209,99,4,231,186,55,117,107,149,254,7,151,97,118,37,74,20,155,120]:=by decide +kernel
theorem jlK:kL(jY [133,131,201,178,114,25,226,207,25,234,65,144,227,209,99,4,231,186,55,117,107,149,254,7,151,97,118,37,74,20,155,120] 9)= [62,58,207,104,236,149,250,223,155,137,143,117,44,140,4,112,134,215,174,85,154,194,89,10,185,108,169,136,115,64,78,30]:=by decide +kernel
theorem jij:jE(jO [121] 4)= [62,58,207,104,236,149,250,223,155,137,143,117,44,140,4,112,134,215,174,85,154,194,89,10,185,108,169,136,115,64,78,30]:=by rw [jlq];unfold jE;rw [jl4,jlK]
theorem jlr:jO [121] 5= [140,129,74,215,251,86,113,178,178,105,98,205,153,22,122,207,229,97,161,74,59,73,124,226,201,141,223,155,56,82,88,7]:=by unfold jO;rw [ja2];decide +kernel
theorem jl5:jC [] [140,129,74,215,251,86,113,178,178,105,98,205,153,22,122,207,229,97,161,74,59,73,124,226,201,141,223,155,56,82,88,7]= [44,27,46,33,90,85,67,181,89,238,156,22,88,104,74,61,165,210,169,181,2,129,218,110,161,81,213,147,116,143,117,95]:=by decide +kernel
theorem jlL:kL(jY [44,27,46,33,90,85,67,181,89,238,156,22,88,104,74,61,165,210,169,181,2,129,218,110,161,81,213,147,116,143,117,95] 9)= [122,198,250,154,73,150,148,194,59,220,110,87,26,92,218,233,159,190,151,77,255,64,139,243,26,142,93,11,245,167,6,2]:=by decide +kernel
theorem jik:jE(jO [121] 5)= [122,198,250,154,73,150,148,194,59,220,110,87,26,92,218,233,159,190,151,77,255,64,139,243,26,142,93,11,245,167,6,2]:=by rw [jlr];unfold jE;rw [jl5,jlL]
theorem jls:jO [121] 6= [36,58,254,107,117,6,219,56,5,139,186,136,213,166,148,154,116,38,103,41,230,75,20,102,143,23,224,225,72,33,207,14]:=by unfold jO;rw [ja2];decide +kernel
theorem jl6:jC [] [36,58,254,107,117,6,219,56,5,139,186,136,213,166,148,154,116,38,103,41,230,75,20,102,143,23,224,225,72,33,207,14]= [174,237,7,151,207,144,41,211,182,221,105,93,47,142,0,93,237,201,218,69,177,172,2,169,28,97,12,137,89,23,135,110]:=by decide +kernel
theorem jlM:kL(jY [174,237,7,151,207,144,41,211,182,221,105,93,47,142,0,93,237,201,218,69,177,172,2,169,28,97,12,137,89,23,135,110] 9)= [177,36,188,253,20,33,205,132,244,244,255,73,250,26,118,170,19,232,103,108,57,250,19,244,3,134,57,14,57,114,17,65]:=by decide +kernel
theorem jil:jE(jO [121] 6)= [177,36,188,253,20,33,205,132,244,244,255,73,250,26,118,170,19,232,103,108,57,250,19,244,3,134,57,14,57,114,17,65]:=by rw [jls];unfold jE;rw [jl6,jlM]
theorem jlt:jO [121] 7= [248,11,20,182,44,191,79,222,155,229,65,116,116,183,131,109,234,180,47,62,174,80,2,5,95,159,125,103,226,28,101,196]:=by unfold jO;rw [v_my];decide +kernel
theorem jl7:jC [] [248,11,20,182,44,191,79,222,155,229,65,116,116,183,131,109,234,180,47,62,174,80,2,5,95,159,125,103,226,28,101,196]= [102,152,124,248,58,74,75,177,130,23,196,155,148,252,235,191,38,87,190,232,113,178,18,16,51,145,12,234,7,25,163,62]:=by decide +kernel
theorem jlN:kL(jY [102,152,124,248,58,74,75,177,130,23,196,155,148,252,235,191,38,87,190,232,113,178,18,16,51,145,12,234,7,25,163,62] 9)= [231,144,53,160,105,145,171,245,101,45,235,120,241,224,55,245,138,122,211,121,205,149,116,234,197,181,63,64,82,209,165,8]:=by decide +kernel
theorem jim:jE(jO [121] 7)= [231,144,53,160,105,145,171,245,101,45,235,120,241,224,55,245,138,122,211,121,205,149,116,234,197,181,63,64,82,209,165,8]:=by rw [jlt];unfold jE;rw [jl7,jlN]
theorem jlu:jO [121] 8= [157,21,10,232,200,133,107,63,83,197,141,112,34,147,9,44,225,221,125,158,4,225,121,227,75,125,177,237,193,72,46,13]:=by unfold jO;rw [v_my];decide +kernel
theorem jl8:jC [] [157,21,10,232,200,133,107,63,83,197,141,112,34,147,9,44,225,221,125,158,4,225,121,227,75,125,177,237,193,72,46,13]= [58,68,187,193,22,50,87,135,11,182,31,3,40,211,99,17,59,211,244,84,48,218,178,204,95,45,57,36,106,185,152,102]:=by decide +kernel
theorem jlO:kL(jY [58,68,187,193,22,50,87,135,11,182,31,3,40,211,99,17,59,211,244,84,48,218,178,204,95,45,57,36,106,185,152,102] 9)= [67,57,239,119,86,56,10,215,170,134,111,94,183,65,126,115,36,58,35,74,146,119,243,13,171,139,218,210,179,20,223,126]:=by decide +kernel
theorem jin:jE(jO [121] 8)= [67,57,239,119,86,56,10,215,170,134,111,94,183,65,126,115,36,58,35,74,146,119,243,13,171,139,218,210,179,20,223,126]:=by rw [jlu];unfold jE;rw [jl8,jlO]
theorem jlv:jO [121] 9= [182,140,172,245,53,188,74,135,129,140,16,194,190,173,217,78,135,11,238,144,116,226,231,127,89,143,121,38,160,100,161,247]:=by unfold jO;rw [ja2];decide +kernel
theorem jl9:jC [] [182,140,172,245,53,188,74,135,129,140,16,194,190,173,217,78,135,11,238,144,116,226,231,127,89,143,121,38,160,100,161,247]= [166,72,244,150,7,229,28,150,231,142,136,203,207,31,97,131,91,156,101,144,162,76,217,21,119,25,134,36,218,177,60,31]:=by decide +kernel
theorem jlP:kL(jY [166,72,244,150,7,229,28,150,231,142,136,203,207,31,97,131,91,156,101,144,162,76,217,21,119,25,134,36,218,177,60,31] 9)= [104,59,76,167,163,118,139,241,18,41,33,130,94,249,98,63,65,251,147,3,83,89,182,224,42,109,84,230,62,165,75,79]:=by decide +kernel
theorem jio:jE(jO [121] 9)= [104,59,76,167,163,118,139,241,18,41,33,130,94,249,98,63,65,251,147,3,83,89,182,224,42,109,84,230,62,165,75,79]:=by rw [jlv];unfold jE;rw [jl9,jlP]
theorem jkL:jO [121] 10= [23,221,209,120,20,198,2,30,173,204,78,183,93,157,25,249,175,236,167,154,170,173,203,183,162,203,228,246,55,47,129,66]:=by unfold jO;rw [ja2];decide +kernel
theorem jkP:jC [] [23,221,209,120,20,198,2,30,173,204,78,183,93,157,25,249,175,236,167,154,170,173,203,183,162,203,228,246,55,47,129,66]= [67,95,30,254,155,41,65,253,217,9,219,121,54,37,185,69,30,237,186,219,169,160,186,112,195,30,228,31,36,221,49,142]:=by decide +kernel
theorem jkN:kL(jY [67,95,30,254,155,41,65,253,217,9,219,121,54,37,185,69,30,237,186,219,169,160,186,112,195,30,228,31,36,221,49,142] 9)= [152,48,109,89,74,132,115,233,148,253,37,151,87,55,178,231,119,214,185,77,194,83,39,176,86,115,223,46,142,248,135,118]:=by decide +kernel
theorem jjx:jE(jO [121] 10)= [152,48,109,89,74,132,115,233,148,253,37,151,87,55,178,231,119,214,185,77,194,83,39,176,86,115,223,46,142,248,135,118]:=by rw [v_ky10];unfold jE;rw [jkP,jkN]
theorem jk1:∀i,i < 10→jE(jO [120] i)≠jE(jO [120](i+1)):=by
 intro i hi
 have:i=0∨i=1∨i=2∨i=3∨i=4∨i=5∨i=6∨i=7∨i=8∨i=9:=by omega
 rcases this with rfl |rfl |rfl |rfl |rfl |rfl |rfl |rfl |rfl |rfl
 ·rw [jkz,jh6];decide
 ·rw [jh6,jh7];decide
 ·rw [jh7,jh8];decide
 ·rw [jh8,jh9];decide
 ·rw [jh9,jia];decide
 ·rw [jia,jib];decide
 ·rw [jib,jic];decide
 ·rw [jic,jid];decide
 ·rw [jid,jie];decide
 ·rw [jie,jjw];decide
theorem jks:jE [98]≠jE(jO [121] 0):=by rw [jk4,jif];decide
theorem jk2:∀i,i < 10→jE(jO [121] i)≠jE(jO [121](i+1)):=by
 intro i hi
 have:i=0∨i=1∨i=2∨i=3∨i=4∨i=5∨i=6∨i=7∨i=8∨i=9:=by omega
 rcases this with rfl |rfl |rfl |rfl |rfl |rfl |rfl |rfl |rfl |rfl
 ·rw [jif,jig];decide
 ·rw [jig,jih];decide
 ·rw [jih,jii];decide
 ·rw [jii,jij];decide
 ·rw [jij,jik];decide
 ·rw [jik,jil];decide
 ·rw [jil,jim];decide
 ·rw [jim,jin];decide
 ·rw [jin,jio];decide
 ·rw [jio,jjx];decide
end
section
open Go.ChangeShapes Go.WideShapes Go.ChangeAt Go.RowKit Go.Deep Go.Maps
set_option maxRecDepth 100000
def jb4(xs:List UInt8):Nat→List UInt8
 |0=> [98]
 |k+1=>jO xs k
theorem jfO{p n:Int}(h:0≤p∧p≤1000000)(h':0≤n∧n≤1000000):okH p n=true:=by
 unfold okH upB
 simp
 omega
structure Insy(xs ys:List UInt8)(k j:Nat)(s u:Rt)(m:Nat):Prop where
 ins:Insync s u(jb4 xs k)(jb4 ys j)
 rm:u.rm=s.sm
 rev:s.ri=true→u.sm≤s.rm
 b1:s.sm≤m
 b2:0≤u.sm∧u.sm≤m
 b3:0≤s.bf∧s.bf≤m
theorem Insy.sm0{xs ys:List UInt8}{k j m:Nat}{s u:Rt}(h:Insy xs ys k j s u m):0≤s.sm:=by have:=h.ins.rm;omega
structure Said(s u:Rt)(pr text bs pk:List UInt8)(bf sm:Int)(SB:List UInt8)(S' U':Rt)(pp:Int):Prop where
 lp:pk.length=32
 e:qU s pr text=0
 h:yH s pr text=hdC pk bf sm
 b:yG s pr bs text=SB
 s:yi s pr text=S'
 l:SB.length=text.length+32
 re:yr⟨u, [],pp⟩bs pk bf sm SB=0
 rt:Ym⟨u, [],pp⟩bs pk bf sm SB=text
 rs:ze⟨u, [],pp⟩bs pk bf sm SB=⟨U', [],pp⟩
theorem jbJ{xs ys:List UInt8}{k j m:Nat}{s u:Rt}(h:Insy xs ys k j s u m)(hm:m≤1000){text:List UInt8}(ht:text.length≤300)(pr bs:List UInt8)(pp:Int):
  Said s u pr text bs(jE(jb4 xs k))s.bf s.sm(qz(jM s.sc qd)(qb bs(jE(jb4 xs k))s.bf s.sm)text)(stepS s)(yW u)pp∧yf s text k=k∧Insy xs ys k j(jW s)(yW u)(m+1):=by
 have h0:=h.sm0
 have hb1:=h.b1
 have hb2:=h.b2
 have hb3:=h.b3
 have hk:okH s.bf s.sm=true:=jfO(by omega)(by omega)
 obtain⟨e,eS,eH,eB,eK⟩ :=je0(p:=pr)h.ins.si h.ins.mt ht hk
 rw [jaE h.ins.own] at eH eB
 obtain⟨r1,r2,r3,r4,r5⟩ :=jgj h.ins h.rm pp bs text hk
 refine⟨⟨YH _,e,eH,eB bs,eS,JV _ _ _,r1,r2,r3⟩,eK k,⟨r4,r5,h.rev,?_,⟨hb2.1,?_⟩,⟨hb3.1,?_⟩⟩⟩
 ·show s.sm+1≤((m+1:Nat):Int);omega
 ·show u.sm≤((m+1:Nat):Int);omega
 ·show s.bf≤((m+1:Nat):Int);omega
theorem jaN{x y:List UInt8}{s u T:Rt}{pr text bs:List UInt8}{pp:Int}(ha:Ahead T u x y)(h0:T.sm=0)(hk:okH T.bf 0=true)
  (e:qU s pr text=0)(eS:yi s pr text=jW T)(eH:yH s pr text=hdC T.pub T.bf T.sm)(eB:∀bs,yG s pr bs text=qz(jM T.sc qd)(qb bs T.pub T.bf T.sm)text):
  ∃S' U' SB,Said s u pr text bs(jE x)T.bf 0 SB S' U' pp∧S'.sm=1∧S'.bf=T.bf∧S'.ri=T.ri∧S'.rm=T.rm∧U'.sm=u.sm∧Insync S' U' x y∧U'.rm=S'.sm:=by
 obtain⟨r1,r2,r3,r4,r5⟩ :=jal ha h0 pp bs text(by rw [h0];exact hk)
 have f4:=(QX ha).2.2.2
 have hp:=jaE ha.own
 have eB':=eB bs
 rw [hp,h0] at eH eB'
 rw [h0] at r1 r2 r3
 generalize y9 u(jE x)=F at *
 have hS:(jW T).sm=1:=by show T.sm+1=1;rw [h0];rfl
 have hU:(yW F).sm=u.sm:=f4
 have l:=JV(jM T.sc qd)(qb bs(jE x)T.bf 0)text
 generalize qz(jM T.sc qd)(qb bs(jE x)T.bf 0)text=SB at *
 exact⟨jW T,yW F,SB,⟨YH x,e,eH,eB',eS,l,r1,r2,r3⟩,hS,rfl,rfl,rfl,hU,r4,r5⟩
theorem jbK{xs ys:List UInt8}{k j m:Nat}{s u:Rt}(h:Insy xs ys k j s u m)(hm:m≤1000){text:List UInt8}(ht:text.length≤300){z:List UInt8}(hzz:z=jO ys j)(hz:jE z≠jE(jb4 ys j))(bs:List UInt8)(pp:Int):
  ∃S' U' SB,Said u s(j3 z)text bs(jE z)u.sm 0 SB S' U' pp∧yf u text j=j+1∧S'.sm=1∧S'.bf=u.sm∧U'.sm=s.sm∧Insy ys xs(j+1)k S' U'(m+1):=by
 have h0:=h.sm0
 have hb1:=h.b1
 have hb2:=h.b2
 obtain⟨t1,t2,t3,t4,t5,t6⟩ :=jfg h.ins h.rm h.rev hz
 have hk0:okH u.sm 0=true:=jfO(by omega)(by omega)
 have hk:okH(qg u(j3 z)).bf(qg u(j3 z)).sm=true:=by rw [t3,t4];exact hk0
 obtain⟨e,eS,eH,eB,eK⟩ :=jiy(p:=j3 z)h.ins.umt t1 ht hk
 generalize qg u(j3 z)=T at *
 obtain⟨S',U',SB,q1,q2,q3,q4,q5,q6,q7,q8⟩ :=jaN(bs:=bs)(pp:=pp)t2 t3(by rw [t4];exact hk0)e eS eH eB
 rw [t4] at q1 q3
 have cs:jb4 ys(j+1)=z:=hzz.symm
 refine⟨S',U',SB,q1,eK j,q2,q3,q6,⟨by rw [cs];exact q7,q8,?_,?_,?_,?_⟩⟩
 ·intro _;rw [q6,q5,t6];exact Int.le_refl _
 ·rw [q2];omega
 ·rw [q6];omega
 ·rw [q3];omega
theorem jeX(shared:List UInt8){text:List UInt8}(ht:text.length≤300){z:List UInt8}(hzz:z=jO [120] 0)(pr bs:List UInt8)(pp:Int):
  ∃S' U' SB,Said(J2 shared)(YB shared zP)pr text bs(jE z)0 0 SB S' U' pp∧yf(begA shared)text 1=1∧S'.sm=1∧S'.bf=0∧U'.sm=0∧Insy [120] [121] 1 0 S' U' 1:=by
 obtain⟨t2,t3,t4,t5⟩ :=Zw shared
 have cs:jb4 [120] 1=z:=hzz.symm
 rw [← hzz] at t2
 have u0:(YB shared zP).sm=0:=rfl
 generalize YB shared zP=u at *
 generalize J2 shared=T at *
 have hk:okH T.bf T.sm=true:=by rw [t3,t4];rfl
 obtain⟨e,eS,eH,eB,eK⟩ :=je0(p:=pr)t2.si t2.mt ht hk
 obtain⟨S',U',SB,q1,q2,q3,q4,q5,q6,q7,q8⟩ :=jaN(bs:=bs)(pp:=pp)t2 t3(by rw [t4];rfl)e eS eH eB
 rw [t4] at q1 q3
 rw [u0] at q6
 refine⟨S',U',SB,q1,eK 1,q2,q3,q6,⟨by rw [cs];exact q7,q8,?_,?_,?_,?_⟩⟩
 ·intro y;rw [q4,t5] at y;cases y
 ·rw [q2];decide
 ·rw [q6];decide
 ·rw [q3];decide
theorem jkV{k:Nat}(h:1≤k)(h':k≤10):jE(jO [120] k)≠jE(jb4 [120] k):=by
 obtain⟨i,rfl⟩:∃i,k=i+1:=⟨k - 1,by omega⟩
 exact fun z=>jk1 i(by omega)z.symm
theorem jkW{k:Nat}(h':k≤10):jE(jO [121] k)≠jE(jb4 [121] k):=by
 rcases Nat.eq_zero_or_pos k with rfl |h
 ·exact fun z=>jks z.symm
 ·obtain⟨i,rfl⟩:∃i,k=i+1:=⟨k - 1,by omega⟩
  exact fun z=>jk2 i(by omega)z.symm
def jf4(shared:List UInt8)(k j:Nat)(s u:Rt)(m:Nat):Prop:=
 (m=0∧k=1∧j=0∧s=J2 shared∧u=YB shared zP)∨(k=j+1∧k+j≤m+1∧Insy [120] [121] k j s u m)∨(k=j∧1≤k∧k+j≤m+1∧Insy [121] [120] j k u s m)
theorem jke{shared:List UInt8}{k j m:Nat}{s u:Rt}(h:jf4 shared k j s u m)(hm:m≤17){text:List UInt8}(ht:text.length≤300)(bs:List UInt8)(pp:Int):
  ∃pk bf sm SB S' U' K',Said s u(j3(jO [120] k))text bs pk bf sm SB S' U' pp∧yf s text k=K'∧jf4 shared K' j S' U'(m+1):=by
 rcases h with⟨rfl,rfl,rfl,rfl,rfl⟩ | ⟨h1,h2,h3⟩ | ⟨h1,hk,h2,h3⟩
 ·obtain⟨S',U',SB,q1,q2,_,_,_,q3⟩ :=jeX shared ht rfl(j3(jO [120] 1))bs pp
  exact⟨_,_,_,SB,S',U',1,q1,q2, .inr(.inl⟨rfl,by omega,q3⟩)⟩
 ·obtain⟨q1,q2,q3⟩ :=jbJ h3(by omega)ht(j3(jO [120] k))bs pp
  exact⟨_,_,_,_,_,_,k,q1,q2, .inr(.inl⟨h1,by omega,q3⟩)⟩
 ·obtain⟨S',U',SB,q1,q2,_,_,_,q3⟩ :=jbK h3(by omega)ht rfl(jkV hk(by omega))bs pp
  exact⟨_,_,_,SB,S',U',k+1,q1,q2, .inr(.inl⟨by omega,by omega,q3⟩)⟩
theorem jkf{shared:List UInt8}{k j m:Nat}{s u:Rt}(h:jf4 shared k j s u m)(h0:0 < m)(hm:m≤17){text:List UInt8}(ht:text.length≤300)(bs:List UInt8)(pp:Int):
  ∃pk bf sm SB S' U' K',Said u s(j3(jO [121] j))text bs pk bf sm SB S' U' pp∧yf u text j=K'∧jf4 shared k K' U' S'(m+1):=by
 rcases h with⟨rfl,rfl,rfl,rfl,rfl⟩ | ⟨h1,h2,h3⟩ | ⟨h1,hk,h2,h3⟩
 ·omega
 ·obtain⟨S',U',SB,q1,q2,_,_,_,q3⟩ :=jbK h3(by omega)ht rfl(jkW(by omega))bs pp
  exact⟨_,_,_,SB,S',U',j+1,q1,q2, .inr(.inr⟨by omega,by omega,by omega,q3⟩)⟩
 ·obtain⟨q1,q2,q3⟩ :=jbJ h3(by omega)ht(j3(jO [121] j))bs pp
  exact⟨_,_,_,_,_,_,j,q1,q2, .inr(.inr⟨h1,hk,by omega,q3⟩)⟩
end
section
open Go.ChangeShapes Go.WideShapes Go.ChangeAt Go.RowKit Go.Deep
def Bls(w:World)(A:Option Addr)(n c:Nat)(f:Nat→Bool):Prop:=
 n≤c∧c≤maxLen∧(0 < n→∃b off,A=some⟨b,off,none⟩∧b < w.heap.size∧∀j,j < n→w.cell?⟨b,off+j,none⟩=some(.bool(f j)))
theorem Bls.ext{w w':World}{A:Option Addr}{n c:Nat}{f:Nat→Bool}(h:Bls w A n c f)(he:Ext w w'):Bls w' A n c f:=
 ⟨h.1,h.2.1,fun hn=>by
  obtain⟨b,off,e,hb,hc⟩ :=h.2.2 hn
  exact⟨b,off,e,Nat.lt_of_lt_of_le hb he.size,fun j hj=>(he.cell hb).trans(hc j hj)⟩⟩
section
variable{H:Type}{enc:TypeId×Value→H}{W:World}{P:Program}
theorem jbf{t e:TypeId}{a:Option Addr}{len cap:Nat}{d:DataW H}{p:List MemPlace}(ht:P.underlying t=some(.slice e))(he:P.underlying e=some .bool)(hc:P.cellsOf e=1)
  (h:DataW.Trod enc P W 0(fun _=>true)true t(.slice a len cap)d p):∃f,Bls W a len cap f:=by
 obtain⟨fuel,hf⟩ :=h
 rcases open_bools ht he hc hf with⟨hcs,_⟩ | ⟨x,l,c,B,hcs,_,hl,hm,_,hcell⟩
 ·simp [Value.cells] at hcs
  obtain⟨rfl,rfl,rfl⟩ :=hcs
  exact⟨fun _=>false,Nat.le_refl _,Nat.zero_le _,fun h=>absurd h(by omega)⟩
 ·simp [Value.cells] at hcs
  obtain⟨rfl,rfl,rfl⟩ :=hcs
  refine⟨B,hl,hm,fun h0=> ?_⟩
  obtain⟨b,off,spot⟩ :=x
  have g0:=hcell 0(by omega)
  have hspot:spot=none:=by simpa [Addr.add] using World.cell?_spot g0
  subst hspot
  have ad:∀j,(⟨b,off,none⟩:Addr).add j=⟨b,off+j,none⟩ :=fun j=>by unfold Addr.add;split <;> simp_all
  refine⟨b,off,rfl,?_,fun j hj=> ?_⟩
  ·rw [ad] at g0
   exact World.block_lt_of_cell? W _ g0
  ·have:=hcell j(by omega)
   rwa [ad] at this
end
def jhD:List Int:= [1779033703,3144134277,1013904242,2773480762,1359893119,2600822924,528734635,1541459225]
theorem jhw:Tryz.prog.globalNamed "palfrey/blake.initial" =some 0:=by kernel_rfl
theorem jeq:(Tryz.prog.globals[0]?).map(·.type)=some 218:=by kernel_rfl
theorem jgh{W:World}(h:Lib.TabIs Tryz.prog W "palfrey/blake.initial" .u32 jhD):∃tg,Gl W tg:=by
 unfold Lib.TabIs World.var? at h
 rw [jhw] at h
 simp only [Option.bind_some] at h
 cases hh:W.heap[0]? with
 |none=>rw [hh] at h;cases h
 |some o =>
  rw [hh] at h
  cases o with
  |cells cs t fr =>
   simp only [Option.some.injEq] at h
   subst h
   exact⟨(t,fr),hh⟩
  |_=>cases h
theorem jes{W:World}{rest:List(String×DataW Unit)}(h:laidMet Tryz.prog(("palfrey/blake.initial",Lib.tabData .u32 jhD):: rest)W):∃tg,Gl W tg:=
 jgh(Lib.tabIs_of_head(rest:=rest)jhw jeq Tryz.underlying218 Tryz.underlying133(by kernel_rfl)(by kernel_rfl)h)
end
section
open Go.ChangeShapes Go.WideShapes Go.ChangeAt Go.RowKit Go.Deep
set_option maxRecDepth 100000
def jeS:List Int:= [4294967277,4294967295,4294967295,4294967295,4294967295,4294967295,4294967295,2147483647]
theorem jhx:Tryz.prog.globalNamed "palfrey/field.prime" =some 1:=by kernel_rfl
theorem jer:(Tryz.prog.globals[1]?).map(·.type)=some 218:=by kernel_rfl
theorem jgi{W:World}(h:Lib.TabIs Tryz.prog W "palfrey/field.prime" .u32 jeS):∃tg,Gp W tg:=by
 unfold Lib.TabIs World.var? at h
 rw [jhx] at h
 simp only [Option.bind_some] at h
 cases hh:W.heap[1]? with
 |none=>rw [hh] at h;cases h
 |some o =>
  rw [hh] at h
  cases o with
  |cells cs t fr =>
   simp only [Option.some.injEq] at h
   subst h
   refine⟨(t,fr),?_⟩
   unfold Gp
   rw [← jgz]
   exact hh
  |_=>cases h
theorem jet{W:World}{rest:List(String×DataW Unit)}(h:laidMet Tryz.prog(("palfrey/field.prime",Lib.tabData .u32 primeZ):: rest)W):∃tg,Gp W tg:=
 jgi(Lib.tabIs_of_head(rest:=rest)jhx jer Tryz.underlying218 Tryz.underlying133(by kernel_rfl)(by kernel_rfl)h)
theorem jck{P:Program}{W:World}{x:String×DataW Unit}{rest:List(String×DataW Unit)}(h:laidMet P(x :: rest)W):laidMet P rest W:=by
 obtain⟨n,d⟩ :=x
 obtain⟨ps,⟨g,t,cs,fuel,p,q,_,_,_,_,hr,rfl⟩,hnd,hall⟩ :=h
 exact⟨q,hr,(List.nodup_append.1 hnd).2.1,fun b off hm=>hall b off(List.mem_append_right _ hm)⟩
theorem jb0{W:World}{rest:List(String×DataW Unit)}(h:laidMet Tryz.prog(("palfrey/field.prime",Lib.tabData .u32 jeS):: ("palfrey/blake.initial",Lib.tabData .u32 jhD):: rest)W):(∃tp,Gp W tp)∧∃tg,Gl W tg:=
 ⟨jet h,jes(jck h)⟩
end
section
open Go.ChangeShapes Go.WideShapes Go.ChangeAt Go.RowKit Go.Deep
section
variable{H:Type}{enc:TypeId×Value→H}{W:World}{P:Program}
theorem jeg{t e:TypeId}{a:Option Addr}{len cap:Nat}{d:DataW H}{p:List MemPlace}(ht:P.underlying t=some(.slice e))(he:P.underlying e=some(.int .u8))(hc:P.cellsOf e=1)
  (h:DataW.Trod enc P W 0(fun _=>true)true t(.slice a len cap)d p):∃xs,Bs W a len cap xs:=by
 obtain⟨fuel,hf⟩ :=h
 rcases open_ints ht he hc hf with⟨hcs,_⟩ | ⟨x,l,c,zs,hcs,_,hl,hm,hz,_,hcell,hwz⟩
 ·simp [Value.cells] at hcs
  obtain⟨rfl,rfl,rfl⟩ :=hcs
  exact⟨[],Bs.nil W⟩
 ·simp [Value.cells] at hcs
  obtain⟨rfl,rfl,rfl⟩ :=hcs
  exact jf8(.inr⟨_,rfl,hl,hm,by simpa using hz,hcell,hwz⟩)
end
section
variable{H:Type}{enc:TypeId×Value→H}{W:World}{P:Program}
theorem jct{r:Reach}{b n:Nat}{t e:TypeId}{v:Value}(ht:P.underlying t=some(.array n e))(h:Value.okWide P W r b t v):∃cs,v= .agg cs∧cs.size=P.cellsOf t:=by
 simp only [Value.okWide,ht] at h
 obtain⟨cs,h1,h2,_⟩ :=h
 exact⟨cs,h1,h2⟩
def jhc:Option Value→Nat
 |some(.int _ z) =>z.toNat
 |_=>0
theorem jbg{n fuel:Nat}{t e:TypeId}{cs:List Value}{x:DataW H×List MemPlace}(ht:P.underlying t=some(.array n e))(he:P.underlying e=some(.int .u8))(hce:P.cellsOf e=1)(hct:P.cellsOf t=n)
  (hf:DataW.trod enc P W 0(fun _=>true)true fuel t cs=some x):∃xs,cs=cellsOf xs∧xs.length=n:=by
 cases fuel with
 |zero=>simp [DataW.trod] at hf
 |succ fuel =>
  simp only [DataW.trod,ht,hce,hct,Nat.mul_one] at hf
  split at hf
  ·rename_i hl
   obtain⟨xs,hm,hx⟩ :=Option.map_eq_some_iff.1 hf
   have hcell:∀i,i < n→∃z:Int,cs[i]? =some(.int .u8 z)∧0≤z∧z≤255:=fun i hi=>by
    obtain⟨y,hy,hfy⟩ :=Lib.mapM_at hm i i(by simp [hi])
    obtain⟨z,hc,rfl,hw⟩ :=DataW.trod_int he hfy
    have h1:cs[i]? =some(.int .u8 z):=by
     have:=congrArg(·[0]?)hc
     simpa [List.getElem?_take,List.getElem?_drop] using this
    have hb:0≤z∧z≤255:=by simpa [Lit.wf,IntKind.min,IntKind.max,IntKind.signed,IntKind.bits] using hw
    exact⟨z,h1,hb⟩
   refine⟨(List.range n).map fun i=>UInt8.ofNat(jhc cs[i]?),?_,by simp⟩
   apply List.ext_getElem?
   intro i
   by_cases hi:i < n
   ·obtain⟨z,h1,h2,h3⟩ :=hcell i hi
    have h4:=jZ(xs:=(List.range n).map fun i=>UInt8.ofNat(jhc cs[i]?))(j:=i)(by simp;exact hi)
    rw [h1]
    refine Eq.trans ?_ h4.symm
    congr 2
    unfold bt
    simp [List.getD,hi,h1,jhc]
    omega
   ·rw [List.getElem?_eq_none(by omega),List.getElem?_eq_none(by simp [ja];omega)]
  ·cases hf
theorem jdh{r:Reach}{b n:Nat}{t e:TypeId}{v:Value}{d:DataW H}{p:List MemPlace}(ht:P.underlying t=some(.array n e))(he:P.underlying e=some(.int .u8))(hce:P.cellsOf e=1)(hct:P.cellsOf t=n)
  (hv:Value.okWide P W r b t v)(h:DataW.Trod enc P W 0(fun _=>true)true t v d p):∃xs,v= .agg(cellsOf xs).toArray∧xs.length=n:=by
 obtain⟨cs,rfl,hsz⟩ :=jct ht hv
 obtain⟨fuel,hf⟩ :=h
 obtain⟨xs,hx,hl⟩ :=jbg ht he hce hct hf
 refine⟨xs,?_,hl⟩
 congr 1
 apply Array.ext'
 rw [← hx];rfl
end
end
end Go.Proofs.YtakpgbaijkhpmaaGreatDoor
