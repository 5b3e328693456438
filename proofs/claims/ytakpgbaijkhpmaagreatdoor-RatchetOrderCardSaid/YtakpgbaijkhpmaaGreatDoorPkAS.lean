import Derived.Test.YtakpgbaijkhpmaaGreatDoorPkAR
import Derived.Test.YtakpgbaijkhpmaaGreatDoorPkAH
import Derived.Test.YtakpgbaijkhpmaaGreatDoorPkAG
import Derived.Test.YtakpgbaijkhpmaaGreatDoorPkAA
import Derived.Lib.AppendZerosOnto
import Derived.Test.YtakpgbaijkhpmaaGreatDoorPkAJ
import Derived.Test.YtakpgbaijkhpmaaGreatDoorPkAF
namespace Go.Proofs.YtakpgbaijkhpmaaGreatDoor
section
open Go.ChangeShapes Go.WideShapes Go.ChangeAt Go.RowKit Go.Deep Go.Maps
set_option maxRecDepth 100000
set_option maxHeartbeats 8000000 in
theorem jbe{w:World}{lo gs k:Nat}{root pk xs:List UInt8}(lr:root.length=32)(lp:pk.length=32)(hs:SrcSt w lo gs xs k)(hk:k < 1000000){tg tp:TypeId×Nat×Nat}(hG:Gl w tg)(hP:Gp w tp)(hq:1 < lo):
  Calls Tryz.prog 26 #[.agg(cellsOf root).toArray, .agg(cellsOf pk).toArray, .pointer(some⟨gs,0,none⟩)] w fun e w'=>SrcSt w' lo gs xs(k+1)∧w.grownBy w'(some gs)∧((qh(ZU root pk)(j3(jO xs k))=0∧∃sg kp mb,e= .returned(.tuple #[.pointer(some⟨sg,0,none⟩), .int .i64 0])∧(w.heap.size≤sg∧w.heap.size≤kp∧w.heap.size≤mb)∧SS w' sg kp mb gs⟨qg(ZU root pk)(j3(jO xs k)), [],0⟩)∨(qh(ZU root pk)(j3(jO xs k))≠0∧e= .returned(.tuple #[.pointer none, .int .i64(qh(ZU root pk)(j3(jO xs k)))]))):=by
 have NW:Hid(∀W:World,Calls Tryz.prog 59 #[] W fun e w'=>∃g b,e= .returned(.pointer(some⟨g,0,none⟩))∧W.heap.size≤g∧W.heap.size≤b∧SK w' g b [] 0∧Ext W w'):=fun W=>jaQ
 have BU:=hd(fun kp=>jcZ lr lp kp)
 have ok:=jiU lr lp
 have hlo:=hs.1
 have hsl:=hs.lt
 have S_r:(cellsOf root).toArray.size=32:=by simp [ja,lr]
 have S_p:(cellsOf pk).toArray.size=32:=by simp [ja,lp]
 obtain⟨p,hp⟩:∃p,p=j3(jO xs k):=⟨_,rfl⟩
 have L_p:p.length=64:=by rw [hp];exact yT _
 obtain⟨A0,hA0⟩:∃x,x=ZU root pk:=⟨_,rfl⟩
 rw [← hA0] at BU ok ⊢
 have TRN:Hid(∀(W:World)(g kp:Nat),Sq W g 114 A0 kp []→SrcSt W lo gs xs k→gs < g→Gl W tg→Gp W tp→Calls Tryz.prog 44 #[.pointer(some⟨g,0,none⟩), .pointer(some⟨gs,0,none⟩)] W fun e w'=>e= .returned(.int .i64(qh A0 p))∧Sq w' g 114(qg A0 p)kp []∧SrcSt w' lo gs xs(k+1)∧Two g gs W w'):=fun W g kp z1 z2 z3 z4 z5=>by
  rw [hp];exact ZO z1 ok z2 hk z3 z4 z5 hq
 rw [← hp]
 have okT:=Rt.ok_turn ok L_p
 clear hA0 hp
 have SCn:Hid(∀kp,(A0.C kp).toArray.size=200):=fun kp=>Rt.C_size ok kp
 have OCn:Hid(∀kp,(A0.C kp).toArray.all(·.oneCell')=true):=fun kp=>Rt.C_one A0 kp
 have haS:=state_alloc
 have L_zs:=jcQ
 generalize zT=ZT at *
 have S_zs:ZT.toArray.size=200:=by rw [List.size_toArray,L_zs]
 obtain⟨r,hr⟩:∃r,r=w.heap.size:=⟨_,rfl⟩
 have B0:Hid(Cb((w.alloc(.cells(cellsOf root).toArray 23)).alloc(.cells(cellsOf pk).toArray 23))r 23(cellsOf root)∧Cb((w.alloc(.cells(cellsOf root).toArray 23)).alloc(.cells(cellsOf pk).toArray 23))(r+1)23(cellsOf pk)∧Ext w((w.alloc(.cells(cellsOf root).toArray 23)).alloc(.cells(cellsOf pk).toArray 23))):=by rw [hr];exact⟨jQ _ _ _,jK _ _ _,((Ext.refl w).alloc _).alloc _⟩
 go_enter Tryz.func26,Tryz.ntmps26
 go_upto_region 1 with fail
 refine jg(fun W=>Cb W r 23(cellsOf root)∧Cb W(r+1)23(cellsOf pk)∧Ext w W)B0.out ?_
 rw [← hr]
 clear B0
 replace hr:=hd hr
 rintro w0⟨k3,k4,x0⟩
 have P0:Hid(∀u,Below w0.heap.size w0 u→Cb u r 23(cellsOf root)∧Cb u(r+1)23(cellsOf pk)∧Ext w u):=fun u x=>⟨k3.kept x k3.lt,k4.kept x k4.lt,Ext.trans x0 x⟩
 have w0s:=x0.size
 clear k3 k4 x0
 go_cut [8](fun s8 wx=>∃g8 kp mb:Nat,s8= .pointer(some⟨g8,0,none⟩)∧Below w0.heap.size w0 wx∧wx.heap[g8]? =some(.cells(A0.C kp).toArray 114(0,0))∧(w0.heap.size≤g8∧w0.heap.size≤kp∧w0.heap.size≤mb)∧SK wx kp mb [] 0)
 case first =>
  refine qgT(R:=Below w0.heap.size)(Below.refl _)(fun _ _ _=>Below.trans)(.rd 0(.rd 1(.alt 2(.rd 3(.alt 4(.alt 5 .nil .stop) .stop))(.alt 4(.alt 2(.rd 3(.alt 5 .nil .stop)) .stop) .stop))))6 ?_
  refine qtV rfl(fun w'=>w'.heap[r]? =some(.cells(cellsOf root).toArray 23(0,0)))(fun w' e=>(P0.out w'(Ext.trans(Ext.refl _).drew e)).1)(.agg(cellsOf root).toArray)(fun w' hF=>jd rfl rfl hF rfl rfl(by rw [S_r];rfl))?_
  go_frame
  refine qtV rfl(fun w'=>w'.heap[(r+1)]? =some(.cells(cellsOf pk).toArray 23(0,0)))(fun w' e=>(P0.out w'(Ext.trans(Ext.refl _).drew e)).2.1)(.agg(cellsOf pk).toArray)(fun w' hF=>jd rfl rfl hF rfl rfl(by rw [S_p];rfl))?_
  go_frame
  repeat((first |refine vM ?_ |refine qtS ?_);go_frame)
  have SE:Hid(Ext w0 w0.drew):=(Ext.refl w0).drew
  generalize w0.drew=WC at *
  repeat'(first
   |exact yC
   |(refine qc(i:=2)_ rfl ?_ ?_(fun K1 hK1=> ?_)
     (·rfl)
     rotate_left
     go_simp
     refine(NW.out WC).mono ?_
     rintro e0 WD⟨kp,mb,rfl,lk,lm,sk,e⟩
     refine hK1.out _ _(e.mono SE.out.size)?_
     clear hK1 K1
     have zk:=Nat.le_trans SE.out.size lk
     have zm:=Nat.le_trans SE.out.size lm
     (try have ng:kp≠g8:=by have:=jh hL.out;omega)
     (try have nh:mb≠g8:=by have:=jh hL.out;omega)
     (try replace hL:=hd((e.block _(jh hL.out)).trans hL.out))
     replace SE:=hd(SE.out.trans e)
     have SKx:=hd sk
     clear e sk lk lm
     generalize WD=WC at *
     (try go_frame)
     refine JX(fun _=>True)(fun _ _=>trivial)_(v:= .agg(A0.C kp).toArray)rfl(by rfl)(fun w' _=>qe rfl(by simp only [List.map_toArray,List.map_cons,List.map_nil];exact BU.out kp))?_
     (try go_frame)
     skip)
   |(refine qc(i:=4)_ rfl ?_ ?_(fun K1 hK1=> ?_)
     (·rfl)
     rotate_left
     go_simp
     have e:Ext WC(WC.alloc(Obj.cells ZT.toArray 114)):=(Ext.refl WC).alloc _
     obtain⟨g8,hg8⟩:∃g,g=WC.heap.size:=⟨_,rfl⟩
     have hL:=hd(heap_alloc_new WC(Obj.cells ZT.toArray 114))
     rw [← hg8] at hL ⊢
     have lg8:w0.heap.size≤g8:=by rw [hg8];exact SE.out.size
     refine hK1.out _ _(e.mono SE.out.size)?_
     clear hK1 K1
     (try have ng:kp≠g8:=by have:=SKx.out.cb.lt;omega)
     (try have nh:mb≠g8:=by have:=SKx.out.mp.lt;omega)
     (try replace SKx:=hd(SKx.out.ext e))
     replace hg8:=hd hg8
     replace SE:=hd(SE.out.trans e)
     clear e
     generalize WC.alloc(Obj.cells ZT.toArray 114)=WC at *
     (try go_frame)
     repeat((first |refine vM ?_ |refine qtS ?_);go_frame)
     skip)
   |(refine qc(i:=5)_ rfl ?_ ?_(fun K1 hK1=> ?_)
     (·rfl)
     rotate_left
     refine wp_store_row _ _ _ rfl g8(A0.C kp).toArray rfl rfl 114 ZT.toArray hL.out(by rw [SCn.out kp];rfl)(by rw [SCn.out kp,S_zs])(OCn.out kp)?_
     refine hK1.out _ _(below_setRow(Below.refl _ _)lg8 _)?_
     clear hK1 K1
     replace SE:Hid(Below w0.heap.size w0(WC.setRow g8(A0.C kp).toArray)):=below_setRow SE.out lg8 _
     replace SKx:Hid(SK(WC.setRow g8(A0.C kp).toArray)kp mb [] 0):=SKx.out.stay(setRow_other _ _ _ _ ng)(setRow_other _ _ _ _ nh)
     replace hL:Hid((WC.setRow g8(A0.C kp).toArray).heap[g8]? =some(.cells(A0.C kp).toArray 114(0,0))):=setRow_heap _ _ _ _ _ _ hL.out
     generalize WC.setRow g8(A0.C kp).toArray=WC at *
     (try simp only [Act.put])
     repeat((first |refine vM ?_ |refine qtS ?_);go_frame)
     skip)
   |(refine yB ?_
     go_wp2_with fail
     go_meet
     exact⟨g8,kp,mb,rfl,SE.out,hL.out,⟨lg8,zk,zm⟩,SKx.out⟩))
 case rest =>
  obtain⟨g8,kp,mb,rfl,b8,k8,⟨z8,zk,zm⟩,sk⟩ :=hcut
  have xw:=(P0.out wc b8).2.2
  have sk':=sk
  have nk:g8≠kp:=zq k8 sk.cb(by decide)
  have g8l:=jh k8
  have TR:=hd(TRN.out wc g8 kp(Sq.nil.2 k8)(hs.ext xw)(by omega)(hG.kept xw hG.lt)(hP.ext xw))
  have nm:g8≠mb:=(Sq.ne_sk(q:= [])(Sq.nil.2 k8)sk).2
  obtain⟨ngk,ngm⟩ :=(hs.ext xw).ne_sk sk
  replace sk:=hd sk
  replace xw:=hd xw
  clear TRN P0 k8 sk' hs hG hP NW BU b8
  go_wp2_with fail
  refine TR.out.mono ?_
  rintro e w3⟨rfl,hS3,s3,t3⟩
  have sk3:=sk.out.stay(t3.2.2.2.2 _ sk.out.cb.lt(fun z=>nk z.symm)(fun z=>ngk z.symm))(t3.2.2.2.2 _ sk.out.mp.lt(fun z=>nm z.symm)(fun z=>ngm z.symm))
  have xo:=xw.out
  have GR3:w.grownBy w3(some gs):=⟨t3.1.trans xo.os,t3.2.1.trans xo.tape,t3.2.2.1.trans xo.output,Nat.le_trans xo.size t3.2.2.2.1,fun i hi hne=>(t3.2.2.2.2 i(Nat.lt_of_lt_of_le hi xo.size)(by omega)(fun z=>hne(by rw [z]))).trans(xo.block i hi)⟩
  clear TR sk xw t3 xo
  obtain⟨te,hte⟩:∃x,x=qh A0 p:=⟨_,rfl⟩
  rw [← hte] at ⊢
  obtain⟨AT,hAT⟩:∃x,x=qg A0 p:=⟨_,rfl⟩
  rw [← hAT] at hS3 okT
  by_cases he:te=0
  ·have S_A:=Rt.C_size okT kp
   have BS:=hd(Qi(Rt.C_len okT kp)(.pointer(some⟨gs,0,none⟩))rfl)
   have kr:Hid(Cb w3 g8 114(AT.C kp)):=Sq.nil.1 hS3
   have E0:Hid(qh A0 p=0):=by rw [← hte];exact he
   have EA:=hd(fun _:Unit=>hAT)
   have F:Hid(SS(w3.alloc(.cells(AT.C kp ++ [Value.pointer(some⟨gs,0,none⟩)]).toArray 116))w3.heap.size kp mb gs⟨AT, [],0⟩∧SrcSt(w3.alloc(.cells(AT.C kp ++ [Value.pointer(some⟨gs,0,none⟩)]).toArray 116))lo gs xs(k+1)∧w.grownBy(w3.alloc(.cells(AT.C kp ++ [Value.pointer(some⟨gs,0,none⟩)]).toArray 116))(some gs)):=⟨⟨Cb.new _ _ _,sk3.ext((Ext.refl w3).alloc _),okT,Nat.zero_le _⟩,s3.ext((Ext.refl w3).alloc _),JR GR3((Ext.refl w3).alloc _)⟩
   have ws3:=GR3.size
   subst he
   clear hS3 s3 sk3 GR3 hAT hte
   generalize AT.C kp=CC at *
   go_wp2_with(first
    |((with_reducible refine js(o:=⟨some 19,_,_,_,_,_⟩)?_ 114 _ rfl g8 ?_ 114 CC.toArray(0,0)_ ?_ Tryz.underlying114 ?_ ?_ ?_);(·rfl);(·rfl);(·exact kr.out);(·rfl);(·rw [S_A];rfl);go_frame)
    |((with_reducible refine jm(o:=⟨some 21, .build 116 _,_,_,_,_⟩)?_ 116 _ rfl(CC ++ [Value.pointer(some⟨gs,0,none⟩)]).toArray ?_ ?_);(·rfl);(·simp only [List.map_toArray,List.map_cons,List.map_nil];exact BS.out);go_frame))
   go_ret2
   exact⟨F.out.2.1,F.out.2.2, .inl⟨E0.out,w3.heap.size,kp,mb,rfl,⟨ws3,by omega,by omega⟩,by rw [← EA.out()];exact F.out.1⟩⟩
  ·have hbn:(te !=0)=true:=bne_iff_ne.2 he
   have F:=hd(And.intro s3 GR3)
   have E0:Hid(qh A0 p≠0∧te=qh A0 p):=⟨by rw [← hte];exact he,hte⟩
   clear hS3 s3 sk3 GR3 hAT hte
   go_wp2_with fail
   go_ret2
   exact⟨F.out.1,F.out.2, .inr⟨E0.out.1,by rw [E0.out.2];rfl⟩⟩
structure Pty where
 s:Nat
 kp:Nat
 mb:Nat
 g:Nat
 lo:Nat
 xs:List UInt8
 k:Nat
 t:Rz
structure Pm(w:World)(a:Pty):Prop where
 ss:SS w a.s a.kp a.mb a.g a.t
 src:SrcSt w a.lo a.g a.xs a.k
 gs:a.g < a.s
 pr:1 < a.lo
def Off(a:Pty)(i:Nat):Prop:=i < a.lo∨a.g < i
structure Duo(w:World)(a b:Pty)(tg tp:TypeId×Nat×Nat):Prop where
 pa:Pm w a
 pb:Pm w b
 ne:a.s≠b.s
 ab:Off b a.s∧Off b a.g
 ba:Off a b.s∧Off a b.g
 gl:Gl w tg
 gp:Gp w tp
theorem Duo.swap{w:World}{a b:Pty}{tg tp:TypeId×Nat×Nat}(h:Duo w a b tg tp):Duo w b a tg tp:=⟨h.pb,h.pa,h.ne.symm,h.ba,h.ab,h.gl,h.gp⟩
theorem Pm.ext{w w':World}{a:Pty}(h:Pm w a)(e:Ext w w'):Pm w' a:=⟨h.ss.ext e,h.src.ext e,h.gs,h.pr⟩
theorem Duo.ext{w w':World}{a b:Pty}{tg tp:TypeId×Nat×Nat}(h:Duo w a b tg tp)(e:Ext w w'):Duo w' a b tg tp:=⟨h.pa.ext e,h.pb.ext e,h.ne,h.ab,h.ba,h.gl.kept e h.gl.lt,h.gp.ext e⟩
theorem SrcSt.two{w w':World}{lo g k i j:Nat}{xs:List UInt8}(h:SrcSt w lo g xs k)(e:Two i j w w')(h1:i < lo∨g < i)(h2:j < lo∨g < j):SrcSt w' lo g xs k:=by
 refine⟨h.1,?_⟩
 have:=h.1.2
 rcases h.2 with⟨A,n,c,rt,h,hb,hA⟩ |h
 ·refine .inl⟨A,n,c,rt,⟨(e.2.2.2.2 _ h.lt(by omega)(by omega)).trans h.1,h.2⟩,?_,hA⟩
  refine⟨hb.1,hb.2.1,hb.2.2.1,fun h0=> ?_⟩
  obtain⟨b,off,rfl,hbl,hc⟩ :=hb.2.2.2 h0
  have hq:=hA _ rfl
  dsimp only at hq
  exact⟨b,off,rfl,Nat.lt_of_lt_of_le hbl e.2.2.2.1,fun j' hj=>(World.cell?_of_block(e.2.2.2.2 b hbl(show b≠i by omega)(show b≠j by omega))).trans(hc j' hj)⟩
 ·exact .inr⟨(e.2.2.2.2 _ h.lt(by omega)(by omega)).trans h.1,h.2⟩
theorem Pm.two{w w':World}{a b:Pty}(ha:Pm w a)(hb:Pm w b)(ne:a.s≠b.s)(ab:Off b a.s∧Off b a.g)(e:Two a.s a.g w w'):Pm w' b:=by
 have n1:=hb.ss.ne
 obtain⟨g1,g2⟩ :=ha.src.ne_sk hb.ss.sk
 obtain⟨s1,s2⟩:a.s≠b.kp∧a.s≠b.mb:=by
  refine⟨zq ha.ss.sq hb.ss.sk.cb(by decide),fun z=> ?_⟩
  obtain⟨es,c,q⟩ :=hb.ss.sk.mp.obj
  have hs:=ha.ss.sq
  unfold Sq Cb at hs
  rw [z,q] at hs
  cases hs
 have g3:b.s≠a.g:=by
  obtain⟨L,hL⟩ :=ha.src.cb
  exact zq hb.ss.sq hL(by decide)
 have hx:=e.2.2.2.2
 exact⟨hb.ss.stay(hx _ hb.ss.sl(fun z=>ne z.symm)g3)(hx _ hb.ss.kl(fun z=>s1 z.symm)(fun z=>g1 z.symm))(hx _ hb.ss.ml(fun z=>s2 z.symm)(fun z=>g2 z.symm)),hb.src.two e ab.1 ab.2,hb.gs,hb.pr⟩
theorem Two.of_grown{w w':World}{g g':Nat}(h:w.grownBy w'(some g)):Two g g' w w':=⟨h.os,h.tape,h.output,h.size,fun i hi h1 _=>h.block i hi(fun z=>h1(Option.some.inj z))⟩
def Pty.sent(a:Pty)(text:List UInt8):Pty:= {a with k:=yf a.t.s text a.k,t:=⟨yi a.t.s(j3(jO a.xs a.k))text,a.t.L,a.t.puts⟩}
def Pty.pair(a:Pty):List UInt8:=j3(jO a.xs a.k)
theorem jhm{w:World}{a b:Pty}{tg tp:TypeId×Nat×Nat}(h:Duo w a b tg tp){A B:Option Addr}{m1 c1 m2 c2:Nat}{bs text:List UInt8}(hk:a.k < 1000000)(hm1:m1≤900000)(hM:∀u,Two a.s a.g w u→Bs u A m1 c1 bs∧Bs u B m2 c2 text):
  Calls Tryz.prog 21 #[.pointer(some⟨a.s,0,none⟩), .slice A m1 c1, .slice B m2 c2] w fun e w'=>∃A' n' c',e= .returned(.tuple #[.agg(yH a.t.s a.pair text).toArray, .slice A' n' c', .int .i64(qU a.t.s a.pair text)])∧Own w.heap.size w' A' n' c'(yG a.t.s a.pair bs text)∧Duo w'(a.sent text)b tg tp∧Two a.s a.g w w':=by
 have hl:=h.pa.src.1
 have hlb:=h.pb.src.1
 refine(jdL h.pa.ss h.pa.src hk h.pa.gs hm1 h.gl h.gp h.pa.pr hM).mono ?_
 rintro e w'⟨A',n',c',h1,h2,h3,h4,h5⟩
 have p1:=h.pa.pr
 have p2:=h.pa.gs
 have h6:=Pm.two h.pa h.pb h.ne h.ab h5
 exact⟨A',n',c',h1,h2,⟨⟨h3,h4,h.pa.gs,h.pa.pr⟩,h6,h.ne,h.ab,h.ba,h5.block h.gl(by omega)(by omega),h5.block h.gp(by omega)(by omega)⟩,h5⟩
theorem jhl{w:World}{a b:Pty}{tg tp:TypeId×Nat×Nat}(h:Duo w a b tg tp){A B:Option Addr}{m1 c1 m2 c2:Nat}{bs body pk:List UInt8}{prev n:Int}(hp:a.t.puts≤1000000000)(hb:Bs w A m1 c1 bs)(hb':Bs w B m2 c2 body)(hm1:m1≤900000)(hm2:m2≤1000000)(lp:pk.length=32):
  Calls Tryz.prog 23 #[.pointer(some⟨a.s,0,none⟩), .slice A m1 c1, .agg(hdC pk prev n).toArray, .slice B m2 c2] w fun e w'=>∃A' n' c' kp' mb',e= .returned(.tuple #[.slice A' n' c', .int .i64(yr a.t bs pk prev n body)])∧Own w.heap.size w' A' n' c'(Ym a.t bs pk prev n body)∧Duo w'{a with kp:=kp',mb:=mb',t:=ze a.t bs pk prev n body}b tg tp∧w.grownBy w'(some a.s):=by
 have hl:=h.pa.src.1
 refine(jdK h.pa.ss hp hb hb' hm1 hm2 lp h.gl h.gp).mono ?_
 rintro e w'⟨A',n',c',kp',mb',h1,h2,h3,h4,_⟩
 have p1:=h.pa.pr
 have p2:=h.pa.gs
 have h5:=Two.of_grown(g':=a.g)h4
 have h6:=Pm.two h.pa h.pb h.ne h.ab h5
 exact⟨A',n',c',kp',mb',h1,h2,⟨⟨h3,h.pa.src.other h4(.inr h.pa.gs),h.pa.gs,h.pa.pr⟩,h6,h.ne,h.ab,h.ba,h5.block h.gl(by omega)(by omega),h5.block h.gp(by omega)(by omega)⟩,h4⟩
end
section
open Go.ChangeShapes Go.WideShapes Go.ChangeAt Go.RowKit Go.Deep
def jec(w:World)(l:List Obj):World:=l.foldl World.alloc w
theorem Ql:∀(l:List Obj)(w:World),Ext w(jec w l)
 | [],w=>Ext.refl w
 |o :: l,w=>((Ext.refl w).alloc o).trans(Ql l(w.alloc o))
theorem QY:∀(l:List Obj)(w:World)(j:Nat)(o:Obj),l[j]? =some o→(jec w l).heap[w.heap.size+j]? =some o
 | [],w,j,o,h=>by simp at h
 |p :: l,w,0,o,h=>by
  simp at h
  subst h
  exact((Ql l(w.alloc p)).block w.heap.size(by rw [je];omega)).trans(heap_alloc_new w p)
 |p :: l,w,j+1,o,h=>by
  have:=QY l(w.alloc p)j o(by simpa using h)
  rw [je] at this
  rw [show w.heap.size+(j+1)=w.heap.size+1+j by omega]
  exact this
def jkF(k:Nat):Array Value:=((List.range 16).map fun j=>Value.int .i64(pm k j:Int)).toArray
def jiv(s:Nat):Array Value:=((List.range 10).map fun k=>Value.slice(some⟨s+k,0,none⟩)16 16).toArray
def Rws(w:World)(s:Nat):Prop:=s+10 < w.heap.size∧∀k,k < 10→w.cell?⟨s+10,k,none⟩=some(.slice(some⟨s+k,0,none⟩)16 16)∧∀j,j < 16→w.cell?⟨s+k,j,none⟩=some(.int .i64(pm k j:Int))
def jbI(s:Nat):List Obj:=((List.range 10).map fun k=>Obj.cells(jkF k)3)++ [Obj.cells(jiv s)69]
theorem jjC(w:World):Rws(jec w(jbI w.heap.size))w.heap.size:=by
 have hl:∀k,k < 10→(jbI w.heap.size)[k]? =some(Obj.cells(jkF k)3):=fun k hk=>by
  unfold jbI
  rw [List.getElem?_append_left(by simp;omega)]
  simp [hk]
 have h10:(jbI w.heap.size)[10]? =some(Obj.cells(jiv w.heap.size)69):=by
  unfold jbI
  rw [List.getElem?_append_right(by simp)]
  simp
 have hb:=QY _ w 10 _ h10
 refine⟨jh hb,fun k hk=>⟨?_,fun j hj=> ?_⟩⟩
 ·rw [cell_of_row _ _ _ _ _(0,0)hb]
  simp [jiv,hk]
 ·rw [cell_of_row _ _ _ _ _(0,0)(QY _ w k _(hl k hk))]
  simp [jkF,hj]
set_option maxRecDepth 100000 in
set_option maxHeartbeats 1000000 in
theorem jbl{w:World}:
  Calls Tryz.prog 128 #[] w fun e w'=>∃s,e= .returned(.slice(some⟨s+10,0,none⟩)10 10)∧w.heap.size≤s∧Rws w' s∧Ext w w':=by
 go_enter Tryz.func128,Tryz.ntmps128
 go_wp2_with fail
 go_ret
 exact⟨w.heap.size,rfl,Nat.le_refl _,jjC w,Ql(jbI w.heap.size)w⟩
set_option maxHeartbeats 1000000 in
theorem zG{n x:Nat}{w:World}(hx:x < 4294967296)(h1:1≤n)(h2:n≤31):
  Calls Tryz.prog 155 #[.int .u32(x:Int), .int .i64(n:Int)] w fun e w'=>e= .returned(.int .u32(rotr n x:Int))∧∃k,w'=w.drewN k:=by
 have hs:∃s:Nat,32 - n=s∧s≤31∧n=32 - s∧1≤s:=⟨32 - n,rfl,by omega,by omega,by omega⟩
 obtain⟨s,e1,e2,e3,e4⟩ :=hs
 have hf:=hd(jdH(n:=n)(by omega)hx)
 rw [e1] at hf
 have hd:IntKind.i64.wrap(32 - (n:Int))=(s:Int):=by rw [IntWalk.i64_in _(by omega)];omega
 have hor:∀a b,a < 4294967296→b < 4294967296→bits .or .u32((b:Nat):Int)((a:Nat):Int)=bits .or .u32((a:Nat):Int)((b:Nat):Int):=fun a b ha hb=>by
  rw [u32_or_nat _ _ hb ha,u32_or_nat _ _ ha hb,Nat.or_comm]
 have HO:=hd hor
 clear hor
 have q1:Op.shift .shr .u32(x:Int) .i64(n:Int)=pure(.int .u32((x:Int) / 2 ^ n)):=by
  have:=shift_shr .u32 .i64(x:Int)(n:Int)(by omega)(by show(n:Int)≤32;omega)
  rw [this]
  simp
 have q2:Op.shift .shl .u32(x:Int) .i64(s:Int)=pure(.int .u32((x:Int)*2 ^ s % 4294967296)):=by
  have:=shift_shl .u32 .i64(x:Int)(s:Int)(by omega)(by show(s:Int)≤32;omega)
  rw [this,IntKind.wrap_u32]
  simp
 clear e1 e3
 go_enter Tryz.func155,Tryz.ntmps155
 go_wp2_with fail
 refine qgE [0,1,2,3,4,5,6,7,8] [] ?_
 repeat((first |refine qR0 ?_ |refine qS ?_);go_frame)
 refine jp ?_
 go_wp2_with fail
 go_ret
 refine⟨congrArg(fun v=>Ending.returned(Value.int .u32 v))(Eq.trans ?_ hf.out),1,rfl⟩
 have p1:(x:Int) / 2 ^ n=((x / 2 ^ n:Nat):Int):=by simp
 have p2:(x:Int)*2 ^ s % 4294967296=((x *2 ^ s % 4294967296:Nat):Int):=by simp
 rw [p1,p2]
 exact HO.out(x *2 ^ s % 4294967296)(x / 2 ^ n)(Nat.mod_lt _(by decide))(Nat.lt_of_le_of_lt(Nat.div_le_self _ _)hx)
theorem ZJ(vs:List Nat)(a b x:Nat):vW vs a b x=vs.set a(qE(qE(wd vs a)(wd vs b))x):=by
 unfold vW qE
 congr 1
 omega
set_option maxRecDepth 100000 in
set_option maxHeartbeats 4000000 in
theorem vN{cap g a b c d x y:Nat}{vs:List Nat}{w:World}(h:Arr w g vs)(hl:vs.length=16)(ha:a < 16)(hb:b < 16)(hc:c < 16)(hd:d < 16)(hx:x < 4294967296)(hy:y < 4294967296):
  Calls Tryz.prog 129 #[.slice(some⟨g,0,none⟩)16 cap, .int .i64(a:Int), .int .i64(b:Int), .int .i64(c:Int), .int .i64(d:Int), .int .u32(x:Int), .int .u32(y:Int)] w
   fun e w'=>e= .returned(.tuple #[])∧Arr w' g(qZ vs a b c d x y)∧w.grownBy w'(some g):=by
 have ha':(a:Int) < 16:=by omega
 have hb':(b:Int) < 16:=by omega
 have hc':(c:Int) < 16:=by omega
 have hd':(d:Int) < 16:=by omega
 go_enter Tryz.func129,Tryz.ntmps129
 go_wp2_with fail
 refine jg(fun w1=>Arr w1 g vs∧w.grownBy w1(some g))⟨h,jV(Ext.refl _)_⟩?_
 rintro w0⟨A0,G0⟩
 have L0:=hl
 clear h
 obtain⟨cp,fp,lp⟩ :=A0.fct(i:=a)(by omega)
 obtain⟨cq,fq,lq⟩ :=A0.fct(i:=b)(by omega)
 have KEEP:Hid(∀w',Ext w0 w'→w'.cell?⟨g,a,none⟩=some(.int .u32(wd vs a:Int))∧w'.cell?⟨g,b,none⟩=some(.int .u32(wd vs b:Int))):=fun w' e=>⟨((A0.ext e).fct(by omega)).1,((A0.ext e).fct(by omega)).1⟩
 have u1:IntKind.u32.wrap((wd vs a:Int)+(wd vs b:Int))=(qE(wd vs a)(wd vs b):Int):=vO
 have u2:IntKind.u32.wrap((qE(wd vs a)(wd vs b):Int)+(x:Int))=(qE(qE(wd vs a)(wd vs b))x:Int):=vO
 refine yk 14 [0,1,2,3,4,5,6,7,8,9,10,11,12,13,14] [14] ?_
 repeat(refine qzR _(fun w' e=>KEEP.out w'((Ext.refl _).drew.trans e))?_;go_frame)
 refine qzD fun K1 hK1=> ?_
 go_simp
 refine hK1.out _ _(.inl rfl)?_
 clear hK1 K1
 refine jN ?_
 go_wp2_with fail
 refine jg(fun w1=>Arr w1 g(vW vs a b x)∧w.grownBy w1(some g))⟨ZJ vs a b x ▸(A0.set(by omega)(q9 _ _)).ext(Ext.refl _).drew,qs G0⟩?_
 rintro w1⟨A1,G1⟩
 have L1:(vW vs a b x).length=16:=(Y7 ..).trans L0
 clear A0 G0 L0 cp fp lp cq fq lq KEEP u1 u2
 generalize HV0:vW vs a b x=v1 at A1 L1
 replace HV0:=hd HV0
 obtain⟨cp,fp,lp⟩ :=A1.fct(i:=d)(by omega)
 obtain⟨cq,fq,lq⟩ :=A1.fct(i:=a)(by omega)
 have KEEP:Hid(∀w',Ext w1 w'→w'.cell?⟨g,d,none⟩=some(.int .u32(wd v1 d:Int))∧w'.cell?⟨g,a,none⟩=some(.int .u32(wd v1 a:Int))):=fun w' e=>⟨((A1.ext e).fct(by omega)).1,((A1.ext e).fct(by omega)).1⟩
 have u1:bits .xor .u32(wd v1 d:Int)(wd v1 a:Int)=((wd v1 d ^^^ wd v1 a:Nat):Int):=u32_xor_nat _ _ lp lq
 have HR:=hd(fun w0:World=> @zG 16(wd v1 d ^^^ wd v1 a)w0(jL lp lq)(by omega)(by omega))
 refine yk 13 [0,1,2,3,4,5,6,7,8,9,10,11,12,13] [11,13] ?_
 repeat(refine qzR _(fun w' e=>KEEP.out w'((Ext.refl _).drew.trans e))?_;go_frame)
 refine qzD fun K1 hK1=> ?_
 go_simp
 refine(HR.out _).mono ?_
 rintro e w1⟨rfl,k1,rfl⟩
 refine hK1.out _ _(.inr((Ext.refl _).drewN k1))?_
 clear hK1 K1
 try go_frame
 repeat(refine qzR _(fun w' e=>KEEP.out w'(((Ext.refl _).drew.drewN k1).trans e))?_;go_frame)
 refine qzD fun K1 hK1=> ?_
 go_simp
 refine hK1.out _ _(.inl rfl)?_
 clear hK1 K1
 refine jN ?_
 go_wp2_with fail
 refine jg(fun w1=>Arr w1 g(qa 16 v1 d a)∧w.grownBy w1(some g))⟨(A1.ext((Ext.refl _).drewN(1+k1))).set(by omega)(yA(jL lp lq)),Qr(jj G1(jV((Ext.refl _).drewN(1+k1))_))_ _⟩?_
 rintro w2⟨A2,G2⟩
 have L2:(qa 16 v1 d a).length=16:=(yc ..).trans L1
 clear A1 G1 L1 cp fp lp cq fq lq KEEP u1 HR
 generalize HV1:qa 16 v1 d a=v2 at A2 L2
 replace HV1:=hd HV1
 obtain⟨cp,fp,lp⟩ :=A2.fct(i:=c)(by omega)
 obtain⟨cq,fq,lq⟩ :=A2.fct(i:=d)(by omega)
 have KEEP:Hid(∀w',Ext w2 w'→w'.cell?⟨g,c,none⟩=some(.int .u32(wd v2 c:Int))∧w'.cell?⟨g,d,none⟩=some(.int .u32(wd v2 d:Int))):=fun w' e=>⟨((A2.ext e).fct(by omega)).1,((A2.ext e).fct(by omega)).1⟩
 have u1:IntKind.u32.wrap((wd v2 c:Int)+(wd v2 d:Int))=(qE(wd v2 c)(wd v2 d):Int):=vO
 refine yk 12 [0,1,2,3,4,5,6,7,8,9,10,11,12] [12] ?_
 repeat(refine qzR _(fun w' e=>KEEP.out w'((Ext.refl _).drew.trans e))?_;go_frame)
 refine qzD fun K1 hK1=> ?_
 go_simp
 refine hK1.out _ _(.inl rfl)?_
 clear hK1 K1
 refine jN ?_
 go_wp2_with fail
 refine jg(fun w1=>Arr w1 g(qt v2 c d)∧w.grownBy w1(some g))⟨(A2.set(by omega)(q9 _ _)).ext(Ext.refl _).drew,qs G2⟩?_
 rintro w3⟨A3,G3⟩
 have L3:(qt v2 c d).length=16:=(yp ..).trans L2
 clear A2 G2 L2 cp fp lp cq fq lq KEEP u1
 generalize HV2:qt v2 c d=v3 at A3 L3
 replace HV2:=hd HV2
 obtain⟨cp,fp,lp⟩ :=A3.fct(i:=b)(by omega)
 obtain⟨cq,fq,lq⟩ :=A3.fct(i:=c)(by omega)
 have KEEP:Hid(∀w',Ext w3 w'→w'.cell?⟨g,b,none⟩=some(.int .u32(wd v3 b:Int))∧w'.cell?⟨g,c,none⟩=some(.int .u32(wd v3 c:Int))):=fun w' e=>⟨((A3.ext e).fct(by omega)).1,((A3.ext e).fct(by omega)).1⟩
 have u1:bits .xor .u32(wd v3 b:Int)(wd v3 c:Int)=((wd v3 b ^^^ wd v3 c:Nat):Int):=u32_xor_nat _ _ lp lq
 have HR:=hd(fun w0:World=> @zG 12(wd v3 b ^^^ wd v3 c)w0(jL lp lq)(by omega)(by omega))
 refine yk 13 [0,1,2,3,4,5,6,7,8,9,10,11,12,13] [11,13] ?_
 repeat(refine qzR _(fun w' e=>KEEP.out w'((Ext.refl _).drew.trans e))?_;go_frame)
 refine qzD fun K1 hK1=> ?_
 go_simp
 refine(HR.out _).mono ?_
 rintro e w1⟨rfl,k1,rfl⟩
 refine hK1.out _ _(.inr((Ext.refl _).drewN k1))?_
 clear hK1 K1
 try go_frame
 repeat(refine qzR _(fun w' e=>KEEP.out w'(((Ext.refl _).drew.drewN k1).trans e))?_;go_frame)
 refine qzD fun K1 hK1=> ?_
 go_simp
 refine hK1.out _ _(.inl rfl)?_
 clear hK1 K1
 refine jN ?_
 go_wp2_with fail
 refine jg(fun w1=>Arr w1 g(qa 12 v3 b c)∧w.grownBy w1(some g))⟨(A3.ext((Ext.refl _).drewN(1+k1))).set(by omega)(yA(jL lp lq)),Qr(jj G3(jV((Ext.refl _).drewN(1+k1))_))_ _⟩?_
 rintro w4⟨A4,G4⟩
 have L4:(qa 12 v3 b c).length=16:=(yc ..).trans L3
 clear A3 G3 L3 cp fp lp cq fq lq KEEP u1 HR
 generalize HV3:qa 12 v3 b c=v4 at A4 L4
 replace HV3:=hd HV3
 obtain⟨cp,fp,lp⟩ :=A4.fct(i:=a)(by omega)
 obtain⟨cq,fq,lq⟩ :=A4.fct(i:=b)(by omega)
 have KEEP:Hid(∀w',Ext w4 w'→w'.cell?⟨g,a,none⟩=some(.int .u32(wd v4 a:Int))∧w'.cell?⟨g,b,none⟩=some(.int .u32(wd v4 b:Int))):=fun w' e=>⟨((A4.ext e).fct(by omega)).1,((A4.ext e).fct(by omega)).1⟩
 have u1:IntKind.u32.wrap((wd v4 a:Int)+(wd v4 b:Int))=(qE(wd v4 a)(wd v4 b):Int):=vO
 have u2:IntKind.u32.wrap((qE(wd v4 a)(wd v4 b):Int)+(y:Int))=(qE(qE(wd v4 a)(wd v4 b))y:Int):=vO
 refine yk 14 [0,1,2,3,4,5,6,7,8,9,10,11,12,13,14] [14] ?_
 repeat(refine qzR _(fun w' e=>KEEP.out w'((Ext.refl _).drew.trans e))?_;go_frame)
 refine qzD fun K1 hK1=> ?_
 go_simp
 refine hK1.out _ _(.inl rfl)?_
 clear hK1 K1
 refine jN ?_
 go_wp2_with fail
 refine jg(fun w1=>Arr w1 g(vW v4 a b y)∧w.grownBy w1(some g))⟨ZJ v4 a b y ▸(A4.set(by omega)(q9 _ _)).ext(Ext.refl _).drew,qs G4⟩?_
 rintro w5⟨A5,G5⟩
 have L5:(vW v4 a b y).length=16:=(Y7 ..).trans L4
 clear A4 G4 L4 cp fp lp cq fq lq KEEP u1 u2
 generalize HV4:vW v4 a b y=v5 at A5 L5
 replace HV4:=hd HV4
 obtain⟨cp,fp,lp⟩ :=A5.fct(i:=d)(by omega)
 obtain⟨cq,fq,lq⟩ :=A5.fct(i:=a)(by omega)
 have KEEP:Hid(∀w',Ext w5 w'→w'.cell?⟨g,d,none⟩=some(.int .u32(wd v5 d:Int))∧w'.cell?⟨g,a,none⟩=some(.int .u32(wd v5 a:Int))):=fun w' e=>⟨((A5.ext e).fct(by omega)).1,((A5.ext e).fct(by omega)).1⟩
 have u1:bits .xor .u32(wd v5 d:Int)(wd v5 a:Int)=((wd v5 d ^^^ wd v5 a:Nat):Int):=u32_xor_nat _ _ lp lq
 have HR:=hd(fun w0:World=> @zG 8(wd v5 d ^^^ wd v5 a)w0(jL lp lq)(by omega)(by omega))
 refine yk 13 [0,1,2,3,4,5,6,7,8,9,10,11,12,13] [11,13] ?_
 repeat(refine qzR _(fun w' e=>KEEP.out w'((Ext.refl _).drew.trans e))?_;go_frame)
 refine qzD fun K1 hK1=> ?_
 go_simp
 refine(HR.out _).mono ?_
 rintro e w1⟨rfl,k1,rfl⟩
 refine hK1.out _ _(.inr((Ext.refl _).drewN k1))?_
 clear hK1 K1
 try go_frame
 repeat(refine qzR _(fun w' e=>KEEP.out w'(((Ext.refl _).drew.drewN k1).trans e))?_;go_frame)
 refine qzD fun K1 hK1=> ?_
 go_simp
 refine hK1.out _ _(.inl rfl)?_
 clear hK1 K1
 refine jN ?_
 go_wp2_with fail
 refine jg(fun w1=>Arr w1 g(qa 8 v5 d a)∧w.grownBy w1(some g))⟨(A5.ext((Ext.refl _).drewN(1+k1))).set(by omega)(yA(jL lp lq)),Qr(jj G5(jV((Ext.refl _).drewN(1+k1))_))_ _⟩?_
 rintro w6⟨A6,G6⟩
 have L6:(qa 8 v5 d a).length=16:=(yc ..).trans L5
 clear A5 G5 L5 cp fp lp cq fq lq KEEP u1 HR
 generalize HV5:qa 8 v5 d a=v6 at A6 L6
 replace HV5:=hd HV5
 obtain⟨cp,fp,lp⟩ :=A6.fct(i:=c)(by omega)
 obtain⟨cq,fq,lq⟩ :=A6.fct(i:=d)(by omega)
 have KEEP:Hid(∀w',Ext w6 w'→w'.cell?⟨g,c,none⟩=some(.int .u32(wd v6 c:Int))∧w'.cell?⟨g,d,none⟩=some(.int .u32(wd v6 d:Int))):=fun w' e=>⟨((A6.ext e).fct(by omega)).1,((A6.ext e).fct(by omega)).1⟩
 have u1:IntKind.u32.wrap((wd v6 c:Int)+(wd v6 d:Int))=(qE(wd v6 c)(wd v6 d):Int):=vO
 refine yk 12 [0,1,2,3,4,5,6,7,8,9,10,11,12] [12] ?_
 repeat(refine qzR _(fun w' e=>KEEP.out w'((Ext.refl _).drew.trans e))?_;go_frame)
 refine qzD fun K1 hK1=> ?_
 go_simp
 refine hK1.out _ _(.inl rfl)?_
 clear hK1 K1
 refine jN ?_
 go_wp2_with fail
 refine jg(fun w1=>Arr w1 g(qt v6 c d)∧w.grownBy w1(some g))⟨(A6.set(by omega)(q9 _ _)).ext(Ext.refl _).drew,qs G6⟩?_
 rintro w7⟨A7,G7⟩
 have L7:(qt v6 c d).length=16:=(yp ..).trans L6
 clear A6 G6 L6 cp fp lp cq fq lq KEEP u1
 generalize HV6:qt v6 c d=v7 at A7 L7
 replace HV6:=hd HV6
 obtain⟨cp,fp,lp⟩ :=A7.fct(i:=b)(by omega)
 obtain⟨cq,fq,lq⟩ :=A7.fct(i:=c)(by omega)
 have KEEP:Hid(∀w',Ext w7 w'→w'.cell?⟨g,b,none⟩=some(.int .u32(wd v7 b:Int))∧w'.cell?⟨g,c,none⟩=some(.int .u32(wd v7 c:Int))):=fun w' e=>⟨((A7.ext e).fct(by omega)).1,((A7.ext e).fct(by omega)).1⟩
 have u1:bits .xor .u32(wd v7 b:Int)(wd v7 c:Int)=((wd v7 b ^^^ wd v7 c:Nat):Int):=u32_xor_nat _ _ lp lq
 have HR:=hd(fun w0:World=> @zG 7(wd v7 b ^^^ wd v7 c)w0(jL lp lq)(by omega)(by omega))
 refine yk 13 [0,1,2,3,4,5,6,7,8,9,10,11,12,13] [11,13] ?_
 repeat(refine qzR _(fun w' e=>KEEP.out w'((Ext.refl _).drew.trans e))?_;go_frame)
 refine qzD fun K1 hK1=> ?_
 go_simp
 refine(HR.out _).mono ?_
 rintro e w1⟨rfl,k1,rfl⟩
 refine hK1.out _ _(.inr((Ext.refl _).drewN k1))?_
 clear hK1 K1
 try go_frame
 repeat(refine qzR _(fun w' e=>KEEP.out w'(((Ext.refl _).drew.drewN k1).trans e))?_;go_frame)
 refine qzD fun K1 hK1=> ?_
 go_simp
 refine hK1.out _ _(.inl rfl)?_
 clear hK1 K1
 refine jN ?_
 go_wp2_with fail
 have HM:qZ vs a b c d x y=qa 7 v7 b c:=by
  unfold qZ
  rw [HV0.out,HV1.out,HV2.out,HV3.out,HV4.out,HV5.out,HV6.out]
 rw [HM]
 go_end0
 exact⟨rfl,(A7.ext((Ext.refl _).drewN(1+k1))).set(by omega)(yA(jL lp lq)),Qr(gr_trans G7(jV((Ext.refl _).drewN(1+k1))_))_ _⟩
set_option maxHeartbeats 1000000 in
theorem Jx{w:World}:
  Calls Tryz.prog 96 #[] w fun e w'=>e= .returned(.slice(some⟨w.heap.size,0,none⟩)8 8)∧Wr w' w.heap.size 133 qI∧Ext w w':=by
 go_enter Tryz.func96,Tryz.ntmps96
 go_wp2_with fail
 go_ret
 exact⟨rfl,heap_alloc_new _ _,(Ext.refl _).alloc _⟩
theorem jed{P:Program}{w:World}{B:Nat}{t e:TypeId}{z:Value}{bytes:Nat}(ht:P.underlying t=some(.slice e))(hinfo:(P.info? e).map(fun i=>(i.zero,i.size,i.bytes))=some(some z,1,bytes))(hzs:z.cells.size=1)
  {A A':Option Addr}{n c m c':Nat}{xs news:List Value}(ty:TypeId)(h:w.ownsRow B e 1(.slice A n c)n xs)(hl:news.length=m)(hsrc:0 < m→∃ad,A'=some ad∧∀j u,news[j]? =some u→w.cell?(ad.add j)=some u)
  (h1:∀u∈news,u.oneCell'=true)(hm:(n+m)*bytes≤140737488355328)(hn:n+m≤140737488355328)(hB:B≤w.heap.size):
  ∃A'' c'' w',(Builtin.append_ #[t,t] ty #[.slice A n c, .slice A' m c']).run P w= .ok(.slice A''(n+m)c'')w'∧w'.ownsRow B e 1(.slice A''(n+m)c'')(n+m)(xs ++ news)∧w.grownBy w'(Value.ownBlock(.slice A n c))∧
   (Value.ownBlock(.slice A''(n+m)c'')=Value.ownBlock(.slice A n c)∨Value.ownBlock(.slice A''(n+m)c'')=some w.heap.size):=by
 obtain⟨i,hi,hz0,hz1,hz2⟩ :=info_parts hinfo
 rcases A' with _ |a
 ·have hm0:m=0:=by
   rcases Nat.eq_zero_or_pos m with h0 |h0
   ·exact h0
   ·obtain⟨ad,e,_⟩ :=hsrc h0
    cases e
  subst hm0
  have hy:=List.eq_nil_of_length_eq_zero hl
  subst hy
  refine⟨A,c,w,?_,by simpa using h,⟨rfl,rfl,rfl,Nat.le_refl _,fun _ _ _=>rfl⟩, .inl rfl⟩
  rcases h.2 with⟨hv,hn⟩ | ⟨g,cap,cur,hv,_,_,hnc,_⟩
  ·rw [hv]
   subst hn
   injection hv with q1 _ q3
   subst q1 q3
   simp [Builtin.append_,run_underlying ht,sizeOf,typeInfo,hi,Builtin.lenOf,Builtin.firstCells]
  ·rw [hv]
   injection hv with q1 _ q3
   subst q1 q3
   simp [Builtin.append_,run_underlying ht,sizeOf,typeInfo,hi,Builtin.lenOf,Builtin.firstCells,hnc,storeCells]
 ·have hsrc':∀j u,news[j]? =some u→w.cell?(a.add j)=some u:=fun j u hu=>by
   have hj:j < news.length:=(List.getElem?_eq_some_iff.1 hu).1
   obtain⟨ad,e,hc⟩ :=hsrc(by omega)
   injection e with e
   subst e
   exact hc j u hu
  obtain⟨v',w',hrun,ho,hg,_,hown⟩ :=run_append_own_at(P:=P)w B t ty e i z 1 bytes ht hi hz0 hz1 hz2 hzs(by decide)(.slice A n c)n xs h a m c' news(by rw [hl,Nat.mul_one])hsrc' h1(by unfold maxLen;omega)hm hB
  rcases ho.2 with⟨hv,hn0⟩ | ⟨g,cap,cur,hv,_⟩
  ·subst hv
   refine⟨none,0,w',by rw [hrun,hn0],by rw [hn0] at ho ⊢;exact ho,hg,?_⟩
   rcases hown with q |q
   ·exact .inl q
   ·exact .inr q
  ·subst hv
   exact⟨_,_,w',hrun,ho,hg,hown⟩
theorem jkl:(Tryz.prog.info? 133).map(fun i=>(i.zero,i.size,i.bytes))=some(some(.int .u32 0),1,4):=by kernel_rfl
def Ws(w:World)(A:Option Addr)(n:Nat)(vs:List Nat):Prop:=vs.length=n∧(0 < n→∃b off,A=some⟨b,off,none⟩∧b < w.heap.size∧∀j,j < n→w.cell?⟨b,off+j,none⟩=some(.int .u32(wd vs j:Int)))
theorem Ws.ext{w w':World}{A:Option Addr}{n:Nat}{vs:List Nat}(h:Ws w A n vs)(e:Ext w w'):Ws w' A n vs:=⟨h.1,fun h0=>by
 obtain⟨b,off,q,hb,hc⟩ :=h.2 h0
 exact⟨b,off,q,Nat.lt_of_lt_of_le hb e.size,fun j hj=>(e.cell hb).trans(hc j hj)⟩⟩
def OwnW(B:Nat)(w:World)(A:Option Addr)(n c:Nat)(vs:List Nat):Prop:=w.ownsRow B 133 1(.slice A n c)n(jb vs)
section
variable{w w':World}{B:Nat}{A:Option Addr}{n c:Nat}{vs:List Nat}
theorem OwnW.nil(B:Nat)(w:World):OwnW B w none 0 0 []:=World.ownsRow_nil w B _ 1
theorem OwnW.empty(w:World)(B:Nat)(hB:B≤w.heap.size):OwnW B(w.alloc(.cells #[] 133))(some⟨w.heap.size,0,none⟩)0 0 []:=World.ownsRow_lit(e:=133)(size:=1)w #[] 0 hB(Nat.zero_le _)rfl
theorem OwnW.len(h:OwnW B w A n c vs):vs.length=n:=by simpa [jb] using h.1
theorem OwnW.ge(h:OwnW B w A n c vs):∀g,Value.ownBlock(.slice A n c)=some g→B≤g:=fun g hg=>(World.ownsRow.lt h g hg).1
theorem OwnW.ext(h:OwnW B w A n c vs)(he:Ext w w'):OwnW B w' A n c vs:=by
 refine⟨h.1,?_⟩
 rcases h.2 with h | ⟨g,cap,cur,hv,hb,hg,r⟩
 ·exact .inl h
 ·exact .inr⟨g,cap,cur,hv,hb,(he.block g(jh hg)).trans hg,r⟩
theorem OwnW.ws(h:OwnW B w A n c vs):Ws w A n vs:=by
 have hl:=h.len
 refine⟨hl,fun h0=> ?_⟩
 rcases h.2 with⟨hv,hn⟩ | ⟨g,cap,cur,hv,hb,hg,hnc,hcm,hcs,htk⟩
 ·omega
 ·injection hv with h1 h2 h3
  subst h1 h3
  refine⟨g,0,rfl,jh hg,fun j hj=> ?_⟩
  rw [Nat.zero_add]
  have e:(jb vs)[j]? =cur[j]?:=by
   rw [← htk,List.getElem?_take,if_pos(by omega),Array.getElem?_toList]
  have e2:(jb vs)[j]? =some(.int .u32(wd vs j:Int)):=by simp [jb,wd,List.getD,show j < vs.length by omega]
  rw [e2] at e
  simp [World.cell?,hg,← e]
end
theorem QT{w:World}{o:Oper}{a:Act}{K:Act→World→Prop}{Q:Exit→Act→World→Prop}{B:Nat}{A A':Option Addr}{n c m c':Nat}{us vs:List Nat}{s x:Operand}
  (ho:o.op= .call{callee:= .builtin .append,args:= #[s,x],argTypes:= #[195,195]})(hs:a.eval s= .slice A n c)(hx:a.eval x= .slice A' m c')
  (h:OwnW B w A n c us)(hr:Ws w A' m vs)(hm:n+m≤1000000)(hB:B≤w.heap.size)
  (hK:∀A'' c'' w',OwnW B w' A''(n+m)c''(us ++ vs)→w.grownBy w'(Value.ownBlock(.slice A n c))→Below B w w'→K(a.put o.dst(.slice A''(n+m)c''))w'):o.wp Tryz.prog a w K Q:=by
 obtain⟨A'',c'',w',hrun,h2,h3,h4⟩ :=jed(c':=c')Tryz.underlying195 jkl rfl o.type h(news:=jb vs)(m:=m)(A':=A')(by rw [← hr.1];simp [jb])(fun h0=>by
  obtain⟨b,off,q,hb,hc⟩ :=hr.2 h0
  refine⟨⟨b,off,none⟩,q,fun j u hu=> ?_⟩
  have hj:j < vs.length:=by
   have:=(List.getElem?_eq_some_iff.1 hu).1
   simpa [jb] using this
  have e2:(jb vs)[j]? =some(.int .u32(wd vs j:Int)):=by simp [jb,wd,List.getD,hj]
  have hplain:(⟨b,off,none⟩:Addr).add j=⟨b,off+j,none⟩ :=by unfold Addr.add;split <;> simp_all
  rw [hplain,hc j(by rw [← hr.1];exact hj),← e2,hu])(fun u hu=>by
  obtain⟨x,_,rfl⟩ :=List.mem_map.1 hu
  rfl)(by omega)(by omega)hB
 unfold Oper.wp execOp
 simp only [ho,resolve,invoke,builtin,Sem.run_bind,Sem.run_pure,Result.andThen_ok,List.map_toArray,List.map_cons,List.map_nil,hs,hx,hrun]
 refine hK A'' c'' w' ?_ h3((Below.refl B w).grown h3 hB h.ge)
 unfold OwnW
 have:jb(us ++ vs)=jb us ++ jb vs:=by simp [wcells]
 rw [this]
 exact h2
theorem zA{w:World}{ops:Array Oper}{rest:List Oper}{o:Oper}{a:Act}{Q:Exit→Act→World→Prop}(hgd:o.guard=none){B:Nat}{A A':Option Addr}{n c m c':Nat}{us vs:List Nat}{s x:Operand}
  (ho:o.op= .call{callee:= .builtin .append,args:= #[s,x],argTypes:= #[195,195]})(hs:a.eval s= .slice A n c)(hx:a.eval x= .slice A' m c')
  (h:OwnW B w A n c us)(hr:Ws w A' m vs)(hm:n+m≤1000000)(hB:B≤w.heap.size)
  (hK:∀A'' c'' w',OwnW B w' A''(n+m)c''(us ++ vs)→w.grownBy w'(Value.ownBlock(.slice A n c))→Below B w w'→wpList Tryz.prog ops Q rest(a.put o.dst(.slice A''(n+m)c''))w'):wpList Tryz.prog ops Q(o :: rest)a w:=
 wpList_plain hgd fun _ hK'=>QT ho hs hx h hr hm hB fun A'' c'' w' h2 h3 h4=>hK' _ _(hK A'' c'' w' h2 h3 h4)
theorem Ws.one(w:World)(t:TypeId)(x:Nat):Ws(w.alloc(.cells #[.int .u32(x:Int)] t))(some⟨w.heap.size,0,none⟩)1 [x]:=by
 refine⟨rfl,fun _=>⟨w.heap.size,0,rfl,by rw [je];omega,fun j hj=> ?_⟩⟩
 obtain rfl:j=0:=by omega
 rw [cell_of_row _ _ _ _ _(0,0)(heap_alloc_new _ _)]
 rfl
theorem OwnW.arr{B:Nat}{w:World}{A:Option Addr}{n c:Nat}{vs:List Nat}(h:OwnW B w A n c vs)(h0:0 < n)(hlt:∀i,i < n→wd vs i < 4294967296):∃g,A=some⟨g,0,none⟩∧B≤g∧Arr w g vs:=by
 have hl:=h.len
 rcases h.2 with⟨hv,hn⟩ | ⟨g,cap,cur,hv,hb,hg,hnc,hcm,hcs,htk⟩
 ·omega
 ·injection hv with h1 h2 h3
  subst h1 h3
  refine⟨g,rfl,hb,jh hg,fun j hj=>⟨?_,frozen_of_row w g j cur _ hg,hlt j(by omega)⟩⟩
  have e:(jb vs)[j]? =cur[j]?:=by
   rw [← htk,List.getElem?_take,if_pos(by omega),Array.getElem?_toList]
  have e2:(jb vs)[j]? =some(.int .u32(wd vs j:Int)):=by simp [jb,wd,List.getD,hj]
  rw [e2] at e
  simp [World.cell?,hg,← e]
theorem jfZ{vs:List Nat}{k:Nat}(h:k < vs.length):vs.take k ++ [wd vs k]=vs.take(k+1):=by
 rw [List.take_succ_eq_append_getElem h]
 simp [wd,List.getD,h]
theorem Ws.of_wr{w:World}{g n:Nat}{t:TypeId}{vs:List Nat}(h:Wr w g t vs)(hn:vs.length=n):Ws w(some⟨g,0,none⟩)n vs:=
 ⟨hn,fun _=>⟨g,0,rfl,h.lt,fun j hj=>by rw [Nat.zero_add];exact h.cell(by omega)⟩⟩
theorem jdo{xs:List UInt8}{k:Nat}(h:k < xs.length):vD(xs.drop k)=bt xs k+256 *vD(xs.drop(k+1)):=by
 rw [List.drop_eq_getElem_cons h,vD]
 simp [bt,List.getD,h]
def vV(xs:List UInt8)(m k:Nat):Nat:=ofLowL((xs.take m).drop k)
theorem jau{xs:List UInt8}{m k:Nat}(hk:k < m)(hm:m≤xs.length):vV xs m k=bt xs k+256 *vV xs m(k+1):=by
 unfold vV
 rw [jdo(by rw [List.length_take];omega),YU hk]
theorem jcq{xs:List UInt8}{m k:Nat}(hm:m≤xs.length)(h8:m≤8)(hk:1≤k):vV xs m k < 72057594037927936:=by
 unfold vV
 refine Nat.lt_of_lt_of_le(Yd _)(Nat.pow_le_pow_right(by omega)(show _≤7 from ?_))
 rw [List.length_drop,List.length_take]
 omega
set_option maxHeartbeats 400000 in
theorem jaI{A:Option Addr}{n c:Nat}{m:Nat}{xs:List UInt8}{w:World}(h:Bs w A n c xs)(hm8:m≤8)(hmn:m≤n)(hM:(if(8:Int) < (n:Int)then 8 else(n:Int))=(m:Int)):
  Calls Tryz.prog 127 #[.slice A n c] w fun e w'=>e= .returned(.int .u64(vD(xs.take m):Int))∧w'=w:=by
 have h1:=h.le
 have h2:=h.cap
 have hz:vV xs m m=0:=by unfold vV;rw [List.drop_of_length_le(by rw [List.length_take];omega)];rfl
 have hz':=hd hz
 clear hz
 go_enter Tryz.func127,Tryz.ntmps127
 go_wp2
 clear hM
 go_loop [3,4](fun x i=>∃k:Nat,k≤m∧i= .int .i64((k:Int) - 1)∧x= .int .u64(vV xs m k:Int))(fun _ i=>(intOf i+1).toNat)
 case atStart=>exact⟨m,Nat.le_refl _,rfl,by rw [hz'.out];rfl⟩
 case round =>
  obtain⟨k,hk,rfl,rfl⟩ :=hrel
  rcases Nat.eq_zero_or_pos k with rfl |hpos
  ·go_wp2
   go_ret
   exact⟨jjA(by unfold vV;rw [List.drop_zero]),rfl⟩
  ·obtain⟨j,rfl⟩:∃j,k=j+1:=⟨k - 1,by omega⟩
   obtain⟨b,off,rfl,hb,hc⟩ :=h.pos(by omega)
   have g1:=hc j(by omega)
   have hbt:=vJ xs j
   have hlt2:=jcq(xs:=xs)(m:=m)(k:=j+1)(by rw [h.len];omega)hm8(by omega)
   have hst:Hid((vV xs m(j+1):Int)*256+(bt xs j:Int)=(vV xs m j:Int)):=by
    unfold Hid
    rw [jau(show j < m by omega)(by rw [h.len];omega)]
    omega
   clear hc
   go_wp2
   exact⟨⟨j,by omega,rfl,congrArg(Value.int .u64)hst.out⟩,by simp [intOf]⟩
def jfr(vs:List Nat)(w:World)(e:Ending)(w':World):Prop:= ∃A c,e= .returned(.slice A vs.length c)∧Ws w' A vs.length vs∧Ext w w'
theorem jbT{xs:List UInt8}{n j:Nat}(h:j < n):wd(qY xs n)j=zy xs j:=by simp [wd,qY,List.getD,h]
theorem ji3{hs V:List Nat}{j:Nat}(h:j < 8):wd(ZW hs V)j=wd hs j ^^^(wd V j ^^^ wd V(j+8)):=by simp [wd,ZW,List.getD,h]
set_option maxRecDepth 100000 in
set_option maxHeartbeats 8000000 in
theorem Qh{A B:Option Addr}{c cb t:Nat}{hs:List Nat}{xs:List UInt8}{last:Bool}{w:World}(hh:Ws w A 8 hs)(hx:Bs w B 64 cb xs)(ht:t < 4294967296000000)(hb:Lt32 hs):
  Calls Tryz.prog 98 #[.slice A 8 c, .slice B 64 cb, .int .i64(t:Int), .bool last] w(jfr(ve hs xs t last)w):=by
 have hl:=hh.1
 replace hh:=hd hh
 have hxl:=hx.len
 have hc1:=hx.le
 have hc2:=hx.cap
 replace hx:=hd hx
 replace hb:=hd hb
 have CL:=yg hs xs t last
 have CD:Hid(ve hs xs t last=ZW hs(vF(qY xs 16)(vX hs t last)10)):=rfl
 unfold jfr
 rw [CL]
 generalize ve hs xs t last=R at *
 go_enter Tryz.func98,Tryz.ntmps98
 go_wp2_with(at_builtin;(with_reducible refine zA rfl(B:=w.heap.size)(s:= .tmp 17)(x:= .tmp 18)rfl rfl rfl(OwnW.empty w _(Nat.le_refl _))(hh.out.ext((Ext.refl _).alloc _))(by omega)(by simp)?_);intro A1 c1 w1 o1 g1 b1;simp only [Nat.zero_add,List.nil_append] at o1 ⊢;replace o1:=hd o1;have e1:Hid(Ext w w1):=Below.trans((Ext.refl w).alloc _)b1;clear g1 b1;go_frame)
 refine Jx.mono ?_
 rintro e w2⟨rfl,r2,e2⟩
 have f2:=hd(Ws.of_wr r2(show qI.length=8 from rfl))
 have o2:=hd(o1.out.ext e2)
 have E2:Hid(Ext w w2):=e1.out.trans e2
 clear o1 e1 r2 e2
 go_upto_region 2 with(at_builtin;(with_reducible refine zA rfl(B:=w.heap.size)(s:= .tmp 19)(x:= .tmp 20)rfl rfl rfl o2.out f2.out(by omega)E2.out.size ?_);intro A3 c3 w3 o3 g3 b3;simp only [Nat.reduceAdd] at o3 ⊢;replace o3:=hd o3;replace b3:=hd b3;clear g3;go_frame)
 have I0:=hb.out.append zZ
 obtain⟨gv,rfl,hgv,av⟩ :=o3.out.arr(by omega)(fun i _=>I0 i)
 have E3:Ext w w3:=Below.trans E2.out b3.out
 refine jg(fun W=>Ext w W∧Arr W gv(hs ++ qI))⟨E3,av⟩?_
 clear E2 o2 f2 o3 b3 av E3
 rintro W⟨E0,AV⟩
 have vl:(hs ++ qI).length=16:=by rw [List.length_append,hl];rfl
 obtain⟨v0,hv0⟩:∃v0,v0=hs ++ qI:=⟨_,rfl⟩
 have hS:∀last,vX hs t last=bif last then((v0.set 12(wd v0 12 ^^^ t % 4294967296)).set 13(wd v0 13 ^^^ t / 4294967296)).set 14(4294967295 ^^^ wd v0 14)else(v0.set 12(wd v0 12 ^^^ t % 4294967296)).set 13(wd v0 13 ^^^ t / 4294967296):=fun last=>by
  subst hv0;rfl
 rw [← hv0] at AV vl
 rw [← hv0] at I0
 replace hS:=hd hS
 replace hv0:=hd hv0
 have l12:=I0 12
 have l13:=I0 13
 have l14:=I0 14
 have x12:bits .xor .u32(wd v0 12:Int)((t:Int)% 4294967296)=((wd v0 12 ^^^ t % 4294967296:Nat):Int):=by
  rw [show(t:Int)% 4294967296=((t % 4294967296:Nat):Int)by omega]
  exact u32_xor_nat _ _ l12(Nat.mod_lt _(by decide))
 have x13:bits .xor .u32(wd v0 13:Int)((t:Int) / 4294967296)=((wd v0 13 ^^^ t / 4294967296:Nat):Int):=by
  rw [show(t:Int) / 4294967296=((t / 4294967296:Nat):Int)by omega]
  exact u32_xor_nat _ _ l13(by omega)
 have x14:bits .xor .u32 IntKind.u32.max(wd v0 14:Int)=((4294967295 ^^^ wd v0 14:Nat):Int):=u32_xor_nat 4294967295 _(by decide)l14
 have m1:(t:Int) / 4294967296 < 4294967296:=by omega
 have SL:Hid(∀last,Lt32(vX hs t last)):=fun last=>hb.out.start(by omega)last
 have SN:Hid(∀last,(vX hs t last).length=16):=fun last=>jaT hl
 replace I0:=hd I0
 obtain⟨c12,f12,_⟩ :=AV.2 12(by omega)
 obtain⟨c13,f13,_⟩ :=AV.2 13(by omega)
 go_upto_if 40 with(fail)
 have B12:wd v0 12 ^^^ t % 4294967296 < 4294967296:=jL l12(Nat.mod_lt t(by decide))
 have B13:wd v0 13 ^^^ t / 4294967296 < 4294967296:=jL l13(by omega)
 refine jg(fun W'=>Ext w W'∧Arr W' gv(vX hs t false))⟨(E0.setCell hgv _).setCell hgv _,by rw [hS.out];exact(AV.set(by omega)B12).set(by rw [List.length_set];omega)B13⟩?_
 have hT:Hid(vX hs t true=(vX hs t false).set 14(4294967295 ^^^ wd(vX hs t false)14)):=by
  have h9:wd(vX hs t false)14=wd v0 14:=by
   rw [hS.out]
   simp only [cond_false]
   rw [j8(by rw [List.length_set];omega),if_neg(by omega),j8(by omega),if_neg(by omega)]
  unfold Hid
  rw [h9,hS.out,hS.out]
  rfl
 clear AV E0 c12 f12 c13 f13 x12 x13 x14 l12 l13 l14 B12 B13 m1 vl I0 hS hv0
 clear W
 rintro W⟨E0,AV⟩
 go_cut [40](fun _ wx=>Ext w wx∧Arr wx gv(vX hs t last))
 case first =>
  have l14:=(SL.out false)14
  have vl:=SN.out false
  generalize hv2:vX hs t false=v2 at *
  replace hv2:=hd hv2
  cases last
  ·replace AV:=hd AV
   replace E0:=hd E0
   go_wp2_with fail
   go_meet
   exact⟨E0.out,by rw [hv2.out];exact AV.out⟩
  ·have x14:bits .xor .u32 IntKind.u32.max(wd v2 14:Int)=((4294967295 ^^^ wd v2 14:Nat):Int):=u32_xor_nat 4294967295 _(by decide)l14
   have B14:Hid(4294967295 ^^^ wd v2 14 < 4294967296):=jL(by decide)l14
   obtain⟨c14,f14,_⟩ :=AV.2 14(by omega)
   replace AV:=hd AV
   replace E0:=hd E0
   go_wp2_with fail
   go_meet
   exact⟨E0.out.setCell hgv _,by rw [hT.out];exact AV.out.set(by omega)B14.out⟩
 case rest =>
  obtain⟨E1,A1v⟩ :=hcut
  have sl:=SN.out last
  have sb:=hd(SL.out last)
  generalize hv1:vX hs t last=v1 at *
  replace hv1:=hd hv1
  clear E0 AV SL SN hT
  replace A1v:=hd A1v
  replace E1:=hd E1
  go_wp2_with fail
  go_loopw [10,11](fun v i wr=>∃(k:Nat)(D:Option Addr)(cc:Nat),k≤16∧i= .int .i64 k∧v= .slice D k cc∧OwnW wc.heap.size wr D k cc((qY xs 16).take k)∧Ext wc wr)(fun _ i _=>16 - (intOf i).toNat)
  case atStart=>exact⟨0,none,0,Nat.zero_le _,rfl,rfl,OwnW.nil _ _,Ext.refl _⟩
  case round =>
   obtain⟨k,D,cc,hk,rfl,rfl,ho,he⟩ :=hrel
   by_cases hlt:k < 16
   ·have TK:=hd(jfZ(vs:=qY xs 16)(k:=k)(by simp [qY];omega))
    rw [jbT hlt] at TK
    have pl:=J0 xs k
    have hcv:IntKind.u32.wrap(zy xs k:Int)=(zy xs k:Int):=by rw [IntKind.wrap_u32];omega
    have HX:=hd(hx.out.ext(E1.out.trans he))
    have OFL:Hid(∀A',Bs wr A' 4(cb - 4 *k)((xs.take(4 *k+4)).drop(4 *k))→Calls Tryz.prog 127 #[.slice A' 4(cb - 4 *k)] wr fun e w'=>e= .returned(.int .u64(zy xs k:Int))∧w'=wr):=fun A' b=>by
     have h9:=jaI(m:=4)b(by omega)(by omega)(by decide)
     have:((xs.take(4 *k+4)).drop(4 *k)).take 4=(xs.drop(4 *k)).take 4:=by
      rw [List.drop_take,List.take_take]
      congr 1
      omega
     rw [this] at h9
     exact h9
    replace ho:=hd ho
    replace he:=hd he
    have hz:=he.out.size
    generalize zy xs k=pk at *
    obtain⟨q,hq⟩:∃q,q=4 *k:=⟨_,rfl⟩
    rw [← hq] at OFL
    have i1:(4:Int)*(k:Int)=(q:Int):=by omega
    have q1:q+4≤64:=by omega
    have q2:q+4 - q=4:=by omega
    replace hq:=hd hq
    go_wp2_with((with_reducible refine ZR rfl(x:= .tmp 52)(lo:= .tmp 54)(hi:= .tmp 57)(k:=q)(h:=q+4)rfl rfl rfl rfl(by omega)(by omega)q1 hc1 ?_);intro A3 h3;replace h3:=hd h3;rw [q2] at h3 ⊢;go_frame)
    refine(OFL.out A3(h3.out _ _ HX.out)).mono ?_
    rintro e w4⟨rfl,rfl⟩
    clear OFL h3 i1 q2
    go_wp2_with(at_builtin;(with_reducible refine zA rfl(B:=wc.heap.size)(s:= .tmp 51)(x:= .tmp 61)rfl rfl rfl(ho.out.ext((Ext.refl _).alloc _))(Ws.one _ _ _)(by omega)(Nat.le_trans hz(by simp))?_);intro A5 c5 w5 o5 g5 b5;replace o5:=hd o5;replace b5:=hd b5;clear g5;go_frame)
    refine⟨⟨k+1,A5,c5,by omega,by go_num,rfl,?_,Below.trans(he.out.alloc _)b5.out⟩,by simp [intOf];omega⟩
    rw [← TK.out]
    exact o5.out
   ·obtain rfl:k=16:=by omega
    rw [show((16:Nat):Int)=16 from rfl]
    have hm:(qY xs 16).take 16=qY xs 16:=List.take_of_length_le(by simp [qY])
    rw [hm] at ho
    clear hm
    have HM:(qY xs 16).length=16:=by simp [qY]
    have HMb:Hid(∀j,j < 16→wd(qY xs 16)j < 4294967296):=fun j hj=>by
     rw [jbT hj];exact J0 _ _
    generalize hM:qY xs 16=ms at *
    replace hM:=hd hM
    obtain⟨gm,rfl,hgm,am⟩ :=ho.arr(by omega)(fun i hi=>HMb.out i hi)
    have am':=hd(am.ext(Ext.refl _))
    replace am:=hd am
    have avr:=hd(A1v.out.ext he)
    have glt:gv < wc.heap.size:=A1v.out.1
    have hhr:=hd(hh.out.ext(E1.out.trans he))
    have Er:=hd(E1.out.trans he)
    clear ho hx am'
    go_wp2_with fail
    refine jbl.mono ?_
    rintro e wB⟨s0,rfl,hs0,hrw,eB⟩
    have hs9:wr.heap.size≤s0:=hs0
    have z1:=he.size
    have gvm:gm < wr.heap.size:=am.out.1
    have ALL:Hid(∀w',wB.grownBy w'(some gv)→(∀k,k < 10→∀j,j < 16→w'.cell?⟨s0+k,j,none⟩=some(.int .i64(pm k j:Int)))∧(∀j,j < 16→w'.cell?⟨gm,j,none⟩=some(.int .u32(wd ms j:Int)))∧(∀k,k < 10→w'.cell?⟨s0+10,k,none⟩=some(.slice(some⟨s0+k,0,none⟩)16 16))):=fun w' e=>by
     have cc:∀(b o:Nat),b < wB.heap.size→b≠gv→w'.cell?⟨b,o,none⟩=wB.cell?⟨b,o,none⟩ :=fun b o hb hne=>by
      unfold World.cell?
      simp only
      rw [e.block b hb(fun q=>by injection q with q;exact hne q)]
     have hw:=hrw.1
     refine⟨fun k hk j hj=> ?_,fun j hj=> ?_,fun k hk=> ?_⟩
     ·rw [cc _ _(by omega)(by omega)];exact(hrw.2 k hk).2 j hj
     ·rw [cc _ _(Nat.lt_of_lt_of_le gvm eB.size)(by omega)]
      exact((am.out.ext eB).2 j(by rw [HM];exact hj)).1
     ·rw [cc _ _ hw(by omega)];exact(hrw.2 k hk).1
    have AVB:=hd(avr.out.ext eB)
    have EB:=hd(Er.out.trans eB)
    have HB:True:=trivial
    clear eB Er avr hhr hrw hs9 z1 gvm he am E1 A1v hs0 HB
    go_wp2_with fail
    go_loopw [13](fun i wr=>∃k:Nat,k≤10∧i= .int .i64 k∧wB.grownBy wr(some gv)∧Arr wr gv(vF ms v1 k))(fun i _=>10 - (intOf i).toNat)
    case atStart=>exact⟨0,Nat.zero_le _,rfl,jV(Ext.refl _)_,AVB.out⟩
    case round =>
     obtain⟨k,hk,rfl,GR,AV⟩ :=hrel
     have VL:(vF ms v1 k).length=16:=jg3 sl k
     by_cases hlt:k < 10
     ·have HSUC:=hd(Yc ms v1 k)
      generalize hvk:vF ms v1 k=vk at AV VL HSUC
      clear hvk
      have cs:=(ALL.out _ GR).2.2 k hlt
      have ik:(k:Int) < 10:=by omega
      go_upto_region 16 with fail
      refine jg(fun W'=>wB.grownBy W'(some gv)∧Arr W' gv vk)⟨GR,AV⟩?_
      clear GR AV cs
      rintro W⟨GR,AV⟩
      have lp:(pm k 0:Int) < 16:=by have:=jA k 0;omega
      have lq:(pm k 1:Int) < 16:=by have:=jA k 1;omega
      have KEEP:Hid(∀w',W.grownBy w'(some gv)→w'.cell?⟨s0+k,0,none⟩=some(.int .i64(pm k 0:Int))∧w'.cell?⟨s0+k,1,none⟩=some(.int .i64(pm k 1:Int))∧w'.cell?⟨gm,pm k 0,none⟩=some(.int .u32(wd ms(pm k 0):Int))∧w'.cell?⟨gm,pm k 1,none⟩=some(.int .u32(wd ms(pm k 1):Int))):=fun w' e=>⟨(ALL.out w'(jj GR e)).1 k hlt 0(by omega),(ALL.out w'(jj GR e)).1 k hlt 1(by omega),(ALL.out w'(jj GR e)).2.1 _(jA _ _),(ALL.out w'(jj GR e)).2.1 _(jA _ _)⟩
      replace GR:=hd GR
      replace AV:=hd AV
      refine qgW gv [0,1,2,3,4,5,6,7,8,9,10,11,12,13] [13] ?_
      repeat((first |refine qR _(fun w' e=>KEEP.out w'(jj(jV(Ext.refl _).drew _)e))?_ |refine qS ?_);go_frame)
      refine qD fun K hK=> ?_
      go_simp
      refine(vN(AV.out.ext(Ext.refl _).drew)VL(a:=0)(b:=4)(c:=8)(d:=12)(by omega)(by omega)(by omega)(by omega)(HMb.out _(jA _ _))(HMb.out _(jA _ _))).mono ?_
      rintro e w2⟨rfl,A2,G2⟩
      refine hK.out _ _ G2 ?_
      clear hK K
      try go_frame
      refine jp ?_
      go_wp2_with fail
      refine jg(fun W'=>wB.grownBy W'(some gv)∧Arr W' gv(qZ vk 0 4 8 12(wd ms(pm k 0))(wd ms(pm k 1))))⟨jj GR.out(jj(jV(Ext.refl _).drew _)G2),A2⟩?_
      clear A2 G2 KEEP GR AV
      clear W
      rintro W⟨GR,AV⟩
      have VL':=(vC vk 0 4 8 12(wd ms(pm k 0))(wd ms(pm k 1))).trans VL
      clear VL
      generalize HV0:qZ vk 0 4 8 12(wd ms(pm k 0))(wd ms(pm k 1))=u0 at AV VL'
      replace HV0:=hd HV0
      have VL:=VL'
      clear VL' lp lq
      have lp:(pm k 2:Int) < 16:=by have:=jA k 2;omega
      have lq:(pm k 3:Int) < 16:=by have:=jA k 3;omega
      have KEEP:Hid(∀w',W.grownBy w'(some gv)→w'.cell?⟨s0+k,2,none⟩=some(.int .i64(pm k 2:Int))∧w'.cell?⟨s0+k,3,none⟩=some(.int .i64(pm k 3:Int))∧w'.cell?⟨gm,pm k 2,none⟩=some(.int .u32(wd ms(pm k 2):Int))∧w'.cell?⟨gm,pm k 3,none⟩=some(.int .u32(wd ms(pm k 3):Int))):=fun w' e=>⟨(ALL.out w'(jj GR e)).1 k hlt 2(by omega),(ALL.out w'(jj GR e)).1 k hlt 3(by omega),(ALL.out w'(jj GR e)).2.1 _(jA _ _),(ALL.out w'(jj GR e)).2.1 _(jA _ _)⟩
      replace GR:=hd GR
      replace AV:=hd AV
      refine qgW gv [0,1,2,3,4,5,6,7,8,9,10,11,12,13] [13] ?_
      repeat((first |refine qR _(fun w' e=>KEEP.out w'(jj(jV(Ext.refl _).drew _)e))?_ |refine qS ?_);go_frame)
      refine qD fun K hK=> ?_
      go_simp
      refine(vN(AV.out.ext(Ext.refl _).drew)VL(a:=1)(b:=5)(c:=9)(d:=13)(by omega)(by omega)(by omega)(by omega)(HMb.out _(jA _ _))(HMb.out _(jA _ _))).mono ?_
      rintro e w2⟨rfl,A2,G2⟩
      refine hK.out _ _ G2 ?_
      clear hK K
      try go_frame
      refine jp ?_
      go_wp2_with fail
      refine jg(fun W'=>wB.grownBy W'(some gv)∧Arr W' gv(qZ u0 1 5 9 13(wd ms(pm k 2))(wd ms(pm k 3))))⟨jj GR.out(jj(jV(Ext.refl _).drew _)G2),A2⟩?_
      clear A2 G2 KEEP GR AV
      clear W
      rintro W⟨GR,AV⟩
      have VL':=(vC u0 1 5 9 13(wd ms(pm k 2))(wd ms(pm k 3))).trans VL
      clear VL
      generalize HV1:qZ u0 1 5 9 13(wd ms(pm k 2))(wd ms(pm k 3))=u1 at AV VL'
      replace HV1:=hd HV1
      have VL:=VL'
      clear VL' lp lq
      have lp:(pm k 4:Int) < 16:=by have:=jA k 4;omega
      have lq:(pm k 5:Int) < 16:=by have:=jA k 5;omega
      have KEEP:Hid(∀w',W.grownBy w'(some gv)→w'.cell?⟨s0+k,4,none⟩=some(.int .i64(pm k 4:Int))∧w'.cell?⟨s0+k,5,none⟩=some(.int .i64(pm k 5:Int))∧w'.cell?⟨gm,pm k 4,none⟩=some(.int .u32(wd ms(pm k 4):Int))∧w'.cell?⟨gm,pm k 5,none⟩=some(.int .u32(wd ms(pm k 5):Int))):=fun w' e=>⟨(ALL.out w'(jj GR e)).1 k hlt 4(by omega),(ALL.out w'(jj GR e)).1 k hlt 5(by omega),(ALL.out w'(jj GR e)).2.1 _(jA _ _),(ALL.out w'(jj GR e)).2.1 _(jA _ _)⟩
      replace GR:=hd GR
      replace AV:=hd AV
      refine qgW gv [0,1,2,3,4,5,6,7,8,9,10,11,12,13] [13] ?_
      repeat((first |refine qR _(fun w' e=>KEEP.out w'(jj(jV(Ext.refl _).drew _)e))?_ |refine qS ?_);go_frame)
      refine qD fun K hK=> ?_
      go_simp
      refine(vN(AV.out.ext(Ext.refl _).drew)VL(a:=2)(b:=6)(c:=10)(d:=14)(by omega)(by omega)(by omega)(by omega)(HMb.out _(jA _ _))(HMb.out _(jA _ _))).mono ?_
      rintro e w2⟨rfl,A2,G2⟩
      refine hK.out _ _ G2 ?_
      clear hK K
      try go_frame
      refine jp ?_
      go_wp2_with fail
      refine jg(fun W'=>wB.grownBy W'(some gv)∧Arr W' gv(qZ u1 2 6 10 14(wd ms(pm k 4))(wd ms(pm k 5))))⟨jj GR.out(jj(jV(Ext.refl _).drew _)G2),A2⟩?_
      clear A2 G2 KEEP GR AV
      clear W
      rintro W⟨GR,AV⟩
      have VL':=(vC u1 2 6 10 14(wd ms(pm k 4))(wd ms(pm k 5))).trans VL
      clear VL
      generalize HV2:qZ u1 2 6 10 14(wd ms(pm k 4))(wd ms(pm k 5))=u2 at AV VL'
      replace HV2:=hd HV2
      have VL:=VL'
      clear VL' lp lq
      have lp:(pm k 6:Int) < 16:=by have:=jA k 6;omega
      have lq:(pm k 7:Int) < 16:=by have:=jA k 7;omega
      have KEEP:Hid(∀w',W.grownBy w'(some gv)→w'.cell?⟨s0+k,6,none⟩=some(.int .i64(pm k 6:Int))∧w'.cell?⟨s0+k,7,none⟩=some(.int .i64(pm k 7:Int))∧w'.cell?⟨gm,pm k 6,none⟩=some(.int .u32(wd ms(pm k 6):Int))∧w'.cell?⟨gm,pm k 7,none⟩=some(.int .u32(wd ms(pm k 7):Int))):=fun w' e=>⟨(ALL.out w'(jj GR e)).1 k hlt 6(by omega),(ALL.out w'(jj GR e)).1 k hlt 7(by omega),(ALL.out w'(jj GR e)).2.1 _(jA _ _),(ALL.out w'(jj GR e)).2.1 _(jA _ _)⟩
      replace GR:=hd GR
      replace AV:=hd AV
      refine qgW gv [0,1,2,3,4,5,6,7,8,9,10,11,12,13] [13] ?_
      repeat((first |refine qR _(fun w' e=>KEEP.out w'(jj(jV(Ext.refl _).drew _)e))?_ |refine qS ?_);go_frame)
      refine qD fun K hK=> ?_
      go_simp
      refine(vN(AV.out.ext(Ext.refl _).drew)VL(a:=3)(b:=7)(c:=11)(d:=15)(by omega)(by omega)(by omega)(by omega)(HMb.out _(jA _ _))(HMb.out _(jA _ _))).mono ?_
      rintro e w2⟨rfl,A2,G2⟩
      refine hK.out _ _ G2 ?_
      clear hK K
      try go_frame
      refine jp ?_
      go_wp2_with fail
      refine jg(fun W'=>wB.grownBy W'(some gv)∧Arr W' gv(qZ u2 3 7 11 15(wd ms(pm k 6))(wd ms(pm k 7))))⟨jj GR.out(jj(jV(Ext.refl _).drew _)G2),A2⟩?_
      clear A2 G2 KEEP GR AV
      clear W
      rintro W⟨GR,AV⟩
      have VL':=(vC u2 3 7 11 15(wd ms(pm k 6))(wd ms(pm k 7))).trans VL
      clear VL
      generalize HV3:qZ u2 3 7 11 15(wd ms(pm k 6))(wd ms(pm k 7))=u3 at AV VL'
      replace HV3:=hd HV3
      have VL:=VL'
      clear VL' lp lq
      have lp:(pm k 8:Int) < 16:=by have:=jA k 8;omega
      have lq:(pm k 9:Int) < 16:=by have:=jA k 9;omega
      have KEEP:Hid(∀w',W.grownBy w'(some gv)→w'.cell?⟨s0+k,8,none⟩=some(.int .i64(pm k 8:Int))∧w'.cell?⟨s0+k,9,none⟩=some(.int .i64(pm k 9:Int))∧w'.cell?⟨gm,pm k 8,none⟩=some(.int .u32(wd ms(pm k 8):Int))∧w'.cell?⟨gm,pm k 9,none⟩=some(.int .u32(wd ms(pm k 9):Int))):=fun w' e=>⟨(ALL.out w'(jj GR e)).1 k hlt 8(by omega),(ALL.out w'(jj GR e)).1 k hlt 9(by omega),(ALL.out w'(jj GR e)).2.1 _(jA _ _),(ALL.out w'(jj GR e)).2.1 _(jA _ _)⟩
      replace GR:=hd GR
      replace AV:=hd AV
      refine qgW gv [0,1,2,3,4,5,6,7,8,9,10,11,12,13] [13] ?_
      repeat((first |refine qR _(fun w' e=>KEEP.out w'(jj(jV(Ext.refl _).drew _)e))?_ |refine qS ?_);go_frame)
      refine qD fun K hK=> ?_
      go_simp
      refine(vN(AV.out.ext(Ext.refl _).drew)VL(a:=0)(b:=5)(c:=10)(d:=15)(by omega)(by omega)(by omega)(by omega)(HMb.out _(jA _ _))(HMb.out _(jA _ _))).mono ?_
      rintro e w2⟨rfl,A2,G2⟩
      refine hK.out _ _ G2 ?_
      clear hK K
      try go_frame
      refine jp ?_
      go_wp2_with fail
      refine jg(fun W'=>wB.grownBy W'(some gv)∧Arr W' gv(qZ u3 0 5 10 15(wd ms(pm k 8))(wd ms(pm k 9))))⟨jj GR.out(jj(jV(Ext.refl _).drew _)G2),A2⟩?_
      clear A2 G2 KEEP GR AV
      clear W
      rintro W⟨GR,AV⟩
      have VL':=(vC u3 0 5 10 15(wd ms(pm k 8))(wd ms(pm k 9))).trans VL
      clear VL
      generalize HV4:qZ u3 0 5 10 15(wd ms(pm k 8))(wd ms(pm k 9))=u4 at AV VL'
      replace HV4:=hd HV4
      have VL:=VL'
      clear VL' lp lq
      have lp:(pm k 10:Int) < 16:=by have:=jA k 10;omega
      have lq:(pm k 11:Int) < 16:=by have:=jA k 11;omega
      have KEEP:Hid(∀w',W.grownBy w'(some gv)→w'.cell?⟨s0+k,10,none⟩=some(.int .i64(pm k 10:Int))∧w'.cell?⟨s0+k,11,none⟩=some(.int .i64(pm k 11:Int))∧w'.cell?⟨gm,pm k 10,none⟩=some(.int .u32(wd ms(pm k 10):Int))∧w'.cell?⟨gm,pm k 11,none⟩=some(.int .u32(wd ms(pm k 11):Int))):=fun w' e=>⟨(ALL.out w'(jj GR e)).1 k hlt 10(by omega),(ALL.out w'(jj GR e)).1 k hlt 11(by omega),(ALL.out w'(jj GR e)).2.1 _(jA _ _),(ALL.out w'(jj GR e)).2.1 _(jA _ _)⟩
      replace GR:=hd GR
      replace AV:=hd AV
      refine qgW gv [0,1,2,3,4,5,6,7,8,9,10,11,12,13] [13] ?_
      repeat((first |refine qR _(fun w' e=>KEEP.out w'(jj(jV(Ext.refl _).drew _)e))?_ |refine qS ?_);go_frame)
      refine qD fun K hK=> ?_
      go_simp
      refine(vN(AV.out.ext(Ext.refl _).drew)VL(a:=1)(b:=6)(c:=11)(d:=12)(by omega)(by omega)(by omega)(by omega)(HMb.out _(jA _ _))(HMb.out _(jA _ _))).mono ?_
      rintro e w2⟨rfl,A2,G2⟩
      refine hK.out _ _ G2 ?_
      clear hK K
      try go_frame
      refine jp ?_
      go_wp2_with fail
      refine jg(fun W'=>wB.grownBy W'(some gv)∧Arr W' gv(qZ u4 1 6 11 12(wd ms(pm k 10))(wd ms(pm k 11))))⟨jj GR.out(jj(jV(Ext.refl _).drew _)G2),A2⟩?_
      clear A2 G2 KEEP GR AV
      clear W
      rintro W⟨GR,AV⟩
      have VL':=(vC u4 1 6 11 12(wd ms(pm k 10))(wd ms(pm k 11))).trans VL
      clear VL
      generalize HV5:qZ u4 1 6 11 12(wd ms(pm k 10))(wd ms(pm k 11))=u5 at AV VL'
      replace HV5:=hd HV5
      have VL:=VL'
      clear VL' lp lq
      have lp:(pm k 12:Int) < 16:=by have:=jA k 12;omega
      have lq:(pm k 13:Int) < 16:=by have:=jA k 13;omega
      have KEEP:Hid(∀w',W.grownBy w'(some gv)→w'.cell?⟨s0+k,12,none⟩=some(.int .i64(pm k 12:Int))∧w'.cell?⟨s0+k,13,none⟩=some(.int .i64(pm k 13:Int))∧w'.cell?⟨gm,pm k 12,none⟩=some(.int .u32(wd ms(pm k 12):Int))∧w'.cell?⟨gm,pm k 13,none⟩=some(.int .u32(wd ms(pm k 13):Int))):=fun w' e=>⟨(ALL.out w'(jj GR e)).1 k hlt 12(by omega),(ALL.out w'(jj GR e)).1 k hlt 13(by omega),(ALL.out w'(jj GR e)).2.1 _(jA _ _),(ALL.out w'(jj GR e)).2.1 _(jA _ _)⟩
      replace GR:=hd GR
      replace AV:=hd AV
      refine qgW gv [0,1,2,3,4,5,6,7,8,9,10,11,12,13] [13] ?_
      repeat((first |refine qR _(fun w' e=>KEEP.out w'(jj(jV(Ext.refl _).drew _)e))?_ |refine qS ?_);go_frame)
      refine qD fun K hK=> ?_
      go_simp
      refine(vN(AV.out.ext(Ext.refl _).drew)VL(a:=2)(b:=7)(c:=8)(d:=13)(by omega)(by omega)(by omega)(by omega)(HMb.out _(jA _ _))(HMb.out _(jA _ _))).mono ?_
      rintro e w2⟨rfl,A2,G2⟩
      refine hK.out _ _ G2 ?_
      clear hK K
      try go_frame
      refine jp ?_
      go_wp2_with fail
      refine jg(fun W'=>wB.grownBy W'(some gv)∧Arr W' gv(qZ u5 2 7 8 13(wd ms(pm k 12))(wd ms(pm k 13))))⟨jj GR.out(jj(jV(Ext.refl _).drew _)G2),A2⟩?_
      clear A2 G2 KEEP GR AV
      clear W
      rintro W⟨GR,AV⟩
      have VL':=(vC u5 2 7 8 13(wd ms(pm k 12))(wd ms(pm k 13))).trans VL
      clear VL
      generalize HV6:qZ u5 2 7 8 13(wd ms(pm k 12))(wd ms(pm k 13))=u6 at AV VL'
      replace HV6:=hd HV6
      have VL:=VL'
      clear VL' lp lq
      have lp:(pm k 14:Int) < 16:=by have:=jA k 14;omega
      have lq:(pm k 15:Int) < 16:=by have:=jA k 15;omega
      have KEEP:Hid(∀w',W.grownBy w'(some gv)→w'.cell?⟨s0+k,14,none⟩=some(.int .i64(pm k 14:Int))∧w'.cell?⟨s0+k,15,none⟩=some(.int .i64(pm k 15:Int))∧w'.cell?⟨gm,pm k 14,none⟩=some(.int .u32(wd ms(pm k 14):Int))∧w'.cell?⟨gm,pm k 15,none⟩=some(.int .u32(wd ms(pm k 15):Int))):=fun w' e=>⟨(ALL.out w'(jj GR e)).1 k hlt 14(by omega),(ALL.out w'(jj GR e)).1 k hlt 15(by omega),(ALL.out w'(jj GR e)).2.1 _(jA _ _),(ALL.out w'(jj GR e)).2.1 _(jA _ _)⟩
      replace GR:=hd GR
      replace AV:=hd AV
      refine qgW gv [0,1,2,3,4,5,6,7,8,9,10,11,12,13] [13] ?_
      repeat((first |refine qR _(fun w' e=>KEEP.out w'(jj(jV(Ext.refl _).drew _)e))?_ |refine qS ?_);go_frame)
      refine qD fun K hK=> ?_
      go_simp
      refine(vN(AV.out.ext(Ext.refl _).drew)VL(a:=3)(b:=4)(c:=9)(d:=14)(by omega)(by omega)(by omega)(by omega)(HMb.out _(jA _ _))(HMb.out _(jA _ _))).mono ?_
      rintro e w2⟨rfl,A2,G2⟩
      refine hK.out _ _ G2 ?_
      clear hK K
      try go_frame
      refine jp ?_
      go_wp2_with fail
      have H7:jbm ms vk k=qZ u6 3 4 9 14(wd ms(pm k 14))(wd ms(pm k 15)):=by
       unfold jbm
       simp only []
       rw [HV0.out,HV1.out,HV2.out,HV3.out,HV4.out,HV5.out,HV6.out]
      refine⟨⟨k+1,by omega,by go_num,jj GR.out(gr_trans(jV(Ext.refl _).drew _)G2),?_⟩,by simp [intOf];omega⟩
      rw [HSUC.out,H7]
      exact A2
     ·obtain rfl:k=10:=by omega
      rw [show((10:Nat):Int)=10 from rfl]
      have RB:Hid(Lt32(vF ms v1 10)):=sb.out.rounds 10
      have RD:Hid(∀j,j < 8→wd R j=wd hs j ^^^(wd(vF ms v1 10)j ^^^ wd(vF ms v1 10)(j+8))):=fun j hj=>by rw [CD.out];exact ji3 hj
      generalize vF ms v1 10=vs at *
      have E9:Hid(Ext w wr):=Below.trans EB.out⟨GR.os,GR.tape,GR.output,GR.size,fun i hi=>GR.block i(Nat.lt_of_lt_of_le hi EB.out.size)(fun q=>by injection q with q;omega)⟩
      have KP:Hid(∀w',Ext wr w'→(∀j,j < 16→w'.cell?⟨gv,j,none⟩=some(.int .u32(wd vs j:Int)))∧Ws w' A 8 hs):=fun w' e=>⟨fun j hj=>((AV.ext e).2 j(by omega)).1,hh.out.ext(E9.out.trans e)⟩
      clear GR AV ALL AVB EB
      obtain⟨w9,rfl⟩:∃W,W=wr:=⟨_,rfl⟩
      go_wp2_with fail
      go_loopw [15,16](fun v i wx=>∃(k:Nat)(D:Option Addr)(cc:Nat),k≤8∧i= .int .i64 k∧v= .slice D k cc∧OwnW w9.heap.size wx D k cc(R.take k)∧Ext w9 wx)(fun _ i _=>8 - (intOf i).toNat)
      case atStart=>exact⟨0,none,0,Nat.zero_le _,rfl,rfl,OwnW.nil _ _,Ext.refl _⟩
      case round =>
       obtain⟨k,D,cc,hk,rfl,rfl,ho,he⟩ :=hrel
       by_cases hlt:k < 8
       ·obtain⟨b,off,rfl,hb2,hc⟩ :=(KP.out _(Ext.refl _)).2.2(by omega)
        have ch:Hid(∀w',Ext w9 w'→w'.cell?⟨b,off+k,none⟩=some(.int .u32(wd hs k:Int))∧w'.cell?⟨gv,k,none⟩=some(.int .u32(wd vs k:Int))∧w'.cell?⟨gv,k+8,none⟩=some(.int .u32(wd vs(k+8):Int))):=fun w' e=>⟨(e.cell hb2).trans(hc k hlt),(KP.out _ e).1 k(by omega),(KP.out _ e).1(k+8)(by omega)⟩
        have TK:=hd(jfZ(vs:=R)(k:=k)(by omega))
        rw [RD.out k hlt,← Nat.xor_assoc] at TK
        have lh:=hb.out k
        have lv:=RB.out k
        have lw:=RB.out(k+8)
        have x1:bits .xor .u32(wd hs k:Int)(wd vs k:Int)=((wd hs k ^^^ wd vs k:Nat):Int):=u32_xor_nat _ _ lh lv
        have x2:bits .xor .u32((wd hs k ^^^ wd vs k:Nat):Int)(wd vs(k+8):Int)=((wd hs k ^^^ wd vs k ^^^ wd vs(k+8):Nat):Int):=u32_xor_nat _ _(jL lh lv)lw
        have i8:IntKind.i64.wrap((k:Int)+8)=(k:Int)+8:=IntWalk.i64_in _(by omega)
        have n8:((k:Int)+8).toNat=k+8:=by omega
        have p8:(0:Int)≤(k:Int)+8:=by omega
        have l8:(k:Int)+8 < 16:=by omega
        have ik:(k:Int) < 8:=by omega
        have il:(k:Int) < 16:=by omega
        generalize hX1:wd hs k ^^^ wd vs k=y1 at *
        generalize hX2:y1 ^^^ wd vs(k+8)=y2 at *
        replace hX1:=hd hX1
        replace hX2:=hd hX2
        replace ho:=hd ho
        replace he:=hd he
        have hz:=he.out.size
        clear hc lh lv lw
        go_wp2_with fail
        refine qgB w9.heap.size [0,1,2,3,4,5,6,7,8,9,10,11,12,13,14,15,16,17,18] [16,17] ?_
        have hd:=hd he.out.drew
        have ho':=hd(ho.out.ext(Ext.refl wr).drew)
        have hz':w9.heap.size≤wr.drew.heap.size:=hz
        clear he ho hz
        generalize wr.drew=WD at *
        repeat((first |refine qR _(fun w' e=>ch.out w'(Below.trans hd.out e))?_ |refine qS ?_);go_frame)
        refine qD fun K hK=> ?_
        go_simp
        refine hK.out _ _((Below.refl _ _).alloc hz' _)?_
        clear hK K
        try go_frame
        refine qD fun K hK=> ?_
        refine QT rfl rfl rfl(ho'.out.ext((Ext.refl _).alloc _))(Ws.one _ _ _)(by omega)(Nat.le_trans hz'(by simp))?_
        intro A5 c5 w5 o5 g5 b5
        refine hK.out _ _ b5 ?_
        clear hK K
        try go_frame
        repeat((first |refine qR0 ?_ |refine qS ?_);go_frame)
        refine jp ?_
        replace o5:=hd o5
        have E5:Hid(Ext w9 w5):=Below.trans(Below.alloc hd.out hz' _)b5
        clear g5 b5 ho' hd ch KP
        go_wp2_with fail
        refine⟨⟨k+1,A5,c5,by omega,by go_num,rfl,?_,E5.out⟩,by simp [intOf];omega⟩
        rw [← TK.out]
        exact o5.out
       ·obtain rfl:k=8:=by omega
        have hR:R.take 8=R:=List.take_of_length_le(by omega)
        rw [hR] at ho
        have WS:=hd ho.ws
        have EE:Hid(Ext w wr):=E9.out.trans he
        clear ho hR
        go_wp2_with fail
        go_ret
        exact⟨D,cc,rfl,WS.out,EE.out⟩
end
section
open Go.ChangeShapes Go.WideShapes Go.ChangeAt Go.RowKit Go.Deep
set_option maxRecDepth 100000
theorem QW(k:Nat):Builtin.zeroCells(Value.int .u8 0).cells k=((List.replicate k(0:UInt8)).map u8v).toArray:=by
 apply Array.ext'
 have h0:(Value.int .u8 0).cells= #[Value.int .u8 0]:=rfl
 simp [Builtin.zeroCells,h0,u8v]
 apply List.ext_getElem
 ·simp
 ·intro i h1 h2
  simp [Nat.mod_one]
theorem jab{w:World}{B:Nat}{A:Option Addr}{n c k:Nat}{xs:List UInt8}(tn ty:TypeId)(htn:Tryz.prog.underlying tn=some(.int .i64))(h:Own B w A n c xs)(hm:n+k≤140737488355328)(hB:B≤w.heap.size):
  ∃A'' c'' w',(Builtin.append_ #[33,tn] ty #[.slice A n c, .int .i64(k:Int)]).run Tryz.prog w= .ok(.slice A''(n+k)c'')w'∧Own B w' A''(n+k)c''(xs ++ List.replicate k 0)∧w.grownBy w'(Value.ownBlock(.slice A n c)):=by
 obtain⟨i,hi,hz0,hz1,hz2⟩ :=info_parts jdc
 have hl:=h.len
 have hw:IntKind.i64.wrap(k:Int)=k:=by rw [IntKind.wrap_i64];omega
 have hneg: ¬((k:Int) < 0):=by omega
 have h48i: ¬(281474976710656 < (k:Int)*(i.bytes:Int)):=by rw [hz2];omega
 have grown:∀(old:Nat),old < n+k→∀(row:Option Nat),
   (w.drew.alloc(.cells((xs.map u8v).toArray ++ Builtin.zeroCells(Value.int .u8 0).cells k ++ Builtin.zeroCells(Value.int .u8 0).cells(grownCap w(n+k)old 5 - (n+k)))5)).ownsRow B 5 1
    (.slice(some⟨w.heap.size,0,none⟩)(n+k)(grownCap w(n+k)old 5))(n+k)((xs ++ List.replicate k 0).map u8v)∧
   w.grownBy(w.drew.alloc(.cells((xs.map u8v).toArray ++ Builtin.zeroCells(Value.int .u8 0).cells k ++ Builtin.zeroCells(Value.int .u8 0).cells(grownCap w(n+k)old 5 - (n+k)))5))row:=by
  intro old ho row
  have hge:=grownCap_ge w(n+k)old 5
  have hcm:grownCap w(n+k)old 5≤maxLen:=grownCap_le_maxLen w(n+k)old 5(by unfold maxLen;omega)
  refine⟨⟨by simp [hl], .inr⟨w.heap.size,_,_,rfl,hB,heap_alloc_new w.drew _,hge,hcm,?_,?_⟩⟩,⟨rfl,rfl,rfl,by simp,fun j hj _=>heap_alloc_old w.drew _ hj⟩⟩
  ·have hz1:(Value.int IntKind.u8 0).cells.size=1:=rfl
   simp only [Array.size_append,List.size_toArray,size_zeroCells,hz1,List.length_map,hl]
   omega
  ·rw [QW k]
   simp only [Array.toList_append,List.append_assoc,List.map_append]
   rw [← List.append_assoc,← List.map_append]
   exact List.take_left'(by simp [hl])
 by_cases hk:k=0
 ·subst hk
  have hw0:IntKind.i64.wrap 0=0:=rfl
  refine⟨A,c,w,?_,by simpa using h,⟨rfl,rfl,rfl,Nat.le_refl _,fun _ _ _=>rfl⟩⟩
  rcases h.2 with⟨hv,hn⟩ | ⟨g,cap,cur,hv,_,_,hnc,_⟩
  ·rw [hv]
   subst hn
   injection hv with q1 _ q3
   subst q1 q3
   simp [Builtin.append_,run_underlying Tryz.underlying33,run_underlying htn,sizeOf,typeInfo,hi,asInt,asIntOf,hw0]
  ·rw [hv]
   injection hv with q1 _ q3
   subst q1 q3
   simp [Builtin.append_,run_underlying Tryz.underlying33,run_underlying htn,sizeOf,typeInfo,hi,asInt,asIntOf,hw0,hnc,storeCells]
 rcases h.2 with⟨hv,hn⟩ | ⟨g,cap,cur,hv,hbg,hg,hnc,hcm,hcs,htake⟩
 ·injection hv with q1 q2 q3
  subst q1 q3
  have hx:xs= []:=List.eq_nil_of_length_eq_zero(by omega)
  subst hx
  have hn0:n=0:=hn
  subst hn0
  have hr:=Lib.run_append_grow_zeros(P:=Tryz.prog)w 33 tn ty 5 i(.int .u8 0) .i64 .i64 Tryz.underlying33 htn hi hz0 none 0 0 [](run_firstCells_none _ _ _ _ _)k(by omega)(by rw [hz1];decide)(by omega)(by omega)(by rw [hz2];omega)(growslice_fits(by omega)(by rw [hz2];omega))
  have hgr:=grown 0(by omega)(Value.ownBlock(.slice none 0 0))
  exact⟨_,_,_,hr,hgr.1,hgr.2⟩
 ·injection hv with q1 q2 q3
  subst q1 q3
  by_cases hroom:n+k≤c
  ·have hfit:n *1+((List.replicate k(0:UInt8)).map u8v).length≤cur.size:=by rw [hcs];simp;omega
   have hst:=run_storeCells_at Tryz.prog g(n *1)5((List.replicate k(0:UInt8)).map u8v)0 cur w hg(by simpa using hfit)(fun u hu=>by
    obtain⟨x,_,rfl⟩ :=List.mem_map.1 hu
    rfl)
   simp only [Nat.add_zero,Nat.mul_one] at hst
   have hzc:=QW k
   have hw':IntKind.i64.wrap(k:Int)=k:=hw
   simp only [List.map_replicate,List.length_replicate] at hst hzc
   refine⟨some⟨g,0,none⟩,c,w.setRow g(cur.toList.take n ++(List.replicate k(0:UInt8)).map u8v ++ cur.toList.drop(n+((List.replicate k(0:UInt8)).map u8v).length)).toArray,?_,?_,⟨rfl,rfl,rfl,by simp,fun j _ hj=>setRow_other w g j _(fun e=>hj(by simp [Value.ownBlock,e]))⟩⟩
   ·have hkz: ¬(k *i.size=0):=by rw [hz1];omega
    simp [Builtin.append_,run_underlying Tryz.underlying33,run_underlying htn,sizeOf,typeInfo,zeroValue,hi,hz0,asInt,asIntOf,hw,hneg,h48i,hroom,hkz,hk,hz1,hzc,Addr.add_lit,hst]
   ·refine⟨by simp [hl], .inr⟨g,c,_,rfl,hbg,setRow_heap w g cur _ 5 _ hg,hroom,hcm,?_,?_⟩⟩
    ·simp only [List.size_toArray,List.length_append,List.length_take,List.length_drop,Array.length_toList,List.length_map,List.length_replicate]
     omega
    ·have ht:cur.toList.take n=xs.map u8v:=by
      have:=htake
      rwa [show n *1=n by omega] at this
     rw [ht,List.map_append]
     exact List.take_left'(by simp [hl])
  ·have holds:∀j u,(xs.map u8v)[j]? =some u→w.cell?((⟨g,0,none⟩:Addr).add j)=some u:=h.cells(g:=g)rfl
   have hr:=Lib.run_append_grow_zeros(P:=Tryz.prog)w 33 tn ty 5 i(.int .u8 0) .i64 .i64 Tryz.underlying33 htn hi hz0(some⟨g,0,none⟩)n c(xs.map u8v)(run_firstCells_some w.drew i.size n⟨g,0,none⟩n c(xs.map u8v)(by rw [hz1];simp [hl])(by simpa using holds))k(by omega)(by rw [hz1];decide)(by omega)(by omega)(by rw [hz2];omega)(growslice_fits(by omega)(by rw [hz2];omega))
   have hgr:=grown c(by omega)(Value.ownBlock(.slice(some⟨g,0,none⟩)n c))
   exact⟨_,_,_,hr,hgr.1,hgr.2⟩
theorem QR{w:World}{o:Oper}{a:Act}{K:Act→World→Prop}{Q:Exit→Act→World→Prop}{tn:TypeId}(htn:Tryz.prog.underlying tn=some(.int .i64)){B:Nat}{A:Option Addr}{n c k:Nat}{xs:List UInt8}{s x:Operand}
  (ho:o.op= .call{callee:= .builtin .append,args:= #[s,x],argTypes:= #[33,tn]})(hs:a.eval s= .slice A n c)(hx:a.eval x= .int .i64(k:Int))
  (h:Own B w A n c xs)(hm:n+k≤140737488355328)(hB:B≤w.heap.size)
  (hK:∀A'' c'' w',Own B w' A''(n+k)c''(xs ++ List.replicate k 0)→w.grownBy w'(Value.ownBlock(.slice A n c))→Below B w w'→K(a.put o.dst(.slice A''(n+k)c''))w'):o.wp Tryz.prog a w K Q:=by
 obtain⟨A'',c'',w',hrun,h2,h3⟩ :=jab tn o.type htn h hm hB
 unfold Oper.wp execOp
 simp only [ho,resolve,invoke,builtin,Sem.run_bind,Sem.run_pure,Result.andThen_ok,List.map_toArray,List.map_cons,List.map_nil,hs,hx,hrun]
 exact hK A'' c'' w' h2 h3((Below.refl B w).grown h3 hB h.ge)
theorem Jk{w:World}{ops:Array Oper}{rest:List Oper}{o:Oper}{a:Act}{Q:Exit→Act→World→Prop}(hgd:o.guard=none){tn:TypeId}(htn:Tryz.prog.underlying tn=some(.int .i64)){B:Nat}{A:Option Addr}{n c k:Nat}{xs:List UInt8}{s x:Operand}
  (ho:o.op= .call{callee:= .builtin .append,args:= #[s,x],argTypes:= #[33,tn]})(hs:a.eval s= .slice A n c)(hx:a.eval x= .int .i64(k:Int))
  (h:Own B w A n c xs)(hm:n+k≤140737488355328)(hB:B≤w.heap.size)
  (hK:∀A'' c'' w',Own B w' A''(n+k)c''(xs ++ List.replicate k 0)→w.grownBy w'(Value.ownBlock(.slice A n c))→Below B w w'→wpList Tryz.prog ops Q rest(a.put o.dst(.slice A''(n+k)c''))w'):wpList Tryz.prog ops Q(o :: rest)a w:=
 wpList_plain hgd fun _ hK'=>QR htn ho hs hx h hm hB fun A'' c'' w' h2 h3 h4=>hK' _ _(hK A'' c'' w' h2 h3 h4)
end
section
open Go.ChangeShapes Go.WideShapes Go.ChangeAt Go.RowKit Go.Deep
set_option maxHeartbeats 1000000 in
theorem Je{A:Option Addr}{n c:Nat}{xs:List UInt8}{w:World}(h:Bs w A n c xs)(hn:n≤64):
  Calls Tryz.prog 97 #[.slice A n c] w fun e w'=>∃A' c',e= .returned(.slice A' 64 c')∧Own w.heap.size w' A' 64 c'(qP xs)∧Ext w w':=by
 have hl:=h.len
 have h2:=h.cap
 have h1:=h.le
 obtain⟨k,hk⟩:∃k,k=64 - n:=⟨_,rfl⟩
 have ik:(64:Int) - (n:Int)=(k:Int):=by omega
 have hp:qP xs=xs ++ List.replicate k 0:=by unfold qP;rw [hl,hk]
 rw [hp]
 clear hp
 have h64:n+k=64:=by omega
 replace h:=hd h
 clear hk hl
 go_enter Tryz.func97,Tryz.ntmps97
 go_wp2_with(first
  |(at_builtin;(with_reducible refine jJ rfl(B:=w.heap.size)(s:= .tmp 3)(x:= .tmp 4)rfl rfl rfl(Own.empty w _(Nat.le_refl _))(h.out.ext((Ext.refl _).alloc _))(by omega)(by simp)?_);intro A1 c1 w1 o1 g1 b1;simp only [Nat.zero_add,List.nil_append] at o1 ⊢;replace o1:=hd o1;have e1:Hid(Ext w w1):=Below.trans((Ext.refl w).alloc _)b1;clear g1 b1;go_frame)
  |(at_builtin;(with_reducible refine Jk rfl Tryz.underlying3(B:=w.heap.size)(k:=k)(s:= .tmp 5)(x:= .tmp 8)rfl rfl rfl o1.out(by omega)e1.out.size ?_);intro A2 c2 w2 o2 g2 b2;rw [h64] at o2 ⊢;replace o2:=hd o2;replace e1:Hid(Ext w w2):=Below.trans e1.out b2;clear g2 b2;go_frame))
 go_ret
 exact⟨A2,c2,rfl,o2.out,e1.out⟩
end
section
def zf(hs:List Nat)(xs:List UInt8):Nat→List Nat
 |0=>hs
 |i+1=>ve(zf hs xs i)((xs.drop(64 *i)).take 64)(64 *(i+1))false
def YD(ks:List UInt8):List UInt8:=if ks.length=0 then [] else qP ks
def QJ(n:Nat)(xs:List UInt8):List UInt8:=qW(ve(zf(h0L n)xs(vI xs.length))(qP(xs.drop(64 *vI xs.length)))xs.length true)
theorem jgD{hs:List Nat}{xs:List UInt8}(h:hs.length=8):∀i,(zf hs xs i).length=8
 |0=>h
 |i+1=>yg _ _ _ _
theorem jdA{hs:List Nat}{xs:List UInt8}(h:Lt32 hs):∀i,64 *i < 18446744073709551616→Lt32(zf hs xs i)
 |0,_=>h
 |i+1,hi=>(jdA h i(by omega)).comp(by omega)_
theorem Zl{xs:List UInt8}(h:xs.length=64):qP xs=xs:=by unfold qP;rw [h];simp
theorem jbG{hs:List Nat}{xs:List UInt8}:∀i,64 *i≤xs.length→zf hs xs i=hAt hs 0 xs i
 |0,_=>rfl
 |i+1,hi=>by
  rw [zf,hAt,jbG i(by omega),Zl(by simp;omega),Nat.zero_add]
theorem jbH{hs:List Nat}{ps xs:List UInt8}(hp:ps.length=64):∀i,64 *i≤xs.length→zf hs(ps ++ xs)(i+1)=hAt(ve hs ps 64 false)64 xs i
 |0,_=>by
  rw [zf,zf,hAt,Nat.mul_zero,List.drop_zero,List.take_left' hp]
 |i+1,hi=>by
  rw [zf,jbH hp i(by omega),hAt,Zl(by simp;omega)]
  congr 1
  ·rw [List.drop_append,List.drop_of_length_le(by omega),List.nil_append,hp,show 64 *(i+1) - 64=64 *i by omega]
  ·omega
theorem jjz(ks bs:List UInt8)(hk:ks.length≤64):jC ks bs=refMacL ks.length(YD ks ++ bs):=by
 unfold jC YD QJ
 by_cases h:ks.length=0
 ·simp only [if_pos h,List.nil_append]
  unfold Yt
  rw [h,jbG _(by unfold vI;omega),Nat.zero_add]
 ·simp only [if_neg h]
  have hp:=Yk hk
  by_cases hb:bs.length=0
  ·obtain rfl:=List.eq_nil_of_length_eq_zero hb
   simp only [List.length_nil,if_true,List.append_nil,hp,vI,show(64 - 1) / 64=0 from rfl,Nat.mul_zero,List.drop_zero,zf,Zl hp]
  ·rw [if_neg hb]
   have hF:vI(qP ks ++ bs).length=vI bs.length+1:=by rw [List.length_append,hp];unfold vI;omega
   have hd:(qP ks ++ bs).drop(64 *(vI bs.length+1))=bs.drop(64 *vI bs.length):=by
    rw [List.drop_append,List.drop_of_length_le(by omega),List.nil_append,hp,show 64 *(vI bs.length+1) - 64=64 *vI bs.length by omega]
   rw [hF,hd,jbH hp _(by unfold vI;omega),List.length_append,hp]
   rfl
end
section
open Go.ChangeShapes Go.WideShapes Go.ChangeAt Go.RowKit Go.Deep
theorem Own.down{B B':Nat}{w:World}{A:Option Addr}{n c:Nat}{xs:List UInt8}(h:Own B w A n c xs)(hB:B'≤B):Own B' w A n c xs:=by
 refine⟨h.1,?_⟩
 rcases h.2 with h | ⟨g,cap,cur,hv,hb,r⟩
 ·exact .inl h
 ·exact .inr⟨g,cap,cur,hv,Nat.le_trans hB hb,r⟩
theorem Ky.setB{w:World}{g j x:Nat}{xs:List UInt8}(h:Ky w g xs)(hj:j < 32)(hx:x < 256):Ky(w.setCell⟨g,j,none⟩(.int .u8(x:Int)))g(xs.set j(UInt8.ofNat x)):=by
 refine⟨?_,by rw [List.length_set];exact h.2⟩
 rw [setCell_eq_setRow w g j _ _(0,0)_ h.1,setRow_heap w g _ _ _ _ h.1]
 congr 2
 have hl:=h.2
 apply Array.ext'
 rw [Array.toList_setIfInBounds]
 apply List.ext_getElem?
 intro i
 simp only [List.getElem?_set,ja]
 by_cases hi:i < 32
 ·rw [jZ(xs:=xs.set j(UInt8.ofNat x))(by rw [List.length_set];omega),Za(by omega)hx]
  by_cases e:j=i
  ·subst e;simp [show j < xs.length by omega]
  ·rw [if_neg e,if_neg(Ne.symm e)]
   have:=jZ(xs:=xs)(j:=i)(by omega)
   simpa using this
 ·have h1:(cellsOf xs)[i]? =none:=List.getElem?_eq_none(by rw [ja];omega)
  have h2:(cellsOf(xs.set j(UInt8.ofNat x)))[i]? =none:=List.getElem?_eq_none(by rw [ja,List.length_set];omega)
  rw [if_neg(by omega)]
  simp only [h2]
  simpa using h1
set_option maxRecDepth 100000 in
set_option maxHeartbeats 4000000 in
theorem jcD{A A':Option Addr}{n c m d:Nat}{ks bs:List UInt8}{w:World}(h:Bs w A n c ks)(h':Bs w A' m d bs)(hk:n≤32)(hm:m≤1000000):
  Calls Tryz.prog 70 #[.slice A n c, .slice A' m d] w fun e w'=>e= .returned(.tuple #[.agg(cellsOf(jC ks bs)).toArray, .int .i64 0])∧Ext w w':=by
 have h1:=h.le
 have h2:=h.cap
 have h3:=h'.le
 have h4:=h'.cap
 have hkl:=h.len
 have hml:=h'.len
 have hk':decide((32:Int) < (n:Int))=false:=decide_eq_false(by omega)
 have HR:=jjz ks bs(by omega)
 rw [hkl] at HR
 have PL:(YD ks).length≤64:=by unfold YD;split; ·simp
                    ·rw [Yk(by omega)];omega
 have P0:Hid(n=0→YD ks= []):=fun h0=>by unfold YD;rw [if_pos(by omega)]
 have P1:Hid(0 < n→YD ks=qP ks∧(YD ks).length=64):=fun h0=>by
  have e:YD ks=qP ks:=by unfold YD;rw [if_neg(by omega)]
  exact⟨e,by rw [e,Yk(by omega)]⟩
 have RL:Hid(QJ n(YD ks ++ bs)=qW(ve(zf(h0L n)(YD ks ++ bs)(vI(YD ks ++ bs).length))(qP((YD ks ++ bs).drop(64 *vI(YD ks ++ bs).length)))(YD ks ++ bs).length true)):=rfl
 have XL:(YD ks ++ bs).length=(YD ks).length+m:=by rw [List.length_append,hml]
 rw [HR]
 clear HR
 have ML:(QJ n(YD ks ++ bs)).length=32:=by rw [RL.out,v9,yg]
 generalize hRM:QJ n(YD ks ++ bs)=RM at *
 replace hRM:=hd hRM
 have HL:=Zc n
 have HB:=hd(jc8 hk)
 have HD:Hid(h0L n=qI.set 0(wd qI 0 ^^^(16842784 ^^^ n *256))):=rfl
 generalize YD ks=ps at *
 generalize hps:ps.length=np at *
 replace h:=hd h
 replace h':=hd h'
 replace hkl:=hd hkl
 replace hml:=hd hml
 replace hps:=hd hps
 have hal:∀w,(zeroValue 23).run Tryz.prog w= .ok(.agg jr)w:=fun _=>by kernel_rfl
 have hz32:=hd jU
 generalize jr=Z at *
 have k0:Hid(Ky(w.alloc(Obj.cells Z 23))w.heap.size(List.replicate 32 0)):=by
  have:=Ky.boxed w(show(List.replicate 32(0:UInt8)).length=32 from rfl)
  rw [hz32.out] at this
  exact this
 go_enter Tryz.func70,Tryz.ntmps70
 go_wp2_with fail
 refine Jx.mono ?_
 rintro e w1⟨rfl,r1,e1⟩
 rw [je] at r1
 have a1:Arr w1(w.heap.size+1)qI:=r1.arr(fun i _=>zZ i)
 have E1:Ext w w1:=((Ext.refl w).alloc _).trans e1
 have kz:=k0.out.ext e1
 obtain⟨c0,f0,_⟩ :=a1.2 0(by decide)
 have x1:bits .xor .u32(wd qI 0:Int)16842784=((wd qI 0 ^^^ 16842784:Nat):Int):=u32_xor_nat _ 16842784(init_lt 0)(by decide)
 have l1:wd qI 0 ^^^ 16842784 < 4294967296:=jL(zZ 0)(by decide)
 have x2:bits .xor .u32((wd qI 0 ^^^ 16842784:Nat):Int)((n:Int)*256)=((wd qI 0 ^^^ 16842784 ^^^ n *256:Nat):Int):=by
  rw [show(n:Int)*256=((n *256:Nat):Int)by omega]
  exact u32_xor_nat _ _ l1(by omega)
 rw [Nat.xor_assoc] at x2
 generalize wd qI 0 ^^^ 16842784=y1 at *
 generalize hy2:wd qI 0 ^^^(16842784 ^^^ n *256)=y2 at *
 have l2:y2 < 4294967296:=by rw [← hy2];exact jL(init_lt 0)(jL(by decide)(by omega))
 replace hy2:=hd hy2
 replace a1:=hd a1
 replace E1:=hd E1
 replace kz:=hd kz
 clear r1 e1 k0
 go_upto_if 29 with(fail)
 refine jg(fun W=>Ext w W∧Ky W w.heap.size(List.replicate 32 0)∧Arr W(w.heap.size+1)(h0L n))⟨E1.out.setCell(show w.heap.size≤w.heap.size+1 by omega)_,⟨(Below.heap_setCell _ _ _ _(show w.heap.size≠w.heap.size+1 by omega)).trans kz.out.1,kz.out.2⟩,by rw [HD.out];exact a1.out.set(by decide)l2⟩?_
 clear c0 f0 x1 x2 l1 l2 a1 E1 kz hy2
 clear w1
 rintro W⟨E1,kz,a1⟩
 replace E1:=hd E1
 replace kz:=hd kz
 replace a1:=hd a1
 have zW:w.heap.size+1+1≤W.heap.size:=a1.out.1
 go_cut [7](fun s7 wx=>∃(D:Option Addr)(cc:Nat),s7= .slice D np cc∧Own(w.heap.size+1+1)wx D np cc ps∧Ext W wx)
 case first =>
  by_cases hn0:n=0
  ·have d0:decide(0 < n)=false:=decide_eq_false(by omega)
   have d1:decide((0:Int) < (n:Int))=false:=decide_eq_false(by omega)
   go_wp2_with fail
   go_meet
   obtain rfl:ps= []:=P0.out hn0
   obtain rfl:np=0:=hps.out.symm
   exact⟨none,0,rfl,Own.nil _ _,Ext.refl _⟩
  ·have d0:decide(0 < n)=true:=decide_eq_true(by omega)
   have d1:decide((0:Int) < (n:Int))=true:=decide_eq_true(by omega)
   obtain⟨q1,rfl⟩ :=P1.out(by omega)
   subst q1
   go_wp2_with fail
   refine(Je(h.out.ext E1.out)(by omega)).mono ?_
   rintro e w2⟨D,cc,rfl,o2,e2⟩
   replace o2:=hd(o2.down zW)
   replace e2:=hd e2
   go_wp2_with fail
   go_meet
   exact⟨D,cc,rfl,o2.out,e2.out⟩
 case rest =>
  obtain⟨D,cc,rfl,o2,e2⟩ :=hcut
  have zc:w.heap.size+1+1≤wc.heap.size:=Nat.le_trans zW e2.size
  have Ec:=hd(E1.out.trans e2)
  replace kz:=hd(kz.out.ext e2)
  replace a1:=hd(a1.out.ext e2)
  replace o2:=hd o2
  clear E1 e2 zW
  go_wp2_with(at_builtin;(with_reducible refine jJ rfl(B:=w.heap.size+1+1)(s:= .tmp 32)(x:= .tmp 33)rfl rfl rfl o2.out(h'.out.ext Ec.out)(by omega)zc ?_);intro A5 c5 w5 o5 g5 b5;replace o5:=hd o5;replace b5:=hd b5;clear g5;go_frame)
  have E5:Hid(Ext w w5):=Below.trans Ec.out(b5.out.mono(by omega))
  have K5:Hid(Ky w5 w.heap.size(List.replicate 32 0)):=⟨(b5.out.block _(by omega)).trans kz.out.1,kz.out.2⟩
  have B5:=o5.out.bs
  have W5:Hid(Ws w5(some⟨w.heap.size+1,0,none⟩)8(h0L n)):=⟨HL,fun _=>⟨_,0,rfl,Nat.lt_of_lt_of_le a1.out.1 b5.out.size,fun j hj=>by
   rw [Nat.zero_add,b5.out.cell(p:=⟨w.heap.size+1,j,none⟩)(show w.heap.size+1 < w.heap.size+1+1 by omega)]
   exact(a1.out.2 j(by omega)).1⟩⟩
  have l5:=B5.le
  have m5:=B5.cap
  replace B5:=hd B5
  clear o2 Ec kz a1 zc o5 b5 P0 P1 h h'
  generalize hxs:ps ++ bs=xs at *
  replace hxs:=hd hxs
  obtain⟨M,hM⟩:∃M,M=np+m:=⟨_,rfl⟩
  rw [← hM] at XL l5 B5 ⊢
  have hM1:M≤1000064:=by omega
  replace hM:=hd hM
  replace XL:=hd XL
  go_loopw [6,8](fun hv qv wr=>∃(i q:Nat)(H:Option Addr)(c':Nat),hv= .slice H 8 c'∧qv= .int .i64(q:Int)∧q=64 *i∧i≤vI M∧Ws wr H 8(zf(h0L n)xs i)∧Ext w5 wr)(fun _ qv _=>M - (intOf qv).toNat)
  case atStart=>exact⟨0,0,_,_,rfl,rfl,rfl,Nat.zero_le _,W5.out,Ext.refl _⟩
  case round =>
   obtain⟨i,q,H,c',rfl,rfl,hq,hi,hw,he⟩ :=hrel
   have qM:q≤M:=by unfold vI at hi;omega
   have LT:=hd(jdA(xs:=xs)HB.out i(by omega))
   have BX:=hd(B5.out.ext he)
   by_cases h64:64 < M - q
   ·have hi1:i+1≤vI M:=by unfold vI;omega
    have INTO:Hid(∀A3,Bs wr A3 64(c5 - q)((xs.take(q+64)).drop q)→Calls Tryz.prog 98 #[.slice H 8 c', .slice A3 64(c5 - q), .int .i64((q:Int)+64), .bool false] wr(jfr(zf(h0L n)xs(i+1))wr)):=fun A3 b=>by
     have h9:=Qh(c:=c')(t:=q+64)(last:=false)hw b(by omega)LT.out
     rw [show((q+64:Nat):Int)=(q:Int)+64 by omega,List.drop_take,show q+64 - q=64 by omega,hq,show 64 *i+64=64 *(i+1)by omega] at h9
     rw [hq]
     exact h9
    have RN:=jgD(xs:=xs)HL(i+1)
    have q2:q+64 - q=64:=by omega
    have qm:(64:Int) < (M:Int) - (q:Int):=by omega
    replace he:=hd he
    clear hw LT
    replace hq:=hd hq
    go_wp2_with((with_reducible refine ZR rfl(x:= .tmp 41)(lo:= .tmp 42)(hi:= .tmp 44)(k:=q)(h:=q+64)rfl rfl rfl rfl(by omega)(by omega)(by omega)l5 ?_);intro A3 h3;replace h3:=hd h3;rw [q2] at h3 ⊢;go_frame)
    refine(INTO.out A3(h3.out _ _ BX.out)).mono ?_
    rintro e w6⟨H6,c6,rfl,hw6,e6⟩
    rw [RN] at hw6 ⊢
    replace hw6:=hd hw6
    replace e6:=hd e6
    clear INTO h3 q2
    go_wp2_with fail
    refine⟨⟨i+1,q+64,H6,c6,rfl,by go_num,by have:=hq.out;omega,hi1,hw6.out,he.out.trans e6.out⟩,by simp [intOf];omega⟩
   ·have hif:i=vI M:=by unfold vI at hi ⊢;omega
    have FILL:=hd(fun A3(b:Bs wr A3(M - q)(c5 - q)(xs.drop q)) =>Je b(by omega))
    have INTO:Hid(∀(W:World)A3 c3,Ext wr W→Bs W A3 64 c3(qP(xs.drop q))→Calls Tryz.prog 98 #[.slice H 8 c', .slice A3 64 c3, .int .i64(M:Int), .bool true] W(jfr(ve(zf(h0L n)xs i)(qP(xs.drop q))M true)W)):=fun W A3 c3 e b=>Qh(t:=M)(last:=true)(hw.ext e)b(by omega)LT.out
    have RQ:Hid(RM=qW(ve(zf(h0L n)xs i)(padL(xs.drop q))M true)):=by rw [RL.out,XL.out,← hif,hq];rfl
    have RN:=yg(zf(h0L n)xs i)(qP(xs.drop q))M true
    have RT:Hid(Lt32(ve(zf(h0L n)xs i)(qP(xs.drop q))M true)):=LT.out.comp(by omega)true
    generalize ve(zf(h0L n)xs i)(qP(xs.drop q))M true=V at *
    have qm: ¬(64:Int) < (M:Int) - (q:Int):=by omega
    replace he:=hd he
    clear hw LT RL W5 hif
    replace hq:=hd hq
    go_wp2_with((with_reducible refine ja7 rfl(x:= .tmp 52)(lo:= .tmp 53)(k:=q)rfl rfl rfl rfl qM l5 ?_);intro A3 h3;replace h3:=hd h3;go_frame)
    refine(FILL.out A3(h3.out _ _ BX.out)).mono ?_
    rintro e w6⟨A6,c6,rfl,o6,e6⟩
    replace o6:=hd o6.bs
    replace e6:=hd e6
    clear FILL h3 BX
    go_wp2_with fail
    refine(INTO.out _ _ _ e6.out o6.out).mono ?_
    rintro e w7⟨H7,c7,rfl,hw7,e7⟩
    rw [RN] at hw7 ⊢
    have E7:Hid(Ext w w7):=E5.out.trans(he.out.trans(e6.out.trans e7))
    have K7:Hid(Ky w7 w.heap.size(List.replicate 32 0)):=K5.out.ext(he.out.trans(e6.out.trans e7))
    obtain⟨gb,goff,rfl,hgb,hgc⟩ :=hw7.2(by omega)
    have CV:=hd(fun w'(e:Ext w7 w')j(hj:j < 8) =>(e.cell hgb).trans(hgc j hj))
    clear INTO o6 e6 e7 he hw7 hgc B5 E5 K5
    have kn:Hid(Ky(w7.alloc(Obj.cells Z 23))w7.heap.size(List.replicate 32 0)):=by
     have:=Ky.boxed w7(show(List.replicate 32(0:UInt8)).length=32 from rfl)
     rw [hz32.out] at this
     exact this
    have z7:w.heap.size < w7.heap.size:=jh K7.out.1
    generalize hzs:List.replicate 32(0:UInt8)=zs at *
    have zl:zs.length=32:=by rw [← hzs];rfl
    clear hzs
    go_wp2_with fail
    go_loopw [10](fun v wr=>∃(k:Nat)(ys:List UInt8),k≤32∧v= .int .i64(k:Int)∧ys.length=32∧(∀j,j < k→bt ys j=bt RM j)∧Ext w7 wr∧Ky wr w7.heap.size ys)(fun v _=>32 - (intOf v).toNat)
    case atStart=>exact⟨0,zs,Nat.zero_le _,rfl,zl,fun j hj=>absurd hj(by omega),(Ext.refl _).alloc _,kn.out⟩
    case round =>
     obtain⟨k,ys,hk,rfl,yl,hv,he,ky⟩ :=hrel
     clear kn
     by_cases hlt:k < 32
     ·obtain⟨a,ha⟩:∃a,a=k / 4:=⟨_,rfl⟩
      obtain⟨b,hb⟩:∃b,b=k % 4:=⟨_,rfl⟩
      obtain⟨sh,hs⟩:∃sh,sh=8 *b:=⟨_,rfl⟩
      have ia:(k:Int) / 4=(a:Int):=by omega
      have ib:(k:Int)% 4=(b:Int):=by omega
      have is:(8:Int)*(b:Int)=(sh:Int):=by omega
      have a8:a < 8:=by omega
      have a8':(a:Int) < 8:=by omega
      have b4:(b:Int) < 4:=by omega
      have s32:(sh:Int)≤32:=by omega
      have cv:=CV.out _ he a a8
      have yb:bt RM k=wd V a / 2 ^ sh % 256:=by
       rw [RQ.out,JK(by rw [RN];omega),← ha,← hb,hs,show(256:Nat)=2 ^ 8 from rfl,← Nat.pow_mul]
      obtain⟨y,hy⟩:∃y,y=wd V a / 2 ^ sh:=⟨_,rfl⟩
      have q1:Op.shift .shr .u32(wd V a:Int) .i64(sh:Int)=pure(.int .u32(y:Int)):=by
       have:=shift_shr .u32 .i64(wd V a:Int)(sh:Int)(by omega)(by show(sh:Int)≤32;exact s32)
       rw [this,hy]
       simp
      have y8:IntKind.u8.wrap(y:Int)=((y % 256:Nat):Int):=by rw [IntKind.wrap_u8];omega
      have y8':(y:Int)% 256=((y % 256:Nat):Int):=by omega
      rw [← hy] at yb
      have hlt8:y % 256 < 256:=Nat.mod_lt _(by decide)
      generalize y % 256=z at *
      have g1:=ky.cell hlt
      have g2:=ky.frozen k
      have ik:(k:Int) < 32:=by omega
      replace yb:=hd yb
      replace hy:=hd hy
      replace ha:=hd ha
      replace hb:=hd hb
      replace hs:=hd hs
      replace hv:=hd hv
      replace he:=hd he
      replace ky:=hd ky
      clear hlt8
      go_wp2_with fail
      have hz:(wd V a:Int) / 2 ^ sh % 256=(z:Int):=by
       rw [← y8',hy.out,Int.natCast_ediv,Int.natCast_pow];rfl
      rw [hz]
      have z256:z < 256:=by rw [← yb.out];exact vJ _ _
      refine⟨⟨k+1,ys.set k(UInt8.ofNat z),by omega,by go_num,by rw [List.length_set];exact yl,fun j hj=> ?_,he.out.setCell(Nat.le_refl _)_,ky.out.setB hlt z256⟩,by simp [intOf];omega⟩
      rw [Za(by omega)z256]
      by_cases e:j=k
      ·rw [if_pos e,e];exact yb.out.symm
      ·rw [if_neg e];exact hv.out j(by omega)
     ·obtain rfl:k=32:=by omega
      have hy:ys=RM:=Y0(by rw [yl,ML])fun j hj=>hv j(by omega)
      subst hy
      have KK:=hd(K7.out.ext he)
      have EE:Hid(Ext w wr):=E7.out.trans he
      have RS:(cellsOf ys).toArray.size=32:=by simp [ja,yl]
      have R1:=ji ys
      have ZS:(cellsOf zs).toArray.size=32:=by simp [ja,zl]
      replace ky:=hd ky
      clear hv he RQ RT CV K7 E7
      go_wp2_with(first
       |(refine wpList_load_row rfl 23 _ rfl w7.heap.size rfl 23(cellsOf ys).toArray(0,0)_ ky.out.1 rfl rfl(by rw [RS];rfl)?_;go_frame)
       |refine wpList_store_row rfl 23 _ _ rfl w.heap.size(cellsOf ys).toArray rfl rfl 23 _ KK.out.1(by rw [RS];rfl)(by rw [RS,ZS])R1 ?_)
      (try simp only [Exit.inBlock,Exit.then])
      refine bodyPost_ret(v:= .tuple #[.agg(cellsOf ys).toArray, .int .i64 0])?_ rfl ?_
      ·exact qj rfl _ _ w.heap.size 23(cellsOf ys).toArray(0,0)_ _ rfl rfl(setRow_heap _ _ _ _ _ _ KK.out.1)rfl rfl(by rw [RS];rfl)
      ·exact⟨rfl,below_setRow EE.out(Nat.le_refl _)_⟩
end
end Go.Proofs.YtakpgbaijkhpmaaGreatDoor
