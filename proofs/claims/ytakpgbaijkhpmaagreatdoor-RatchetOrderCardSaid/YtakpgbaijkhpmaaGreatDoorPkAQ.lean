import Derived.Test.YtakpgbaijkhpmaaGreatDoorPkAP
import Derived.Test.YtakpgbaijkhpmaaGreatDoorPkAJ
namespace Go.Proofs.YtakpgbaijkhpmaaGreatDoor
section
open Go.ChangeShapes Go.WideShapes Go.ChangeAt Go.RowKit Go.Deep Go.Maps
set_option maxRecDepth 100000
def zi(t:Rz)(n:Int)(data body:List UInt8):Rz×List UInt8×Int:=
 if(opB t n).2≠0 then((opB t n).1, [],(opB t n).2)else((opB t n).1,J5(opK t n)data body,J4(opK t n)data body)
theorem QI(t:Rz)(pk:List UInt8)(prev n:Int)(data body:List UInt8):
  (yY t.L pk n=true→vY t pk prev n data body=(⟨t.s,yM t.L pk n,t.puts⟩,J5(yd t.L pk n).k data body,J4(yd t.L pk n).k data body))∧
  (yY t.L pk n=false→(opA t pk prev).2≠0→vY t pk prev n data body=((opA t pk prev).1, [],(opA t pk prev).2))∧
  (yY t.L pk n=false→(opA t pk prev).2=0→vY t pk prev n data body=zi(opA t pk prev).1 n data body):=by
 refine⟨fun h=> ?_,fun h h2=> ?_,fun h h2=> ?_⟩
 ·unfold vY;rw [h];rfl
 ·unfold vY;rw [h]
  show(if(opA t pk prev).2≠0 then((opA t pk prev).1,([] :List UInt8),(opA t pk prev).2)else _)=_
  rw [if_pos h2]
 ·unfold vY zi;rw [h]
  show(if(opA t pk prev).2≠0 then((opA t pk prev).1,([] :List UInt8),(opA t pk prev).2)else _)=_
  rw [if_neg(fun z=>z h2)]
theorem jcu(t:Rz)(pk:List UInt8)(prev:Int):
  (t.s.ho=true→pk=t.s.ot→opA t pk prev=(t,0))∧
  (¬(t.s.ho=true∧pk=t.s.ot)→t.s.ri=true→t.s.rm < prev→qN t.s prev≠0→opA t pk prev=(t,qN t.s prev))∧
  (¬(t.s.ho=true∧pk=t.s.ot)→t.s.ri=true→t.s.rm < prev→qN t.s prev=0→opA t pk prev=(⟨y9(jX t prev).s pk,(jX t prev).L,(jX t prev).puts⟩,YG(jX t prev).s pk))∧
  (¬(t.s.ho=true∧pk=t.s.ot)→¬(t.s.ri=true∧t.s.rm < prev)→opA t pk prev=(⟨y9 t.s pk,t.L,t.puts⟩,YG t.s pk)):=by
 refine⟨fun h1 h2=> ?_,fun h1 h2 h3 h4=> ?_,fun h1 h2 h3 h4=> ?_,fun h1 h2=> ?_⟩
 ·unfold opA;rw [if_pos⟨h1,h2⟩]
 ·unfold opA;rw [if_neg h1];simp only [if_pos(And.intro h2 h3)];rw [if_neg h4]
 ·unfold opA;rw [if_neg h1];simp only [if_pos(And.intro h2 h3)];rw [if_pos h4]
 ·unfold opA;rw [if_neg h1];simp only [if_neg h2];rfl
theorem Y5(t:Rz)(n:Int):
  (t.s.ri=false∨n < t.s.rm→opB t n=(t,5))∧
  (¬(t.s.ri=false∨n < t.s.rm)→qN t.s n≠0→opB t n=(t,qN t.s n))∧
  (¬(t.s.ri=false∨n < t.s.rm)→qN t.s n=0→opB t n=(⟨yW(jX t n).s,(jX t n).L,(jX t n).puts⟩,0)):=by
 refine⟨fun h=> ?_,fun h h2=> ?_,fun h h2=> ?_⟩
 ·unfold opB;rw [if_pos h]
 ·unfold opB;rw [if_neg h,if_neg h2]
 ·unfold opB;rw [if_neg h,if_pos h2]
theorem Rt.ok_skip{t:Rz}(ok:t.s.ok){up:Int}(hu:0≤up∧up≤1000000):(jX t up).s.ok:=by
 unfold jX
 split
 ·exact⟨ok.root,ok.own,ok.ot,ok.sc,Jn ok.rc _,ok.sm,ok.bf,⟨hu.1,Int.le_trans hu.2(by decide)⟩⟩
 ·exact ok
theorem Z5{t:Rz}{up:Int}(l8:t.L.length≤8):(jX t up).L.length≤8:=by
 unfold jX
 split
 ·exact jaF _ _ _ _ _ l8
 ·exact l8
theorem Y9(t:Rz)(up:Int):t.puts≤(jX t up).puts∧(jX t up).puts≤t.puts+8:=by
 unfold jX
 split
 ·rename_i h
  have h1:=putA_le t.s.ot(Y2 t.s.rc(skipM t.s up).toNat)t.L t.puts t.s.rm
  rw [jdm] at h1
  unfold qN at h
  split at h
  ·cases h
  ·exact⟨h1.1,by dsimp only;omega⟩
 ·omega
theorem Cb.ot{p:Nat→Prop}{w w':World}{g:Nat}{T:TypeId}{L:List Value}(h:Cb w g T L)(x:Ot p w w')(hp: ¬ p g):Cb w' g T L:=x.block h hp
set_option maxHeartbeats 32000000 in
theorem jdG{w:World}{g kp mb:Nat}{t:Rz}{q:List Value}{A B:Option Addr}{m1 c1 m2 c2:Nat}{data body pk:List UInt8}{prev n:Int}(h:Sq w g 114 t.s kp q)(hk:SK w kp mb t.L t.puts)(ok:t.s.ok)(l8:t.L.length≤8)(hp:t.puts≤1000000000)
  {tg tp:TypeId×Nat×Nat}(hM:∀u,Ot(P3 g kp mb)w u→(Bs u A m1 c1 data∧Bs u B m2 c2 body)∧Gl u tg∧Gp u tp)(hm1:m1≤1000000)(hm2:m2≤1000000)(lp:pk.length=32)(hpr:0≤prev∧prev≤1000000)(hn:0≤n∧n≤1000000):
  Calls Tryz.prog 52 #[.pointer(some⟨g,0,none⟩), .slice A m1 c1, .agg(hdC pk prev n).toArray, .slice B m2 c2] w fun e w'=>∃A' n' c',e= .returned(.tuple #[.slice A' n' c', .int .i64(vY t pk prev n data body).2.2])∧Own w.heap.size w' A' n' c'(vY t pk prev n data body).2.1∧Sq w' g 114(vY t pk prev n data body).1.s kp q∧SK w' kp mb(vY t pk prev n data body).1.L(vY t pk prev n data body).1.puts∧Ot(P3 g kp mb)w w':=by
 obtain⟨nk,nm⟩ :=h.ne_sk hk
 have nkm:=hk.ne
 obtain⟨E1,E2,E3⟩ :=QI t pk prev n data body
 obtain⟨A1,A2,A3,A4⟩ :=jcu t pk prev
 replace E1:=hd E1
 replace E2:=hd E2
 replace E3:=hd E3
 replace A1:=hd A1
 replace A2:=hd A2
 replace A3:=hd A3
 replace A4:=hd A4
 have nO:Hid(yY t.L pk n=false→yM t.L pk n=t.L):=fun z=>jaY z
 have lkk:(theK t.L pk n).k.length=32:=jff hk.ok
 obtain⟨RES,hRES⟩:∃x,x=vY t pk prev n data body:=⟨_,rfl⟩
 rw [← hRES] at E1 E2 E3 ⊢
 clear hRES
 have TAKE:Hid(∀W,SK W kp mb t.L t.puts→Calls Tryz.prog 88 #[.pointer(some⟨kp,0,none⟩), .agg(cellsOf pk).toArray, .int .i64 n] W fun e w'=>e= .returned(.tuple #[.agg(cellsOf(yd t.L pk n).k).toArray, .bool(yY t.L pk n)])∧SK w' kp mb(yM t.L pk n)t.puts∧Two kp mb W w'):=fun W z=>jdZ z lp(by omega)
 have OPN:Hid(∀(W:World)(k:List UInt8),k.length=32→Ot(P3 g kp mb)w W→Calls Tryz.prog 89 #[.agg(cellsOf k).toArray, .slice A m1 c1, .slice B m2 c2] W(JJ(J5 k data body)(J4 k data body)W)):=fun W k lk z=>jdR lk(hM W z).1.1(hM W z).1.2 hm1 hm2(hM W z).2.1
 have SKP:Hid(∀(W:World)(t1:Rz)(up:Int),Sq W g 114 t1.s kp q→SK W kp mb t1.L t1.puts→t1.s.ok→t1.L.length≤8→t1.puts≤4000000000000000000→0≤up∧up≤1000000→Ot(P3 g kp mb)w W→Calls Tryz.prog 90 #[.pointer(some⟨g,0,none⟩), .int .i64 up] W fun e w'=>e= .returned(.int .i64(skipE t1.s up))∧Sq w' g 114(jX t1 up).s kp q∧SK w' kp mb(jX t1 up).L(jX t1 up).puts∧Ot(P3 g kp mb)W w'):=fun W t1 up z1 z2 z3 z4 z5 z6 z7=>jdM z1 z2 z3 z4 z5 z6(hM W z7).2.1
 have FOL:Hid(∀(W:World)(s1:Rt),Sq W g 114 s1 kp q→s1.ok→Ot(P3 g kp mb)w W→Calls Tryz.prog 91 #[.pointer(some⟨g,0,none⟩), .agg(cellsOf pk).toArray] W fun e w'=>e= .returned(.int .i64(YG s1 pk))∧Sq w' g 114(y9 s1 pk)kp q∧W.grownBy w'(some g)):=fun W s1 z1 z2 z3=>jeW z1 z2 lp(hM W z3).2.1(hM W z3).2.2
 have STP:Hid(∀(W:World)(s1:Rt),Sq W g 114 s1 kp q→s1.ok→Ot(P3 g kp mb)w W→Calls Tryz.prog 46 #[.pointer(some⟨g,165,none⟩)] W fun e w'=>e= .returned(.agg(cellsOf(jM s1.rc qd)).toArray)∧Sq w' g 114(yW s1)kp q∧W.grownBy w'(some g)):=fun W s1 z1 z2 z3=>by
  unfold Sq at z1 ⊢
  rw [s1.C_recv] at z1
  rw [(yW s1).C_recv]
  have:=Zz(p:=s1.P_ri)(q:=s1.R_rm kp q)z1(Rt.L_ri z2)z2.rc z2.rm(hM W z3).2.1
  exact this
 obtain⟨hd0,hd32,hd33⟩ :=jc9 lp prev n
 replace hd0:=hd(fun _:Unit=>hd0)
 replace hd32:=hd hd32
 replace hd33:=hd hd33
 obtain⟨HD,hHD⟩:∃x,x=hdC pk prev n:=⟨_,rfl⟩
 rw [← hHD] at hd0 hd32 hd33 ⊢
 clear hHD
 clear hM
 have C_pk:(cellsOf pk).length=32:=by rw [ja,lp]
 obtain⟨kk,hkk⟩:∃x,x=(yd t.L pk n).k:=⟨_,rfl⟩
 obtain⟨is,his⟩:∃x,x=yY t.L pk n:=⟨_,rfl⟩
 obtain⟨L2,hL2⟩:∃x,x=yM t.L pk n:=⟨_,rfl⟩
 rw [← hkk] at TAKE lkk E1
 rw [← his] at TAKE E1 E2 E3 nO
 rw [← hL2] at TAKE E1 nO
 clear hkk his hL2
 have S_kk:(cellsOf kk).toArray.size=32:=by simp [ja,lkk]
 have O_kk:=ji kk
 have hal:∀w,(zeroValue 23).run Tryz.prog w= .ok(.agg(cellsOf(List.replicate 32 0)).toArray)w:=fun w=>by rw [zeros32_cells];exact j2 w
 have L_zk:(List.replicate 32(0:UInt8)).length=32:=rfl
 generalize List.replicate 32(0:UInt8)=zk at *
 have S_zk:(cellsOf zk).toArray.size=32:=by simp [ja,L_zk]
 have gl:=h.lt
 have kl:=hk.cb.lt
 have ml:=hk.mp.lt
 have hmf:∀(fn:Fn)(first cap:Array Value)(w:World),(Instr.makeFunc fn first cap).run Tryz.prog w= .ok(.func fn first cap)w:=fun _ _ _ _=>rfl
 obtain⟨r,hr⟩:∃r,r=w.heap.size:=⟨_,rfl⟩
 have B0:Hid(Cb(w.alloc(.cells HD.toArray 47))r 47 HD∧Ext w(w.alloc(.cells HD.toArray 47))):=by rw [hr];exact⟨Cb.new _ _ _,(Ext.refl w).alloc _⟩
 replace h:=hd h
 replace hk:=hd hk
 go_enter Tryz.func52,Tryz.ntmps52
 go_upto_region 1 with fail
 refine jg(fun W=>Cb W r 47 HD∧Ext w W)B0.out ?_
 rw [← hr]
 have wr_:w.heap.size≤r:=Nat.le_of_eq hr.symm
 clear B0
 replace hr:=hd hr
 rintro w0⟨k6,x0⟩
 have rl:=k6.lt
 have P0:Hid(∀u,Tq w0.heap.size kp mb w0 u→Sq u g 114 t.s kp q∧Cb u r 47 HD∧Ot(P3 g kp mb)w u):=fun u x=>by
  have hS:=h.out.ext x0
  exact⟨hS.keep(x.2.2.2.2 _ hS.lt nk nm),x.block k6 rl(by omega)(by omega),⟨x.1.trans x0.os,x.2.1.trans x0.tape,x.2.2.1.trans x0.output,Nat.le_trans x0.size x.2.2.2.1,fun i hi hn=>(x.2.2.2.2 i(Nat.lt_of_lt_of_le hi x0.size)(fun z=>hn(.inr(.inl z)))(fun z=>hn(.inr(.inr z)))).trans(x0.block i hi)⟩⟩
 have S1:Hid(SK w0.drew kp mb t.L t.puts):=(hk.out.ext x0).ext(Ext.refl _).drew
 have F0:Hid(∀u,Tq w0.heap.size kp mb w0 u→u.cell?⟨g,199,none⟩=some(.pointer(some⟨kp,0,none⟩))∧u.cell?⟨r,33,none⟩=some(.int .i64 n)):=fun u x=>⟨(P0.out u x).1.kpc ok,(P0.out u x).2.1.cell hd33.out⟩
 have F1:Hid(∀u,Tq w0.heap.size kp mb w0 u→∀j v,(cellsOf pk)[j]? =some v→u.cell?⟨r,0+j,none⟩=some v):=fun u x=>(P0.out u x).2.1.mid(hd0.out())rfl
 clear k6 x0 h hk
 go_cut [10,11](fun s10 s11 wx=>∃g10:Nat,s10= .pointer(some⟨g10,0,none⟩)∧s11= .bool is∧Tq w0.heap.size kp mb w0 wx∧SK wx kp mb L2 t.puts∧wx.heap[g10]? =some(.cells(cellsOf kk).toArray 23(0,0))∧w0.heap.size≤g10)
 case first =>
  have T0:Hid(∀u,Tq w0.heap.size kp mb w0.drew u→Tq w0.heap.size kp mb w0 u):=fun u x=>Tq.trans(Tq.of_ext(Ext.refl w0).drew(Nat.le_refl _))x
  refine qgT(R:=Tq w0.heap.size kp mb)(Tq.refl _ _ _)(fun _ _ _=>Tq.trans)(.rd 0(.rd 1(.rd 2(.rd 3(.rd 4(.rd 5(.rd 6(.rd 7(.alt 8(.rd 9(.rd 10(.rd 11(.alt 12(.alt 13(.rd 14 .nil) .stop) .stop))))(.alt 12(.alt 8(.rd 9(.rd 10(.rd 11(.alt 13(.rd 14 .nil) .stop)))) .stop) .stop))))))))))15 ?_
  repeat((first |refine qtR _(fun w' e=>F0.out w'(T0.out w' e))?_ |refine qtS ?_);go_frame)
  refine qtV rfl(fun w'=>∀q_ v,(cellsOf pk)[q_]? =some v→w'.cell?⟨r,0+q_,none⟩=some v)(fun w' e=>F1.out w'(T0.out w' e))(.agg(cellsOf pk).toArray)(fun w' hF=>jy rfl rfl hF rfl rfl(by rw [C_pk];rfl))?_
  go_frame
  repeat((first |refine qtR _(fun w' e=>F0.out w'(T0.out w' e))?_ |refine qtS ?_);go_frame)
  have X:Hid(Tq w0.heap.size kp mb w0 w0.drew):=Tq.of_ext(Ext.refl w0).drew(Nat.le_refl _)
  have z0:w0.heap.size≤w0.drew.heap.size:=Nat.le_refl _
  generalize w0.drew=WC at *
  repeat'(first
   |exact yC
   |(refine qc(i:=8)_ rfl ?_ ?_(fun K1 hK1=> ?_)
     (·rfl)
     rotate_left
     go_simp
     refine(TAKE.out _ S1.out).mono ?_
     rintro e0 WD⟨rfl,s2,t2⟩
     refine hK1.out _ _(Tq.of_two t2 z0)?_
     clear hK1 K1
     (try replace hA:=hd(t2.block hA.out(by omega)(by omega)))
     replace X:=hd(X.out.trans(Tq.of_two t2 z0))
     have z1:=Nat.le_trans z0 t2.2.2.2.1
     have S2:=hd s2
     clear z0 s2 t2 S1
     have z0:=z1
     clear z1
     generalize WD=WC at *
     (try go_frame)
     repeat((first |refine vM ?_ |refine qtS ?_);go_frame)
     skip)
   |(refine qc(i:=12)_ rfl ?_ ?_(fun K1 hK1=> ?_)
     (·rfl)
     rotate_left
     go_simp
     have e:Ext WC(WC.alloc(Obj.cells(cellsOf zk).toArray 23)):=(Ext.refl WC).alloc _
     obtain⟨g10,hg10⟩:∃g,g=WC.heap.size:=⟨_,rfl⟩
     have hA:=hd(heap_alloc_new WC(Obj.cells(cellsOf zk).toArray 23))
     rw [← hg10] at hA ⊢
     have lg10:w0.heap.size≤g10:=by rw [hg10];exact z0
     refine hK1.out _(WC.alloc(Obj.cells(cellsOf zk).toArray 23))(Tq.of_ext e z0)?_
     clear hK1 K1
     replace X:=hd(X.out.trans(Tq.of_ext e z0))
     (try replace S1:=hd(S1.out.ext e))
     (try replace S2:=hd(S2.out.ext e))
     have z1:=Nat.le_trans z0 e.size
     clear z0 e
     have z0:=z1
     clear z1
     replace hg10:=hd hg10
     generalize WC.alloc(Obj.cells(cellsOf zk).toArray 23)=WC at *
     (try go_frame)
     repeat((first |refine vM ?_ |refine qtS ?_);go_frame)
     skip)
   |(refine qc(i:=13)_ rfl ?_ ?_(fun K1 hK1=> ?_)
     (·rfl)
     rotate_left
     refine wp_store_row _ _ _ rfl g10(cellsOf kk).toArray rfl rfl 23(cellsOf zk).toArray hA.out(by rw [S_kk];rfl)(by rw [S_kk];exact S_zk)O_kk ?_
     refine hK1.out _ _(Tq.row _ _ lg10)?_
     clear hK1 K1
     replace X:=hd(X.out.trans(Tq.row WC(cellsOf kk).toArray lg10))
     replace S2:Hid(SK(WC.setRow g10(cellsOf kk).toArray)kp mb L2 t.puts):=S2.out.stay(setRow_other _ _ _ _(by omega))(setRow_other _ _ _ _(by omega))
     replace hA:Hid((WC.setRow g10(cellsOf kk).toArray).heap[g10]? =some(.cells(cellsOf kk).toArray 23(0,0))):=setRow_heap _ _ _ _ _ _ hA.out
     generalize WC.setRow g10(cellsOf kk).toArray=WC at *
     (try simp only [Act.put])
     repeat((first |refine vM ?_ |refine qtS ?_);go_frame)
     skip)
   |(refine yB ?_
     go_wp2_with fail
     go_meet
     exact⟨g10,rfl,rfl,X.out,S2.out,hA.out,lg10⟩))
 case rest =>
  obtain⟨g10,rfl,rfl,tq,hK,k10,z10⟩ :=hcut
  obtain⟨hS,k6,hO⟩ :=P0.out wc tq
  clear P0 F0 F1 S1 TAKE tq
  rcases is with _ |_
  ·rw [nO.out rfl] at hK
   replace E2:=hd(E2.out rfl)
   replace E3:=hd(E3.out rfl)
   clear E1 nO k10 O_kk S_kk
   have FG:Hid(∀u,Ext wc.drew u→u.cell?⟨g,96,none⟩=some(.bool t.s.ho)):=fun u x=>(hS.ext((Ext.refl wc).drew.trans x)).ho ok
   have FH:Hid(∀u,Ext wc.drew u→(∀j v,(cellsOf pk)[j]? =some v→u.cell?⟨r,0+j,none⟩=some v)∧(∀j v,(cellsOf t.s.ot)[j]? =some v→u.cell?⟨g,97+j,none⟩=some v)):=fun u x=>⟨(k6.ext((Ext.refl wc).drew.trans x)).mid(hd0.out())rfl,(hS.ext((Ext.refl wc).drew.trans x)).at_ot ok⟩
   have HV:Hid(Sq wc.drew g 114 t.s kp q∧SK wc.drew kp mb t.L t.puts∧Cb wc.drew r 47 HD∧Ot(P3 g kp mb)w wc.drew):=⟨hS.ext(Ext.refl wc).drew,hK.ext(Ext.refl wc).drew,k6.ext(Ext.refl wc).drew,hO.drew⟩
   have C_ot:(cellsOf t.s.ot).length=32:=by rw [ja,ok.ot]
   clear hS hK k6 hO
   go_upto_region 5 with fail
   obtain⟨hob,hhob⟩:∃x,x=t.s.ho:=⟨_,rfl⟩
   rw [← hhob] at FG A1 A2 A3 A4
   rcases hob with _ |_
   ·have HN:Hid(¬(false=true∧pk=t.s.ot)):=fun z=>absurd z.1(by decide)
    clear hhob FH
    refine qgE [0,1,2,3,4,5,6,7,8,9,10,11,12,13] [] ?_
    repeat((first |refine qR _(fun w' e=>FG.out w' e)?_ |refine qS ?_);go_frame)
    refine seq_done ?_
    generalize wc.drew=V at *
    clear FG C_ot
    go_upto_region 6 with fail
    have FG:Hid(∀u,Ext V.drew u→u.cell?⟨g,165,none⟩=some(.bool t.s.ri)∧u.cell?⟨g,198,none⟩=some(.int .i64 t.s.rm)∧u.cell?⟨r,32,none⟩=some(.int .i64 prev)):=fun u x=>⟨(HV.out.1.ext((Ext.refl V).drew.trans x)).ri ok,(HV.out.1.ext((Ext.refl V).drew.trans x)).rm ok,(HV.out.2.2.1.ext((Ext.refl V).drew.trans x)).cell hd32.out⟩
    replace HV:Hid(Sq V.drew g 114 t.s kp q∧SK V.drew kp mb t.L t.puts∧Cb V.drew r 47 HD∧Ot(P3 g kp mb)w V.drew):=⟨HV.out.1.ext(Ext.refl V).drew,HV.out.2.1.ext(Ext.refl V).drew,HV.out.2.2.1.ext(Ext.refl V).drew,HV.out.2.2.2.drew⟩
    by_cases hc:t.s.ri=true∧t.s.rm < prev
    ·obtain⟨hc1,hc2⟩ :=hc
     have d2:decide(t.s.rm < prev)=true:=decide_eq_true hc2
     rw [hc1] at FG
     replace A2:=hd(A2.out HN.out hc1 hc2)
     replace A3:=hd(A3.out HN.out hc1 hc2)
     have f32:Hid(V.drew.cell?⟨r,32,none⟩=some(.int .i64 prev)):=(FG.out _(Ext.refl _)).2.2
     have SK1:=hd(SKP.out V.drew t prev HV.out.1 HV.out.2.1 ok l8(by omega)hpr HV.out.2.2.2)
     clear A1 A4 hc1 hc2
     refine qgE [0,1,2,3,4,5,6,7,8,9,10,11,12,13,14] [] ?_
     repeat((first |refine qR _(fun w' e=>FG.out w' e)?_ |refine qS ?_);go_frame)
     refine jp ?_
     generalize V.drew=V at *
     have f32':=f32.out
     clear FG d2
     go_wp2_with fail
     refine SK1.out.mono ?_
     rintro e V3⟨rfl,hS3,hK3,hO3⟩
     have hO4:=HV.out.2.2.2.trans hO3
     have k63:=HV.out.2.2.1.ot hO3(by unfold P3;omega)
     clear SK1 f32 f32' HV hO3
     obtain⟨se,hse⟩:∃x,x=qN t.s prev:=⟨_,rfl⟩
     rw [← hse] at A2 A3 ⊢
     by_cases hs:se=0
     ·replace A3:=hd(A3.out hs)
      have ok2:(jX t prev).s.ok:=Rt.ok_skip ok hpr
      have l82:(jX t prev).L.length≤8:=Z5 l8
      have hp2:(jX t prev).puts≤1000000100:=by have:=(skipS_puts t prev).2;omega
      subst hs
      obtain⟨t2,ht2⟩:∃x,x=jX t prev:=⟨_,rfl⟩
      rw [← ht2] at A3 ok2 l82 hp2 hS3 hK3
      have HA:=A3
      have HV:Hid(Sq V3 g 114 t2.s kp q∧SK V3 kp mb t2.L t2.puts∧Cb V3 r 47 HD∧Ot(P3 g kp mb)w V3):=⟨hS3,hK3,k63,hO4⟩
      clear A2 A3 hS3 hK3 k63 hO4 ht2 hse
      go_upto_region 10 with fail
      generalize V3=V at *
      have f0:Hid(∀j v,(cellsOf pk)[j]? =some v→V.cell?⟨r,0+j,none⟩=some v):=HV.out.2.2.1.mid(hd0.out())rfl
      have FO:=hd(FOL.out V t2.s HV.out.1 ok2 HV.out.2.2.2)
      clear FOL
      go_wp2_with(first |((with_reducible refine jI(o:=⟨some 75,_,_,_,_,_⟩)(ty:=23)(g:=r)(off:=0)(ys:=cellsOf pk)?_ rfl ?_ ?_ Tryz.underlying23 ?_ ?_ ?_);(·rfl);(·rfl);(·exact f0.out);(·rfl);(·rw [C_pk];rfl);go_frame))
      refine FO.out.mono ?_
      rintro e V2⟨rfl,hS2,gr2⟩
      have hK2:=HV.out.2.1.stay(gr2.block _ HV.out.2.1.cb.lt(fun z=>nk(Option.some.inj z).symm))(gr2.block _ HV.out.2.1.mp.lt(fun z=>nm(Option.some.inj z).symm))
      have k62:=HV.out.2.2.1.ot(Ot.of_grown(p:=P3 g kp mb)gr2(.inl rfl))(by unfold P3;omega)
      have hO2:=HV.out.2.2.2.trans(Ot.of_grown gr2(.inl rfl))
      clear FO HV f0 gr2
      obtain⟨fe,hfe⟩:∃x,x=YG t2.s pk:=⟨_,rfl⟩
      rw [← hfe] at HA ⊢
      by_cases he:fe=0
      ·have HT:=hd(E3.out(by rw [HA.out];exact he))
       rw [HA.out] at HT
       have okf:=Rt.ok_fol ok2 lp
       subst he
       obtain⟨t1,ht1⟩:∃x:Rz,x=⟨y9 t2.s pk,t2.L,t2.puts⟩ :=⟨_,rfl⟩
       rw [← ht1] at HT
       have ok1:t1.s.ok:=by rw [ht1];exact okf
       have l81:t1.L.length≤8:=by rw [ht1];exact l82
       have hp1:t1.puts≤1000000100:=by rw [ht1];exact hp2
       have HV:Hid(Sq V2 g 114 t1.s kp q∧SK V2 kp mb t1.L t1.puts∧Cb V2 r 47 HD∧Ot(P3 g kp mb)w V2):=by rw [ht1];exact⟨hS2,hK2,k62,hO2⟩
       clear hS2 hK2 k62 hO2 E2 E3 HA hfe okf ht1 ok2 l82 hp2
       go_upto_region 13 with fail
       generalize V2=V at *
       have hV:=HV.out
       obtain⟨B1,B2,B3⟩ :=Y5 t1 n
       have T1:Hid(∀x:Rz×Int,opB t1 n=x→x.2≠0→RES=(x.1, [],x.2)):=fun x e z=>by rw [HT.out];unfold zi;rw [e,if_pos z]
       have T2:Hid(∀x:Rz×Int,opB t1 n=x→x.2=0→RES=(x.1,J5(opK t1 n)data body,J4(opK t1 n)data body)):=fun x e z=>by rw [HT.out];unfold zi;rw [e,if_neg(fun q=>q z)]
       have f1:=hV.1.ri ok1
       have f2:=hV.1.rm ok1
       have f3:=hV.2.2.1.cell hd33.out
       have FF:Hid(∀u,Ext V.drew u→u.cell?⟨g,165,none⟩=some(.bool t1.s.ri)∧u.cell?⟨g,198,none⟩=some(.int .i64 t1.s.rm)∧u.cell?⟨r,33,none⟩=some(.int .i64 n)):=fun u x=>⟨(hV.1.ext((Ext.refl V).drew.trans x)).ri ok1,(hV.1.ext((Ext.refl V).drew.trans x)).rm ok1,(hV.2.2.1.ext((Ext.refl V).drew.trans x)).cell hd33.out⟩
       have HD2:Hid(Sq V.drew g 114 t1.s kp q∧SK V.drew kp mb t1.L t1.puts∧Cb V.drew r 47 HD∧Ot(P3 g kp mb)w V.drew):=⟨hV.1.ext(Ext.refl V).drew,hV.2.1.ext(Ext.refl V).drew,hV.2.2.1.ext(Ext.refl V).drew,hV.2.2.2.drew⟩
       clear hV HV f1 f2 f3
       have SK1:=hd(SKP.out V.drew t1 n HD2.out.1 HD2.out.2.1 ok1 l81(by omega)hn HD2.out.2.2.2)
       obtain⟨ri1,hri1⟩:∃x,x=t1.s.ri:=⟨_,rfl⟩
       rw [← hri1] at FF B1 B2 B3
       rcases ri1 with _ |_
       ·have q1:=hd(T1.out _(B1(.inl rfl))(by show(5:Int)≠0;decide))
        clear B1 B2 B3 T1 T2 SK1 hri1
        refine qgE [0,1,2,3,4,5,6,7,8,9,10,11,12,13,14,15] [] ?_
        repeat((first |refine qR _(fun w' e=>FF.out w' e)?_ |refine qS ?_);go_frame)
        refine jp ?_
        generalize V.drew=U at *
        clear FF
        go_wp2_with fail
        go_ret2
        exact⟨none,0,0,by rw [q1.out];rfl,by rw [q1.out];exact Own.nil _ _,by rw [q1.out];exact HD2.out.1,by rw [q1.out];exact HD2.out.2.1,HD2.out.2.2.2⟩
       by_cases hlt:n < t1.s.rm
       ·have d1:decide(n < t1.s.rm)=true:=decide_eq_true hlt
        have q1:=hd(T1.out _(B1(.inr hlt))(by show(5:Int)≠0;decide))
        clear B1 B2 B3 T1 T2 SK1 hri1
        refine qgE [0,1,2,3,4,5,6,7,8,9,10,11,12,13,14,15] [] ?_
        repeat((first |refine qR _(fun w' e=>FF.out w' e)?_ |refine qS ?_);go_frame)
        refine jp ?_
        generalize V.drew=U at *
        clear FF
        go_wp2_with fail
        go_ret2
        exact⟨none,0,0,by rw [q1.out];rfl,by rw [q1.out];exact Own.nil _ _,by rw [q1.out];exact HD2.out.1,by rw [q1.out];exact HD2.out.2.1,HD2.out.2.2.2⟩
       have d1:decide(n < t1.s.rm)=false:=decide_eq_false hlt
       have nB: ¬(true=false∨n < t1.s.rm):=fun z=>by rcases z with z |z;exact absurd z(by decide);exact hlt z
       replace B2:=hd(B2 nB)
       replace B3:=hd(B3 nB)
       clear B1 hri1 nB
       refine qgE [0,1,2,3,4,5,6,7,8,9,10,11,12,13,14,15] [] ?_
       repeat((first |refine qR _(fun w' e=>FF.out w' e)?_ |refine qS ?_);go_frame)
       refine jp ?_
       generalize V.drew=U at *
       have f3:=(FF.out U(Ext.refl _)).2.2
       clear FF d1
       go_wp2_with fail
       refine SK1.out.mono ?_
       rintro e u2⟨rfl,hS2,hK2,hO2⟩
       have hO3:=HD2.out.2.2.2.trans hO2
       have k62:=HD2.out.2.2.1.ot hO2(by unfold P3;omega)
       clear SK1 f3 HD2 hO2
       obtain⟨se,hse⟩:∃x,x=qN t1.s n:=⟨_,rfl⟩
       rw [← hse] at B2 B3 ⊢
       by_cases he:se=0
       ·have q1:=hd(T2.out _(B3.out he)rfl)
        have ok2:=Rt.ok_skip(t:=t1)ok1 hn
        have ST1:=hd(STP.out u2 _ hS2 ok2 hO3)
        have LKm:(jM(jX t1 n).s.rc qd).length=32:=keyL_len _ _
        have OK1:Hid(opK t1 n=jM(jX t1 n).s.rc qd):=rfl
        subst he
        clear B2 B3 T1 T2 hse
        obtain⟨mk,hmk⟩:∃x,x=jM(jX t1 n).s.rc qd:=⟨_,rfl⟩
        rw [← hmk] at ST1 LKm OK1
        replace hmk:=hd hmk
        replace hK2:=hd hK2
        replace hO3:=hd hO3
        clear hS2 k62
        go_wp2_with fail
        refine ST1.out.mono ?_
        rintro e u3⟨rfl,hS3,gr3⟩
        have hO4:=hO3.out.trans(Ot.of_grown gr3(.inl rfl))
        have hK3:=hK2.out.stay(gr3.block _ hK2.out.cb.lt(fun z=>nk(Option.some.inj z).symm))(gr3.block _ hK2.out.mp.lt(fun z=>nm(Option.some.inj z).symm))
        have OP:=hd(OPN.out u3 mk LKm hO4)
        replace hS3:=hd hS3
        replace hK3:=hd hK3
        replace hO4:=hd hO4
        clear ST1 hK2 hO3 gr3
        go_wp2_with fail
        refine OP.out.mono ?_
        rintro e u4⟨A5,n5,c5,rfl,o5,x5⟩
        replace o5:=hd(o5.lower hO4.out.size)
        have F:=hd(And.intro(hS3.out.ext x5)(And.intro(hK3.out.ext x5)(hO4.out.trans(Ot.of_ext x5))))
        clear OP hS3 hK3 hO4 x5
        go_wp2_with fail
        go_ret2
        exact⟨A5,n5,c5,by rw [q1.out,OK1.out];rfl,by rw [q1.out,OK1.out];exact o5.out,by rw [q1.out];exact F.out.1,by rw [q1.out];exact F.out.2.1,F.out.2.2⟩
       ·have q1:=hd(T1.out _(B2.out he)he)
        have hbn:(se !=0)=true:=bne_iff_ne.2 he
        have es:jX t1 n=t1:=(yt t1 n).1(by rw [← hse];exact he)
        rw [es] at hS2 hK2
        have F:=hd(And.intro hS2(And.intro hK2 hO3))
        clear B2 B3 T1 T2 hS2 hK2 hO3 k62 es hse
        go_wp2_with fail
        go_ret2
        exact⟨none,0,0,by rw [q1.out];rfl,by rw [q1.out];exact Own.nil _ _,by rw [q1.out];exact F.out.1,by rw [q1.out];exact F.out.2.1,F.out.2.2⟩
      ·have q1:=hd(E2.out(by rw [HA.out];exact he))
       rw [HA.out] at q1
       have hbn:(fe !=0)=true:=bne_iff_ne.2 he
       have F:=hd(And.intro hS2(And.intro hK2 hO2))
       clear hS2 hK2 k62 hO2 E2 E3 HA hfe
       go_wp2_with fail
       go_ret2
       exact⟨none,0,0,by rw [q1.out];rfl,by rw [q1.out];exact Own.nil _ _,by rw [q1.out];exact F.out.1,by rw [q1.out];exact F.out.2.1,F.out.2.2⟩
     ·have q1:=hd(E2.out(by rw [A2.out hs];exact hs))
      rw [A2.out hs] at q1
      have hbn:(se !=0)=true:=bne_iff_ne.2 hs
      have es:jX t prev=t:=(yt t prev).1(by rw [← hse];exact hs)
      rw [es] at hS3 hK3
      have F:=hd(And.intro hS3(And.intro hK3 hO4))
      clear hS3 hK3 hO4 k63 E2 E3 A2 A3 es hse
      go_wp2_with fail
      go_ret2
      exact⟨none,0,0,by rw [q1.out];rfl,by rw [q1.out];exact Own.nil _ _,by rw [q1.out];exact F.out.1,by rw [q1.out];exact F.out.2.1,F.out.2.2⟩
    ·have HA:=hd(A4.out HN.out hc)
     have ok2:=ok
     have l82:=l8
     have hp2:t.puts≤1000000100:=by omega
     clear A1 A2 A3 A4
     obtain⟨rib,hrib⟩:∃x,x=t.s.ri:=⟨_,rfl⟩
     rw [← hrib] at FG hc
     rcases rib with _ |_
     ·clear hc hrib
      refine qgE [0,1,2,3,4,5,6,7,8,9,10,11,12,13,14] [] ?_
      repeat((first |refine qR _(fun w' e=>FG.out w' e)?_ |refine qS ?_);go_frame)
      refine jp ?_
      generalize V.drew=V at *
      clear FG
      go_upto_region 10 with fail
      generalize opA t pk prev=oa at HA E2 E3
      generalize ht2:t=t2 at HA HV ok2 l82 hp2
      have f0:Hid(∀j v,(cellsOf pk)[j]? =some v→V.cell?⟨r,0+j,none⟩=some v):=HV.out.2.2.1.mid(hd0.out())rfl
      have FO:=hd(FOL.out V t2.s HV.out.1 ok2 HV.out.2.2.2)
      clear FOL
      go_wp2_with(first |((with_reducible refine jI(o:=⟨some 75,_,_,_,_,_⟩)(ty:=23)(g:=r)(off:=0)(ys:=cellsOf pk)?_ rfl ?_ ?_ Tryz.underlying23 ?_ ?_ ?_);(·rfl);(·rfl);(·exact f0.out);(·rfl);(·rw [C_pk];rfl);go_frame))
      refine FO.out.mono ?_
      rintro e V2⟨rfl,hS2,gr2⟩
      have hK2:=HV.out.2.1.stay(gr2.block _ HV.out.2.1.cb.lt(fun z=>nk(Option.some.inj z).symm))(gr2.block _ HV.out.2.1.mp.lt(fun z=>nm(Option.some.inj z).symm))
      have k62:=HV.out.2.2.1.ot(Ot.of_grown(p:=P3 g kp mb)gr2(.inl rfl))(by unfold P3;omega)
      have hO2:=HV.out.2.2.2.trans(Ot.of_grown gr2(.inl rfl))
      clear FO HV f0 gr2
      obtain⟨fe,hfe⟩:∃x,x=YG t2.s pk:=⟨_,rfl⟩
      rw [← hfe] at HA ⊢
      by_cases he:fe=0
      ·have HT:=hd(E3.out(by rw [HA.out];exact he))
       rw [HA.out] at HT
       have okf:=Rt.ok_fol ok2 lp
       subst he
       obtain⟨t1,ht1⟩:∃x:Rz,x=⟨y9 t2.s pk,t2.L,t2.puts⟩ :=⟨_,rfl⟩
       rw [← ht1] at HT
       have ok1:t1.s.ok:=by rw [ht1];exact okf
       have l81:t1.L.length≤8:=by rw [ht1];exact l82
       have hp1:t1.puts≤1000000100:=by rw [ht1];exact hp2
       have HV:Hid(Sq V2 g 114 t1.s kp q∧SK V2 kp mb t1.L t1.puts∧Cb V2 r 47 HD∧Ot(P3 g kp mb)w V2):=by rw [ht1];exact⟨hS2,hK2,k62,hO2⟩
       clear hS2 hK2 k62 hO2 E2 E3 HA hfe okf ht1 ok2 l82 hp2
       go_upto_region 13 with fail
       generalize V2=V at *
       have hV:=HV.out
       obtain⟨B1,B2,B3⟩ :=Y5 t1 n
       have T1:Hid(∀x:Rz×Int,opB t1 n=x→x.2≠0→RES=(x.1, [],x.2)):=fun x e z=>by rw [HT.out];unfold zi;rw [e,if_pos z]
       have T2:Hid(∀x:Rz×Int,opB t1 n=x→x.2=0→RES=(x.1,J5(opK t1 n)data body,J4(opK t1 n)data body)):=fun x e z=>by rw [HT.out];unfold zi;rw [e,if_neg(fun q=>q z)]
       have f1:=hV.1.ri ok1
       have f2:=hV.1.rm ok1
       have f3:=hV.2.2.1.cell hd33.out
       have FF:Hid(∀u,Ext V.drew u→u.cell?⟨g,165,none⟩=some(.bool t1.s.ri)∧u.cell?⟨g,198,none⟩=some(.int .i64 t1.s.rm)∧u.cell?⟨r,33,none⟩=some(.int .i64 n)):=fun u x=>⟨(hV.1.ext((Ext.refl V).drew.trans x)).ri ok1,(hV.1.ext((Ext.refl V).drew.trans x)).rm ok1,(hV.2.2.1.ext((Ext.refl V).drew.trans x)).cell hd33.out⟩
       have HD2:Hid(Sq V.drew g 114 t1.s kp q∧SK V.drew kp mb t1.L t1.puts∧Cb V.drew r 47 HD∧Ot(P3 g kp mb)w V.drew):=⟨hV.1.ext(Ext.refl V).drew,hV.2.1.ext(Ext.refl V).drew,hV.2.2.1.ext(Ext.refl V).drew,hV.2.2.2.drew⟩
       clear hV HV f1 f2 f3
       have SK1:=hd(SKP.out V.drew t1 n HD2.out.1 HD2.out.2.1 ok1 l81(by omega)hn HD2.out.2.2.2)
       obtain⟨ri1,hri1⟩:∃x,x=t1.s.ri:=⟨_,rfl⟩
       rw [← hri1] at FF B1 B2 B3
       rcases ri1 with _ |_
       ·have q1:=hd(T1.out _(B1(.inl rfl))(by show(5:Int)≠0;decide))
        clear B1 B2 B3 T1 T2 SK1 hri1
        refine qgE [0,1,2,3,4,5,6,7,8,9,10,11,12,13,14,15] [] ?_
        repeat((first |refine qR _(fun w' e=>FF.out w' e)?_ |refine qS ?_);go_frame)
        refine jp ?_
        generalize V.drew=U at *
        clear FF
        go_wp2_with fail
        go_ret2
        exact⟨none,0,0,by rw [q1.out];rfl,by rw [q1.out];exact Own.nil _ _,by rw [q1.out];exact HD2.out.1,by rw [q1.out];exact HD2.out.2.1,HD2.out.2.2.2⟩
       by_cases hlt:n < t1.s.rm
       ·have d1:decide(n < t1.s.rm)=true:=decide_eq_true hlt
        have q1:=hd(T1.out _(B1(.inr hlt))(by show(5:Int)≠0;decide))
        clear B1 B2 B3 T1 T2 SK1 hri1
        refine qgE [0,1,2,3,4,5,6,7,8,9,10,11,12,13,14,15] [] ?_
        repeat((first |refine qR _(fun w' e=>FF.out w' e)?_ |refine qS ?_);go_frame)
        refine jp ?_
        generalize V.drew=U at *
        clear FF
        go_wp2_with fail
        go_ret2
        exact⟨none,0,0,by rw [q1.out];rfl,by rw [q1.out];exact Own.nil _ _,by rw [q1.out];exact HD2.out.1,by rw [q1.out];exact HD2.out.2.1,HD2.out.2.2.2⟩
       have d1:decide(n < t1.s.rm)=false:=decide_eq_false hlt
       have nB: ¬(true=false∨n < t1.s.rm):=fun z=>by rcases z with z |z;exact absurd z(by decide);exact hlt z
       replace B2:=hd(B2 nB)
       replace B3:=hd(B3 nB)
       clear B1 hri1 nB
       refine qgE [0,1,2,3,4,5,6,7,8,9,10,11,12,13,14,15] [] ?_
       repeat((first |refine qR _(fun w' e=>FF.out w' e)?_ |refine qS ?_);go_frame)
       refine jp ?_
       generalize V.drew=U at *
       have f3:=(FF.out U(Ext.refl _)).2.2
       clear FF d1
       go_wp2_with fail
       refine SK1.out.mono ?_
       rintro e u2⟨rfl,hS2,hK2,hO2⟩
       have hO3:=HD2.out.2.2.2.trans hO2
       have k62:=HD2.out.2.2.1.ot hO2(by unfold P3;omega)
       clear SK1 f3 HD2 hO2
       obtain⟨se,hse⟩:∃x,x=qN t1.s n:=⟨_,rfl⟩
       rw [← hse] at B2 B3 ⊢
       by_cases he:se=0
       ·have q1:=hd(T2.out _(B3.out he)rfl)
        have ok2:=Rt.ok_skip(t:=t1)ok1 hn
        have ST1:=hd(STP.out u2 _ hS2 ok2 hO3)
        have LKm:(jM(jX t1 n).s.rc qd).length=32:=keyL_len _ _
        have OK1:Hid(opK t1 n=jM(jX t1 n).s.rc qd):=rfl
        subst he
        clear B2 B3 T1 T2 hse
        obtain⟨mk,hmk⟩:∃x,x=jM(jX t1 n).s.rc qd:=⟨_,rfl⟩
        rw [← hmk] at ST1 LKm OK1
        replace hmk:=hd hmk
        replace hK2:=hd hK2
        replace hO3:=hd hO3
        clear hS2 k62
        go_wp2_with fail
        refine ST1.out.mono ?_
        rintro e u3⟨rfl,hS3,gr3⟩
        have hO4:=hO3.out.trans(Ot.of_grown gr3(.inl rfl))
        have hK3:=hK2.out.stay(gr3.block _ hK2.out.cb.lt(fun z=>nk(Option.some.inj z).symm))(gr3.block _ hK2.out.mp.lt(fun z=>nm(Option.some.inj z).symm))
        have OP:=hd(OPN.out u3 mk LKm hO4)
        replace hS3:=hd hS3
        replace hK3:=hd hK3
        replace hO4:=hd hO4
        clear ST1 hK2 hO3 gr3
        go_wp2_with fail
        refine OP.out.mono ?_
        rintro e u4⟨A5,n5,c5,rfl,o5,x5⟩
        replace o5:=hd(o5.lower hO4.out.size)
        have F:=hd(And.intro(hS3.out.ext x5)(And.intro(hK3.out.ext x5)(hO4.out.trans(Ot.of_ext x5))))
        clear OP hS3 hK3 hO4 x5
        go_wp2_with fail
        go_ret2
        exact⟨A5,n5,c5,by rw [q1.out,OK1.out];rfl,by rw [q1.out,OK1.out];exact o5.out,by rw [q1.out];exact F.out.1,by rw [q1.out];exact F.out.2.1,F.out.2.2⟩
       ·have q1:=hd(T1.out _(B2.out he)he)
        have hbn:(se !=0)=true:=bne_iff_ne.2 he
        have es:jX t1 n=t1:=(yt t1 n).1(by rw [← hse];exact he)
        rw [es] at hS2 hK2
        have F:=hd(And.intro hS2(And.intro hK2 hO3))
        clear B2 B3 T1 T2 hS2 hK2 hO3 k62 es hse
        go_wp2_with fail
        go_ret2
        exact⟨none,0,0,by rw [q1.out];rfl,by rw [q1.out];exact Own.nil _ _,by rw [q1.out];exact F.out.1,by rw [q1.out];exact F.out.2.1,F.out.2.2⟩
      ·have q1:=hd(E2.out(by rw [HA.out];exact he))
       rw [HA.out] at q1
       have hbn:(fe !=0)=true:=bne_iff_ne.2 he
       have F:=hd(And.intro hS2(And.intro hK2 hO2))
       clear hS2 hK2 k62 hO2 E2 E3 HA hfe
       go_wp2_with fail
       go_ret2
       exact⟨none,0,0,by rw [q1.out];rfl,by rw [q1.out];exact Own.nil _ _,by rw [q1.out];exact F.out.1,by rw [q1.out];exact F.out.2.1,F.out.2.2⟩
     ·have d2:decide(t.s.rm < prev)=false:=decide_eq_false(fun z=>hc⟨rfl,z⟩)
      clear hc hrib
      refine qgE [0,1,2,3,4,5,6,7,8,9,10,11,12,13,14] [] ?_
      repeat((first |refine qR _(fun w' e=>FG.out w' e)?_ |refine qS ?_);go_frame)
      refine jp ?_
      generalize V.drew=V at *
      clear FG d2
      go_upto_region 10 with fail
      generalize opA t pk prev=oa at HA E2 E3
      generalize ht2:t=t2 at HA HV ok2 l82 hp2
      have f0:Hid(∀j v,(cellsOf pk)[j]? =some v→V.cell?⟨r,0+j,none⟩=some v):=HV.out.2.2.1.mid(hd0.out())rfl
      have FO:=hd(FOL.out V t2.s HV.out.1 ok2 HV.out.2.2.2)
      clear FOL
      go_wp2_with(first |((with_reducible refine jI(o:=⟨some 75,_,_,_,_,_⟩)(ty:=23)(g:=r)(off:=0)(ys:=cellsOf pk)?_ rfl ?_ ?_ Tryz.underlying23 ?_ ?_ ?_);(·rfl);(·rfl);(·exact f0.out);(·rfl);(·rw [C_pk];rfl);go_frame))
      refine FO.out.mono ?_
      rintro e V2⟨rfl,hS2,gr2⟩
      have hK2:=HV.out.2.1.stay(gr2.block _ HV.out.2.1.cb.lt(fun z=>nk(Option.some.inj z).symm))(gr2.block _ HV.out.2.1.mp.lt(fun z=>nm(Option.some.inj z).symm))
      have k62:=HV.out.2.2.1.ot(Ot.of_grown(p:=P3 g kp mb)gr2(.inl rfl))(by unfold P3;omega)
      have hO2:=HV.out.2.2.2.trans(Ot.of_grown gr2(.inl rfl))
      clear FO HV f0 gr2
      obtain⟨fe,hfe⟩:∃x,x=YG t2.s pk:=⟨_,rfl⟩
      rw [← hfe] at HA ⊢
      by_cases he:fe=0
      ·have HT:=hd(E3.out(by rw [HA.out];exact he))
       rw [HA.out] at HT
       have okf:=Rt.ok_fol ok2 lp
       subst he
       obtain⟨t1,ht1⟩:∃x:Rz,x=⟨y9 t2.s pk,t2.L,t2.puts⟩ :=⟨_,rfl⟩
       rw [← ht1] at HT
       have ok1:t1.s.ok:=by rw [ht1];exact okf
       have l81:t1.L.length≤8:=by rw [ht1];exact l82
       have hp1:t1.puts≤1000000100:=by rw [ht1];exact hp2
       have HV:Hid(Sq V2 g 114 t1.s kp q∧SK V2 kp mb t1.L t1.puts∧Cb V2 r 47 HD∧Ot(P3 g kp mb)w V2):=by rw [ht1];exact⟨hS2,hK2,k62,hO2⟩
       clear hS2 hK2 k62 hO2 E2 E3 HA hfe okf ht1 ok2 l82 hp2
       go_upto_region 13 with fail
       generalize V2=V at *
       have hV:=HV.out
       obtain⟨B1,B2,B3⟩ :=Y5 t1 n
       have T1:Hid(∀x:Rz×Int,opB t1 n=x→x.2≠0→RES=(x.1, [],x.2)):=fun x e z=>by rw [HT.out];unfold zi;rw [e,if_pos z]
       have T2:Hid(∀x:Rz×Int,opB t1 n=x→x.2=0→RES=(x.1,J5(opK t1 n)data body,J4(opK t1 n)data body)):=fun x e z=>by rw [HT.out];unfold zi;rw [e,if_neg(fun q=>q z)]
       have f1:=hV.1.ri ok1
       have f2:=hV.1.rm ok1
       have f3:=hV.2.2.1.cell hd33.out
       have FF:Hid(∀u,Ext V.drew u→u.cell?⟨g,165,none⟩=some(.bool t1.s.ri)∧u.cell?⟨g,198,none⟩=some(.int .i64 t1.s.rm)∧u.cell?⟨r,33,none⟩=some(.int .i64 n)):=fun u x=>⟨(hV.1.ext((Ext.refl V).drew.trans x)).ri ok1,(hV.1.ext((Ext.refl V).drew.trans x)).rm ok1,(hV.2.2.1.ext((Ext.refl V).drew.trans x)).cell hd33.out⟩
       have HD2:Hid(Sq V.drew g 114 t1.s kp q∧SK V.drew kp mb t1.L t1.puts∧Cb V.drew r 47 HD∧Ot(P3 g kp mb)w V.drew):=⟨hV.1.ext(Ext.refl V).drew,hV.2.1.ext(Ext.refl V).drew,hV.2.2.1.ext(Ext.refl V).drew,hV.2.2.2.drew⟩
       clear hV HV f1 f2 f3
       have SK1:=hd(SKP.out V.drew t1 n HD2.out.1 HD2.out.2.1 ok1 l81(by omega)hn HD2.out.2.2.2)
       obtain⟨ri1,hri1⟩:∃x,x=t1.s.ri:=⟨_,rfl⟩
       rw [← hri1] at FF B1 B2 B3
       rcases ri1 with _ |_
       ·have q1:=hd(T1.out _(B1(.inl rfl))(by show(5:Int)≠0;decide))
        clear B1 B2 B3 T1 T2 SK1 hri1
        refine qgE [0,1,2,3,4,5,6,7,8,9,10,11,12,13,14,15] [] ?_
        repeat((first |refine qR _(fun w' e=>FF.out w' e)?_ |refine qS ?_);go_frame)
        refine jp ?_
        generalize V.drew=U at *
        clear FF
        go_wp2_with fail
        go_ret2
        exact⟨none,0,0,by rw [q1.out];rfl,by rw [q1.out];exact Own.nil _ _,by rw [q1.out];exact HD2.out.1,by rw [q1.out];exact HD2.out.2.1,HD2.out.2.2.2⟩
       by_cases hlt:n < t1.s.rm
       ·have d1:decide(n < t1.s.rm)=true:=decide_eq_true hlt
        have q1:=hd(T1.out _(B1(.inr hlt))(by show(5:Int)≠0;decide))
        clear B1 B2 B3 T1 T2 SK1 hri1
        refine qgE [0,1,2,3,4,5,6,7,8,9,10,11,12,13,14,15] [] ?_
        repeat((first |refine qR _(fun w' e=>FF.out w' e)?_ |refine qS ?_);go_frame)
        refine jp ?_
        generalize V.drew=U at *
        clear FF
        go_wp2_with fail
        go_ret2
        exact⟨none,0,0,by rw [q1.out];rfl,by rw [q1.out];exact Own.nil _ _,by rw [q1.out];exact HD2.out.1,by rw [q1.out];exact HD2.out.2.1,HD2.out.2.2.2⟩
       have d1:decide(n < t1.s.rm)=false:=decide_eq_false hlt
       have nB: ¬(true=false∨n < t1.s.rm):=fun z=>by rcases z with z |z;exact absurd z(by decide);exact hlt z
       replace B2:=hd(B2 nB)
       replace B3:=hd(B3 nB)
       clear B1 hri1 nB
       refine qgE [0,1,2,3,4,5,6,7,8,9,10,11,12,13,14,15] [] ?_
       repeat((first |refine qR _(fun w' e=>FF.out w' e)?_ |refine qS ?_);go_frame)
       refine jp ?_
       generalize V.drew=U at *
       have f3:=(FF.out U(Ext.refl _)).2.2
       clear FF d1
       go_wp2_with fail
       refine SK1.out.mono ?_
       rintro e u2⟨rfl,hS2,hK2,hO2⟩
       have hO3:=HD2.out.2.2.2.trans hO2
       have k62:=HD2.out.2.2.1.ot hO2(by unfold P3;omega)
       clear SK1 f3 HD2 hO2
       obtain⟨se,hse⟩:∃x,x=qN t1.s n:=⟨_,rfl⟩
       rw [← hse] at B2 B3 ⊢
       by_cases he:se=0
       ·have q1:=hd(T2.out _(B3.out he)rfl)
        have ok2:=Rt.ok_skip(t:=t1)ok1 hn
        have ST1:=hd(STP.out u2 _ hS2 ok2 hO3)
        have LKm:(jM(jX t1 n).s.rc qd).length=32:=keyL_len _ _
        have OK1:Hid(opK t1 n=jM(jX t1 n).s.rc qd):=rfl
        subst he
        clear B2 B3 T1 T2 hse
        obtain⟨mk,hmk⟩:∃x,x=jM(jX t1 n).s.rc qd:=⟨_,rfl⟩
        rw [← hmk] at ST1 LKm OK1
        replace hmk:=hd hmk
        replace hK2:=hd hK2
        replace hO3:=hd hO3
        clear hS2 k62
        go_wp2_with fail
        refine ST1.out.mono ?_
        rintro e u3⟨rfl,hS3,gr3⟩
        have hO4:=hO3.out.trans(Ot.of_grown gr3(.inl rfl))
        have hK3:=hK2.out.stay(gr3.block _ hK2.out.cb.lt(fun z=>nk(Option.some.inj z).symm))(gr3.block _ hK2.out.mp.lt(fun z=>nm(Option.some.inj z).symm))
        have OP:=hd(OPN.out u3 mk LKm hO4)
        replace hS3:=hd hS3
        replace hK3:=hd hK3
        replace hO4:=hd hO4
        clear ST1 hK2 hO3 gr3
        go_wp2_with fail
        refine OP.out.mono ?_
        rintro e u4⟨A5,n5,c5,rfl,o5,x5⟩
        replace o5:=hd(o5.lower hO4.out.size)
        have F:=hd(And.intro(hS3.out.ext x5)(And.intro(hK3.out.ext x5)(hO4.out.trans(Ot.of_ext x5))))
        clear OP hS3 hK3 hO4 x5
        go_wp2_with fail
        go_ret2
        exact⟨A5,n5,c5,by rw [q1.out,OK1.out];rfl,by rw [q1.out,OK1.out];exact o5.out,by rw [q1.out];exact F.out.1,by rw [q1.out];exact F.out.2.1,F.out.2.2⟩
       ·have q1:=hd(T1.out _(B2.out he)he)
        have hbn:(se !=0)=true:=bne_iff_ne.2 he
        have es:jX t1 n=t1:=(yt t1 n).1(by rw [← hse];exact he)
        rw [es] at hS2 hK2
        have F:=hd(And.intro hS2(And.intro hK2 hO3))
        clear B2 B3 T1 T2 hS2 hK2 hO3 k62 es hse
        go_wp2_with fail
        go_ret2
        exact⟨none,0,0,by rw [q1.out];rfl,by rw [q1.out];exact Own.nil _ _,by rw [q1.out];exact F.out.1,by rw [q1.out];exact F.out.2.1,F.out.2.2⟩
      ·have q1:=hd(E2.out(by rw [HA.out];exact he))
       rw [HA.out] at q1
       have hbn:(fe !=0)=true:=bne_iff_ne.2 he
       have F:=hd(And.intro hS2(And.intro hK2 hO2))
       clear hS2 hK2 k62 hO2 E2 E3 HA hfe
       go_wp2_with fail
       go_ret2
       exact⟨none,0,0,by rw [q1.out];rfl,by rw [q1.out];exact Own.nil _ _,by rw [q1.out];exact F.out.1,by rw [q1.out];exact F.out.2.1,F.out.2.2⟩
   by_cases hpk:pk=t.s.ot
   ·have hb:(!decide(pk=t.s.ot))=false:=by rw [decide_eq_true hpk];rfl
    have HT:=hd(E3.out(by rw [A1.out rfl hpk]))
    rw [A1.out rfl hpk] at HT
    replace hpk:=hd(fun _:Unit=>hpk)
    replace hb:=hd hb
    clear A1 A2 A3 A4 E2 E3 hhob
    refine qgE [0,1,2,3,4,5,6,7,8,9,10,11,12,13] [] ?_
    repeat((first |refine qR _(fun w' e=>FG.out w' e)?_ |refine qS ?_);go_frame)
    refine qV rfl(fun w'=>∀q_ v,(cellsOf pk)[q_]? =some v→w'.cell?⟨r,0+q_,none⟩=some v)(fun w' e=>(FH.out w' e).1)(.agg(cellsOf pk).toArray)(fun w' hF=>jy rfl rfl hF rfl rfl(by rw [C_pk];rfl))?_
    go_frame
    repeat((first |refine qR0 ?_ |refine qS ?_);go_frame)
    refine qV rfl(fun w'=>∀q_ v,(cellsOf t.s.ot)[q_]? =some v→w'.cell?⟨g,97+q_,none⟩=some v)(fun w' e=>(FH.out w' e).2)(.agg(cellsOf t.s.ot).toArray)(fun w' hF=>jy rfl rfl hF rfl rfl(by rw [C_ot];rfl))?_
    go_frame
    refine qV rfl(fun _=>True)(fun _ _=>trivial)(.bool false)(fun w' _=>J9 hb.out lp ok.ot rfl rfl rfl)?_
    go_frame
    repeat((first |refine qR0 ?_ |refine qS ?_);go_frame)
    refine seq_done ?_
    generalize wc.drew=V at *
    clear FG FH C_ot hb
    go_upto_region 13 with fail
    have ok1:=ok
    have l81:=l8
    have hp1:t.puts≤1000000100:=by omega
    generalize ht1:t=t1 at HT HV ok1 l81 hp1
    have hV:=HV.out
    obtain⟨B1,B2,B3⟩ :=Y5 t1 n
    have T1:Hid(∀x:Rz×Int,opB t1 n=x→x.2≠0→RES=(x.1, [],x.2)):=fun x e z=>by rw [HT.out];unfold zi;rw [e,if_pos z]
    have T2:Hid(∀x:Rz×Int,opB t1 n=x→x.2=0→RES=(x.1,J5(opK t1 n)data body,J4(opK t1 n)data body)):=fun x e z=>by rw [HT.out];unfold zi;rw [e,if_neg(fun q=>q z)]
    have f1:=hV.1.ri ok1
    have f2:=hV.1.rm ok1
    have f3:=hV.2.2.1.cell hd33.out
    have FF:Hid(∀u,Ext V.drew u→u.cell?⟨g,165,none⟩=some(.bool t1.s.ri)∧u.cell?⟨g,198,none⟩=some(.int .i64 t1.s.rm)∧u.cell?⟨r,33,none⟩=some(.int .i64 n)):=fun u x=>⟨(hV.1.ext((Ext.refl V).drew.trans x)).ri ok1,(hV.1.ext((Ext.refl V).drew.trans x)).rm ok1,(hV.2.2.1.ext((Ext.refl V).drew.trans x)).cell hd33.out⟩
    have HD2:Hid(Sq V.drew g 114 t1.s kp q∧SK V.drew kp mb t1.L t1.puts∧Cb V.drew r 47 HD∧Ot(P3 g kp mb)w V.drew):=⟨hV.1.ext(Ext.refl V).drew,hV.2.1.ext(Ext.refl V).drew,hV.2.2.1.ext(Ext.refl V).drew,hV.2.2.2.drew⟩
    clear hV HV f1 f2 f3
    have SK1:=hd(SKP.out V.drew t1 n HD2.out.1 HD2.out.2.1 ok1 l81(by omega)hn HD2.out.2.2.2)
    obtain⟨ri1,hri1⟩:∃x,x=t1.s.ri:=⟨_,rfl⟩
    rw [← hri1] at FF B1 B2 B3
    rcases ri1 with _ |_
    ·have q1:=hd(T1.out _(B1(.inl rfl))(by show(5:Int)≠0;decide))
     clear B1 B2 B3 T1 T2 SK1 hri1
     refine qgE [0,1,2,3,4,5,6,7,8,9,10,11,12,13,14,15] [] ?_
     repeat((first |refine qR _(fun w' e=>FF.out w' e)?_ |refine qS ?_);go_frame)
     refine jp ?_
     generalize V.drew=U at *
     clear FF
     go_wp2_with fail
     go_ret2
     exact⟨none,0,0,by rw [q1.out];rfl,by rw [q1.out];exact Own.nil _ _,by rw [q1.out];exact HD2.out.1,by rw [q1.out];exact HD2.out.2.1,HD2.out.2.2.2⟩
    by_cases hlt:n < t1.s.rm
    ·have d1:decide(n < t1.s.rm)=true:=decide_eq_true hlt
     have q1:=hd(T1.out _(B1(.inr hlt))(by show(5:Int)≠0;decide))
     clear B1 B2 B3 T1 T2 SK1 hri1
     refine qgE [0,1,2,3,4,5,6,7,8,9,10,11,12,13,14,15] [] ?_
     repeat((first |refine qR _(fun w' e=>FF.out w' e)?_ |refine qS ?_);go_frame)
     refine jp ?_
     generalize V.drew=U at *
     clear FF
     go_wp2_with fail
     go_ret2
     exact⟨none,0,0,by rw [q1.out];rfl,by rw [q1.out];exact Own.nil _ _,by rw [q1.out];exact HD2.out.1,by rw [q1.out];exact HD2.out.2.1,HD2.out.2.2.2⟩
    have d1:decide(n < t1.s.rm)=false:=decide_eq_false hlt
    have nB: ¬(true=false∨n < t1.s.rm):=fun z=>by rcases z with z |z;exact absurd z(by decide);exact hlt z
    replace B2:=hd(B2 nB)
    replace B3:=hd(B3 nB)
    clear B1 hri1 nB
    refine qgE [0,1,2,3,4,5,6,7,8,9,10,11,12,13,14,15] [] ?_
    repeat((first |refine qR _(fun w' e=>FF.out w' e)?_ |refine qS ?_);go_frame)
    refine seq_done ?_
    generalize V.drew=U at *
    have f3:=(FF.out U(Ext.refl _)).2.2
    clear FF d1
    go_wp2_with fail
    refine SK1.out.mono ?_
    rintro e u2⟨rfl,hS2,hK2,hO2⟩
    have hO3:=HD2.out.2.2.2.trans hO2
    have k62:=HD2.out.2.2.1.ot hO2(by unfold P3;omega)
    clear SK1 f3 HD2 hO2
    obtain⟨se,hse⟩:∃x,x=qN t1.s n:=⟨_,rfl⟩
    rw [← hse] at B2 B3 ⊢
    by_cases he:se=0
    ·have q1:=hd(T2.out _(B3.out he)rfl)
     have ok2:=Rt.ok_skip(t:=t1)ok1 hn
     have ST1:=hd(STP.out u2 _ hS2 ok2 hO3)
     have LKm:(jM(jX t1 n).s.rc qd).length=32:=jR _ _
     have OK1:Hid(opK t1 n=jM(jX t1 n).s.rc qd):=rfl
     subst he
     clear B2 B3 T1 T2 hse
     obtain⟨mk,hmk⟩:∃x,x=jM(jX t1 n).s.rc qd:=⟨_,rfl⟩
     rw [← hmk] at ST1 LKm OK1
     replace hmk:=hd hmk
     replace hK2:=hd hK2
     replace hO3:=hd hO3
     clear hS2 k62
     go_wp2_with fail
     refine ST1.out.mono ?_
     rintro e u3⟨rfl,hS3,gr3⟩
     have hO4:=hO3.out.trans(Ot.of_grown gr3(.inl rfl))
     have hK3:=hK2.out.stay(gr3.block _ hK2.out.cb.lt(fun z=>nk(Option.some.inj z).symm))(gr3.block _ hK2.out.mp.lt(fun z=>nm(Option.some.inj z).symm))
     have OP:=hd(OPN.out u3 mk LKm hO4)
     replace hS3:=hd hS3
     replace hK3:=hd hK3
     replace hO4:=hd hO4
     clear ST1 hK2 hO3 gr3
     go_wp2_with fail
     refine OP.out.mono ?_
     rintro e u4⟨A5,n5,c5,rfl,o5,x5⟩
     replace o5:=hd(o5.lower hO4.out.size)
     have F:=hd(And.intro(hS3.out.ext x5)(And.intro(hK3.out.ext x5)(hO4.out.trans(Ot.of_ext x5))))
     clear OP hS3 hK3 hO4 x5
     go_wp2_with fail
     go_ret2
     exact⟨A5,n5,c5,by rw [q1.out,OK1.out];rfl,by rw [q1.out,OK1.out];exact o5.out,by rw [q1.out];exact F.out.1,by rw [q1.out];exact F.out.2.1,F.out.2.2⟩
    ·have q1:=hd(T1.out _(B2.out he)he)
     have hbn:(se !=0)=true:=bne_iff_ne.2 he
     have es:jX t1 n=t1:=(yt t1 n).1(by rw [← hse];exact he)
     rw [es] at hS2 hK2
     have F:=hd(And.intro hS2(And.intro hK2 hO3))
     clear B2 B3 T1 T2 hS2 hK2 hO3 k62 es hse
     go_wp2_with fail
     go_ret2
     exact⟨none,0,0,by rw [q1.out];rfl,by rw [q1.out];exact Own.nil _ _,by rw [q1.out];exact F.out.1,by rw [q1.out];exact F.out.2.1,F.out.2.2⟩
   ·have hb:(!decide(pk=t.s.ot))=true:=by rw [decide_eq_false hpk];rfl
    have HN:Hid(¬(true=true∧pk=t.s.ot)):=fun z=>hpk z.2
    replace hb:=hd hb
    clear hhob hpk
    refine qgE [0,1,2,3,4,5,6,7,8,9,10,11,12,13] [] ?_
    repeat((first |refine qR _(fun w' e=>FG.out w' e)?_ |refine qS ?_);go_frame)
    refine qV rfl(fun w'=>∀q_ v,(cellsOf pk)[q_]? =some v→w'.cell?⟨r,0+q_,none⟩=some v)(fun w' e=>(FH.out w' e).1)(.agg(cellsOf pk).toArray)(fun w' hF=>jy rfl rfl hF rfl rfl(by rw [C_pk];rfl))?_
    go_frame
    repeat((first |refine qR0 ?_ |refine qS ?_);go_frame)
    refine qV rfl(fun w'=>∀q_ v,(cellsOf t.s.ot)[q_]? =some v→w'.cell?⟨g,97+q_,none⟩=some v)(fun w' e=>(FH.out w' e).2)(.agg(cellsOf t.s.ot).toArray)(fun w' hF=>jy rfl rfl hF rfl rfl(by rw [C_ot];rfl))?_
    go_frame
    refine qV rfl(fun _=>True)(fun _ _=>trivial)(.bool true)(fun w' _=>J9 hb.out lp ok.ot rfl rfl rfl)?_
    go_frame
    repeat((first |refine qR0 ?_ |refine qS ?_);go_frame)
    refine seq_done ?_
    generalize wc.drew=V at *
    clear FG FH C_ot hb
    go_upto_region 6 with fail
    have FG:Hid(∀u,Ext V.drew u→u.cell?⟨g,165,none⟩=some(.bool t.s.ri)∧u.cell?⟨g,198,none⟩=some(.int .i64 t.s.rm)∧u.cell?⟨r,32,none⟩=some(.int .i64 prev)):=fun u x=>⟨(HV.out.1.ext((Ext.refl V).drew.trans x)).ri ok,(HV.out.1.ext((Ext.refl V).drew.trans x)).rm ok,(HV.out.2.2.1.ext((Ext.refl V).drew.trans x)).cell hd32.out⟩
    replace HV:Hid(Sq V.drew g 114 t.s kp q∧SK V.drew kp mb t.L t.puts∧Cb V.drew r 47 HD∧Ot(P3 g kp mb)w V.drew):=⟨HV.out.1.ext(Ext.refl V).drew,HV.out.2.1.ext(Ext.refl V).drew,HV.out.2.2.1.ext(Ext.refl V).drew,HV.out.2.2.2.drew⟩
    by_cases hc:t.s.ri=true∧t.s.rm < prev
    ·obtain⟨hc1,hc2⟩ :=hc
     have d2:decide(t.s.rm < prev)=true:=decide_eq_true hc2
     rw [hc1] at FG
     replace A2:=hd(A2.out HN.out hc1 hc2)
     replace A3:=hd(A3.out HN.out hc1 hc2)
     have f32:Hid(V.drew.cell?⟨r,32,none⟩=some(.int .i64 prev)):=(FG.out _(Ext.refl _)).2.2
     have SK1:=hd(SKP.out V.drew t prev HV.out.1 HV.out.2.1 ok l8(by omega)hpr HV.out.2.2.2)
     clear A1 A4 hc1 hc2
     refine qgE [0,1,2,3,4,5,6,7,8,9,10,11,12,13,14] [] ?_
     repeat((first |refine qR _(fun w' e=>FG.out w' e)?_ |refine qS ?_);go_frame)
     refine jp ?_
     generalize V.drew=V at *
     have f32':=f32.out
     clear FG d2
     go_wp2_with fail
     refine SK1.out.mono ?_
     rintro e V3⟨rfl,hS3,hK3,hO3⟩
     have hO4:=HV.out.2.2.2.trans hO3
     have k63:=HV.out.2.2.1.ot hO3(by unfold P3;omega)
     clear SK1 f32 f32' HV hO3
     obtain⟨se,hse⟩:∃x,x=qN t.s prev:=⟨_,rfl⟩
     rw [← hse] at A2 A3 ⊢
     by_cases hs:se=0
     ·replace A3:=hd(A3.out hs)
      have ok2:(jX t prev).s.ok:=Rt.ok_skip ok hpr
      have l82:(jX t prev).L.length≤8:=Z5 l8
      have hp2:(jX t prev).puts≤1000000100:=by have:=(skipS_puts t prev).2;omega
      subst hs
      obtain⟨t2,ht2⟩:∃x,x=jX t prev:=⟨_,rfl⟩
      rw [← ht2] at A3 ok2 l82 hp2 hS3 hK3
      have HA:=A3
      have HV:Hid(Sq V3 g 114 t2.s kp q∧SK V3 kp mb t2.L t2.puts∧Cb V3 r 47 HD∧Ot(P3 g kp mb)w V3):=⟨hS3,hK3,k63,hO4⟩
      clear A2 A3 hS3 hK3 k63 hO4 ht2 hse
      go_upto_region 10 with fail
      generalize V3=V at *
      have f0:Hid(∀j v,(cellsOf pk)[j]? =some v→V.cell?⟨r,0+j,none⟩=some v):=HV.out.2.2.1.mid(hd0.out())rfl
      have FO:=hd(FOL.out V t2.s HV.out.1 ok2 HV.out.2.2.2)
      clear FOL
      go_wp2_with(first |((with_reducible refine jI(o:=⟨some 75,_,_,_,_,_⟩)(ty:=23)(g:=r)(off:=0)(ys:=cellsOf pk)?_ rfl ?_ ?_ Tryz.underlying23 ?_ ?_ ?_);(·rfl);(·rfl);(·exact f0.out);(·rfl);(·rw [C_pk];rfl);go_frame))
      refine FO.out.mono ?_
      rintro e V2⟨rfl,hS2,gr2⟩
      have hK2:=HV.out.2.1.stay(gr2.block _ HV.out.2.1.cb.lt(fun z=>nk(Option.some.inj z).symm))(gr2.block _ HV.out.2.1.mp.lt(fun z=>nm(Option.some.inj z).symm))
      have k62:=HV.out.2.2.1.ot(Ot.of_grown(p:=P3 g kp mb)gr2(.inl rfl))(by unfold P3;omega)
      have hO2:=HV.out.2.2.2.trans(Ot.of_grown gr2(.inl rfl))
      clear FO HV f0 gr2
      obtain⟨fe,hfe⟩:∃x,x=YG t2.s pk:=⟨_,rfl⟩
      rw [← hfe] at HA ⊢
      by_cases he:fe=0
      ·have HT:=hd(E3.out(by rw [HA.out];exact he))
       rw [HA.out] at HT
       have okf:=Rt.ok_fol ok2 lp
       subst he
       obtain⟨t1,ht1⟩:∃x:Rz,x=⟨y9 t2.s pk,t2.L,t2.puts⟩ :=⟨_,rfl⟩
       rw [← ht1] at HT
       have ok1:t1.s.ok:=by rw [ht1];exact okf
       have l81:t1.L.length≤8:=by rw [ht1];exact l82
       have hp1:t1.puts≤1000000100:=by rw [ht1];exact hp2
       have HV:Hid(Sq V2 g 114 t1.s kp q∧SK V2 kp mb t1.L t1.puts∧Cb V2 r 47 HD∧Ot(P3 g kp mb)w V2):=by rw [ht1];exact⟨hS2,hK2,k62,hO2⟩
       clear hS2 hK2 k62 hO2 E2 E3 HA hfe okf ht1 ok2 l82 hp2
       go_upto_region 13 with fail
       generalize V2=V at *
       have hV:=HV.out
       obtain⟨B1,B2,B3⟩ :=Y5 t1 n
       have T1:Hid(∀x:Rz×Int,opB t1 n=x→x.2≠0→RES=(x.1, [],x.2)):=fun x e z=>by rw [HT.out];unfold zi;rw [e,if_pos z]
       have T2:Hid(∀x:Rz×Int,opB t1 n=x→x.2=0→RES=(x.1,J5(opK t1 n)data body,J4(opK t1 n)data body)):=fun x e z=>by rw [HT.out];unfold zi;rw [e,if_neg(fun q=>q z)]
       have f1:=hV.1.ri ok1
       have f2:=hV.1.rm ok1
       have f3:=hV.2.2.1.cell hd33.out
       have FF:Hid(∀u,Ext V.drew u→u.cell?⟨g,165,none⟩=some(.bool t1.s.ri)∧u.cell?⟨g,198,none⟩=some(.int .i64 t1.s.rm)∧u.cell?⟨r,33,none⟩=some(.int .i64 n)):=fun u x=>⟨(hV.1.ext((Ext.refl V).drew.trans x)).ri ok1,(hV.1.ext((Ext.refl V).drew.trans x)).rm ok1,(hV.2.2.1.ext((Ext.refl V).drew.trans x)).cell hd33.out⟩
       have HD2:Hid(Sq V.drew g 114 t1.s kp q∧SK V.drew kp mb t1.L t1.puts∧Cb V.drew r 47 HD∧Ot(P3 g kp mb)w V.drew):=⟨hV.1.ext(Ext.refl V).drew,hV.2.1.ext(Ext.refl V).drew,hV.2.2.1.ext(Ext.refl V).drew,hV.2.2.2.drew⟩
       clear hV HV f1 f2 f3
       have SK1:=hd(SKP.out V.drew t1 n HD2.out.1 HD2.out.2.1 ok1 l81(by omega)hn HD2.out.2.2.2)
       obtain⟨ri1,hri1⟩:∃x,x=t1.s.ri:=⟨_,rfl⟩
       rw [← hri1] at FF B1 B2 B3
       rcases ri1 with _ |_
       ·have q1:=hd(T1.out _(B1(.inl rfl))(by show(5:Int)≠0;decide))
        clear B1 B2 B3 T1 T2 SK1 hri1
        refine qgE [0,1,2,3,4,5,6,7,8,9,10,11,12,13,14,15] [] ?_
        repeat((first |refine qR _(fun w' e=>FF.out w' e)?_ |refine qS ?_);go_frame)
        refine jp ?_
        generalize V.drew=U at *
        clear FF
        go_wp2_with fail
        go_ret2
        exact⟨none,0,0,by rw [q1.out];rfl,by rw [q1.out];exact Own.nil _ _,by rw [q1.out];exact HD2.out.1,by rw [q1.out];exact HD2.out.2.1,HD2.out.2.2.2⟩
       by_cases hlt:n < t1.s.rm
       ·have d1:decide(n < t1.s.rm)=true:=decide_eq_true hlt
        have q1:=hd(T1.out _(B1(.inr hlt))(by show(5:Int)≠0;decide))
        clear B1 B2 B3 T1 T2 SK1 hri1
        refine qgE [0,1,2,3,4,5,6,7,8,9,10,11,12,13,14,15] [] ?_
        repeat((first |refine qR _(fun w' e=>FF.out w' e)?_ |refine qS ?_);go_frame)
        refine jp ?_
        generalize V.drew=U at *
        clear FF
        go_wp2_with fail
        go_ret2
        exact⟨none,0,0,by rw [q1.out];rfl,by rw [q1.out];exact Own.nil _ _,by rw [q1.out];exact HD2.out.1,by rw [q1.out];exact HD2.out.2.1,HD2.out.2.2.2⟩
       have d1:decide(n < t1.s.rm)=false:=decide_eq_false hlt
       have nB: ¬(true=false∨n < t1.s.rm):=fun z=>by rcases z with z |z;exact absurd z(by decide);exact hlt z
       replace B2:=hd(B2 nB)
       replace B3:=hd(B3 nB)
       clear B1 hri1 nB
       refine qgE [0,1,2,3,4,5,6,7,8,9,10,11,12,13,14,15] [] ?_
       repeat((first |refine qR _(fun w' e=>FF.out w' e)?_ |refine qS ?_);go_frame)
       refine jp ?_
       generalize V.drew=U at *
       have f3:=(FF.out U(Ext.refl _)).2.2
       clear FF d1
       go_wp2_with fail
       refine SK1.out.mono ?_
       rintro e u2⟨rfl,hS2,hK2,hO2⟩
       have hO3:=HD2.out.2.2.2.trans hO2
       have k62:=HD2.out.2.2.1.ot hO2(by unfold P3;omega)
       clear SK1 f3 HD2 hO2
       obtain⟨se,hse⟩:∃x,x=qN t1.s n:=⟨_,rfl⟩
       rw [← hse] at B2 B3 ⊢
       by_cases he:se=0
       ·have q1:=hd(T2.out _(B3.out he)rfl)
        have ok2:=Rt.ok_skip(t:=t1)ok1 hn
        have ST1:=hd(STP.out u2 _ hS2 ok2 hO3)
        have LKm:(jM(jX t1 n).s.rc qd).length=32:=keyL_len _ _
        have OK1:Hid(opK t1 n=jM(jX t1 n).s.rc qd):=rfl
        subst he
        clear B2 B3 T1 T2 hse
        obtain⟨mk,hmk⟩:∃x,x=jM(jX t1 n).s.rc qd:=⟨_,rfl⟩
        rw [← hmk] at ST1 LKm OK1
        replace hmk:=hd hmk
        replace hK2:=hd hK2
        replace hO3:=hd hO3
        clear hS2 k62
        go_wp2_with fail
        refine ST1.out.mono ?_
        rintro e u3⟨rfl,hS3,gr3⟩
        have hO4:=hO3.out.trans(Ot.of_grown gr3(.inl rfl))
        have hK3:=hK2.out.stay(gr3.block _ hK2.out.cb.lt(fun z=>nk(Option.some.inj z).symm))(gr3.block _ hK2.out.mp.lt(fun z=>nm(Option.some.inj z).symm))
        have OP:=hd(OPN.out u3 mk LKm hO4)
        replace hS3:=hd hS3
        replace hK3:=hd hK3
        replace hO4:=hd hO4
        clear ST1 hK2 hO3 gr3
        go_wp2_with fail
        refine OP.out.mono ?_
        rintro e u4⟨A5,n5,c5,rfl,o5,x5⟩
        replace o5:=hd(o5.lower hO4.out.size)
        have F:=hd(And.intro(hS3.out.ext x5)(And.intro(hK3.out.ext x5)(hO4.out.trans(Ot.of_ext x5))))
        clear OP hS3 hK3 hO4 x5
        go_wp2_with fail
        go_ret2
        exact⟨A5,n5,c5,by rw [q1.out,OK1.out];rfl,by rw [q1.out,OK1.out];exact o5.out,by rw [q1.out];exact F.out.1,by rw [q1.out];exact F.out.2.1,F.out.2.2⟩
       ·have q1:=hd(T1.out _(B2.out he)he)
        have hbn:(se !=0)=true:=bne_iff_ne.2 he
        have es:jX t1 n=t1:=(yt t1 n).1(by rw [← hse];exact he)
        rw [es] at hS2 hK2
        have F:=hd(And.intro hS2(And.intro hK2 hO3))
        clear B2 B3 T1 T2 hS2 hK2 hO3 k62 es hse
        go_wp2_with fail
        go_ret2
        exact⟨none,0,0,by rw [q1.out];rfl,by rw [q1.out];exact Own.nil _ _,by rw [q1.out];exact F.out.1,by rw [q1.out];exact F.out.2.1,F.out.2.2⟩
      ·have q1:=hd(E2.out(by rw [HA.out];exact he))
       rw [HA.out] at q1
       have hbn:(fe !=0)=true:=bne_iff_ne.2 he
       have F:=hd(And.intro hS2(And.intro hK2 hO2))
       clear hS2 hK2 k62 hO2 E2 E3 HA hfe
       go_wp2_with fail
       go_ret2
       exact⟨none,0,0,by rw [q1.out];rfl,by rw [q1.out];exact Own.nil _ _,by rw [q1.out];exact F.out.1,by rw [q1.out];exact F.out.2.1,F.out.2.2⟩
     ·have q1:=hd(E2.out(by rw [A2.out hs];exact hs))
      rw [A2.out hs] at q1
      have hbn:(se !=0)=true:=bne_iff_ne.2 hs
      have es:jX t prev=t:=(yt t prev).1(by rw [← hse];exact hs)
      rw [es] at hS3 hK3
      have F:=hd(And.intro hS3(And.intro hK3 hO4))
      clear hS3 hK3 hO4 k63 E2 E3 A2 A3 es hse
      go_wp2_with fail
      go_ret2
      exact⟨none,0,0,by rw [q1.out];rfl,by rw [q1.out];exact Own.nil _ _,by rw [q1.out];exact F.out.1,by rw [q1.out];exact F.out.2.1,F.out.2.2⟩
    ·have HA:=hd(A4.out HN.out hc)
     have ok2:=ok
     have l82:=l8
     have hp2:t.puts≤1000000100:=by omega
     clear A1 A2 A3 A4
     obtain⟨rib,hrib⟩:∃x,x=t.s.ri:=⟨_,rfl⟩
     rw [← hrib] at FG hc
     rcases rib with _ |_
     ·clear hc hrib
      refine qgE [0,1,2,3,4,5,6,7,8,9,10,11,12,13,14] [] ?_
      repeat((first |refine qR _(fun w' e=>FG.out w' e)?_ |refine qS ?_);go_frame)
      refine jp ?_
      generalize V.drew=V at *
      clear FG
      go_upto_region 10 with fail
      generalize opA t pk prev=oa at HA E2 E3
      generalize ht2:t=t2 at HA HV ok2 l82 hp2
      have f0:Hid(∀j v,(cellsOf pk)[j]? =some v→V.cell?⟨r,0+j,none⟩=some v):=HV.out.2.2.1.mid(hd0.out())rfl
      have FO:=hd(FOL.out V t2.s HV.out.1 ok2 HV.out.2.2.2)
      clear FOL
      go_wp2_with(first |((with_reducible refine jI(o:=⟨some 75,_,_,_,_,_⟩)(ty:=23)(g:=r)(off:=0)(ys:=cellsOf pk)?_ rfl ?_ ?_ Tryz.underlying23 ?_ ?_ ?_);(·rfl);(·rfl);(·exact f0.out);(·rfl);(·rw [C_pk];rfl);go_frame))
      refine FO.out.mono ?_
      rintro e V2⟨rfl,hS2,gr2⟩
      have hK2:=HV.out.2.1.stay(gr2.block _ HV.out.2.1.cb.lt(fun z=>nk(Option.some.inj z).symm))(gr2.block _ HV.out.2.1.mp.lt(fun z=>nm(Option.some.inj z).symm))
      have k62:=HV.out.2.2.1.ot(Ot.of_grown(p:=P3 g kp mb)gr2(.inl rfl))(by unfold P3;omega)
      have hO2:=HV.out.2.2.2.trans(Ot.of_grown gr2(.inl rfl))
      clear FO HV f0 gr2
      obtain⟨fe,hfe⟩:∃x,x=YG t2.s pk:=⟨_,rfl⟩
      rw [← hfe] at HA ⊢
      by_cases he:fe=0
      ·have HT:=hd(E3.out(by rw [HA.out];exact he))
       rw [HA.out] at HT
       have okf:=Rt.ok_fol ok2 lp
       subst he
       obtain⟨t1,ht1⟩:∃x:Rz,x=⟨y9 t2.s pk,t2.L,t2.puts⟩ :=⟨_,rfl⟩
       rw [← ht1] at HT
       have ok1:t1.s.ok:=by rw [ht1];exact okf
       have l81:t1.L.length≤8:=by rw [ht1];exact l82
       have hp1:t1.puts≤1000000100:=by rw [ht1];exact hp2
       have HV:Hid(Sq V2 g 114 t1.s kp q∧SK V2 kp mb t1.L t1.puts∧Cb V2 r 47 HD∧Ot(P3 g kp mb)w V2):=by rw [ht1];exact⟨hS2,hK2,k62,hO2⟩
       clear hS2 hK2 k62 hO2 E2 E3 HA hfe okf ht1 ok2 l82 hp2
       go_upto_region 13 with fail
       generalize V2=V at *
       have hV:=HV.out
       obtain⟨B1,B2,B3⟩ :=Y5 t1 n
       have T1:Hid(∀x:Rz×Int,opB t1 n=x→x.2≠0→RES=(x.1, [],x.2)):=fun x e z=>by rw [HT.out];unfold zi;rw [e,if_pos z]
       have T2:Hid(∀x:Rz×Int,opB t1 n=x→x.2=0→RES=(x.1,J5(opK t1 n)data body,J4(opK t1 n)data body)):=fun x e z=>by rw [HT.out];unfold zi;rw [e,if_neg(fun q=>q z)]
       have f1:=hV.1.ri ok1
       have f2:=hV.1.rm ok1
       have f3:=hV.2.2.1.cell hd33.out
       have FF:Hid(∀u,Ext V.drew u→u.cell?⟨g,165,none⟩=some(.bool t1.s.ri)∧u.cell?⟨g,198,none⟩=some(.int .i64 t1.s.rm)∧u.cell?⟨r,33,none⟩=some(.int .i64 n)):=fun u x=>⟨(hV.1.ext((Ext.refl V).drew.trans x)).ri ok1,(hV.1.ext((Ext.refl V).drew.trans x)).rm ok1,(hV.2.2.1.ext((Ext.refl V).drew.trans x)).cell hd33.out⟩
       have HD2:Hid(Sq V.drew g 114 t1.s kp q∧SK V.drew kp mb t1.L t1.puts∧Cb V.drew r 47 HD∧Ot(P3 g kp mb)w V.drew):=⟨hV.1.ext(Ext.refl V).drew,hV.2.1.ext(Ext.refl V).drew,hV.2.2.1.ext(Ext.refl V).drew,hV.2.2.2.drew⟩
       clear hV HV f1 f2 f3
       have SK1:=hd(SKP.out V.drew t1 n HD2.out.1 HD2.out.2.1 ok1 l81(by omega)hn HD2.out.2.2.2)
       obtain⟨ri1,hri1⟩:∃x,x=t1.s.ri:=⟨_,rfl⟩
       rw [← hri1] at FF B1 B2 B3
       rcases ri1 with _ |_
       ·have q1:=hd(T1.out _(B1(.inl rfl))(by show(5:Int)≠0;decide))
        clear B1 B2 B3 T1 T2 SK1 hri1
        refine qgE [0,1,2,3,4,5,6,7,8,9,10,11,12,13,14,15] [] ?_
        repeat((first |refine qR _(fun w' e=>FF.out w' e)?_ |refine qS ?_);go_frame)
        refine jp ?_
        generalize V.drew=U at *
        clear FF
        go_wp2_with fail
        go_ret2
        exact⟨none,0,0,by rw [q1.out];rfl,by rw [q1.out];exact Own.nil _ _,by rw [q1.out];exact HD2.out.1,by rw [q1.out];exact HD2.out.2.1,HD2.out.2.2.2⟩
       by_cases hlt:n < t1.s.rm
       ·have d1:decide(n < t1.s.rm)=true:=decide_eq_true hlt
        have q1:=hd(T1.out _(B1(.inr hlt))(by show(5:Int)≠0;decide))
        clear B1 B2 B3 T1 T2 SK1 hri1
        refine qgE [0,1,2,3,4,5,6,7,8,9,10,11,12,13,14,15] [] ?_
        repeat((first |refine qR _(fun w' e=>FF.out w' e)?_ |refine qS ?_);go_frame)
        refine jp ?_
        generalize V.drew=U at *
        clear FF
        go_wp2_with fail
        go_ret2
        exact⟨none,0,0,by rw [q1.out];rfl,by rw [q1.out];exact Own.nil _ _,by rw [q1.out];exact HD2.out.1,by rw [q1.out];exact HD2.out.2.1,HD2.out.2.2.2⟩
       have d1:decide(n < t1.s.rm)=false:=decide_eq_false hlt
       have nB: ¬(true=false∨n < t1.s.rm):=fun z=>by rcases z with z |z;exact absurd z(by decide);exact hlt z
       replace B2:=hd(B2 nB)
       replace B3:=hd(B3 nB)
       clear B1 hri1 nB
       refine qgE [0,1,2,3,4,5,6,7,8,9,10,11,12,13,14,15] [] ?_
       repeat((first |refine qR _(fun w' e=>FF.out w' e)?_ |refine qS ?_);go_frame)
       refine jp ?_
       generalize V.drew=U at *
       have f3:=(FF.out U(Ext.refl _)).2.2
       clear FF d1
       go_wp2_with fail
       refine SK1.out.mono ?_
       rintro e u2⟨rfl,hS2,hK2,hO2⟩
       have hO3:=HD2.out.2.2.2.trans hO2
       have k62:=HD2.out.2.2.1.ot hO2(by unfold P3;omega)
       clear SK1 f3 HD2 hO2
       obtain⟨se,hse⟩:∃x,x=qN t1.s n:=⟨_,rfl⟩
       rw [← hse] at B2 B3 ⊢
       by_cases he:se=0
       ·have q1:=hd(T2.out _(B3.out he)rfl)
        have ok2:=Rt.ok_skip(t:=t1)ok1 hn
        have ST1:=hd(STP.out u2 _ hS2 ok2 hO3)
        have LKm:(jM(jX t1 n).s.rc qd).length=32:=keyL_len _ _
        have OK1:Hid(opK t1 n=jM(jX t1 n).s.rc qd):=rfl
        subst he
        clear B2 B3 T1 T2 hse
        obtain⟨mk,hmk⟩:∃x,x=jM(jX t1 n).s.rc qd:=⟨_,rfl⟩
        rw [← hmk] at ST1 LKm OK1
        replace hmk:=hd hmk
        replace hK2:=hd hK2
        replace hO3:=hd hO3
        clear hS2 k62
        go_wp2_with fail
        refine ST1.out.mono ?_
        rintro e u3⟨rfl,hS3,gr3⟩
        have hO4:=hO3.out.trans(Ot.of_grown gr3(.inl rfl))
        have hK3:=hK2.out.stay(gr3.block _ hK2.out.cb.lt(fun z=>nk(Option.some.inj z).symm))(gr3.block _ hK2.out.mp.lt(fun z=>nm(Option.some.inj z).symm))
        have OP:=hd(OPN.out u3 mk LKm hO4)
        replace hS3:=hd hS3
        replace hK3:=hd hK3
        replace hO4:=hd hO4
        clear ST1 hK2 hO3 gr3
        go_wp2_with fail
        refine OP.out.mono ?_
        rintro e u4⟨A5,n5,c5,rfl,o5,x5⟩
        replace o5:=hd(o5.lower hO4.out.size)
        have F:=hd(And.intro(hS3.out.ext x5)(And.intro(hK3.out.ext x5)(hO4.out.trans(Ot.of_ext x5))))
        clear OP hS3 hK3 hO4 x5
        go_wp2_with fail
        go_ret2
        exact⟨A5,n5,c5,by rw [q1.out,OK1.out];rfl,by rw [q1.out,OK1.out];exact o5.out,by rw [q1.out];exact F.out.1,by rw [q1.out];exact F.out.2.1,F.out.2.2⟩
       ·have q1:=hd(T1.out _(B2.out he)he)
        have hbn:(se !=0)=true:=bne_iff_ne.2 he
        have es:jX t1 n=t1:=(yt t1 n).1(by rw [← hse];exact he)
        rw [es] at hS2 hK2
        have F:=hd(And.intro hS2(And.intro hK2 hO3))
        clear B2 B3 T1 T2 hS2 hK2 hO3 k62 es hse
        go_wp2_with fail
        go_ret2
        exact⟨none,0,0,by rw [q1.out];rfl,by rw [q1.out];exact Own.nil _ _,by rw [q1.out];exact F.out.1,by rw [q1.out];exact F.out.2.1,F.out.2.2⟩
      ·have q1:=hd(E2.out(by rw [HA.out];exact he))
       rw [HA.out] at q1
       have hbn:(fe !=0)=true:=bne_iff_ne.2 he
       have F:=hd(And.intro hS2(And.intro hK2 hO2))
       clear hS2 hK2 k62 hO2 E2 E3 HA hfe
       go_wp2_with fail
       go_ret2
       exact⟨none,0,0,by rw [q1.out];rfl,by rw [q1.out];exact Own.nil _ _,by rw [q1.out];exact F.out.1,by rw [q1.out];exact F.out.2.1,F.out.2.2⟩
     ·have d2:decide(t.s.rm < prev)=false:=decide_eq_false(fun z=>hc⟨rfl,z⟩)
      clear hc hrib
      refine qgE [0,1,2,3,4,5,6,7,8,9,10,11,12,13,14] [] ?_
      repeat((first |refine qR _(fun w' e=>FG.out w' e)?_ |refine qS ?_);go_frame)
      refine jp ?_
      generalize V.drew=V at *
      clear FG d2
      go_upto_region 10 with fail
      generalize opA t pk prev=oa at HA E2 E3
      generalize ht2:t=t2 at HA HV ok2 l82 hp2
      have f0:Hid(∀j v,(cellsOf pk)[j]? =some v→V.cell?⟨r,0+j,none⟩=some v):=HV.out.2.2.1.mid(hd0.out())rfl
      have FO:=hd(FOL.out V t2.s HV.out.1 ok2 HV.out.2.2.2)
      clear FOL
      go_wp2_with(first |((with_reducible refine jI(o:=⟨some 75,_,_,_,_,_⟩)(ty:=23)(g:=r)(off:=0)(ys:=cellsOf pk)?_ rfl ?_ ?_ Tryz.underlying23 ?_ ?_ ?_);(·rfl);(·rfl);(·exact f0.out);(·rfl);(·rw [C_pk];rfl);go_frame))
      refine FO.out.mono ?_
      rintro e V2⟨rfl,hS2,gr2⟩
      have hK2:=HV.out.2.1.stay(gr2.block _ HV.out.2.1.cb.lt(fun z=>nk(Option.some.inj z).symm))(gr2.block _ HV.out.2.1.mp.lt(fun z=>nm(Option.some.inj z).symm))
      have k62:=HV.out.2.2.1.ot(Ot.of_grown(p:=P3 g kp mb)gr2(.inl rfl))(by unfold P3;omega)
      have hO2:=HV.out.2.2.2.trans(Ot.of_grown gr2(.inl rfl))
      clear FO HV f0 gr2
      obtain⟨fe,hfe⟩:∃x,x=YG t2.s pk:=⟨_,rfl⟩
      rw [← hfe] at HA ⊢
      by_cases he:fe=0
      ·have HT:=hd(E3.out(by rw [HA.out];exact he))
       rw [HA.out] at HT
       have okf:=Rt.ok_fol ok2 lp
       subst he
       obtain⟨t1,ht1⟩:∃x:Rz,x=⟨y9 t2.s pk,t2.L,t2.puts⟩ :=⟨_,rfl⟩
       rw [← ht1] at HT
       have ok1:t1.s.ok:=by rw [ht1];exact okf
       have l81:t1.L.length≤8:=by rw [ht1];exact l82
       have hp1:t1.puts≤1000000100:=by rw [ht1];exact hp2
       have HV:Hid(Sq V2 g 114 t1.s kp q∧SK V2 kp mb t1.L t1.puts∧Cb V2 r 47 HD∧Ot(P3 g kp mb)w V2):=by rw [ht1];exact⟨hS2,hK2,k62,hO2⟩
       clear hS2 hK2 k62 hO2 E2 E3 HA hfe okf ht1 ok2 l82 hp2
       go_upto_region 13 with fail
       generalize V2=V at *
       have hV:=HV.out
       obtain⟨B1,B2,B3⟩ :=Y5 t1 n
       have T1:Hid(∀x:Rz×Int,opB t1 n=x→x.2≠0→RES=(x.1, [],x.2)):=fun x e z=>by rw [HT.out];unfold zi;rw [e,if_pos z]
       have T2:Hid(∀x:Rz×Int,opB t1 n=x→x.2=0→RES=(x.1,J5(opK t1 n)data body,J4(opK t1 n)data body)):=fun x e z=>by rw [HT.out];unfold zi;rw [e,if_neg(fun q=>q z)]
       have f1:=hV.1.ri ok1
       have f2:=hV.1.rm ok1
       have f3:=hV.2.2.1.cell hd33.out
       have FF:Hid(∀u,Ext V.drew u→u.cell?⟨g,165,none⟩=some(.bool t1.s.ri)∧u.cell?⟨g,198,none⟩=some(.int .i64 t1.s.rm)∧u.cell?⟨r,33,none⟩=some(.int .i64 n)):=fun u x=>⟨(hV.1.ext((Ext.refl V).drew.trans x)).ri ok1,(hV.1.ext((Ext.refl V).drew.trans x)).rm ok1,(hV.2.2.1.ext((Ext.refl V).drew.trans x)).cell hd33.out⟩
       have HD2:Hid(Sq V.drew g 114 t1.s kp q∧SK V.drew kp mb t1.L t1.puts∧Cb V.drew r 47 HD∧Ot(P3 g kp mb)w V.drew):=⟨hV.1.ext(Ext.refl V).drew,hV.2.1.ext(Ext.refl V).drew,hV.2.2.1.ext(Ext.refl V).drew,hV.2.2.2.drew⟩
       clear hV HV f1 f2 f3
       have SK1:=hd(SKP.out V.drew t1 n HD2.out.1 HD2.out.2.1 ok1 l81(by omega)hn HD2.out.2.2.2)
       obtain⟨ri1,hri1⟩:∃x,x=t1.s.ri:=⟨_,rfl⟩
       rw [← hri1] at FF B1 B2 B3
       rcases ri1 with _ |_
       ·have q1:=hd(T1.out _(B1(.inl rfl))(by show(5:Int)≠0;decide))
        clear B1 B2 B3 T1 T2 SK1 hri1
        refine qgE [0,1,2,3,4,5,6,7,8,9,10,11,12,13,14,15] [] ?_
        repeat((first |refine qR _(fun w' e=>FF.out w' e)?_ |refine qS ?_);go_frame)
        refine jp ?_
        generalize V.drew=U at *
        clear FF
        go_wp2_with fail
        go_ret2
        exact⟨none,0,0,by rw [q1.out];rfl,by rw [q1.out];exact Own.nil _ _,by rw [q1.out];exact HD2.out.1,by rw [q1.out];exact HD2.out.2.1,HD2.out.2.2.2⟩
       by_cases hlt:n < t1.s.rm
       ·have d1:decide(n < t1.s.rm)=true:=decide_eq_true hlt
        have q1:=hd(T1.out _(B1(.inr hlt))(by show(5:Int)≠0;decide))
        clear B1 B2 B3 T1 T2 SK1 hri1
        refine qgE [0,1,2,3,4,5,6,7,8,9,10,11,12,13,14,15] [] ?_
        repeat((first |refine qR _(fun w' e=>FF.out w' e)?_ |refine qS ?_);go_frame)
        refine jp ?_
        generalize V.drew=U at *
        clear FF
        go_wp2_with fail
        go_ret2
        exact⟨none,0,0,by rw [q1.out];rfl,by rw [q1.out];exact Own.nil _ _,by rw [q1.out];exact HD2.out.1,by rw [q1.out];exact HD2.out.2.1,HD2.out.2.2.2⟩
       have d1:decide(n < t1.s.rm)=false:=decide_eq_false hlt
       have nB: ¬(true=false∨n < t1.s.rm):=fun z=>by rcases z with z |z;exact absurd z(by decide);exact hlt z
       replace B2:=hd(B2 nB)
       replace B3:=hd(B3 nB)
       clear B1 hri1 nB
       refine qgE [0,1,2,3,4,5,6,7,8,9,10,11,12,13,14,15] [] ?_
       repeat((first |refine qR _(fun w' e=>FF.out w' e)?_ |refine qS ?_);go_frame)
       refine jp ?_
       generalize V.drew=U at *
       have f3:=(FF.out U(Ext.refl _)).2.2
       clear FF d1
       go_wp2_with fail
       refine SK1.out.mono ?_
       rintro e u2⟨rfl,hS2,hK2,hO2⟩
       have hO3:=HD2.out.2.2.2.trans hO2
       have k62:=HD2.out.2.2.1.ot hO2(by unfold P3;omega)
       clear SK1 f3 HD2 hO2
       obtain⟨se,hse⟩:∃x,x=qN t1.s n:=⟨_,rfl⟩
       rw [← hse] at B2 B3 ⊢
       by_cases he:se=0
       ·have q1:=hd(T2.out _(B3.out he)rfl)
        have ok2:=Rt.ok_skip(t:=t1)ok1 hn
        have ST1:=hd(STP.out u2 _ hS2 ok2 hO3)
        have LKm:(jM(jX t1 n).s.rc qd).length=32:=keyL_len _ _
        have OK1:Hid(opK t1 n=jM(jX t1 n).s.rc qd):=rfl
        subst he
        clear B2 B3 T1 T2 hse
        obtain⟨mk,hmk⟩:∃x,x=jM(jX t1 n).s.rc qd:=⟨_,rfl⟩
        rw [← hmk] at ST1 LKm OK1
        replace hmk:=hd hmk
        replace hK2:=hd hK2
        replace hO3:=hd hO3
        clear hS2 k62
        go_wp2_with fail
        refine ST1.out.mono ?_
        rintro e u3⟨rfl,hS3,gr3⟩
        have hO4:=hO3.out.trans(Ot.of_grown gr3(.inl rfl))
        have hK3:=hK2.out.stay(gr3.block _ hK2.out.cb.lt(fun z=>nk(Option.some.inj z).symm))(gr3.block _ hK2.out.mp.lt(fun z=>nm(Option.some.inj z).symm))
        have OP:=hd(OPN.out u3 mk LKm hO4)
        replace hS3:=hd hS3
        replace hK3:=hd hK3
        replace hO4:=hd hO4
        clear ST1 hK2 hO3 gr3
        go_wp2_with fail
        refine OP.out.mono ?_
        rintro e u4⟨A5,n5,c5,rfl,o5,x5⟩
        replace o5:=hd(o5.lower hO4.out.size)
        have F:=hd(And.intro(hS3.out.ext x5)(And.intro(hK3.out.ext x5)(hO4.out.trans(Ot.of_ext x5))))
        clear OP hS3 hK3 hO4 x5
        go_wp2_with fail
        go_ret2
        exact⟨A5,n5,c5,by rw [q1.out,OK1.out];rfl,by rw [q1.out,OK1.out];exact o5.out,by rw [q1.out];exact F.out.1,by rw [q1.out];exact F.out.2.1,F.out.2.2⟩
       ·have q1:=hd(T1.out _(B2.out he)he)
        have hbn:(se !=0)=true:=bne_iff_ne.2 he
        have es:jX t1 n=t1:=(yt t1 n).1(by rw [← hse];exact he)
        rw [es] at hS2 hK2
        have F:=hd(And.intro hS2(And.intro hK2 hO3))
        clear B2 B3 T1 T2 hS2 hK2 hO3 k62 es hse
        go_wp2_with fail
        go_ret2
        exact⟨none,0,0,by rw [q1.out];rfl,by rw [q1.out];exact Own.nil _ _,by rw [q1.out];exact F.out.1,by rw [q1.out];exact F.out.2.1,F.out.2.2⟩
      ·have q1:=hd(E2.out(by rw [HA.out];exact he))
       rw [HA.out] at q1
       have hbn:(fe !=0)=true:=bne_iff_ne.2 he
       have F:=hd(And.intro hS2(And.intro hK2 hO2))
       clear hS2 hK2 k62 hO2 E2 E3 HA hfe
       go_wp2_with fail
       go_ret2
       exact⟨none,0,0,by rw [q1.out];rfl,by rw [q1.out];exact Own.nil _ _,by rw [q1.out];exact F.out.1,by rw [q1.out];exact F.out.2.1,F.out.2.2⟩
  ·have q1:=hd(E1.out rfl)
   have OP:=hd(OPN.out wc kk lkk hO)
   replace k10:=hd k10
   have P1:=hd(And.intro hS(And.intro hK hO))
   clear E1 E2 E3 A1 A2 A3 A4 nO hS hK k6 hO
   go_wp2_with(first |((with_reducible refine js(o:=⟨some 29,_,_,_,_,_⟩)?_ 23 _ rfl g10 ?_ 23(cellsOf kk).toArray(0,0)_ ?_ Tryz.underlying23 ?_ ?_ ?_);(·rfl);(·rfl);(·exact k10.out);(·rfl);(·rw [S_kk];rfl);go_frame))
   refine OP.out.mono ?_
   rintro e u4⟨A5,n5,c5,rfl,o5,x5⟩
   replace o5:=hd(o5.lower P1.out.2.2.size)
   have F:=hd(And.intro(P1.out.1.ext x5)(And.intro(P1.out.2.1.ext x5)(P1.out.2.2.trans(Ot.of_ext x5))))
   clear OP P1 x5
   go_wp2_with fail
   go_ret2
   exact⟨A5,n5,c5,by rw [q1.out];rfl,by rw [q1.out];exact o5.out,by rw [q1.out];exact F.out.1,by rw [q1.out];exact F.out.2.1,F.out.2.2⟩
structure SS(w:World)(sg kp mb gs:Nat)(t:Rz):Prop where
 sq:Sq w sg 116 t.s kp [.pointer(some⟨gs,0,none⟩)]
 sk:SK w kp mb t.L t.puts
 ok:t.s.ok
 l8:t.L.length≤8
section
variable{w w':World}{sg kp mb gs:Nat}{t:Rz}
theorem SS.ext(h:SS w sg kp mb gs t)(e:Ext w w'):SS w' sg kp mb gs t:=⟨h.sq.ext e,h.sk.ext e,h.ok,h.l8⟩
theorem SS.stay(h:SS w sg kp mb gs t)(h1:w'.heap[sg]? =w.heap[sg]?)(h2:w'.heap[kp]? =w.heap[kp]?)(h3:w'.heap[mb]? =w.heap[mb]?):SS w' sg kp mb gs t:=⟨h.sq.keep h1,h.sk.stay h2 h3,h.ok,h.l8⟩
theorem SS.ne(h:SS w sg kp mb gs t):sg≠kp∧sg≠mb:=by
 have hs:=h.sq
 refine⟨zq hs h.sk.cb(by decide),fun e=> ?_⟩
 obtain⟨es,c,z⟩ :=h.sk.mp.obj
 unfold Sq Cb at hs
 rw [e,z] at hs
 cases hs
theorem SS.sl(h:SS w sg kp mb gs t):sg < w.heap.size:=h.sq.lt
theorem SS.kl(h:SS w sg kp mb gs t):kp < w.heap.size:=h.sk.cb.lt
theorem SS.ml(h:SS w sg kp mb gs t):mb < w.heap.size:=h.sk.mp.lt
end
def zT:List Value:=cellsOf(List.replicate 32 0)++(cellsOf(List.replicate 64 0)++([.bool false] ++(cellsOf(List.replicate 32 0)++([.bool false, .bool false] ++(cellsOf(List.replicate 32 0)++([.int .i64 0, .int .i64 0, .bool false] ++(cellsOf(List.replicate 32 0)++ [.int .i64 0, .pointer none])))))))
theorem jcQ:zT.length=200:=by simp [zT,cellsOf_len]
theorem JC(w:World):(zeroValue 114).run Tryz.prog w= .ok(.agg zT.toArray)w:=by kernel_rfl
theorem Sq.all(w:World)(g:Nat){T:TypeId}{s:Rt}{kp:Nat}{q:List Value}(h:Sq w g T s kp q):∀j v,(s.C kp)[j]? =some v→w.cell?⟨g,0+j,none⟩=some v:=Cb.mid(p:= [])(y:=s.C kp)(q:=q)h rfl rfl
theorem Sq.there0{w:World}{g:Nat}{T:TypeId}{s:Rt}{kp:Nat}{q:List Value}(h:Sq w g T s kp q)(ok:s.ok):w.there g 0 200:=Cb.there h(by rw [List.length_append,Rt.C_len ok];omega)
theorem Sq.put_all{w:World}{g:Nat}{T:TypeId}{s s':Rt}{kp kp':Nat}{q:List Value}(h:Sq w g T s kp q)(ok:s.ok)(ok':s'.ok):Sq(w.setCells g 0(s'.C kp'))g T s' kp' q:=Cb.put(p:= [])(y:=s.C kp)(q:=q)(z:=s'.C kp')h rfl rfl(by rw [Rt.C_len ok,Rt.C_len ok'])
theorem Sq.nil{w:World}{g:Nat}{T:TypeId}{s:Rt}{kp:Nat}:Sq w g T s kp []↔Cb w g T(s.C kp):=by unfold Sq;rw [List.append_nil]
theorem Rt.C_size{s:Rt}(h:s.ok)(kp:Nat):(s.C kp).toArray.size=200:=by rw [List.size_toArray,Rt.C_len h]
theorem Rt.C_one(s:Rt)(kp:Nat):(s.C kp).toArray.all(·.oneCell')=true:=qB(s.one kp)
theorem jhZ{t:Rz}(ok:t.s.ok)(l8:t.L.length≤8){pk:List UInt8}(lp:pk.length=32){prev n:Int}(hpr:0≤prev∧prev≤1000000)(hn:0≤n∧n≤1000000)(data body:List UInt8):
  (vY t pk prev n data body).1.s.ok∧(vY t pk prev n data body).1.L.length≤8∧(vY t pk prev n data body).1.puts≤t.puts+16:=by
 obtain⟨E1,E2,E3⟩ :=QI t pk prev n data body
 rcases hk:yY t.L pk n with _ |_
 ·have hA:(opA t pk prev).1.s.ok∧(opA t pk prev).1.L.length≤8∧(opA t pk prev).1.puts≤t.puts+8:=by
   obtain⟨A1,A2,A3,A4⟩ :=jcu t pk prev
   have sp:=Y9 t prev
   by_cases c1:t.s.ho=true∧pk=t.s.ot
   ·rw [A1 c1.1 c1.2];exact⟨ok,l8,by dsimp only;omega⟩
   by_cases c2:t.s.ri=true∧t.s.rm < prev
   ·by_cases c3:qN t.s prev=0
    ·rw [A3 c1 c2.1 c2.2 c3];exact⟨Rt.ok_fol(Rt.ok_skip ok hpr)lp,Z5 l8,sp.2⟩
    ·rw [A2 c1 c2.1 c2.2 c3];exact⟨ok,l8,by dsimp only;omega⟩
   ·rw [A4 c1 c2];exact⟨Rt.ok_fol ok lp,l8,by dsimp only;omega⟩
  by_cases h2:(opA t pk prev).2=0
  ·rw [E3 hk h2]
   generalize(opA t pk prev).1=t1 at *
   obtain⟨h3,h4,h5⟩ :=hA
   have hB:(opB t1 n).1.s.ok∧(opB t1 n).1.L.length≤8∧(opB t1 n).1.puts≤t1.puts+8:=by
    obtain⟨B1,B2,B3⟩ :=opB_eq t1 n
    have sp:=Y9 t1 n
    by_cases c1:t1.s.ri=false∨n < t1.s.rm
    ·rw [B1 c1];exact⟨h3,h4,by dsimp only;omega⟩
    by_cases c2:qN t1.s n=0
    ·rw [B3 c1 c2]
     have o:=Rt.ok_skip h3 hn
     refine⟨⟨o.root,o.own,o.ot,o.sc,jR _ _,o.sm,o.bf,?_⟩,Z5 h4,sp.2⟩
     have e:(jX t1 n).s.rm=n:=by unfold jX;rw [if_pos c2]
     show 0≤(jX t1 n).s.rm+1∧(jX t1 n).s.rm+1≤4000000
     rw [e];omega
    ·rw [B2 c1 c2];exact⟨h3,h4,by dsimp only;omega⟩
   unfold zi
   split
   ·exact⟨hB.1,hB.2.1,by dsimp only;omega⟩
   ·exact⟨hB.1,hB.2.1,by dsimp only;omega⟩
  ·rw [E2 hk h2];exact⟨hA.1,hA.2.1,by dsimp only;omega⟩
 ·rw [E1 hk]
  refine⟨ok,Nat.le_trans(List.length_filter_le _ _)l8,by dsimp only;omega⟩
theorem jiq{t:Rz}(ok:t.s.ok)(l8:t.L.length≤8){bs pk:List UInt8}(lp:pk.length=32)(prev n:Int)(body:List UInt8):
  (ze t bs pk prev n body).s.ok∧(ze t bs pk prev n body).L.length≤8∧(ze t bs pk prev n body).puts≤t.puts+16:=by
 unfold ze
 split
 ·rename_i h
  unfold yr at h
  split at h
  ·rename_i hk
   obtain⟨a,b,rfl,rfl,h1,h2⟩ :=QH hk
   exact jhZ ok l8 lp(by omega)(by omega)_ _
  ·cases h
 ·exact⟨ok,l8,by omega⟩
end
section
open Go.ChangeShapes Go.WideShapes Go.ChangeAt Go.RowKit Go.Deep
set_option maxHeartbeats 1000000 in
theorem jdd{A:Option Addr}{n c:Nat}{l:List(List UInt8)}{w:World}(h:Rw w A n c l)(hm:(qw l).length≤100000000):
  Calls Tryz.prog 79 #[.slice A n c] w(YA(qw l)w):=by
 have h1:=h.le
 have h2:=h.cap
 have hsz:Hid(qu l n=(qw l).length):=by unfold Hid qu;rw [List.take_of_length_le(by rw [h.len];omega)]
 have hszn:qu l n≤100000000:=by rw [hsz.out];exact hm
 have hmk:=jhQ(qu l n)(by omega)
 go_enter Tryz.func79,Tryz.ntmps79
 go_wp2
 go_loop [3,11](fun x i=>∃k:Nat,k≤n∧i= .int .i64 k∧x= .int .i64(qu l k:Int))(fun _ i=>n - (intOf i).toNat)
 case atStart=>exact⟨0,Nat.zero_le _,rfl,rfl⟩
 case round =>
  obtain⟨k,hk,rfl,rfl⟩ :=hrel
  by_cases hlt:k < n
  ·obtain⟨b,off,rfl,hb,hc⟩ :=h.pos(by omega)
   obtain⟨A',n',c',g1,g2⟩ :=hc k(by omega)
   have hs:Hid((qu l k:Int)+(4+(n':Int))=(qu l(k+1):Int)):=by
    unfold Hid qu
    rw [za(by rw [h.len];omega),g2.len]
    omega
   have hb1:qu l(k+1)≤100000000:=Nat.le_trans(QG l(k+1))hm
   have hb2:n'+qu l k≤100000000:=by have:=hs.out;omega
   clear hc hmk
   go_wp2
   go_round
   case rel=>exact⟨k+1,by omega,by go_num,congrArg(Value.int .i64)hs.out⟩
   case measure=>simp [intOf];omega
  ·obtain rfl:k=n:=by omega
   go_wp2
   clear hmk
   go_loopw [6,25](fun v i wr=>∃(j cc:Nat)(D:Option Addr),j≤k∧i= .int .i64 j∧v= .slice D(qu l j)cc∧Own w.heap.size wr D(qu l j)cc(qw(l.take j))∧Ext w wr)(fun _ i _=>k - (intOf i).toNat)
   case atStart=>exact⟨0,_,_,Nat.zero_le _,rfl,rfl,Own.made w _ _(Nat.le_refl _)(by omega),(Ext.refl w).alloc _⟩
   case round =>
    obtain⟨j,cc,D,hj,rfl,rfl,ho,hE⟩ :=hrel
    by_cases hlj:j < k
    ·obtain⟨b,off,rfl,hb,hc⟩ :=h.pos(by omega)
     obtain⟨A',n',c',g1',g2⟩ :=hc j(by omega)
     have g1:=(hE.cell(p:=⟨b,off+j,none⟩)hb).trans g1'
     have t3:=g2.le
     have t4:=g2.cap
     have hszj:=hE.size
     have hb1:qu l(j+1)≤100000000:=Nat.le_trans(QG l(j+1))hm
     have hs:Hid(qu l(j+1)=qu l j+4+n'):=by
      unfold Hid qu
      rw [joinL_len_snoc(by rw [h.len];omega),g2.len]
      omega
     have hb2:n'+4+qu l j≤100000000:=by have:=hs.out;omega
     have hjn:Hid(qw(l.take(j+1))=qw(l.take j)++(J3 n' 4).reverse ++ l.getD j []):=by
      unfold Hid
      rw [joinL_snoc(by rw [h.len];omega),jgE,g2.len,List.append_assoc]
     clear hc g1'
     go_wp2_with fail
     refine(Yj(m:=4)(by omega)(by omega)(by omega)(by omega)(by omega)).mono ?_
     rintro e w1⟨A1,n1,c1,rfl,b1,e1⟩
     obtain rfl:n1=4:=by rw [← b1.len,List.length_reverse,vL]
     have hE1:=hE.trans e1
     have z1:=e1.size
     go_wp2_with(first
      |(at_builtin;refine jJ rfl(B:=w.heap.size)(s:= .tmp 29)(x:= .tmp 33)rfl rfl rfl(ho.ext e1)b1(by omega)(by omega)?_;intro D' cc' w2 ho2 hg2 hbl)
      |(at_builtin;refine jJ rfl(B:=w.heap.size)(s:= .tmp 35)(x:= .tmp 36)rfl rfl rfl ho2(g2.ext(hE1.trans' hbl))(by omega)(by have:=hbl.size;omega)?_;intro D3 cc3 w3 ho3 hg3 hbl3))
     go_roundw
     case rel=>exact⟨j+1,cc3,D3,by omega,by go_num,by rw [hs.out],by rw [hs.out,hjn.out];exact ho3,(hE1.trans' hbl).trans' hbl3⟩
     case measure=>simp [intOf];omega
    ·obtain rfl:j=k:=by omega
     go_wp2
     go_ret
     refine⟨_,_,_,rfl,by have:=ho;rwa [List.take_of_length_le(by rw [h.len];omega)] at this,hE⟩
end
section
open Go.ChangeShapes Go.WideShapes Go.ChangeAt Go.RowKit Go.Deep Go.Maps
set_option maxRecDepth 100000
set_option maxHeartbeats 4000000 in
theorem jc2{w:World}{A:Option Addr}{m c:Nat}{bs pk:List UInt8}{p n:Int}(h:Bs w A m c bs)(hm:m≤1000000)(lp:pk.length=32):
  Calls Tryz.prog 45 #[.slice A m c, .agg(hdC pk p n).toArray] w(JJ(yE bs pk p n)(vR p n)w):=by
 have L_h:=hdC_len lp p n
 rcases hk:okH p n with _ |_
 ·have HB:Hid(∀W,Calls Tryz.prog 78 #[.agg(hdC pk p n).toArray] W fun e w'=>e= .returned(.tuple #[.slice none 0 0, .int .i64 1])∧Ext W w'):=fun W=>Qc lp hk
  have F:yE bs pk p n= []∧vR p n=1:=by unfold yE vR;rw [hk];exact⟨rfl,rfl⟩
  rw [F.1,F.2]
  clear F hk
  generalize hdC pk p n=hd at *
  have S_h:hd.toArray.size=34:=by rw [List.size_toArray,L_h]
  obtain⟨r,hr⟩:∃r,r=w.heap.size:=⟨_,rfl⟩
  have B0:Hid(Cb(w.alloc(.cells hd.toArray 47))r 47 hd∧Ext w(w.alloc(.cells hd.toArray 47))):=by rw [hr];exact⟨Cb.new _ _ _,(Ext.refl w).alloc _⟩
  go_enter Tryz.func45,Tryz.ntmps45
  go_upto_region 1 with fail
  refine jg(fun W=>Cb W r 47 hd∧Ext w W)B0.out ?_
  rw [← hr]
  clear B0
  replace hr:=hd hr
  rintro w0⟨k0,x0⟩
  replace k0:=hd k0
  replace x0:=hd x0
  go_wp2_with(first |((with_reducible refine js(o:=⟨some 9,_,_,_,_,_⟩)?_ 47 _ rfl r ?_ 47 hd.toArray(0,0)_ ?_ Tryz.underlying47 ?_ ?_ ?_);(·rfl);(·rfl);(·exact k0.out);(·rfl);(·rw [S_h];rfl);go_frame))
  refine(HB.out _).mono ?_
  rintro e w1⟨rfl,x1⟩
  have F:=hd(x0.out.trans x1)
  clear HB x0 k0 x1
  go_wp2_with fail
  go_ret2
  exact⟨none,0,0,rfl,Own.nil _ _,F.out⟩
 ·obtain⟨a,b,rfl,rfl,ha,hb⟩ :=QH hk
  have HB:Hid(∀W,Calls Tryz.prog 78 #[.agg(hdC pk(a:Int)(b:Int)).toArray] W(YP(zo pk a b)0 W)):=fun W=>QF lp ha hb
  have F:yE bs pk a b=qw [bs,zo pk a b]∧vR a b=0:=by unfold yE vR dataL;rw [hk];exact⟨rfl,rfl⟩
  rw [F.1,F.2]
  clear F hk
  have JL:(joinL [bs,zo pk a b]).length≤100000000:=by rw [Zf,Zd lp,h.len];omega
  have JO:Hid(∀(W:World)(C:Option Addr),Rw W C 2 2 [bs,zo pk a b]→Calls Tryz.prog 79 #[.slice C 2 2] W(YA(qw [bs,zo pk a b])W)):=fun W C r=>jdd r JL
  clear JL
  generalize zo pk(a:Nat)b=HL at *
  generalize hdC pk(a:Int)(b:Int)=hd at *
  have S_h:hd.toArray.size=34:=by rw [List.size_toArray,L_h]
  obtain⟨r,hr⟩:∃r,r=w.heap.size:=⟨_,rfl⟩
  have B0:Hid(Cb(w.alloc(.cells hd.toArray 47))r 47 hd∧Ext w(w.alloc(.cells hd.toArray 47))):=by rw [hr];exact⟨Cb.new _ _ _,(Ext.refl w).alloc _⟩
  replace h:=hd h
  go_enter Tryz.func45,Tryz.ntmps45
  go_upto_region 1 with fail
  refine jg(fun W=>Cb W r 47 hd∧Ext w W)B0.out ?_
  rw [← hr]
  clear B0
  replace hr:=hd hr
  rintro w0⟨k0,x0⟩
  replace k0:=hd k0
  replace x0:=hd x0
  go_wp2_with(first |((with_reducible refine js(o:=⟨some 9,_,_,_,_,_⟩)?_ 47 _ rfl r ?_ 47 hd.toArray(0,0)_ ?_ Tryz.underlying47 ?_ ?_ ?_);(·rfl);(·rfl);(·exact k0.out);(·rfl);(·rw [S_h];rfl);go_frame))
  refine(HB.out _).mono ?_
  rintro e w1⟨A1,n1,c1,rfl,b1,x1⟩
  have x2:=hd(x0.out.trans x1)
  have R1:=hd(jfU(t:=33)(h.out.ext x2.out)b1)
  have J1:=hd(JO.out _ _ R1.out)
  have x3:=hd(x2.out.alloc(.cells #[.slice A m c, .slice A1 n1 c1] 33))
  clear HB x0 k0 x1 b1 JO R1 x2
  go_wp2_with fail
  refine J1.out.mono ?_
  rintro e w3⟨A3,n3,c3,rfl,b3,x4⟩
  have F:=hd(x3.out.trans x4)
  replace b3:=hd(b3.lower(B':=w.heap.size)x3.out.size)
  clear J1 x3 x4
  go_wp2_with fail
  go_ret2
  exact⟨A3,n3,c3,rfl,b3.out,F.out⟩
end
end Go.Proofs.YtakpgbaijkhpmaaGreatDoor
