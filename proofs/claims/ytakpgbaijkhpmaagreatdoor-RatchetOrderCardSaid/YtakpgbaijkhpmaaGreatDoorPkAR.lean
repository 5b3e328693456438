import Derived.Test.YtakpgbaijkhpmaaGreatDoorPkAQ
namespace Go.Proofs.YtakpgbaijkhpmaaGreatDoor
section
open Go.ChangeShapes Go.WideShapes Go.ChangeAt Go.RowKit Go.Deep Go.Maps
set_option maxRecDepth 100000
def yG(s:Rt)(p bs text:List UInt8):List UInt8:=if qU s p text=0 then qz(jM(qL s p).sc qd)(qb bs(qL s p).pub(qL s p).bf(qL s p).sm)text else []
def yH(s:Rt)(p text:List UInt8):List Value:=if qU s p text=0 then hdC(qL s p).pub(qL s p).bf(qL s p).sm else hdC(List.replicate 32 0)0 0
def yi(s:Rt)(p text:List UInt8):Rt:=if qU s p text=0 then jW(qL s p)else s
def yf(s:Rt)(text:List UInt8)(k:Nat):Nat:=if(s.si=false∧s.mt=false)∨300 < text.length∨s.mt=false then k else k+1
theorem Jp(w:World):(zeroValue 47).run Tryz.prog w= .ok(.agg(hdC(List.replicate 32 0)0 0).toArray)w:=by kernel_rfl
theorem jev:Tryz.prog.built 47 []=some(hdC(List.replicate 32 0)0 0).toArray:=by kernel_rfl
theorem Jq{k:List UInt8}{p n:Int}(hk:k.length=32):Tryz.prog.built 47 [(0, .agg(cellsOf k).toArray),(1, .int .i64 p),(2, .int .i64 n)]=some(hdC k p n).toArray:=by
 have h:∃pl:Nat→Option(Nat×Nat),(pl 0=some(0,32)∧pl 1=some(32,1)∧pl 2=some(33,1))∧∀ps,Tryz.prog.built 47 ps=Instr.fill pl(hdC(List.replicate 32 0)0 0).toArray ps:=⟨(#[(0,32),(32,1),(33,1)][·]?),⟨rfl,rfl,rfl⟩,fun ps=>by kernel_rfl⟩
 obtain⟨pl,⟨h0,h1,h2⟩,hp⟩ :=h
 have hz:(cellsOf(List.replicate 32 0)).length=32:=by rw [ja,List.length_replicate]
 rw [hp]
 unfold hdC
 generalize cellsOf(List.replicate 32 0)=Z at *
 have lk:(cellsOf k).length=32:=by rw [ja,hk]
 rw [qJ h0(by simp [qo,lk])(by simp [hz])]
 have e0:splice(Z ++ [Value.int .i64 0, .int .i64 0])0(Value.agg(cellsOf k).toArray).cells.toList=cellsOf k ++ [.int .i64 0, .int .i64 0]:=qA(p:= [])(y:=Z)rfl(by rw [hz];simp [qo,lk])
 rw [e0,qJ h1 rfl(by simp [lk])]
 have e1:splice(cellsOf k ++ [Value.int .i64 0, .int .i64 0])32(Value.int .i64 p).cells.toList=cellsOf k ++([.int .i64 p] ++ [.int .i64 0]):=qA(p:=cellsOf k)(y:= [Value.int .i64 0])(q:= [Value.int .i64 0])lk rfl
 rw [e1,qJ h2 rfl(by simp [lk])]
 have e2:splice(cellsOf k ++([Value.int .i64 p] ++ [.int .i64 0]))33(Value.int .i64 n).cells.toList=(cellsOf k ++ [.int .i64 p])++([.int .i64 n] ++ []):=by
  rw [← List.append_assoc]
  exact qA(p:=cellsOf k ++ [Value.int .i64 p])(y:= [Value.int .i64 0])(q:= [])(by simp [lk])rfl
 rw [e2]
 simp [Instr.fill]
theorem qF(w:World)(r:Nat)(C:Array Value):w.grownBy(w.setRow r C)(some r):=⟨rfl,rfl,rfl,by simp,fun i _ hne=>setRow_other _ _ _ _(fun q=>hne(by rw [q]))⟩
theorem YZ{pk:List UInt8}{p n:Int}:(hdC pk p n).toArray.all(·.oneCell')=true:=qB fun v hv=>by
 rcases List.mem_append.1 hv with q |q
 ·exact JT _ v q
 ·simp at q;rcases q with rfl |rfl <;> rfl
theorem SrcSt.cb{w:World}{lo g k:Nat}{xs:List UInt8}(h:SrcSt w lo g xs k):∃L:List Value,Cb w g 143 L:=by
 rcases h.2 with⟨A,n,c,rt,h,_,_⟩ |h
 ·exact⟨_,h.1⟩
 ·exact⟨_,h.1⟩
theorem SrcSt.ne_sk{w:World}{lo g k kp mb:Nat}{xs:List UInt8}{L:List Ke}{p:Int}(h:SrcSt w lo g xs k)(k':SK w kp mb L p):g≠kp∧g≠mb:=by
 obtain⟨L',hL⟩ :=h.cb
 refine⟨zq hL k'.cb(by decide),fun e=> ?_⟩
 obtain⟨es,c,z⟩ :=k'.mp.obj
 unfold Cb at hL
 rw [e,z] at hL
 cases hL
theorem Rt.pub_len{s:Rt}(ok:s.ok):s.pub.length=32:=by unfold Rt.pub;rw [List.length_drop,ok.own]
theorem Sq.at_pub{w:World}{g:Nat}{T:TypeId}{s:Rt}{kp:Nat}{q:List Value}(h:Sq w g T s kp q)(ok:s.ok):∀j v,(cellsOf s.pub)[j]? =some v→w.cell?⟨g,64+j,none⟩=some v:=by
 have e:s.C kp ++ q=(s.P_own ++ cellsOf(s.own.take 32))++(cellsOf s.pub ++ s.R_own kp q):=by
  rw [s.C_own,List.append_assoc,← List.append_assoc(cellsOf(s.own.take 32)),← Yr]
  unfold Rt.pub
  rw [List.take_append_drop]
 exact Cb.mid h e(by rw [List.length_append,Rt.L_own ok,ja,List.length_take,ok.own];rfl)
theorem Sq.last{w:World}{g:Nat}{T:TypeId}{s:Rt}{kp:Nat}{v:Value}(h:Sq w g T s kp [v])(ok:s.ok):w.cell?⟨g,200,none⟩=some v:=Cb.cell h(by
 rw [List.getElem?_append_right(by rw [Rt.C_len ok];omega),Rt.C_len ok];rfl)
theorem jdQ{s:Rt}(ok:s.ok){p:List UInt8}(lp:p.length=64):(qL s p).ok:=by
 unfold qL
 split
 ·exact Rt.ok_turn ok lp
 ·exact ok
theorem jiA{s:Rt}(ok:s.ok){p:List UInt8}(lp:p.length=64)(text:List UInt8):(yi s p text).ok:=by
 unfold yi
 split
 ·rename_i h
  have o:=jdQ ok lp
  have hk:okH(qL s p).bf(qL s p).sm=true:=by
   unfold qU at h
   split at h
   ·cases h
   ·split at h
    ·cases h
    ·split at h
     ·rename_i z;exact absurd h z.2
     ·split at h
      ·rename_i z;exact z
      ·cases h
  obtain⟨a,b,e1,e2,h1,h2⟩ :=QH hk
  refine⟨o.root,o.own,o.ot,jR _ _,o.rc,?_,o.bf,o.rm⟩
  show 0≤(qL s p).sm+1∧(qL s p).sm+1≤4000000
  omega
 ·exact ok
set_option maxHeartbeats 32000000 in
theorem jdL{w:World}{sg kp mb gs lo k:Nat}{t:Rz}{A B:Option Addr}{m1 c1 m2 c2:Nat}{bs text xs:List UInt8}(h:SS w sg kp mb gs t)(hs:SrcSt w lo gs xs k)(hk:k < 1000000)(hgs:gs < sg)(hm1:m1≤900000)
  {tg tp:TypeId×Nat×Nat}(hG:Gl w tg)(hP:Gp w tp)(hq:1 < lo)(hM:∀u,Two sg gs w u→Bs u A m1 c1 bs∧Bs u B m2 c2 text):
  Calls Tryz.prog 21 #[.pointer(some⟨sg,0,none⟩), .slice A m1 c1, .slice B m2 c2] w fun e w'=>∃A' n' c',e= .returned(.tuple #[.agg(yH t.s(j3(jO xs k))text).toArray, .slice A' n' c', .int .i64(qU t.s(j3(jO xs k))text)])∧Own w.heap.size w' A' n' c'(sendB t.s(j3(jO xs k))bs text)∧SS w' sg kp mb gs⟨yi t.s(j3(jO xs k))text,t.L,t.puts⟩∧SrcSt w' lo gs xs(yf t.s text k)∧Two sg gs w w':=by
 have hlo:=hs.1
 obtain⟨nk,nm⟩ :=h.ne
 obtain⟨ngk,ngm⟩ :=hs.ne_sk h.sk
 have sl:=h.sl
 have kl:=h.kl
 have ml:=h.ml
 have gl:=hG.lt
 have pl:=hP.lt
 have ok:=h.ok
 have l8:=h.l8
 have hsl:=hs.lt
 have lb:=(hM w(Two.refl _ _ _)).1.len
 have lt_:=(hM w(Two.refl _ _ _)).2.len
 have lt2:=(hM w(Two.refl _ _ _)).2.le
 have lt3:=(hM w(Two.refl _ _ _)).2.cap
 obtain⟨p,hp⟩:∃p,p=j3(jO xs k):=⟨_,rfl⟩
 have L_p:p.length=64:=by rw [hp];exact yT _
 have TRN:Hid(∀(W:World)(g:Nat),Sq W g 114 t.s kp []→SrcSt W lo gs xs k→gs < g→Gl W tg→Gp W tp→Calls Tryz.prog 44 #[.pointer(some⟨g,0,none⟩), .pointer(some⟨gs,0,none⟩)] W fun e w'=>e= .returned(.int .i64(qh t.s p))∧Sq w' g 114(qg t.s p)kp []∧SrcSt w' lo gs xs(k+1)∧Two g gs W w'):=fun W g z1 z2 z3 z4 z5=>by
  rw [hp];exact ZO z1 ok z2 hk z3 z4 z5 hq
 rw [← hp]
 clear hp
 have GG:Hid(∀u,Two sg gs w u→Gl u tg∧Gp u tp):=fun u x=>⟨x.block hG(by omega)(by omega),x.block hP(by omega)(by omega)⟩
 have DAT:Hid(∀(W:World)(pk:List UInt8)(a b:Int),pk.length=32→Two sg gs w W→Calls Tryz.prog 45 #[.slice A m1 c1, .agg(hdC pk a b).toArray] W(JJ(yE bs pk a b)(vR a b)W)):=fun W pk a b lk z=>jc2(hM W z).1(by omega)lk
 have CLO:Hid(∀(W:World)(ks:List UInt8)(A1:Option Addr)(n1 d1:Nat)(dl:List UInt8),ks.length=32→Two sg gs w W→Bs W A1 n1 d1 dl→n1≤1000000→m2≤1000000→Calls Tryz.prog 47 #[.agg(cellsOf ks).toArray, .slice A1 n1 d1, .slice B m2 c2] W(YA(qz ks dl text)W)):=fun W ks A1 n1 d1 dl z1 z2 z3 z4 z5=>jc1 z1 z3(hM W z2).2 z4 z5(GG.out W z2).1
 have STP:Hid(∀(W:World)(g:Nat)(s1:Rt),Sq W g 114 s1 kp []→s1.ok→Two sg gs w W→Calls Tryz.prog 46 #[.pointer(some⟨g,130,none⟩)] W fun e w'=>e= .returned(.agg(cellsOf(jM s1.sc msgS)).toArray)∧Sq w' g 114(jW s1)kp []∧W.grownBy w'(some g)):=fun W g s1 z1 z2 z3=>by
  unfold Sq at z1 ⊢
  rw [s1.C_send] at z1
  rw [(jW s1).C_send]
  have:=Zz(p:=s1.P_si)(q:=s1.R_sm kp [])z1(Rt.L_si z2)z2.sc z2.sm(GG.out W z3).1
  exact this
 have okS:=jiA ok L_p text
 have okT:=jdQ ok L_p
 have R7:Hid(t.s.si=false→t.s.mt=false→qU t.s p text=7∧yG t.s p bs text= []∧yH t.s p text=hdC(List.replicate 32 0)0 0∧yi t.s p text=t.s∧yf t.s text k=k):=fun z1 z2=>by
  have e:qU t.s p text=7:=by unfold qU;rw [if_pos⟨z1,z2⟩]
  refine⟨e,by unfold yG;rw [e];rfl,by unfold yH;rw [e];rfl,by unfold yi;rw [e];rfl,by unfold yf;rw [if_pos(.inl⟨z1,z2⟩)]⟩
 have R1:Hid(¬(t.s.si=false∧t.s.mt=false)→300 < m2→qU t.s p text=1∧yG t.s p bs text= []∧yH t.s p text=hdC(List.replicate 32 0)0 0∧yi t.s p text=t.s∧yf t.s text k=k):=fun z1 z2=>by
  have e:qU t.s p text=1:=by unfold qU;rw [if_neg z1,if_pos(by omega)]
  refine⟨e,by unfold yG;rw [e];rfl,by unfold yH;rw [e];rfl,by unfold yi;rw [e];rfl,by unfold yf;rw [if_pos(.inr(.inl(by omega)))]⟩
 have RT:Hid(¬(t.s.si=false∧t.s.mt=false)→¬ 300 < m2→t.s.mt=true→qh t.s p≠0→qU t.s p text=qh t.s p∧yG t.s p bs text= []∧yH t.s p text=hdC(List.replicate 32 0)0 0∧yi t.s p text=t.s∧yf t.s text k=k+1):=fun z1 z2 z3 z4=>by
  have e:qU t.s p text=qh t.s p:=by unfold qU;rw [if_neg z1,if_neg(by omega),if_pos⟨z3,z4⟩]
  refine⟨e,by unfold yG;rw [e,if_neg z4],by unfold yH;rw [e,if_neg z4],by unfold yi;rw [e,if_neg z4],by unfold yf;rw [if_neg(by rintro(z |z |z);exact z1 z;omega;rw [z3] at z;cases z)]⟩
 have RR:Hid(¬(t.s.si=false∧t.s.mt=false)→¬ 300 < m2→¬(t.s.mt=true∧qh t.s p≠0)→(okH(qL t.s p).bf(qL t.s p).sm=false→qU t.s p text=1∧yG t.s p bs text= []∧sendH t.s p text=hdC(List.replicate 32 0)0 0∧yi t.s p text=t.s)∧(okH(qL t.s p).bf(qL t.s p).sm=true→qU t.s p text=0∧yG t.s p bs text=qz(jM(qL t.s p).sc qd)(qb bs(qL t.s p).pub(qL t.s p).bf(qL t.s p).sm)text∧yH t.s p text=hdC(qL t.s p).pub(qL t.s p).bf(qL t.s p).sm∧yi t.s p text=jW(qL t.s p))):=fun z1 z2 z3=>by
  have e:qU t.s p text=if okH(qL t.s p).bf(sendT t.s p).sm then 0 else 1:=by unfold qU;rw [if_neg z1,if_neg(by omega),if_neg z3]
  refine⟨fun z=> ?_,fun z=> ?_⟩
  ·rw [z] at e
   have e:qU t.s p text=1:=e
   refine⟨e,by unfold sendB;rw [e];rfl,by unfold sendH;rw [e];rfl,by unfold yi;rw [e];rfl⟩
  ·rw [z] at e
   have e:qU t.s p text=0:=e
   refine⟨e,by unfold sendB;rw [if_pos e],by unfold yH;rw [if_pos e],by unfold yi;rw [if_pos e]⟩
 have KT:Hid(¬(t.s.si=false∧t.s.mt=false)→¬ 300 < m2→(t.s.mt=true→yf t.s text k=k+1)∧(t.s.mt=false→yf t.s text k=k)):=fun z1 z2=>⟨fun z=>by unfold yf;rw [if_neg(by rintro(q |q |q);exact z1 q;omega;rw [z] at q;cases q)],fun z=>by unfold yf;rw [if_pos(.inr(.inr z))]⟩
 have TT:Hid((t.s.mt=true→qL t.s p=qg t.s p)∧(t.s.mt=false→qL t.s p=t.s)):=⟨fun z=>by unfold qL;rw [z];rfl,fun z=>by unfold qL;rw [z];rfl⟩
 generalize qU t.s p text=vE at *
 generalize yG t.s p bs text=vB at *
 generalize yH t.s p text=vH at *
 generalize yi t.s p text=vS at *
 generalize yf t.s text k=vK at *
 have hal:=Jp
 have BZ:=hd jev
 have L_hz:(hdC(List.replicate 32 0)0 0).length=34:=yy rfl _ _
 have O_hz:(hdC(List.replicate 32 0)0 0).toArray.all(·.oneCell')=true:=YZ
 have haS:=JC
 have L_zs:=jcQ
 generalize zT=ZT at *
 have S_zs:ZT.toArray.size=200:=by rw [List.size_toArray,L_zs]
 have halK:∀w,(zeroValue 23).run Tryz.prog w= .ok(.agg(cellsOf(List.replicate 32 0)).toArray)w:=fun w=>by rw [jU];exact j2 w
 have L_zk:(List.replicate 32(0:UInt8)).length=32:=rfl
 obtain⟨ZH,hZH⟩:∃x,x=hdC(List.replicate 32 0)0 0:=⟨_,rfl⟩
 rw [← hZH] at hal BZ L_hz O_hz R7 R1 RT RR
 clear hZH
 generalize List.replicate 32(0:UInt8)=zk at *
 have S_zk:(cellsOf zk).toArray.size=32:=by simp [ja,L_zk]
 have S_hz:ZH.toArray.size=34:=by rw [List.size_toArray,L_hz]
 obtain⟨r,hr⟩:∃r,r=w.heap.size:=⟨_,rfl⟩
 have B0:Hid(Cb(w.alloc(.cells ZH.toArray 47))r 47 ZH∧Ext w(w.alloc(.cells ZH.toArray 47))):=by rw [hr];exact⟨Cb.new _ _ _,(Ext.refl w).alloc _⟩
 clear hM hG hP
 go_enter Tryz.func21,Tryz.ntmps21
 go_upto_region 1 with fail
 refine jg(fun W=>Cb W r 47 ZH∧Ext w W)B0.out ?_
 rw [← hr]
 have wr_:w.heap.size≤r:=Nat.le_of_eq hr.symm
 clear B0
 replace hr:=hd hr
 rintro w0⟨k6,x0⟩
 have rl:=k6.lt
 have h0:=h.ext x0
 have s0:=hs.ext x0
 have f1:=h0.sq.si ok
 have f2:=h0.sq.mt ok
 obtain⟨si,hsi⟩:∃x,x=t.s.si:=⟨_,rfl⟩
 obtain⟨mt,hmt⟩:∃x,x=t.s.mt:=⟨_,rfl⟩
 rw [← hsi] at f1 R7 R1 RT RR KT
 rw [← hmt] at f2 R7 R1 RT RR KT TT
 replace hsi:=hd hsi
 replace hmt:=hd hmt
 have RET:Hid(Ext w(w0.setRow r ZH.toArray)∧SS(w0.setRow r ZH.toArray)sg kp mb gs t∧SrcSt(w0.setRow r ZH.toArray)lo gs xs k):=⟨below_setRow x0 wr_ _,h0.stay(setRow_other _ _ _ _(by omega))(setRow_other _ _ _ _(by omega))(setRow_other _ _ _ _(by omega)),s0.row(by omega)⟩
 rcases mt with _ |_
 ·rcases si with _ |_
  ·have q1:=hd(R7.out rfl rfl)
   clear R7 R1 RT RR KT TT h0 s0 x0 h hs
   go_wp2_with(first
    |(refine wpList_build_as rfl _ _ rfl ZH.toArray(by simp only [List.map_toArray,List.map_nil];exact BZ.out)?_;go_frame)
    |(refine wpList_store_row rfl 47 _ _ rfl r ZH.toArray rfl rfl 47 ZH.toArray k6(by rw [S_hz];rfl)rfl O_hz ?_;simp only [Act.put]))
   (try simp only [Exit.inBlock,Exit.then])
   refine bodyPost_ret(qK rfl _ _ r 47 ZH.toArray(0,0)_ _ _ rfl rfl rfl(setRow_heap _ _ _ _ _ _ k6)rfl rfl(by rw [S_hz];rfl))rfl ?_
   exact⟨none,0,0,by rw [q1.out.1,q1.out.2.2.1];rfl,by rw [q1.out.2.1];exact Own.nil _ _,by rw [q1.out.2.2.2.1];exact RET.out.2.1,by rw [q1.out.2.2.2.2];exact RET.out.2.2,Two.of_ext RET.out.1⟩
  have nN: ¬(true=false∧false=false):=fun z=>by cases z.1
  by_cases hl:300 < m2
  ·have d1:decide((300:Int) < (m2:Int))=true:=decide_eq_true(by omega)
   have q1:=hd(R1.out nN hl)
   clear R7 R1 RT RR KT TT h0 s0 x0 h hs
   go_wp2_with(first
    |(refine wpList_build_as rfl _ _ rfl ZH.toArray(by simp only [List.map_toArray,List.map_nil];exact BZ.out)?_;go_frame)
    |(refine wpList_store_row rfl 47 _ _ rfl r ZH.toArray rfl rfl 47 ZH.toArray k6(by rw [S_hz];rfl)rfl O_hz ?_;simp only [Act.put]))
   (try simp only [Exit.inBlock,Exit.then])
   refine bodyPost_ret(qK rfl _ _ r 47 ZH.toArray(0,0)_ _ _ rfl rfl rfl(setRow_heap _ _ _ _ _ _ k6)rfl rfl(by rw [S_hz];rfl))rfl ?_
   exact⟨none,0,0,by rw [q1.out.1,q1.out.2.2.1];rfl,by rw [q1.out.2.1];exact Own.nil _ _,by rw [q1.out.2.2.2.1];exact RET.out.2.1,by rw [q1.out.2.2.2.2];exact RET.out.2.2,Two.of_ext RET.out.1⟩
  have d1:decide((300:Int) < (m2:Int))=false:=decide_eq_false(by omega)
  have KK:Hid(vK=k):=(KT.out nN hl).2 rfl
  have RV:=hd(RR.out nN hl(fun z=>by cases z.1))
  rw [TT.out.2 rfl] at RV
  clear R7 R1 RT RR KT TT RET okT
  have SC:=Rt.C_size ok kp
  have OC:=Rt.C_one t.s kp
  have LC:=Rt.C_len ok kp
  have all:=hd(h0.sq.all w0 sg)
  have Y:Hid(Cb((w0.alloc(.cells ZT.toArray 114)).setRow w0.heap.size(t.s.C kp).toArray)w0.heap.size 114(t.s.C kp)∧Ext w0((w0.alloc(.cells ZT.toArray 114)).setRow w0.heap.size(t.s.C kp).toArray)):=⟨Cb.set(Cb.new _ _ _),Ext.newRow _ _ _⟩
  go_upto_region 6 with(first
   |((with_reducible refine jI(o:=⟨some 38,_,_,_,_,_⟩)(ty:=114)(g:=sg)(off:=0)(ys:=t.s.C kp)?_ rfl ?_ ?_ Tryz.underlying114 ?_ ?_ ?_);(·rfl);(·rfl);(·exact all.out);(·rfl);(·rw [LC];rfl);go_frame)
   |(refine wpList_store_row rfl 114 _ _ rfl w0.heap.size(t.s.C kp).toArray rfl rfl 114 ZT.toArray(heap_alloc_new _ _)(by rw [SC];rfl)(by rw [SC,S_zs])OC ?_;simp only [Act.put]))
  obtain⟨g,hg⟩:∃x,x=w0.heap.size:=⟨_,rfl⟩
  refine jg(fun W=>Cb W w0.heap.size 114(t.s.C kp)∧Ext w0 W)Y.out ?_
  rw [← hg]
  have wg:w0.heap.size≤g:=Nat.le_of_eq hg.symm
  clear Y all
  replace hg:=hd hg
  rintro w2⟨k9,x2⟩
  have w0s:=x0.size
  have c129:=(Sq.nil.2 k9).mt ok
  rw [← hmt.out] at c129
  have HV:Hid(Sq w2 g 114 t.s kp []∧SS w2 sg kp mb gs t∧SrcSt w2 lo gs xs k∧Cb w2 r 47 ZH∧Two sg gs w w2):=⟨Sq.nil.2 k9,h0.ext x2,s0.ext x2,k6.ext x2,Two.of_ext(x0.trans x2)⟩
  clear k9 h0 s0 k6 x0 x2 h hs f1 f2
  go_upto_region 10 with fail
  have ok1:=ok
  generalize hs1:t.s=s1 at RV HV ok1
  generalize hk1:k=k1 at HV KK
  generalize w2=V at *
  have PV:Hid(∀u,V.grownBy u(some g)→SS u sg kp mb gs t∧SrcSt u lo gs xs k1∧Cb u r 47 ZH∧Two sg gs w u):=fun u x=>by
   obtain⟨_,a1,a2,a3,a4⟩ :=HV.out
   have hb:∀i,i < V.heap.size→i≠g→u.heap[i]? =V.heap[i]?:=fun i hi hne=>x.block i hi(fun z=>hne(Option.some.inj z))
   exact⟨a1.stay(hb _ a1.sl(by omega))(hb _ a1.kl(by omega))(hb _ a1.ml(by omega)),a2.other x(.inr(by omega)),(hb _ a3.lt(by omega)).trans a3,⟨x.os.trans a4.1,x.tape.trans a4.2.1,x.output.trans a4.2.2.1,Nat.le_trans a4.2.2.2.1 x.size,fun i hi h1 h2=>(hb i(Nat.lt_of_lt_of_le hi a4.2.2.2.1)(by omega)).trans(a4.2.2.2.2 i hi h1 h2)⟩⟩
  have hSg:=HV.out.1
  have lgV:=hSg.lt
  have Lp1:=Rt.pub_len ok1
  have c1_:=hSg.bf ok1
  have c2_:=hSg.sm ok1
  have mp1:=hd(hSg.at_pub ok1)
  have HB1:=hd(Jq(p:=s1.bf)(n:=s1.sm)Lp1)
  have O_H1:(hdC s1.pub s1.bf s1.sm).toArray.all(·.oneCell')=true:=YZ
  have L_H1:=hdC_len Lp1 s1.bf s1.sm
  have D1:=hd(fun W z=>DAT.out W s1.pub s1.bf s1.sm Lp1 z)
  have DLn:=JN bs Lp1 s1.bf s1.sm
  rw [lb] at DLn
  obtain⟨H1,hH1⟩:∃x,x=hdC s1.pub s1.bf s1.sm:=⟨_,rfl⟩
  rw [← hH1] at HB1 O_H1 L_H1 D1 RV
  clear hH1 DAT
  have S_H1:H1.toArray.size=34:=by rw [List.size_toArray,L_H1]
  have Y:Hid(Cb((V.alloc(.cells ZH.toArray 47)).setRow V.heap.size H1.toArray)V.heap.size 47 H1∧Ext V((V.alloc(.cells ZH.toArray 47)).setRow V.heap.size H1.toArray)):=⟨Cb.set(Cb.new _ _ _),Ext.newRow _ _ _⟩
  replace hSg:=hd hSg
  clear HV
  go_upto_region 11 with(first
   |((with_reducible refine jI(o:=⟨some 52,_,_,_,_,_⟩)(ty:=23)(g:=g)(off:=64)(ys:=cellsOf s1.pub)?_ rfl ?_ ?_ Tryz.underlying23 ?_ ?_ ?_);(·rfl);(·rfl);(·exact mp1.out);(·rfl);(·rw [(ja _).trans Lp1];rfl);go_frame)
   |((with_reducible refine jm(o:=⟨some 58, .build 47 _,_,_,_,_⟩)?_ 47 _ rfl H1.toArray ?_ ?_);(·rfl);(·simp only [List.map_toArray,List.map_cons,List.map_nil];exact HB1.out);go_frame)
   |(refine wpList_store_row rfl 47 _ _ rfl V.heap.size H1.toArray rfl rfl 47 ZH.toArray(heap_alloc_new _ _)(by rw [S_H1];rfl)(by rw [S_H1,S_hz])O_H1 ?_;simp only [Act.put]))
  obtain⟨r11,hr11⟩:∃x,x=V.heap.size:=⟨_,rfl⟩
  refine jg(fun W=>Cb W V.heap.size 47 H1∧Ext V W)Y.out ?_
  rw [← hr11]
  have wr11:V.heap.size≤r11:=Nat.le_of_eq hr11.symm
  clear Y c1_ c2_ mp1 HB1
  replace hr11:=hd hr11
  rintro w4⟨k11,x4⟩
  have D2:=hd(D1.out w4(PV.out w4(jD x4)).2.2.2)
  have l11:=k11.lt
  have hSg4:=hSg.out.ext x4
  have PV4:Hid(∀u,w4.grownBy u(some g)→SS u sg kp mb gs t∧SrcSt u lo gs xs k1∧Cb u r 47 ZH∧Two sg gs w u∧Cb u r11 47 H1):=fun u x=>by
   obtain⟨b1,b2,b3,b4⟩ :=PV.out u(jt(jD x4)x)
   exact⟨b1,b2,b3,b4,(x.block _ k11.lt(fun z=>by have:=Option.some.inj z;omega)).trans k11⟩
  replace k11:=hd k11
  clear PV D1 x4 hSg
  go_wp2_with(first |((with_reducible refine wpList_load_rowW(o:=⟨some 61,_,_,_,_,_⟩)?_ 47 _ rfl r11 ?_ 47 H1.toArray(0,0)_ ?_ Tryz.underlying47 ?_ ?_ ?_);(·rfl);(·rfl);(·exact k11.out);(·rfl);(·rw [S_H1];rfl);go_frame))
  refine D2.out.mono ?_
  rintro e w5⟨A1,n1,d1_,rfl,o1,x5⟩
  have n1l:n1≤1000000:=by rw [← o1.len];omega
  have PV5:Hid(∀u,w5.grownBy u(some g)→SS u sg kp mb gs t∧SrcSt u lo gs xs k1∧Cb u r 47 ZH∧Two sg gs w u∧Cb u r11 47 H1):=fun u x=>PV4.out u(jt(jD x5)x)
  have hSg5:=hSg4.ext x5
  have w45:=x5.size
  clear D2 PV4 hSg4 x5 k11
  rcases hko:okH s1.bf s1.sm with _ |_
  ·have q1:=hd(RV.out.1 hko)
   obtain⟨b1,b2,b3,b4,_⟩ :=PV5.out w5(World.grownBy.refl _ _)
   have de:vR s1.bf s1.sm=1:=by unfold vR;rw [hko];rfl
   rw [de]
   have RET2:Hid(SS(w5.setRow r ZH.toArray)sg kp mb gs t∧SrcSt(w5.setRow r ZH.toArray)lo gs xs k1∧Two sg gs w(w5.setRow r ZH.toArray)):=⟨b1.stay(setRow_other _ _ _ _(by omega))(setRow_other _ _ _ _(by omega))(setRow_other _ _ _ _(by omega)),b2.row(by omega),⟨b4.1,b4.2.1,b4.2.2.1,by simpa using b4.2.2.2.1,fun i hi h1 h2=>(setRow_other _ _ _ _(by omega)).trans(b4.2.2.2.2 i hi h1 h2)⟩⟩
   clear RV PV5 o1 hSg5 b1 b2 b4 hko de
   go_wp2_with(first
    |(refine wpList_build_as rfl _ _ rfl ZH.toArray(by simp only [List.map_toArray,List.map_nil];exact BZ.out)?_;go_frame)
    |(refine wpList_store_row rfl 47 _ _ rfl r ZH.toArray rfl rfl 47 ZH.toArray b3(by rw [S_hz];rfl)rfl O_hz ?_;simp only [Act.put]))
   (try simp only [Exit.inBlock,Exit.then])
   refine bodyPost_ret(qK rfl _ _ r 47 ZH.toArray(0,0)_ _ _ rfl rfl rfl(setRow_heap _ _ _ _ _ _ b3)rfl rfl(by rw [S_hz];rfl))rfl ?_
   exact⟨none,0,0,by rw [q1.out.1,q1.out.2.2.1];rfl,by rw [q1.out.2.1];exact Own.nil _ _,by first |(rw [q1.out.2.2.2];exact RET2.out.1)|(rw [q1.out.2.2.2,← hs1];exact RET2.out.1),by rw [KK.out];exact RET2.out.2.1,RET2.out.2.2⟩
  ·have q1:=hd(RV.out.2 hko)
   have de:vR s1.bf s1.sm=0:=by unfold vR;rw [hko];rfl
   have db:yE bs s1.pub s1.bf s1.sm=qb bs s1.pub s1.bf s1.sm:=by unfold yE;rw [hko];rfl
   rw [de]
   rw [db] at o1
   rw [q1.out.2.2.2] at okS
   obtain⟨b1,b2,b3,b4,b5⟩ :=PV5.out w5(World.grownBy.refl _ _)
   have ST1:=hd(STP.out w5 g s1 hSg5 ok1 b4)
   have Lmk:=keyL_len s1.sc qd
   have C1:=hd(fun W A1 n1 d1 z2 z3 z4 z5=>CLO.out W(jM s1.sc qd)A1 n1 d1(qb bs s1.pub s1.bf s1.sm)Lmk z2 z3 z4 z5)
   have QB:Hid(vB=qz(jM s1.sc qd)(qb bs s1.pub s1.bf s1.sm)text):=q1.out.2.1
   have QE:Hid(vE=0∧vH=H1):=⟨q1.out.1,q1.out.2.2.1⟩
   have QS:Hid(∀_:Unit,vS=jW s1):=fun _=>q1.out.2.2.2
   clear q1 RV hko de db STP CLO b1 b2 b3 b4 b5
   generalize qz(jM s1.sc qd)(qb bs s1.pub s1.bf s1.sm)text=SB at *
   generalize qb bs s1.pub s1.bf s1.sm=dl at *
   generalize jM s1.sc qd=mk at *
   have S_mk:(cellsOf mk).toArray.size=32:=by simp [ja,Lmk]
   have O_mk:=ji mk
   have o1l:=o1
   have w0w4:g < w4.heap.size:=by omega
   have w5s:w4.heap.size≤w5.heap.size:=w45
   replace o1:=hd o1
   clear hSg5 o1l
   go_wp2_with fail
   refine ST1.out.mono ?_
   rintro e w6⟨rfl,hS6,gr6⟩
   have Y:Hid(Cb((w6.alloc(.cells(cellsOf zk).toArray 23)).setRow w6.heap.size(cellsOf mk).toArray)w6.heap.size 23(cellsOf mk)∧Ext w6((w6.alloc(.cells(cellsOf zk).toArray 23)).setRow w6.heap.size(cellsOf mk).toArray)):=⟨Cb.set(Cb.new _ _ _),Ext.newRow _ _ _⟩
   have o6:Own w4.heap.size w6 A1 n1 d1_ dl:=o1.out.kept gr6(by
    cases hq:Value.ownBlock(.slice A1 n1 d1_)with
    |none=>exact .inl rfl
    |some gg =>
     right
     have:=(World.ownsRow.lt o1.out gg hq).1
     intro z
     have:=Option.some.inj z
     omega)
   replace hS6:=hd hS6
   replace gr6:=hd gr6
   clear ST1 o1
   go_upto_region 15 with(refine wpList_store_row rfl 23 _ _ rfl w6.heap.size(cellsOf mk).toArray rfl rfl 23(cellsOf zk).toArray(heap_alloc_new _ _)(by rw [S_mk];rfl)(by rw [S_mk,S_zk])O_mk ?_;simp only [Act.put])
   obtain⟨r14,hr14⟩:∃x,x=w6.heap.size:=⟨_,rfl⟩
   refine jg(fun W=>Cb W w6.heap.size 23(cellsOf mk)∧Ext w6 W)Y.out ?_
   rw [← hr14]
   have wr14:w6.heap.size≤r14:=Nat.le_of_eq hr14.symm
   clear Y
   replace hr14:=hd hr14
   rintro w7⟨k14,x7⟩
   have s56:=gr6.out.size
   obtain⟨b1,b2,b3,b4,b5⟩ :=PV5.out w7(jt gr6.out(jD x7))
   have hS7:=hS6.out.ext x7
   have o7:=o6.ext x7
   have SC7:=Rt.C_size okS kp
   have OC7:=Rt.C_one(stepS s1)kp
   have TH:=hd(b1.sq.there0 ok)
   have PUT:=b1.sq.put_all ok okS(kp':=kp)
   have l14:=k14.lt
   have F8:Hid(SS(w7.setCells sg 0((jW s1).C kp))sg kp mb gs⟨jW s1,t.L,t.puts⟩∧SrcSt(w7.setCells sg 0((jW s1).C kp))lo gs xs k1∧Cb(w7.setCells sg 0((jW s1).C kp))r 47 ZH∧Two sg gs w(w7.setCells sg 0((jW s1).C kp))∧Cb(w7.setCells sg 0((jW s1).C kp))r11 47 H1∧Cb(w7.setCells sg 0((jW s1).C kp))r14 23(cellsOf mk)∧Own w4.heap.size(w7.setCells sg 0((jW s1).C kp))A1 n1 d1_ dl):=by
    have gs_:w7.grownBy(w7.setCells sg 0((jW s1).C kp))(some sg):=ju
    have hb:∀i,i < w7.heap.size→i≠sg→(w7.setCells sg 0((jW s1).C kp)).heap[i]? =w7.heap[i]?:=fun i hi hne=>gs_.block i hi(fun z=>hne(Option.some.inj z))
    have w4s:sg < w4.heap.size:=by omega
    exact⟨⟨PUT,b1.sk.stay(hb _ b1.kl(fun z=>nk z.symm))(hb _ b1.ml(fun z=>nm z.symm)),okS,l8⟩,b2.other gs_(.inr hgs),(hb _ b3.lt(by omega)).trans b3,⟨gs_.os.trans b4.1,gs_.tape.trans b4.2.1,gs_.output.trans b4.2.2.1,Nat.le_trans b4.2.2.2.1 gs_.size,fun i hi h1 h2=>(hb i(Nat.lt_of_lt_of_le hi b4.2.2.2.1)h1).trans(b4.2.2.2.2 i hi h1 h2)⟩,(hb _ b5.lt(by omega)).trans b5,(hb _ k14.lt(by omega)).trans k14,o7.kept gs_(by
     cases hq:Value.ownBlock(.slice A1 n1 d1_)with
     |none=>exact .inl rfl
     |some gg =>
      right
      have:=(World.ownsRow.lt o7 gg hq).1
      intro z
      have:=Option.some.inj z
      omega)⟩
   have k9:Hid(Cb w7 g 114((jW s1).C kp)):=Sq.nil.1 hS7
   have w7s:w7.heap.size≤(w7.setCells sg 0((jW s1).C kp)).heap.size:=(grown_setCells(w:=w7)(g:=sg)(o:=0)(vs:=(jW s1).C kp)).size
   have w67:=x7.size
   clear PV5 gr6 hS6 o6 k14 x7 b1 b2 b3 b4 b5 hS7 o7 PUT
   generalize(jW s1).C kp=CC at *
   go_upto_region 16 with(first
    |((with_reducible refine js(o:=⟨some 72,_,_,_,_,_⟩)?_ 114 _ rfl g ?_ 114 CC.toArray(0,0)_ ?_ Tryz.underlying114 ?_ ?_ ?_);(·rfl);(·rfl);(·exact k9.out);(·rfl);(·rw [SC7];rfl);go_frame)
    |((with_reducible refine wpList_store_mid(op:=⟨none, .store 114(.tmp 74)(.tmp 72),_,_,_,_⟩)?_ 114 _ _ rfl sg 0 CC.toArray ?_ ?_ ?_ ?_ ?_ ?_);(·rfl);(·rfl);(·rfl);(·rw [SC7];exact TH.out);(·rw [SC7];rfl);(·exact OC7);go_frame))
   refine jg(fun W=>(SS W sg kp mb gs⟨jW s1,t.L,t.puts⟩∧SrcSt W lo gs xs k1∧Cb W r 47 ZH∧Two sg gs w W∧Cb W r11 47 H1∧Cb W r14 23(cellsOf mk)∧Own w4.heap.size W A1 n1 d1_ dl)∧w7.heap.size≤W.heap.size)⟨F8.out,w7s⟩?_
   clear F8 k9 TH SC7 OC7 w7s
   rintro w8⟨⟨a1,a2,a3,a4,a5,a6,a7⟩,w78⟩
   have QQ:Hid(∀u,w8.drew.grownBy u(some r)→SS u sg kp mb gs⟨jW s1,t.L,t.puts⟩∧SrcSt u lo gs xs k1∧Two sg gs w u∧Cb u r11 47 H1∧Cb u r14 23(cellsOf mk)):=fun u x=>by
    have hb:∀i,i < w8.heap.size→i≠r→u.heap[i]? =w8.heap[i]?:=fun i hi hne=>x.block i hi(fun z=>hne(Option.some.inj z))
    exact⟨a1.stay(hb _ a1.sl(by omega))(hb _ a1.kl(by omega))(hb _ a1.ml(by omega)),a2.other(w:=w8)⟨x.os,x.tape,x.output,x.size,x.block⟩(.inr(by omega)),⟨x.os.trans a4.1,x.tape.trans a4.2.1,x.output.trans a4.2.2.1,Nat.le_trans a4.2.2.2.1 x.size,fun i hi h1 h2=>(hb i(Nat.lt_of_lt_of_le hi a4.2.2.2.1)(by omega)).trans(a4.2.2.2.2 i hi h1 h2)⟩,(hb _ a5.lt(by omega)).trans a5,(hb _ a6.lt(by omega)).trans a6⟩
   have K3:Hid(Cb w8.drew r 47 ZH):=a3
   have CL:=hd(C1.out w8.drew A1 n1 d1_(QQ.out _(World.grownBy.refl _ _)).2.2.1(a7.bs.ext(Ext.refl _).drew)n1l(by omega))
   have r8:w.heap.size≤w8.drew.heap.size:=a4.2.2.2.1
   clear a1 a2 a3 a4 a5 a6 a7 C1
   refine qgW r [0,1,2,3,4,5,6,7] [4,5] ?_
   refine qV rfl(fun w'=>w'.heap[r11]? =some(.cells H1.toArray 47(0,0)))(fun w' e=>(QQ.out w' e).2.2.2.1)(.agg H1.toArray)(fun w' hF=>jd rfl rfl hF rfl rfl(by rw [S_H1];rfl))?_
   go_frame
   refine qV rfl(fun w'=>w'.heap[r14]? =some(.cells(cellsOf mk).toArray 23(0,0)))(fun w' e=>(QQ.out w' e).2.2.2.2)(.agg(cellsOf mk).toArray)(fun w' hF=>jd rfl rfl hF rfl rfl(by rw [S_mk];rfl))?_
   go_frame
   repeat((first |refine qR0 ?_ |refine qS ?_);go_frame)
   have ZZ:Hid(w8.drew.grownBy w8.drew(some r)):=World.grownBy.refl _ _
   generalize w8.drew=V8 at *
   have r8l:=K3.out.lt
   refine qD fun K hK=> ?_
   go_simp
   refine CL.out.mono ?_
   rintro e w9⟨A9,n9,c9,rfl,o9,x9⟩
   refine hK.out _ _(jD x9)?_
   clear hK K
   try go_frame
   replace K3:=hd(K3.out.ext x9)
   have ON:Hid(∀gg,Value.ownBlock(.slice A9 n9 c9)=some gg→V8.heap.size≤gg):=fun gg hq=>(World.ownsRow.lt o9 gg hq).1
   replace o9:=hd(o9.lower(B':=w.heap.size)r8)
   have G9:=hd(jD(r:=some r)x9)
   clear CL x9
   repeat((first |refine qR0 ?_ |refine qS ?_);go_frame)
   refine qD fun K hK=> ?_
   refine wp_store_row _ _ _ rfl r H1.toArray rfl rfl 47 ZH.toArray K3.out(by rw [S_H1];rfl)(by rw [S_H1,S_hz])O_H1 ?_
   refine hK.out _ _(qF _ _ _)?_
   clear hK K
   try simp only [Act.put]
   repeat((first |refine qR0 ?_ |refine qS ?_);go_frame)
   refine jp ?_
   have FIN:=hd(QQ.out _(jt G9.out(qF w9 r H1.toArray)))
   have OFIN:Hid(Own w.heap.size(w9.setRow r H1.toArray)A9 n9 c9 SB):=o9.out.kept(qF w9 r H1.toArray)(by
    cases hq:Value.ownBlock(.slice A9 n9 c9)with
    |none=>exact .inl rfl
    |some gg =>
     right
     have:=ON.out gg hq
     intro z
     have:=Option.some.inj z
     omega)
   go_wp2_with fail
   (try simp only [Exit.inBlock,Exit.then])
   refine bodyPost_ret(qK rfl _ _ r 47 H1.toArray(0,0)_ _ _ rfl rfl rfl(setRow_heap _ _ _ _ _ _ K3.out)rfl rfl(by rw [S_H1];rfl))rfl ?_
   exact⟨A9,n9,c9,by rw [QE.out.1,QE.out.2];rfl,by rw [QB.out];exact OFIN.out,by rw [QS.out()];exact FIN.out.1,by rw [KK.out];exact FIN.out.2.1,FIN.out.2.2.1⟩
 ·by_cases hl:300 < m2
  ·have d1:decide((300:Int) < (m2:Int))=true:=decide_eq_true(by omega)
   have q1:=hd(R1.out(fun z=>by cases z.2)hl)
   clear R7 RT RR KT TT h0 s0 x0 h hs R1
   rcases si with _ |_
   ·skip
    go_wp2_with(first
     |(refine jm rfl _ _ rfl ZH.toArray(by simp only [List.map_toArray,List.map_nil];exact BZ.out)?_;go_frame)
     |(refine wpList_store_row rfl 47 _ _ rfl r ZH.toArray rfl rfl 47 ZH.toArray k6(by rw [S_hz];rfl)rfl O_hz ?_;simp only [Act.put]))
    (try simp only [Exit.inBlock,Exit.then])
    refine bodyPost_ret(qK rfl _ _ r 47 ZH.toArray(0,0)_ _ _ rfl rfl rfl(setRow_heap _ _ _ _ _ _ k6)rfl rfl(by rw [S_hz];rfl))rfl ?_
    exact⟨none,0,0,by rw [q1.out.1,q1.out.2.2.1];rfl,by rw [q1.out.2.1];exact Own.nil _ _,by rw [q1.out.2.2.2.1];exact RET.out.2.1,by rw [q1.out.2.2.2.2];exact RET.out.2.2,Two.of_ext RET.out.1⟩
   ·skip
    go_wp2_with(first
     |(refine jm rfl _ _ rfl ZH.toArray(by simp only [List.map_toArray,List.map_nil];exact BZ.out)?_;go_frame)
     |(refine wpList_store_row rfl 47 _ _ rfl r ZH.toArray rfl rfl 47 ZH.toArray k6(by rw [S_hz];rfl)rfl O_hz ?_;simp only [Act.put]))
    (try simp only [Exit.inBlock,Exit.then])
    refine bodyPost_ret(qK rfl _ _ r 47 ZH.toArray(0,0)_ _ _ rfl rfl rfl(setRow_heap _ _ _ _ _ _ k6)rfl rfl(by rw [S_hz];rfl))rfl ?_
    exact⟨none,0,0,by rw [q1.out.1,q1.out.2.2.1];rfl,by rw [q1.out.2.1];exact Own.nil _ _,by rw [q1.out.2.2.2.1];exact RET.out.2.1,by rw [q1.out.2.2.2.2];exact RET.out.2.2,Two.of_ext RET.out.1⟩
  have d1:decide((300:Int) < (m2:Int))=false:=decide_eq_false(by omega)
  have KK:Hid(vK=k+1):=(KT.out(fun z=>by cases z.2)hl).1 rfl
  have RTt:=hd(RT.out(fun z=>by cases z.2)hl rfl)
  have RRt:=hd(RR.out(fun z=>by cases z.2)hl)
  rw [TT.out.1 rfl] at RRt okT
  clear R7 R1 RT RR KT TT RET
  have SC:=Rt.C_size ok kp
  have OC:=Rt.C_one t.s kp
  have LC:=Rt.C_len ok kp
  have all:=hd(h0.sq.all w0 sg)
  have Y:Hid(Cb((w0.alloc(.cells ZT.toArray 114)).setRow w0.heap.size(t.s.C kp).toArray)w0.heap.size 114(t.s.C kp)∧Ext w0((w0.alloc(.cells ZT.toArray 114)).setRow w0.heap.size(t.s.C kp).toArray)):=⟨Cb.set(Cb.new _ _ _),Ext.newRow _ _ _⟩
  rcases si with _ |_
  ·skip
   go_upto_region 6 with(first
    |((with_reducible refine jI(o:=⟨some 38,_,_,_,_,_⟩)(ty:=114)(g:=sg)(off:=0)(ys:=t.s.C kp)?_ rfl ?_ ?_ Tryz.underlying114 ?_ ?_ ?_);(·rfl);(·rfl);(·exact all.out);(·rfl);(·rw [LC];rfl);go_frame)
    |(refine wpList_store_row rfl 114 _ _ rfl w0.heap.size(t.s.C kp).toArray rfl rfl 114 ZT.toArray(heap_alloc_new _ _)(by rw [SC];rfl)(by rw [SC,S_zs])OC ?_;simp only [Act.put]))
   obtain⟨g,hg⟩:∃x,x=w0.heap.size:=⟨_,rfl⟩
   refine jg(fun W=>Cb W w0.heap.size 114(t.s.C kp)∧Ext w0 W)Y.out ?_
   rw [← hg]
   have wg:w0.heap.size≤g:=Nat.le_of_eq hg.symm
   clear Y all
   replace hg:=hd hg
   rintro w2⟨k9,x2⟩
   have w0s:=x0.size
   have gl2:=k9.lt
   have c129:=(Sq.nil.2 k9).mt ok
   rw [← hmt.out] at c129
   have c200:=(h0.sq.ext x2).last ok
   have g2:=GG.out w2(Two.of_ext(x0.trans x2))
   have TR:=hd(TRN.out w2 g(Sq.nil.2 k9)(s0.ext x2)(by omega)g2.1 g2.2)
   have H2:Hid(SS w2 sg kp mb gs t∧Cb w2 r 47 ZH∧Ext w w2):=⟨h0.ext x2,k6.ext x2,x0.trans x2⟩
   clear k9 h0 s0 k6 x0 x2 h hs f1 f2 TRN g2
   go_wp2_with fail
   refine TR.out.mono ?_
   rintro e w3⟨rfl,hS3,s3,t3⟩
   have b3:=t3.2.2.2.2
   obtain⟨h2,k2,x2⟩ :=H2.out
   have h3:SS w3 sg kp mb gs t:=h2.stay(b3 _ h2.sl(by omega)(by omega))(b3 _ h2.kl(by omega)(fun z=>ngk z.symm))(b3 _ h2.ml(by omega)(fun z=>ngm z.symm))
   have k3:Cb w3 r 47 ZH:=(b3 _ k2.lt(by omega)(by omega)).trans k2
   have T3:Two sg gs w w3:=⟨t3.1.trans x2.os,t3.2.1.trans x2.tape,t3.2.2.1.trans x2.output,Nat.le_trans x2.size t3.2.2.2.1,fun i hi h1 h2'=>(b3 i(Nat.lt_of_lt_of_le hi x2.size)(by omega)h2').trans(x2.block i hi)⟩
   clear TR H2 c129 c200 t3 b3 h2 k2 x2
   obtain⟨te,hte⟩:∃x,x=qh t.s p:=⟨_,rfl⟩
   rw [← hte] at RTt RRt ⊢
   by_cases he:te=0
   ·have RV:=hd(RRt.out(fun z=>z.2 he))
    obtain⟨k1,hk1⟩:∃x,x=k+1:=⟨_,rfl⟩
    rw [← hk1] at KK s3
    subst he
    obtain⟨s1,hs1⟩:∃x,x=qg t.s p:=⟨_,rfl⟩
    rw [← hs1] at RV hS3 okT
    have HV:Hid(Sq w3 g 114 s1 kp []∧SS w3 sg kp mb gs t∧SrcSt w3 lo gs xs k1∧Cb w3 r 47 ZH∧Two sg gs w w3):=⟨hS3,h3,s3,k3,T3⟩
    have ok1:=okT
    clear hS3 h3 s3 k3 T3 hs1 hk1 hte RTt RRt okT
    go_upto_region 10 with fail
    generalize w3=V at *
    have PV:Hid(∀u,V.grownBy u(some g)→SS u sg kp mb gs t∧SrcSt u lo gs xs k1∧Cb u r 47 ZH∧Two sg gs w u):=fun u x=>by
     obtain⟨_,a1,a2,a3,a4⟩ :=HV.out
     have hb:∀i,i < V.heap.size→i≠g→u.heap[i]? =V.heap[i]?:=fun i hi hne=>x.block i hi(fun z=>hne(Option.some.inj z))
     exact⟨a1.stay(hb _ a1.sl(by omega))(hb _ a1.kl(by omega))(hb _ a1.ml(by omega)),a2.other x(.inr(by omega)),(hb _ a3.lt(by omega)).trans a3,⟨x.os.trans a4.1,x.tape.trans a4.2.1,x.output.trans a4.2.2.1,Nat.le_trans a4.2.2.2.1 x.size,fun i hi h1 h2=>(hb i(Nat.lt_of_lt_of_le hi a4.2.2.2.1)(by omega)).trans(a4.2.2.2.2 i hi h1 h2)⟩⟩
    have hSg:=HV.out.1
    have lgV:=hSg.lt
    have Lp1:=Rt.pub_len ok1
    have c1_:=hSg.bf ok1
    have c2_:=hSg.sm ok1
    have mp1:=hd(hSg.at_pub ok1)
    have HB1:=hd(head_builtR(p:=s1.bf)(n:=s1.sm)Lp1)
    have O_H1:(hdC s1.pub s1.bf s1.sm).toArray.all(·.oneCell')=true:=YZ
    have L_H1:=yy Lp1 s1.bf s1.sm
    have D1:=hd(fun W z=>DAT.out W s1.pub s1.bf s1.sm Lp1 z)
    have DLn:=JN bs Lp1 s1.bf s1.sm
    rw [lb] at DLn
    obtain⟨H1,hH1⟩:∃x,x=hdC s1.pub s1.bf s1.sm:=⟨_,rfl⟩
    rw [← hH1] at HB1 O_H1 L_H1 D1 RV
    clear hH1 DAT
    have S_H1:H1.toArray.size=34:=by rw [List.size_toArray,L_H1]
    have Y:Hid(Cb((V.alloc(.cells ZH.toArray 47)).setRow V.heap.size H1.toArray)V.heap.size 47 H1∧Ext V((V.alloc(.cells ZH.toArray 47)).setRow V.heap.size H1.toArray)):=⟨Cb.set(Cb.new _ _ _),Ext.newRow _ _ _⟩
    replace hSg:=hd hSg
    clear HV
    go_upto_region 11 with(first
     |((with_reducible refine jI(o:=⟨some 52,_,_,_,_,_⟩)(ty:=23)(g:=g)(off:=64)(ys:=cellsOf s1.pub)?_ rfl ?_ ?_ Tryz.underlying23 ?_ ?_ ?_);(·rfl);(·rfl);(·exact mp1.out);(·rfl);(·rw [(ja _).trans Lp1];rfl);go_frame)
     |((with_reducible refine jm(o:=⟨some 58, .build 47 _,_,_,_,_⟩)?_ 47 _ rfl H1.toArray ?_ ?_);(·rfl);(·simp only [List.map_toArray,List.map_cons,List.map_nil];exact HB1.out);go_frame)
     |(refine wpList_store_row rfl 47 _ _ rfl V.heap.size H1.toArray rfl rfl 47 ZH.toArray(heap_alloc_new _ _)(by rw [S_H1];rfl)(by rw [S_H1,S_hz])O_H1 ?_;simp only [Act.put]))
    obtain⟨r11,hr11⟩:∃x,x=V.heap.size:=⟨_,rfl⟩
    refine jg(fun W=>Cb W V.heap.size 47 H1∧Ext V W)Y.out ?_
    rw [← hr11]
    have wr11:V.heap.size≤r11:=Nat.le_of_eq hr11.symm
    clear Y c1_ c2_ mp1 HB1
    replace hr11:=hd hr11
    rintro w4⟨k11,x4⟩
    have D2:=hd(D1.out w4(PV.out w4(jD x4)).2.2.2)
    have l11:=k11.lt
    have hSg4:=hSg.out.ext x4
    have PV4:Hid(∀u,w4.grownBy u(some g)→SS u sg kp mb gs t∧SrcSt u lo gs xs k1∧Cb u r 47 ZH∧Two sg gs w u∧Cb u r11 47 H1):=fun u x=>by
     obtain⟨b1,b2,b3,b4⟩ :=PV.out u(jt(grown_of_ext x4)x)
     exact⟨b1,b2,b3,b4,(x.block _ k11.lt(fun z=>by have:=Option.some.inj z;omega)).trans k11⟩
    replace k11:=hd k11
    clear PV D1 x4 hSg
    go_wp2_with(first |((with_reducible refine js(o:=⟨some 61,_,_,_,_,_⟩)?_ 47 _ rfl r11 ?_ 47 H1.toArray(0,0)_ ?_ Tryz.underlying47 ?_ ?_ ?_);(·rfl);(·rfl);(·exact k11.out);(·rfl);(·rw [S_H1];rfl);go_frame))
    refine D2.out.mono ?_
    rintro e w5⟨A1,n1,d1_,rfl,o1,x5⟩
    have n1l:n1≤1000000:=by rw [← o1.len];omega
    have PV5:Hid(∀u,w5.grownBy u(some g)→SS u sg kp mb gs t∧SrcSt u lo gs xs k1∧Cb u r 47 ZH∧Two sg gs w u∧Cb u r11 47 H1):=fun u x=>PV4.out u(jt(jD x5)x)
    have hSg5:=hSg4.ext x5
    have w45:=x5.size
    clear D2 PV4 hSg4 x5 k11
    rcases hko:okH s1.bf s1.sm with _ |_
    ·have q1:=hd(RV.out.1 hko)
     obtain⟨b1,b2,b3,b4,_⟩ :=PV5.out w5(World.grownBy.refl _ _)
     have de:dataE s1.bf s1.sm=1:=by unfold vR;rw [hko];rfl
     rw [de]
     have RET2:Hid(SS(w5.setRow r ZH.toArray)sg kp mb gs t∧SrcSt(w5.setRow r ZH.toArray)lo gs xs k1∧Two sg gs w(w5.setRow r ZH.toArray)):=⟨b1.stay(setRow_other _ _ _ _(by omega))(setRow_other _ _ _ _(by omega))(setRow_other _ _ _ _(by omega)),b2.row(by omega),⟨b4.1,b4.2.1,b4.2.2.1,by simpa using b4.2.2.2.1,fun i hi h1 h2=>(setRow_other _ _ _ _(by omega)).trans(b4.2.2.2.2 i hi h1 h2)⟩⟩
     clear RV PV5 o1 hSg5 b1 b2 b4 hko de
     go_wp2_with(first
      |(refine jm rfl _ _ rfl ZH.toArray(by simp only [List.map_toArray,List.map_nil];exact BZ.out)?_;go_frame)
      |(refine wpList_store_row rfl 47 _ _ rfl r ZH.toArray rfl rfl 47 ZH.toArray b3(by rw [S_hz];rfl)rfl O_hz ?_;simp only [Act.put]))
     (try simp only [Exit.inBlock,Exit.then])
     refine bodyPost_ret(qK rfl _ _ r 47 ZH.toArray(0,0)_ _ _ rfl rfl rfl(setRow_heap _ _ _ _ _ _ b3)rfl rfl(by rw [S_hz];rfl))rfl ?_
     exact⟨none,0,0,by rw [q1.out.1,q1.out.2.2.1];rfl,by rw [q1.out.2.1];exact Own.nil _ _,by first |(rw [q1.out.2.2.2];exact RET2.out.1)|(rw [q1.out.2.2.2,← hs1];exact RET2.out.1),by rw [KK.out];exact RET2.out.2.1,RET2.out.2.2⟩
    ·have q1:=hd(RV.out.2 hko)
     have de:dataE s1.bf s1.sm=0:=by unfold vR;rw [hko];rfl
     have db:dataB bs s1.pub s1.bf s1.sm=qb bs s1.pub s1.bf s1.sm:=by unfold yE;rw [hko];rfl
     rw [de]
     rw [db] at o1
     rw [q1.out.2.2.2] at okS
     obtain⟨b1,b2,b3,b4,b5⟩ :=PV5.out w5(World.grownBy.refl _ _)
     have ST1:=hd(STP.out w5 g s1 hSg5 ok1 b4)
     have Lmk:=jR s1.sc qd
     have C1:=hd(fun W A1 n1 d1 z2 z3 z4 z5=>CLO.out W(jM s1.sc qd)A1 n1 d1(qb bs s1.pub s1.bf s1.sm)Lmk z2 z3 z4 z5)
     have QB:Hid(vB=qz(jM s1.sc qd)(qb bs s1.pub s1.bf s1.sm)text):=q1.out.2.1
     have QE:Hid(vE=0∧vH=H1):=⟨q1.out.1,q1.out.2.2.1⟩
     have QS:Hid(∀_:Unit,vS=jW s1):=fun _=>q1.out.2.2.2
     clear q1 RV hko de db STP CLO b1 b2 b3 b4 b5
     generalize qz(keyL s1.sc qd)(qb bs s1.pub s1.bf s1.sm)text=SB at *
     generalize qb bs s1.pub s1.bf s1.sm=dl at *
     generalize jM s1.sc qd=mk at *
     have S_mk:(cellsOf mk).toArray.size=32:=by simp [ja,Lmk]
     have O_mk:=ji mk
     have o1l:=o1
     have w0w4:g < w4.heap.size:=by omega
     have w5s:w4.heap.size≤w5.heap.size:=w45
     replace o1:=hd o1
     clear hSg5 o1l
     go_wp2_with fail
     refine ST1.out.mono ?_
     rintro e w6⟨rfl,hS6,gr6⟩
     have Y:Hid(Cb((w6.alloc(.cells(cellsOf zk).toArray 23)).setRow w6.heap.size(cellsOf mk).toArray)w6.heap.size 23(cellsOf mk)∧Ext w6((w6.alloc(.cells(cellsOf zk).toArray 23)).setRow w6.heap.size(cellsOf mk).toArray)):=⟨Cb.set(Cb.new _ _ _),Ext.newRow _ _ _⟩
     have o6:Own w4.heap.size w6 A1 n1 d1_ dl:=o1.out.kept gr6(by
      cases hq:Value.ownBlock(.slice A1 n1 d1_)with
      |none=>exact .inl rfl
      |some gg =>
       right
       have:=(World.ownsRow.lt o1.out gg hq).1
       intro z
       have:=Option.some.inj z
       omega)
     replace hS6:=hd hS6
     replace gr6:=hd gr6
     clear ST1 o1
     go_upto_region 15 with(refine wpList_store_row rfl 23 _ _ rfl w6.heap.size(cellsOf mk).toArray rfl rfl 23(cellsOf zk).toArray(heap_alloc_new _ _)(by rw [S_mk];rfl)(by rw [S_mk,S_zk])O_mk ?_;simp only [Act.put])
     obtain⟨r14,hr14⟩:∃x,x=w6.heap.size:=⟨_,rfl⟩
     refine jg(fun W=>Cb W w6.heap.size 23(cellsOf mk)∧Ext w6 W)Y.out ?_
     rw [← hr14]
     have wr14:w6.heap.size≤r14:=Nat.le_of_eq hr14.symm
     clear Y
     replace hr14:=hd hr14
     rintro w7⟨k14,x7⟩
     have s56:=gr6.out.size
     obtain⟨b1,b2,b3,b4,b5⟩ :=PV5.out w7(jt gr6.out(jD x7))
     have hS7:=hS6.out.ext x7
     have o7:=o6.ext x7
     have SC7:=Rt.C_size okS kp
     have OC7:=Rt.C_one(jW s1)kp
     have TH:=hd(b1.sq.there0 ok)
     have PUT:=b1.sq.put_all ok okS(kp':=kp)
     have l14:=k14.lt
     have F8:Hid(SS(w7.setCells sg 0((jW s1).C kp))sg kp mb gs⟨jW s1,t.L,t.puts⟩∧SrcSt(w7.setCells sg 0((jW s1).C kp))lo gs xs k1∧Cb(w7.setCells sg 0((jW s1).C kp))r 47 ZH∧Two sg gs w(w7.setCells sg 0((jW s1).C kp))∧Cb(w7.setCells sg 0((jW s1).C kp))r11 47 H1∧Cb(w7.setCells sg 0((jW s1).C kp))r14 23(cellsOf mk)∧Own w4.heap.size(w7.setCells sg 0((jW s1).C kp))A1 n1 d1_ dl):=by
      have gs_:w7.grownBy(w7.setCells sg 0((jW s1).C kp))(some sg):=ju
      have hb:∀i,i < w7.heap.size→i≠sg→(w7.setCells sg 0((jW s1).C kp)).heap[i]? =w7.heap[i]?:=fun i hi hne=>gs_.block i hi(fun z=>hne(Option.some.inj z))
      have w4s:sg < w4.heap.size:=by omega
      exact⟨⟨PUT,b1.sk.stay(hb _ b1.kl(fun z=>nk z.symm))(hb _ b1.ml(fun z=>nm z.symm)),okS,l8⟩,b2.other gs_(.inr hgs),(hb _ b3.lt(by omega)).trans b3,⟨gs_.os.trans b4.1,gs_.tape.trans b4.2.1,gs_.output.trans b4.2.2.1,Nat.le_trans b4.2.2.2.1 gs_.size,fun i hi h1 h2=>(hb i(Nat.lt_of_lt_of_le hi b4.2.2.2.1)h1).trans(b4.2.2.2.2 i hi h1 h2)⟩,(hb _ b5.lt(by omega)).trans b5,(hb _ k14.lt(by omega)).trans k14,o7.kept gs_(by
       cases hq:Value.ownBlock(.slice A1 n1 d1_)with
       |none=>exact .inl rfl
       |some gg =>
        right
        have:=(World.ownsRow.lt o7 gg hq).1
        intro z
        have:=Option.some.inj z
        omega)⟩
     have k9:Hid(Cb w7 g 114((jW s1).C kp)):=Sq.nil.1 hS7
     have w7s:w7.heap.size≤(w7.setCells sg 0((jW s1).C kp)).heap.size:=(ju(w:=w7)(g:=sg)(o:=0)(vs:=(jW s1).C kp)).size
     have w67:=x7.size
     clear PV5 gr6 hS6 o6 k14 x7 b1 b2 b3 b4 b5 hS7 o7 PUT
     generalize(jW s1).C kp=CC at *
     go_upto_region 16 with(first
      |((with_reducible refine js(o:=⟨some 72,_,_,_,_,_⟩)?_ 114 _ rfl g ?_ 114 CC.toArray(0,0)_ ?_ Tryz.underlying114 ?_ ?_ ?_);(·rfl);(·rfl);(·exact k9.out);(·rfl);(·rw [SC7];rfl);go_frame)
      |((with_reducible refine wpList_store_mid(op:=⟨none, .store 114(.tmp 74)(.tmp 72),_,_,_,_⟩)?_ 114 _ _ rfl sg 0 CC.toArray ?_ ?_ ?_ ?_ ?_ ?_);(·rfl);(·rfl);(·rfl);(·rw [SC7];exact TH.out);(·rw [SC7];rfl);(·exact OC7);go_frame))
     refine jg(fun W=>(SS W sg kp mb gs⟨jW s1,t.L,t.puts⟩∧SrcSt W lo gs xs k1∧Cb W r 47 ZH∧Two sg gs w W∧Cb W r11 47 H1∧Cb W r14 23(cellsOf mk)∧Own w4.heap.size W A1 n1 d1_ dl)∧w7.heap.size≤W.heap.size)⟨F8.out,w7s⟩?_
     clear F8 k9 TH SC7 OC7 w7s
     rintro w8⟨⟨a1,a2,a3,a4,a5,a6,a7⟩,w78⟩
     have QQ:Hid(∀u,w8.drew.grownBy u(some r)→SS u sg kp mb gs⟨jW s1,t.L,t.puts⟩∧SrcSt u lo gs xs k1∧Two sg gs w u∧Cb u r11 47 H1∧Cb u r14 23(cellsOf mk)):=fun u x=>by
      have hb:∀i,i < w8.heap.size→i≠r→u.heap[i]? =w8.heap[i]?:=fun i hi hne=>x.block i hi(fun z=>hne(Option.some.inj z))
      exact⟨a1.stay(hb _ a1.sl(by omega))(hb _ a1.kl(by omega))(hb _ a1.ml(by omega)),a2.other(w:=w8)⟨x.os,x.tape,x.output,x.size,x.block⟩(.inr(by omega)),⟨x.os.trans a4.1,x.tape.trans a4.2.1,x.output.trans a4.2.2.1,Nat.le_trans a4.2.2.2.1 x.size,fun i hi h1 h2=>(hb i(Nat.lt_of_lt_of_le hi a4.2.2.2.1)(by omega)).trans(a4.2.2.2.2 i hi h1 h2)⟩,(hb _ a5.lt(by omega)).trans a5,(hb _ a6.lt(by omega)).trans a6⟩
     have K3:Hid(Cb w8.drew r 47 ZH):=a3
     have CL:=hd(C1.out w8.drew A1 n1 d1_(QQ.out _(World.grownBy.refl _ _)).2.2.1(a7.bs.ext(Ext.refl _).drew)n1l(by omega))
     have r8:w.heap.size≤w8.drew.heap.size:=a4.2.2.2.1
     clear a1 a2 a3 a4 a5 a6 a7 C1
     refine qgW r [0,1,2,3,4,5,6,7] [4,5] ?_
     refine qV rfl(fun w'=>w'.heap[r11]? =some(.cells H1.toArray 47(0,0)))(fun w' e=>(QQ.out w' e).2.2.2.1)(.agg H1.toArray)(fun w' hF=>jd rfl rfl hF rfl rfl(by rw [S_H1];rfl))?_
     go_frame
     refine qV rfl(fun w'=>w'.heap[r14]? =some(.cells(cellsOf mk).toArray 23(0,0)))(fun w' e=>(QQ.out w' e).2.2.2.2)(.agg(cellsOf mk).toArray)(fun w' hF=>jd rfl rfl hF rfl rfl(by rw [S_mk];rfl))?_
     go_frame
     repeat((first |refine qR0 ?_ |refine qS ?_);go_frame)
     have ZZ:Hid(w8.drew.grownBy w8.drew(some r)):=World.grownBy.refl _ _
     generalize w8.drew=V8 at *
     have r8l:=K3.out.lt
     refine qD fun K hK=> ?_
     go_simp
     refine CL.out.mono ?_
     rintro e w9⟨A9,n9,c9,rfl,o9,x9⟩
     refine hK.out _ _(jD x9)?_
     clear hK K
     try go_frame
     replace K3:=hd(K3.out.ext x9)
     have ON:Hid(∀gg,Value.ownBlock(.slice A9 n9 c9)=some gg→V8.heap.size≤gg):=fun gg hq=>(World.ownsRow.lt o9 gg hq).1
     replace o9:=hd(o9.lower(B':=w.heap.size)r8)
     have G9:=hd(grown_of_ext(r:=some r)x9)
     clear CL x9
     repeat((first |refine qR0 ?_ |refine qS ?_);go_frame)
     refine qD fun K hK=> ?_
     refine wp_store_row _ _ _ rfl r H1.toArray rfl rfl 47 ZH.toArray K3.out(by rw [S_H1];rfl)(by rw [S_H1,S_hz])O_H1 ?_
     refine hK.out _ _(qF _ _ _)?_
     clear hK K
     try simp only [Act.put]
     repeat((first |refine qR0 ?_ |refine qS ?_);go_frame)
     refine jp ?_
     have FIN:=hd(QQ.out _(jt G9.out(qF w9 r H1.toArray)))
     have OFIN:Hid(Own w.heap.size(w9.setRow r H1.toArray)A9 n9 c9 SB):=o9.out.kept(qF w9 r H1.toArray)(by
      cases hq:Value.ownBlock(.slice A9 n9 c9)with
      |none=>exact .inl rfl
      |some gg =>
       right
       have:=ON.out gg hq
       intro z
       have:=Option.some.inj z
       omega)
     go_wp2_with fail
     (try simp only [Exit.inBlock,Exit.then])
     refine bodyPost_ret(qK rfl _ _ r 47 H1.toArray(0,0)_ _ _ rfl rfl rfl(setRow_heap _ _ _ _ _ _ K3.out)rfl rfl(by rw [S_H1];rfl))rfl ?_
     exact⟨A9,n9,c9,by rw [QE.out.1,QE.out.2];rfl,by rw [QB.out];exact OFIN.out,by rw [QS.out()];exact FIN.out.1,by rw [KK.out];exact FIN.out.2.1,FIN.out.2.2.1⟩
   ·have q1:=hd(RTt.out he)
    have hbn:(te !=0)=true:=bne_iff_ne.2 he
    have RET2:Hid(SS(w3.setRow r ZH.toArray)sg kp mb gs t∧SrcSt(w3.setRow r ZH.toArray)lo gs xs(k+1)∧Two sg gs w(w3.setRow r ZH.toArray)):=⟨h3.stay(setRow_other _ _ _ _(by omega))(setRow_other _ _ _ _(by omega))(setRow_other _ _ _ _(by omega)),s3.row(by omega),⟨T3.1,T3.2.1,T3.2.2.1,by simpa using T3.2.2.2.1,fun i hi h1 h2=>(setRow_other _ _ _ _(by omega)).trans(T3.2.2.2.2 i hi h1 h2)⟩⟩
    clear RTt RRt hS3 h3 s3 T3 hte
    go_wp2_with(first
     |(refine jm rfl _ _ rfl ZH.toArray(by simp only [List.map_toArray,List.map_nil];exact BZ.out)?_;go_frame)
     |(refine wpList_store_row rfl 47 _ _ rfl r ZH.toArray rfl rfl 47 ZH.toArray k3(by rw [S_hz];rfl)rfl O_hz ?_;simp only [Act.put]))
    (try simp only [Exit.inBlock,Exit.then])
    refine bodyPost_ret(qK rfl _ _ r 47 ZH.toArray(0,0)_ _ _ rfl rfl rfl(setRow_heap _ _ _ _ _ _ k3)rfl rfl(by rw [S_hz];rfl))rfl ?_
    exact⟨none,0,0,by rw [q1.out.1,q1.out.2.2.1];rfl,by rw [q1.out.2.1];exact Own.nil _ _,by rw [q1.out.2.2.2.1];exact RET2.out.1,by rw [q1.out.2.2.2.2];exact RET2.out.2.1,RET2.out.2.2⟩
  ·skip
   go_upto_region 6 with(first
    |((with_reducible refine jI(o:=⟨some 38,_,_,_,_,_⟩)(ty:=114)(g:=sg)(off:=0)(ys:=t.s.C kp)?_ rfl ?_ ?_ Tryz.underlying114 ?_ ?_ ?_);(·rfl);(·rfl);(·exact all.out);(·rfl);(·rw [LC];rfl);go_frame)
    |(refine wpList_store_row rfl 114 _ _ rfl w0.heap.size(t.s.C kp).toArray rfl rfl 114 ZT.toArray(heap_alloc_new _ _)(by rw [SC];rfl)(by rw [SC,S_zs])OC ?_;simp only [Act.put]))
   obtain⟨g,hg⟩:∃x,x=w0.heap.size:=⟨_,rfl⟩
   refine jg(fun W=>Cb W w0.heap.size 114(t.s.C kp)∧Ext w0 W)Y.out ?_
   rw [← hg]
   have wg:w0.heap.size≤g:=Nat.le_of_eq hg.symm
   clear Y all
   replace hg:=hd hg
   rintro w2⟨k9,x2⟩
   have w0s:=x0.size
   have gl2:=k9.lt
   have c129:=(Sq.nil.2 k9).mt ok
   rw [← hmt.out] at c129
   have c200:=(h0.sq.ext x2).last ok
   have g2:=GG.out w2(Two.of_ext(x0.trans x2))
   have TR:=hd(TRN.out w2 g(Sq.nil.2 k9)(s0.ext x2)(by omega)g2.1 g2.2)
   have H2:Hid(SS w2 sg kp mb gs t∧Cb w2 r 47 ZH∧Ext w w2):=⟨h0.ext x2,k6.ext x2,x0.trans x2⟩
   clear k9 h0 s0 k6 x0 x2 h hs f1 f2 TRN g2
   go_wp2_with fail
   refine TR.out.mono ?_
   rintro e w3⟨rfl,hS3,s3,t3⟩
   have b3:=t3.2.2.2.2
   obtain⟨h2,k2,x2⟩ :=H2.out
   have h3:SS w3 sg kp mb gs t:=h2.stay(b3 _ h2.sl(by omega)(by omega))(b3 _ h2.kl(by omega)(fun z=>ngk z.symm))(b3 _ h2.ml(by omega)(fun z=>ngm z.symm))
   have k3:Cb w3 r 47 ZH:=(b3 _ k2.lt(by omega)(by omega)).trans k2
   have T3:Two sg gs w w3:=⟨t3.1.trans x2.os,t3.2.1.trans x2.tape,t3.2.2.1.trans x2.output,Nat.le_trans x2.size t3.2.2.2.1,fun i hi h1 h2'=>(b3 i(Nat.lt_of_lt_of_le hi x2.size)(by omega)h2').trans(x2.block i hi)⟩
   clear TR H2 c129 c200 t3 b3 h2 k2 x2
   obtain⟨te,hte⟩:∃x,x=qh t.s p:=⟨_,rfl⟩
   rw [← hte] at RTt RRt ⊢
   by_cases he:te=0
   ·have RV:=hd(RRt.out(fun z=>z.2 he))
    obtain⟨k1,hk1⟩:∃x,x=k+1:=⟨_,rfl⟩
    rw [← hk1] at KK s3
    subst he
    obtain⟨s1,hs1⟩:∃x,x=qg t.s p:=⟨_,rfl⟩
    rw [← hs1] at RV hS3 okT
    have HV:Hid(Sq w3 g 114 s1 kp []∧SS w3 sg kp mb gs t∧SrcSt w3 lo gs xs k1∧Cb w3 r 47 ZH∧Two sg gs w w3):=⟨hS3,h3,s3,k3,T3⟩
    have ok1:=okT
    clear hS3 h3 s3 k3 T3 hs1 hk1 hte RTt RRt okT
    go_upto_region 10 with fail
    generalize w3=V at *
    have PV:Hid(∀u,V.grownBy u(some g)→SS u sg kp mb gs t∧SrcSt u lo gs xs k1∧Cb u r 47 ZH∧Two sg gs w u):=fun u x=>by
     obtain⟨_,a1,a2,a3,a4⟩ :=HV.out
     have hb:∀i,i < V.heap.size→i≠g→u.heap[i]? =V.heap[i]?:=fun i hi hne=>x.block i hi(fun z=>hne(Option.some.inj z))
     exact⟨a1.stay(hb _ a1.sl(by omega))(hb _ a1.kl(by omega))(hb _ a1.ml(by omega)),a2.other x(.inr(by omega)),(hb _ a3.lt(by omega)).trans a3,⟨x.os.trans a4.1,x.tape.trans a4.2.1,x.output.trans a4.2.2.1,Nat.le_trans a4.2.2.2.1 x.size,fun i hi h1 h2=>(hb i(Nat.lt_of_lt_of_le hi a4.2.2.2.1)(by omega)).trans(a4.2.2.2.2 i hi h1 h2)⟩⟩
    have hSg:=HV.out.1
    have lgV:=hSg.lt
    have Lp1:=Rt.pub_len ok1
    have c1_:=hSg.bf ok1
    have c2_:=hSg.sm ok1
    have mp1:=hd(hSg.at_pub ok1)
    have HB1:=hd(head_builtR(p:=s1.bf)(n:=s1.sm)Lp1)
    have O_H1:(hdC s1.pub s1.bf s1.sm).toArray.all(·.oneCell')=true:=YZ
    have L_H1:=yy Lp1 s1.bf s1.sm
    have D1:=hd(fun W z=>DAT.out W s1.pub s1.bf s1.sm Lp1 z)
    have DLn:=JN bs Lp1 s1.bf s1.sm
    rw [lb] at DLn
    obtain⟨H1,hH1⟩:∃x,x=hdC s1.pub s1.bf s1.sm:=⟨_,rfl⟩
    rw [← hH1] at HB1 O_H1 L_H1 D1 RV
    clear hH1 DAT
    have S_H1:H1.toArray.size=34:=by rw [List.size_toArray,L_H1]
    have Y:Hid(Cb((V.alloc(.cells ZH.toArray 47)).setRow V.heap.size H1.toArray)V.heap.size 47 H1∧Ext V((V.alloc(.cells ZH.toArray 47)).setRow V.heap.size H1.toArray)):=⟨Cb.set(Cb.new _ _ _),Ext.newRow _ _ _⟩
    replace hSg:=hd hSg
    clear HV
    go_upto_region 11 with(first
     |((with_reducible refine jI(o:=⟨some 52,_,_,_,_,_⟩)(ty:=23)(g:=g)(off:=64)(ys:=cellsOf s1.pub)?_ rfl ?_ ?_ Tryz.underlying23 ?_ ?_ ?_);(·rfl);(·rfl);(·exact mp1.out);(·rfl);(·rw [(ja _).trans Lp1];rfl);go_frame)
     |((with_reducible refine jm(o:=⟨some 58, .build 47 _,_,_,_,_⟩)?_ 47 _ rfl H1.toArray ?_ ?_);(·rfl);(·simp only [List.map_toArray,List.map_cons,List.map_nil];exact HB1.out);go_frame)
     |(refine wpList_store_row rfl 47 _ _ rfl V.heap.size H1.toArray rfl rfl 47 ZH.toArray(heap_alloc_new _ _)(by rw [S_H1];rfl)(by rw [S_H1,S_hz])O_H1 ?_;simp only [Act.put]))
    obtain⟨r11,hr11⟩:∃x,x=V.heap.size:=⟨_,rfl⟩
    refine jg(fun W=>Cb W V.heap.size 47 H1∧Ext V W)Y.out ?_
    rw [← hr11]
    have wr11:V.heap.size≤r11:=Nat.le_of_eq hr11.symm
    clear Y c1_ c2_ mp1 HB1
    replace hr11:=hd hr11
    rintro w4⟨k11,x4⟩
    have D2:=hd(D1.out w4(PV.out w4(jD x4)).2.2.2)
    have l11:=k11.lt
    have hSg4:=hSg.out.ext x4
    have PV4:Hid(∀u,w4.grownBy u(some g)→SS u sg kp mb gs t∧SrcSt u lo gs xs k1∧Cb u r 47 ZH∧Two sg gs w u∧Cb u r11 47 H1):=fun u x=>by
     obtain⟨b1,b2,b3,b4⟩ :=PV.out u(jt(grown_of_ext x4)x)
     exact⟨b1,b2,b3,b4,(x.block _ k11.lt(fun z=>by have:=Option.some.inj z;omega)).trans k11⟩
    replace k11:=hd k11
    clear PV D1 x4 hSg
    go_wp2_with(first |((with_reducible refine js(o:=⟨some 61,_,_,_,_,_⟩)?_ 47 _ rfl r11 ?_ 47 H1.toArray(0,0)_ ?_ Tryz.underlying47 ?_ ?_ ?_);(·rfl);(·rfl);(·exact k11.out);(·rfl);(·rw [S_H1];rfl);go_frame))
    refine D2.out.mono ?_
    rintro e w5⟨A1,n1,d1_,rfl,o1,x5⟩
    have n1l:n1≤1000000:=by rw [← o1.len];omega
    have PV5:Hid(∀u,w5.grownBy u(some g)→SS u sg kp mb gs t∧SrcSt u lo gs xs k1∧Cb u r 47 ZH∧Two sg gs w u∧Cb u r11 47 H1):=fun u x=>PV4.out u(jt(jD x5)x)
    have hSg5:=hSg4.ext x5
    have w45:=x5.size
    clear D2 PV4 hSg4 x5 k11
    rcases hko:okH s1.bf s1.sm with _ |_
    ·have q1:=hd(RV.out.1 hko)
     obtain⟨b1,b2,b3,b4,_⟩ :=PV5.out w5(World.grownBy.refl _ _)
     have de:dataE s1.bf s1.sm=1:=by unfold vR;rw [hko];rfl
     rw [de]
     have RET2:Hid(SS(w5.setRow r ZH.toArray)sg kp mb gs t∧SrcSt(w5.setRow r ZH.toArray)lo gs xs k1∧Two sg gs w(w5.setRow r ZH.toArray)):=⟨b1.stay(setRow_other _ _ _ _(by omega))(setRow_other _ _ _ _(by omega))(setRow_other _ _ _ _(by omega)),b2.row(by omega),⟨b4.1,b4.2.1,b4.2.2.1,by simpa using b4.2.2.2.1,fun i hi h1 h2=>(setRow_other _ _ _ _(by omega)).trans(b4.2.2.2.2 i hi h1 h2)⟩⟩
     clear RV PV5 o1 hSg5 b1 b2 b4 hko de
     go_wp2_with(first
      |(refine jm rfl _ _ rfl ZH.toArray(by simp only [List.map_toArray,List.map_nil];exact BZ.out)?_;go_frame)
      |(refine wpList_store_row rfl 47 _ _ rfl r ZH.toArray rfl rfl 47 ZH.toArray b3(by rw [S_hz];rfl)rfl O_hz ?_;simp only [Act.put]))
     (try simp only [Exit.inBlock,Exit.then])
     refine bodyPost_ret(qK rfl _ _ r 47 ZH.toArray(0,0)_ _ _ rfl rfl rfl(setRow_heap _ _ _ _ _ _ b3)rfl rfl(by rw [S_hz];rfl))rfl ?_
     exact⟨none,0,0,by rw [q1.out.1,q1.out.2.2.1];rfl,by rw [q1.out.2.1];exact Own.nil _ _,by first |(rw [q1.out.2.2.2];exact RET2.out.1)|(rw [q1.out.2.2.2,← hs1];exact RET2.out.1),by rw [KK.out];exact RET2.out.2.1,RET2.out.2.2⟩
    ·have q1:=hd(RV.out.2 hko)
     have de:dataE s1.bf s1.sm=0:=by unfold vR;rw [hko];rfl
     have db:dataB bs s1.pub s1.bf s1.sm=qb bs s1.pub s1.bf s1.sm:=by unfold yE;rw [hko];rfl
     rw [de]
     rw [db] at o1
     rw [q1.out.2.2.2] at okS
     obtain⟨b1,b2,b3,b4,b5⟩ :=PV5.out w5(World.grownBy.refl _ _)
     have ST1:=hd(STP.out w5 g s1 hSg5 ok1 b4)
     have Lmk:=jR s1.sc qd
     have C1:=hd(fun W A1 n1 d1 z2 z3 z4 z5=>CLO.out W(jM s1.sc qd)A1 n1 d1(qb bs s1.pub s1.bf s1.sm)Lmk z2 z3 z4 z5)
     have QB:Hid(vB=qz(jM s1.sc qd)(qb bs s1.pub s1.bf s1.sm)text):=q1.out.2.1
     have QE:Hid(vE=0∧vH=H1):=⟨q1.out.1,q1.out.2.2.1⟩
     have QS:Hid(∀_:Unit,vS=jW s1):=fun _=>q1.out.2.2.2
     clear q1 RV hko de db STP CLO b1 b2 b3 b4 b5
     generalize qz(keyL s1.sc qd)(qb bs s1.pub s1.bf s1.sm)text=SB at *
     generalize qb bs s1.pub s1.bf s1.sm=dl at *
     generalize jM s1.sc qd=mk at *
     have S_mk:(cellsOf mk).toArray.size=32:=by simp [ja,Lmk]
     have O_mk:=ji mk
     have o1l:=o1
     have w0w4:g < w4.heap.size:=by omega
     have w5s:w4.heap.size≤w5.heap.size:=w45
     replace o1:=hd o1
     clear hSg5 o1l
     go_wp2_with fail
     refine ST1.out.mono ?_
     rintro e w6⟨rfl,hS6,gr6⟩
     have Y:Hid(Cb((w6.alloc(.cells(cellsOf zk).toArray 23)).setRow w6.heap.size(cellsOf mk).toArray)w6.heap.size 23(cellsOf mk)∧Ext w6((w6.alloc(.cells(cellsOf zk).toArray 23)).setRow w6.heap.size(cellsOf mk).toArray)):=⟨Cb.set(Cb.new _ _ _),Ext.newRow _ _ _⟩
     have o6:Own w4.heap.size w6 A1 n1 d1_ dl:=o1.out.kept gr6(by
      cases hq:Value.ownBlock(.slice A1 n1 d1_)with
      |none=>exact .inl rfl
      |some gg =>
       right
       have:=(World.ownsRow.lt o1.out gg hq).1
       intro z
       have:=Option.some.inj z
       omega)
     replace hS6:=hd hS6
     replace gr6:=hd gr6
     clear ST1 o1
     go_upto_region 15 with(refine wpList_store_row rfl 23 _ _ rfl w6.heap.size(cellsOf mk).toArray rfl rfl 23(cellsOf zk).toArray(heap_alloc_new _ _)(by rw [S_mk];rfl)(by rw [S_mk,S_zk])O_mk ?_;simp only [Act.put])
     obtain⟨r14,hr14⟩:∃x,x=w6.heap.size:=⟨_,rfl⟩
     refine jg(fun W=>Cb W w6.heap.size 23(cellsOf mk)∧Ext w6 W)Y.out ?_
     rw [← hr14]
     have wr14:w6.heap.size≤r14:=Nat.le_of_eq hr14.symm
     clear Y
     replace hr14:=hd hr14
     rintro w7⟨k14,x7⟩
     have s56:=gr6.out.size
     obtain⟨b1,b2,b3,b4,b5⟩ :=PV5.out w7(jt gr6.out(jD x7))
     have hS7:=hS6.out.ext x7
     have o7:=o6.ext x7
     have SC7:=Rt.C_size okS kp
     have OC7:=Rt.C_one(jW s1)kp
     have TH:=hd(b1.sq.there0 ok)
     have PUT:=b1.sq.put_all ok okS(kp':=kp)
     have l14:=k14.lt
     have F8:Hid(SS(w7.setCells sg 0((jW s1).C kp))sg kp mb gs⟨jW s1,t.L,t.puts⟩∧SrcSt(w7.setCells sg 0((jW s1).C kp))lo gs xs k1∧Cb(w7.setCells sg 0((jW s1).C kp))r 47 ZH∧Two sg gs w(w7.setCells sg 0((jW s1).C kp))∧Cb(w7.setCells sg 0((jW s1).C kp))r11 47 H1∧Cb(w7.setCells sg 0((jW s1).C kp))r14 23(cellsOf mk)∧Own w4.heap.size(w7.setCells sg 0((jW s1).C kp))A1 n1 d1_ dl):=by
      have gs_:w7.grownBy(w7.setCells sg 0((jW s1).C kp))(some sg):=ju
      have hb:∀i,i < w7.heap.size→i≠sg→(w7.setCells sg 0((jW s1).C kp)).heap[i]? =w7.heap[i]?:=fun i hi hne=>gs_.block i hi(fun z=>hne(Option.some.inj z))
      have w4s:sg < w4.heap.size:=by omega
      exact⟨⟨PUT,b1.sk.stay(hb _ b1.kl(fun z=>nk z.symm))(hb _ b1.ml(fun z=>nm z.symm)),okS,l8⟩,b2.other gs_(.inr hgs),(hb _ b3.lt(by omega)).trans b3,⟨gs_.os.trans b4.1,gs_.tape.trans b4.2.1,gs_.output.trans b4.2.2.1,Nat.le_trans b4.2.2.2.1 gs_.size,fun i hi h1 h2=>(hb i(Nat.lt_of_lt_of_le hi b4.2.2.2.1)h1).trans(b4.2.2.2.2 i hi h1 h2)⟩,(hb _ b5.lt(by omega)).trans b5,(hb _ k14.lt(by omega)).trans k14,o7.kept gs_(by
       cases hq:Value.ownBlock(.slice A1 n1 d1_)with
       |none=>exact .inl rfl
       |some gg =>
        right
        have:=(World.ownsRow.lt o7 gg hq).1
        intro z
        have:=Option.some.inj z
        omega)⟩
     have k9:Hid(Cb w7 g 114((jW s1).C kp)):=Sq.nil.1 hS7
     have w7s:w7.heap.size≤(w7.setCells sg 0((jW s1).C kp)).heap.size:=(ju(w:=w7)(g:=sg)(o:=0)(vs:=(jW s1).C kp)).size
     have w67:=x7.size
     clear PV5 gr6 hS6 o6 k14 x7 b1 b2 b3 b4 b5 hS7 o7 PUT
     generalize(jW s1).C kp=CC at *
     go_upto_region 16 with(first
      |((with_reducible refine js(o:=⟨some 72,_,_,_,_,_⟩)?_ 114 _ rfl g ?_ 114 CC.toArray(0,0)_ ?_ Tryz.underlying114 ?_ ?_ ?_);(·rfl);(·rfl);(·exact k9.out);(·rfl);(·rw [SC7];rfl);go_frame)
      |((with_reducible refine wpList_store_mid(op:=⟨none, .store 114(.tmp 74)(.tmp 72),_,_,_,_⟩)?_ 114 _ _ rfl sg 0 CC.toArray ?_ ?_ ?_ ?_ ?_ ?_);(·rfl);(·rfl);(·rfl);(·rw [SC7];exact TH.out);(·rw [SC7];rfl);(·exact OC7);go_frame))
     refine jg(fun W=>(SS W sg kp mb gs⟨jW s1,t.L,t.puts⟩∧SrcSt W lo gs xs k1∧Cb W r 47 ZH∧Two sg gs w W∧Cb W r11 47 H1∧Cb W r14 23(cellsOf mk)∧Own w4.heap.size W A1 n1 d1_ dl)∧w7.heap.size≤W.heap.size)⟨F8.out,w7s⟩?_
     clear F8 k9 TH SC7 OC7 w7s
     rintro w8⟨⟨a1,a2,a3,a4,a5,a6,a7⟩,w78⟩
     have QQ:Hid(∀u,w8.drew.grownBy u(some r)→SS u sg kp mb gs⟨jW s1,t.L,t.puts⟩∧SrcSt u lo gs xs k1∧Two sg gs w u∧Cb u r11 47 H1∧Cb u r14 23(cellsOf mk)):=fun u x=>by
      have hb:∀i,i < w8.heap.size→i≠r→u.heap[i]? =w8.heap[i]?:=fun i hi hne=>x.block i hi(fun z=>hne(Option.some.inj z))
      exact⟨a1.stay(hb _ a1.sl(by omega))(hb _ a1.kl(by omega))(hb _ a1.ml(by omega)),a2.other(w:=w8)⟨x.os,x.tape,x.output,x.size,x.block⟩(.inr(by omega)),⟨x.os.trans a4.1,x.tape.trans a4.2.1,x.output.trans a4.2.2.1,Nat.le_trans a4.2.2.2.1 x.size,fun i hi h1 h2=>(hb i(Nat.lt_of_lt_of_le hi a4.2.2.2.1)(by omega)).trans(a4.2.2.2.2 i hi h1 h2)⟩,(hb _ a5.lt(by omega)).trans a5,(hb _ a6.lt(by omega)).trans a6⟩
     have K3:Hid(Cb w8.drew r 47 ZH):=a3
     have CL:=hd(C1.out w8.drew A1 n1 d1_(QQ.out _(World.grownBy.refl _ _)).2.2.1(a7.bs.ext(Ext.refl _).drew)n1l(by omega))
     have r8:w.heap.size≤w8.drew.heap.size:=a4.2.2.2.1
     clear a1 a2 a3 a4 a5 a6 a7 C1
     refine qgW r [0,1,2,3,4,5,6,7] [4,5] ?_
     refine qV rfl(fun w'=>w'.heap[r11]? =some(.cells H1.toArray 47(0,0)))(fun w' e=>(QQ.out w' e).2.2.2.1)(.agg H1.toArray)(fun w' hF=>jd rfl rfl hF rfl rfl(by rw [S_H1];rfl))?_
     go_frame
     refine qV rfl(fun w'=>w'.heap[r14]? =some(.cells(cellsOf mk).toArray 23(0,0)))(fun w' e=>(QQ.out w' e).2.2.2.2)(.agg(cellsOf mk).toArray)(fun w' hF=>jd rfl rfl hF rfl rfl(by rw [S_mk];rfl))?_
     go_frame
     repeat((first |refine qR0 ?_ |refine qS ?_);go_frame)
     have ZZ:Hid(w8.drew.grownBy w8.drew(some r)):=World.grownBy.refl _ _
     generalize w8.drew=V8 at *
     have r8l:=K3.out.lt
     refine qD fun K hK=> ?_
     go_simp
     refine CL.out.mono ?_
     rintro e w9⟨A9,n9,c9,rfl,o9,x9⟩
     refine hK.out _ _(jD x9)?_
     clear hK K
     try go_frame
     replace K3:=hd(K3.out.ext x9)
     have ON:Hid(∀gg,Value.ownBlock(.slice A9 n9 c9)=some gg→V8.heap.size≤gg):=fun gg hq=>(World.ownsRow.lt o9 gg hq).1
     replace o9:=hd(o9.lower(B':=w.heap.size)r8)
     have G9:=hd(grown_of_ext(r:=some r)x9)
     clear CL x9
     repeat((first |refine qR0 ?_ |refine qS ?_);go_frame)
     refine qD fun K hK=> ?_
     refine wp_store_row _ _ _ rfl r H1.toArray rfl rfl 47 ZH.toArray K3.out(by rw [S_H1];rfl)(by rw [S_H1,S_hz])O_H1 ?_
     refine hK.out _ _(qF _ _ _)?_
     clear hK K
     try simp only [Act.put]
     repeat((first |refine qR0 ?_ |refine qS ?_);go_frame)
     refine jp ?_
     have FIN:=hd(QQ.out _(jt G9.out(qF w9 r H1.toArray)))
     have OFIN:Hid(Own w.heap.size(w9.setRow r H1.toArray)A9 n9 c9 SB):=o9.out.kept(qF w9 r H1.toArray)(by
      cases hq:Value.ownBlock(.slice A9 n9 c9)with
      |none=>exact .inl rfl
      |some gg =>
       right
       have:=ON.out gg hq
       intro z
       have:=Option.some.inj z
       omega)
     go_wp2_with fail
     (try simp only [Exit.inBlock,Exit.then])
     refine bodyPost_ret(qK rfl _ _ r 47 H1.toArray(0,0)_ _ _ rfl rfl rfl(setRow_heap _ _ _ _ _ _ K3.out)rfl rfl(by rw [S_H1];rfl))rfl ?_
     exact⟨A9,n9,c9,by rw [QE.out.1,QE.out.2];rfl,by rw [QB.out];exact OFIN.out,by rw [QS.out()];exact FIN.out.1,by rw [KK.out];exact FIN.out.2.1,FIN.out.2.2.1⟩
   ·have q1:=hd(RTt.out he)
    have hbn:(te !=0)=true:=bne_iff_ne.2 he
    have RET2:Hid(SS(w3.setRow r ZH.toArray)sg kp mb gs t∧SrcSt(w3.setRow r ZH.toArray)lo gs xs(k+1)∧Two sg gs w(w3.setRow r ZH.toArray)):=⟨h3.stay(setRow_other _ _ _ _(by omega))(setRow_other _ _ _ _(by omega))(setRow_other _ _ _ _(by omega)),s3.row(by omega),⟨T3.1,T3.2.1,T3.2.2.1,by simpa using T3.2.2.2.1,fun i hi h1 h2=>(setRow_other _ _ _ _(by omega)).trans(T3.2.2.2.2 i hi h1 h2)⟩⟩
    clear RTt RRt hS3 h3 s3 T3 hte
    go_wp2_with(first
     |(refine jm rfl _ _ rfl ZH.toArray(by simp only [List.map_toArray,List.map_nil];exact BZ.out)?_;go_frame)
     |(refine wpList_store_row rfl 47 _ _ rfl r ZH.toArray rfl rfl 47 ZH.toArray k3(by rw [S_hz];rfl)rfl O_hz ?_;simp only [Act.put]))
    (try simp only [Exit.inBlock,Exit.then])
    refine bodyPost_ret(qK rfl _ _ r 47 ZH.toArray(0,0)_ _ _ rfl rfl rfl(setRow_heap _ _ _ _ _ _ k3)rfl rfl(by rw [S_hz];rfl))rfl ?_
    exact⟨none,0,0,by rw [q1.out.1,q1.out.2.2.1];rfl,by rw [q1.out.2.1];exact Own.nil _ _,by rw [q1.out.2.2.2.1];exact RET2.out.1,by rw [q1.out.2.2.2.2];exact RET2.out.2.1,RET2.out.2.2⟩
set_option maxHeartbeats 16000000 in
theorem jdK{w:World}{sg kp mb gs:Nat}{t:Rz}{A B:Option Addr}{m1 c1 m2 c2:Nat}{bs body pk:List UInt8}{prev n:Int}(h:SS w sg kp mb gs t)(hp:t.puts≤1000000000)(hb:Bs w A m1 c1 bs)(hb':Bs w B m2 c2 body)(hm1:m1≤900000)(hm2:m2≤1000000)(lp:pk.length=32)
  {tg tp:TypeId×Nat×Nat}(hG:Gl w tg)(hP:Gp w tp):
  Calls Tryz.prog 23 #[.pointer(some⟨sg,0,none⟩), .slice A m1 c1, .agg(hdC pk prev n).toArray, .slice B m2 c2] w fun e w'=>∃A' n' c' kp' mb',e= .returned(.tuple #[.slice A' n' c', .int .i64(yr t bs pk prev n body)])∧Own w.heap.size w' A' n' c'(Ym t bs pk prev n body)∧SS w' sg kp' mb' gs(ze t bs pk prev n body)∧w.grownBy w'(some sg)∧((kp'=kp∧mb'=mb)∨(w.heap.size≤kp'∧w.heap.size≤mb')):=by
 have DA:Hid(∀W,Ext w W→Calls Tryz.prog 45 #[.slice A m1 c1, .agg(hdC pk prev n).toArray] W(YP(yE bs pk prev n)(vR prev n)W)):=fun W e=>jen(hb.ext e)(by omega)lp
 have DL:=JN bs lp prev n
 rw [hb.len] at DL
 have L_h:=yy lp prev n
 obtain⟨sokR,l8R,_⟩ :=recvS_ok h.ok h.l8(bs:=bs)lp prev n body
 have RB:Hid(okH prev n=false→vR prev n=1∧yr t bs pk prev n body=1∧Ym t bs pk prev n body= []∧ze t bs pk prev n body=t):=fun z=>by
  have e:yr t bs pk prev n body=1:=by unfold yr;rw [z];rfl
  refine⟨by unfold vR;rw [z];rfl,e,by unfold Ym;rw [e];rfl,by unfold ze;rw [e];rfl⟩
 have RO:Hid(okH prev n=true→vR prev n=0∧yE bs pk prev n=qb bs pk prev n∧yr t bs pk prev n body=(vY t pk prev n(qb bs pk prev n)body).2.2):=fun z=>⟨by unfold vR;rw [z];rfl,by unfold yE;rw [z];rfl,by unfold yr;rw [z];rfl⟩
 have R0:Hid(okH prev n=true→(vY t pk prev n(qb bs pk prev n)body).2.2=0→Ym t bs pk prev n body=(vY t pk prev n(qb bs pk prev n)body).2.1∧ze t bs pk prev n body=(vY t pk prev n(qb bs pk prev n)body).1):=fun z z2=>by
  have e:yr t bs pk prev n body=0:=by unfold yr;rw [z];exact z2
  exact⟨by unfold Ym;rw [if_pos e],by unfold ze;rw [if_pos e]⟩
 have R1:Hid(okH prev n=true→(vY t pk prev n(qb bs pk prev n)body).2.2≠0→Ym t bs pk prev n body= []∧ze t bs pk prev n body=t):=fun z z2=>by
  have e:yr t bs pk prev n body≠0:=by unfold yr;rw [z];exact z2
  exact⟨by unfold Ym;rw [if_neg e],by unfold ze;rw [if_neg e]⟩
 obtain⟨nk,nm⟩ :=h.ne
 have sl:=h.sl
 have kl:=h.kl
 have ml:=h.ml
 have gl:=hG.lt
 have pl:=hP.lt
 have P0:Hid(∀u,Ext w u→SS u sg kp mb gs t∧Bs u B m2 c2 body∧Gl u tg∧Gp u tp):=fun u x=>⟨h.ext x,hb'.ext x,hG.kept x hG.lt,hP.ext x⟩
 have ok:=h.ok
 have l8:=h.l8
 obtain⟨RE,hRE⟩:∃x,x=yr t bs pk prev n body:=⟨_,rfl⟩
 obtain⟨RT,hRT⟩:∃x,x=Ym t bs pk prev n body:=⟨_,rfl⟩
 obtain⟨RS,hRS⟩:∃x,x=ze t bs pk prev n body:=⟨_,rfl⟩
 rw [← hRE] at RB RO ⊢
 rw [← hRT] at RB R0 R1 ⊢
 rw [← hRS] at RB R0 R1 sokR l8R ⊢
 clear hRE hRT hRS h hb' hG hP hb
 obtain⟨r,hr⟩:∃r,r=w.heap.size:=⟨_,rfl⟩
 obtain⟨HD,hHD⟩:∃x,x=hdC pk prev n:=⟨_,rfl⟩
 rw [← hHD] at DA L_h ⊢
 replace hHD:=hd(fun _:Unit=>hHD)
 have S_h:HD.toArray.size=34:=by rw [List.size_toArray,L_h]
 have B0:Hid(Cb(w.alloc(.cells HD.toArray 47))r 47 HD∧Ext w(w.alloc(.cells HD.toArray 47))):=by rw [hr];exact⟨Cb.new _ _ _,(Ext.refl w).alloc _⟩
 go_enter Tryz.func23,Tryz.ntmps23
 go_upto_region 1 with fail
 refine jg(fun W=>Cb W r 47 HD∧Ext w W)B0.out ?_
 rw [← hr]
 have wr_:w.heap.size≤r:=Nat.le_of_eq hr.symm
 clear B0
 replace hr:=hd hr
 rintro w0⟨k6,x0⟩
 have D0:=hd(DA.out w0 x0)
 replace k6:=hd k6
 replace x0:=hd x0
 clear DA
 go_wp2_with(first |((with_reducible refine js(o:=⟨some 16,_,_,_,_,_⟩)?_ 47 _ rfl r ?_ 47 HD.toArray(0,0)_ ?_ Tryz.underlying47 ?_ ?_ ?_);(·rfl);(·rfl);(·exact k6.out);(·rfl);(·rw [S_h];rfl);go_frame))
 refine D0.out.mono ?_
 rintro e w1⟨A1,n1,d1,rfl,b1,x1⟩
 have x01:=hd(x0.out.trans x1)
 have k61:=k6.out.ext x1
 clear D0 k6 x0 x1
 rcases hk:okH prev n with _ |_
 ·obtain⟨e1,e2,e3,e4⟩ :=RB.out hk
  have F:=(P0.out w1 x01.out).1
  rw [e1]
  have GR:=hd(jD(r:=some sg)x01.out)
  have F2:Hid(SS w1 sg kp mb gs RS):=by rw [e4];exact F
  replace e2:=hd e2
  replace e3:=hd e3
  clear e1 e4 F RB RO R0 R1 P0 b1 k61 hk
  go_wp2_with fail
  go_ret2
  exact⟨none,0,0,kp,mb,by rw [e2.out];rfl,by rw [e3.out];exact Own.nil _ _,F2.out,GR.out, .inl⟨rfl,rfl⟩⟩
 obtain⟨e1,e2,e3⟩ :=RO.out hk
 replace R0:=hd(R0.out hk)
 replace R1:=hd(R1.out hk)
 obtain⟨pa,na,rfl,rfl,hpa,hna⟩ :=QH hk
 rw [e1]
 rw [e2] at b1 DL
 replace b1:=hd b1
 have n1l:n1≤1000000:=by rw [← b1.out.len];omega
 replace e3:=hd e3
 generalize qb bs pk(pa:Int)(na:Int)=dl at *
 clear e1 e2 hk RB RO DL
 obtain⟨h1,_,_,_⟩ :=P0.out w1 x01.out
 have LC:=Rt.C_len ok kp
 have SC:=Rt.C_size ok kp
 have OC:=Rt.C_one t.s kp
 have all:=hd(h1.sq.all w1 sg)
 have hal:=JC
 have L_z:=jcQ
 generalize zT=ZT at *
 have S_z:ZT.toArray.size=200:=by rw [List.size_toArray,L_z]
 have Y:Hid(Cb((w1.alloc(.cells ZT.toArray 114)).setRow w1.heap.size(t.s.C kp).toArray)w1.heap.size 114(t.s.C kp)∧Ext w1((w1.alloc(.cells ZT.toArray 114)).setRow w1.heap.size(t.s.C kp).toArray)):=⟨Cb.set(Cb.new _ _ _),Ext.newRow _ _ _⟩
 go_upto_region 5 with(first
  |((with_reducible refine wpList_load_mid(o:=⟨some 26,_,_,_,_,_⟩)(ty:=114)(g:=sg)(off:=0)(ys:=t.s.C kp)?_ rfl ?_ ?_ Tryz.underlying114 ?_ ?_ ?_);(·rfl);(·rfl);(·exact all.out);(·rfl);(·rw [LC];rfl);go_frame)
  |(refine wpList_store_row rfl 114 _ _ rfl w1.heap.size(t.s.C kp).toArray rfl rfl 114 ZT.toArray(heap_alloc_new _ _)(by rw [SC];rfl)(by rw [SC,S_z])OC ?_;simp only [Act.put]))
 obtain⟨g,hg⟩:∃x,x=w1.heap.size:=⟨_,rfl⟩
 refine jg(fun W=>Cb W w1.heap.size 114(t.s.C kp)∧Ext w1 W)Y.out ?_
 rw [← hg]
 have wg:w1.heap.size≤g:=Nat.le_of_eq hg.symm
 clear Y all
 replace hg:=hd hg
 rintro w2⟨k12,x2⟩
 have ww1:w.heap.size≤w1.heap.size:=x01.out.size
 have g2l:=k12.lt
 obtain⟨h2,_,_,_⟩ :=P0.out w2(x01.out.trans x2)
 have f199:=h2.sq.kpc ok
 have CP:=hd(jdO h2.sk(by have:=h2.l8;omega))
 replace k12:=hd k12
 replace x2:=hd x2
 clear h1 h2
 go_wp2_with fail
 refine CP.out.mono ?_
 rintro e w3⟨g',b',rfl,lg',lb',s3,x3⟩
 have z199:=(Sq.nil.2(k12.out.ext x3)).frozen 199
 have c199:=(Sq.nil.2(k12.out.ext x3)).kpc ok
 replace s3:=hd s3
 replace x3:=hd x3
 clear CP f199
 go_upto_region 6 with fail
 have hQ:=hd((Sq.nil.2(k12.out.ext x3.out)).set_kp ok g')
 have hst:g≠g':=zq(k12.out.ext x3.out)s3.out.cb(by decide)
 have hgb:g < w3.heap.size:=Nat.lt_of_lt_of_le g2l x3.out.size
 have hsk:Hid(SK(w3.setCell⟨g,199,none⟩(.pointer(some⟨g',0,none⟩)))g' b' t.L t.puts):=s3.out.stay(jP.block _ s3.out.cb.lt(fun z=>by have:=Option.some.inj z;omega))(jP.block _ s3.out.mp.lt(fun z=>by have:=Option.some.inj z;omega))
 have x5:Hid(Ext w1(w3.setCell⟨g,199,none⟩(.pointer(some⟨g',0,none⟩)))):=hd(JQ(x2.out.trans x3.out)jP wg)
 refine jg(fun W=>Sq W g 114 t.s g' []∧SK W g' b' t.L t.puts∧Ext w1 W)⟨hQ.out,hsk.out,x5.out⟩?_
 have wg2:w1.heap.size≤g':=Nat.le_trans x2.out.size lg'
 have wb2:w1.heap.size≤b':=Nat.le_trans x2.out.size lb'
 clear hQ hsk x5 c199 z199 k12 x2 s3 x3 hst
 rintro w4⟨hS,hK,x4⟩
 have OPM:∀u,Ot(P3 g g' b')w4 u→(Bs u A1 n1 d1 dl∧Bs u B m2 c2 body)∧Gl u tg∧Gp u tp:=fun u x=>by
  have y:=Ot.ext x4 x(fun i hi=>by rcases hi with rfl |rfl |rfl <;> assumption)
  obtain⟨_,q2,q3,q4⟩ :=P0.out u(x01.out.trans y)
  exact⟨⟨b1.out.ext y,q2⟩,q3,q4⟩
 have OPN:=hd(jdG hS hK ok l8 hp(data:=dl)(body:=body)(prev:=(pa:Int))(n:=(na:Int))OPM n1l hm2 lp(by omega)(by omega))
 rw [← hHD.out()] at OPN
 have k64:=hd(k61.ext x4)
 clear hS hK OPM k61 b1
 obtain⟨OS,hOS⟩:∃x,x=vY t pk(pa:Int)(na:Int)dl body:=⟨_,rfl⟩
 rw [← hOS] at OPN R0 R1 e3
 clear hOS
 obtain⟨ts,tx,er⟩ :=OS
 dsimp only at *
 go_wp2_with(first |((with_reducible refine js(o:=⟨some 36,_,_,_,_,_⟩)?_ 47 _ rfl r ?_ 47 HD.toArray(0,0)_ ?_ Tryz.underlying47 ?_ ?_ ?_);(·rfl);(·rfl);(·exact k64.out);(·rfl);(·rw [S_h];rfl);go_frame))
 refine OPN.out.mono ?_
 rintro e w5⟨A5,n5,c5,rfl,o5,hS5,hK5,hO5⟩
 have y5:=Ot.ext x4 hO5(fun i hi=>by rcases hi with rfl |rfl |rfl <;> assumption)
 replace o5:=hd(o5.lower(B':=w.heap.size)(Nat.le_trans ww1 x4.size))
 clear OPN k64 hO5
 have h5:=(P0.out w5(x01.out.trans y5)).1
 by_cases he:er=0
 ·obtain⟨q1,q2⟩ :=R0.out he
  replace q1:=hd q1
  rw [q2] at sokR l8R
  have q3:=hd(fun _:Unit=>q2)
  subst he
  replace e3:=hd e3.out
  have SC5:=Rt.C_size sokR g'
  have OC5:=Rt.C_one ts.s g'
  have TH:=hd(h5.sq.there0 ok)
  have PUT:=h5.sq.put_all ok sokR(kp':=g')
  have hsg:sg < w1.heap.size:=Nat.lt_of_lt_of_le sl ww1
  have F:Hid(SS(w5.setCells sg 0(ts.s.C g'))sg g' b' gs ts):=⟨PUT,hK5.stay(ju.block _ hK5.cb.lt(fun z=>by have:=Option.some.inj z;omega))(ju.block _ hK5.mp.lt(fun z=>by have:=Option.some.inj z;omega)),sokR,l8R⟩
  have GR:Hid(w.grownBy(w5.setCells sg 0(ts.s.C g'))(some sg)):=jt(jD(x01.out.trans y5))ju
  have OW:Hid(Own w.heap.size(w5.setCells sg 0(ts.s.C g'))A5 n5 c5 tx):=o5.out.kept ju(by
   cases hq:Value.ownBlock(.slice A5 n5 c5)with
   |none=>exact .inl rfl
   |some gg =>
    right
    have:=(World.ownsRow.lt o5.out gg hq).1
    intro z
    have:=Option.some.inj z
    omega)
  have k5:Hid(Cb w5 g 114(ts.s.C g')):=Sq.nil.1 hS5
  clear R0 R1 P0 h5 hS5 hK5 y5 o5 PUT q2
  generalize ts.s.C g'=CC at *
  go_wp2_with(first
   |((with_reducible refine js(o:=⟨some 45,_,_,_,_,_⟩)?_ 114 _ rfl g ?_ 114 CC.toArray(0,0)_ ?_ Tryz.underlying114 ?_ ?_ ?_);(·rfl);(·rfl);(·exact k5.out);(·rfl);(·rw [SC5];rfl);go_frame)
   |((with_reducible refine wpList_store_mid(op:=⟨none, .store 114(.tmp 47)(.tmp 45),_,_,_,_⟩)?_ 114 _ _ rfl sg 0 CC.toArray ?_ ?_ ?_ ?_ ?_ ?_);(·rfl);(·rfl);(·rfl);(·rw [SC5];exact TH.out);(·rw [SC5];rfl);(·exact OC5);go_frame))
  go_ret2
  exact⟨A5,n5,c5,g',b',by rw [e3.out];rfl,by rw [q1.out];exact OW.out,by rw [q3.out()];exact F.out,GR.out, .inr⟨Nat.le_trans ww1 wg2,Nat.le_trans ww1 wb2⟩⟩
 ·obtain⟨q1,q2⟩ :=R1.out he
  have hbn:(er !=0)=true:=bne_iff_ne.2 he
  replace q1:=hd q1
  have GR:Hid(w.grownBy w5(some sg)):=jD(x01.out.trans y5)
  have F:Hid(SS w5 sg kp mb gs RS):=by rw [q2];exact h5
  clear R0 R1 P0 h5 hS5 hK5 y5 o5 q2
  go_wp2_with fail
  go_ret2
  exact⟨none,0,0,kp,mb,by rw [e3.out];rfl,by rw [q1.out];exact Own.nil _ _,F.out,GR.out, .inl⟨rfl,rfl⟩⟩
def ZU(root pk:List UInt8):Rt:=⟨root,List.replicate 64 0,true,pk,false,false,List.replicate 32 0,0,0,false,List.replicate 32 0,0⟩
def YB(root own:List UInt8):Rt:=⟨root,own,false,List.replicate 32 0,false,false,List.replicate 32 0,0,0,false,List.replicate 32 0,0⟩
theorem jiU{root pk:List UInt8}(h1:root.length=32)(h2:pk.length=32):(ZU root pk).ok:=⟨h1,rfl,h2,rfl,rfl,⟨Int.le_refl 0,(by decide:(0:Int)≤4000000)⟩,⟨Int.le_refl 0,(by decide:(0:Int)≤4000000)⟩,⟨Int.le_refl 0,(by decide:(0:Int)≤4000000)⟩⟩
theorem jiT{root own:List UInt8}(h1:root.length=32)(h2:own.length=64):(YB root own).ok:=⟨h1,h2,rfl,rfl,rfl,⟨Int.le_refl 0,(by decide:(0:Int)≤4000000)⟩,⟨Int.le_refl 0,(by decide:(0:Int)≤4000000)⟩,⟨Int.le_refl 0,(by decide:(0:Int)≤4000000)⟩⟩
theorem jd1:∃pl:Nat→Option(Nat×Nat),(pl 0=some(0,32)∧pl 1=some(32,64)∧pl 2=some(96,1)∧pl 3=some(97,32)∧pl 8=some(199,1))∧∀ps,Tryz.prog.built 114 ps=Instr.fill pl zT.toArray ps:=⟨(#[(0,32),(32,64),(96,1),(97,32),(129,1),(130,34),(164,1),(165,34),(199,1)][·]?),⟨rfl,rfl,rfl,rfl,rfl⟩,fun ps=>by kernel_rfl⟩
theorem jcZ{root pk:List UInt8}(h1:root.length=32)(h2:pk.length=32)(kp:Nat):Tryz.prog.built 114 [(0, .agg(cellsOf root).toArray),(2, .bool true),(3, .agg(cellsOf pk).toArray),(8, .pointer(some⟨kp,0,none⟩))]=some((beg0 root pk).C kp).toArray:=by
 obtain⟨pl,⟨p0,p1,p2,p3,p8⟩,hp⟩ :=jd1
 rw [hp]
 have lr:(cellsOf root).length=32:=by rw [ja,h1]
 have lk:(cellsOf pk).length=32:=by rw [ja,h2]
 have lz:(cellsOf(List.replicate 32 0)).length=32:=by rw [ja,List.length_replicate]
 have ly:(cellsOf(List.replicate 64 0)).length=64:=by rw [ja,List.length_replicate]
 unfold zT beg0 Rt.C
 dsimp only
 generalize cellsOf(List.replicate 32 0)=Z at *
 generalize cellsOf(List.replicate 64 0)=Y at *
 generalize cellsOf root=R at *
 generalize cellsOf pk=K at *
 rw [qJ p0(by simp [qo,lr])(by simp [lz,ly] <;> omega)]
 have e0:splice(Z ++(Y ++([Value.bool false] ++(Z ++([Value.bool false, .bool false] ++(Z ++([Value.int .i64 0, .int .i64 0, .bool false] ++(Z ++ [Value.int .i64 0, .pointer none]))))))))0(Value.agg R.toArray).cells.toList=(R ++ Y)++([Value.bool false] ++(Z ++([Value.bool false, .bool false] ++(Z ++([Value.int .i64 0, .int .i64 0, .bool false] ++(Z ++ [Value.int .i64 0, .pointer none])))))):=by
  refine(qA(p:= [])(y:=Z)rfl(by rw [lz];simp [qo,lr])).trans ?_
  simp [qo]
 rw [e0,qJ p2 rfl(by simp [lr,ly] <;> omega)]
 have e2:splice((R ++ Y)++([Value.bool false] ++(Z ++([Value.bool false, .bool false] ++(Z ++([Value.int .i64 0, .int .i64 0, .bool false] ++(Z ++ [Value.int .i64 0, .pointer none])))))))96(Value.bool true).cells.toList=((R ++ Y)++ [Value.bool true])++(Z ++([Value.bool false, .bool false] ++(Z ++([Value.int .i64 0, .int .i64 0, .bool false] ++(Z ++ [Value.int .i64 0, .pointer none]))))):=by
  refine(qA(off:=96)(p:=R ++ Y)(y:= [Value.bool false])(z:= [Value.bool true])(by simp [lr,ly])rfl).trans ?_
  simp [Value.cells]
 rw [e2,qJ p3(by simp [qo,lk])(by simp [lr,ly,lz] <;> omega)]
 have e3:splice(((R ++ Y)++ [Value.bool true])++(Z ++([Value.bool false, .bool false] ++(Z ++([Value.int .i64 0, .int .i64 0, .bool false] ++(Z ++ [Value.int .i64 0, .pointer none]))))))97(Value.agg K.toArray).cells.toList=(R ++(Y ++([Value.bool true] ++(K ++([Value.bool false, .bool false] ++(Z ++([Value.int .i64 0, .int .i64 0, .bool false] ++(Z ++ [Value.int .i64 0]))))))))++([Value.pointer none] ++ []):=by
  refine(qA(off:=97)(p:=(R ++ Y)++ [Value.bool true])(y:=Z)(by simp [lr,ly])(by rw [lz];simp [qo,lk])).trans ?_
  simp [qo]
 rw [e3,qJ p8 rfl(by simp [lr,ly,lz,lk] <;> omega)]
 have e8:splice((R ++(Y ++([Value.bool true] ++(K ++([Value.bool false, .bool false] ++(Z ++([Value.int .i64 0, .int .i64 0, .bool false] ++(Z ++ [Value.int .i64 0]))))))))++([Value.pointer none] ++ []))199(Value.pointer(some⟨kp,0,none⟩)).cells.toList=R ++(Y ++([Value.bool true] ++(K ++([Value.bool false, .bool false] ++(Z ++([Value.int .i64 0, .int .i64 0, .bool false] ++(Z ++ [Value.int .i64 0, .pointer(some⟨kp,0,none⟩)]))))))):=by
  refine(qA(off:=199)(p:=R ++(Y ++([Value.bool true] ++(K ++([Value.bool false, .bool false] ++(Z ++([Value.int .i64 0, .int .i64 0, .bool false] ++(Z ++ [Value.int .i64 0]))))))))(y:= [Value.pointer none])(q:= [])(z:= [Value.pointer(some⟨kp,0,none⟩)])(by simp [lr,ly,lz,lk])rfl).trans ?_
  simp [Value.cells]
 rw [e8]
 rfl
theorem jbX{root own:List UInt8}(h1:root.length=32)(h2:own.length=64)(kp:Nat):Tryz.prog.built 114 [(0, .agg(cellsOf root).toArray),(1, .agg(cellsOf own).toArray),(8, .pointer(some⟨kp,0,none⟩))]=some((YB root own).C kp).toArray:=by
 obtain⟨pl,⟨p0,p1,p2,p3,p8⟩,hp⟩ :=jd1
 rw [hp]
 have lr:(cellsOf root).length=32:=by rw [ja,h1]
 have lk:(cellsOf own).length=64:=by rw [ja,h2]
 have lz:(cellsOf(List.replicate 32 0)).length=32:=by rw [ja,List.length_replicate]
 have ly:(cellsOf(List.replicate 64 0)).length=64:=by rw [ja,List.length_replicate]
 unfold zT ans0 Rt.C
 dsimp only
 generalize cellsOf(List.replicate 32 0)=Z at *
 generalize cellsOf(List.replicate 64 0)=Y at *
 generalize cellsOf root=R at *
 generalize cellsOf own=K at *
 rw [qJ p0(by simp [qo,lr])(by simp [lz,ly] <;> omega)]
 have e0:splice(Z ++(Y ++([Value.bool false] ++(Z ++([Value.bool false, .bool false] ++(Z ++([Value.int .i64 0, .int .i64 0, .bool false] ++(Z ++ [Value.int .i64 0, .pointer none]))))))))0(Value.agg R.toArray).cells.toList=R ++(Y ++([Value.bool false] ++(Z ++([Value.bool false, .bool false] ++(Z ++([Value.int .i64 0, .int .i64 0, .bool false] ++(Z ++ [Value.int .i64 0, .pointer none]))))))):=by
  refine(qA(p:= [])(y:=Z)rfl(by rw [lz];simp [qo,lr])).trans ?_
  simp [qo]
 rw [e0,qJ p1(by simp [qo,lk])(by simp [lr,ly] <;> omega)]
 have e1:splice(R ++(Y ++([Value.bool false] ++(Z ++([Value.bool false, .bool false] ++(Z ++([Value.int .i64 0, .int .i64 0, .bool false] ++(Z ++ [Value.int .i64 0, .pointer none]))))))))32(Value.agg K.toArray).cells.toList=(R ++(K ++([Value.bool false] ++(Z ++([Value.bool false, .bool false] ++(Z ++([Value.int .i64 0, .int .i64 0, .bool false] ++(Z ++ [Value.int .i64 0]))))))))++([Value.pointer none] ++ []):=by
  refine(qA(p:=R)(y:=Y)lr(by rw [ly];simp [qo,lk])).trans ?_
  simp [qo]
 rw [e1,qJ p8 rfl(by simp [lr,ly,lz,lk] <;> omega)]
 have e8:splice((R ++(K ++([Value.bool false] ++(Z ++([Value.bool false, .bool false] ++(Z ++([Value.int .i64 0, .int .i64 0, .bool false] ++(Z ++ [Value.int .i64 0]))))))))++([Value.pointer none] ++ []))199(Value.pointer(some⟨kp,0,none⟩)).cells.toList=R ++(K ++([Value.bool false] ++(Z ++([Value.bool false, .bool false] ++(Z ++([Value.int .i64 0, .int .i64 0, .bool false] ++(Z ++ [Value.int .i64 0, .pointer(some⟨kp,0,none⟩)]))))))):=by
  refine(qA(off:=199)(p:=R ++(K ++([Value.bool false] ++(Z ++([Value.bool false, .bool false] ++(Z ++([Value.int .i64 0, .int .i64 0, .bool false] ++(Z ++ [Value.int .i64 0]))))))))(y:= [Value.pointer none])(q:= [])(z:= [Value.pointer(some⟨kp,0,none⟩)])(by simp [lr,ly,lz,lk])rfl).trans ?_
  simp [Value.cells]
 rw [e8]
 rfl
theorem Qi{C:List Value}(h:C.length=200)(v:Value)(hv:v.cells= #[v]):Tryz.prog.built 116 [(0, .agg C.toArray),(1,v)]=some(C ++ [v]).toArray:=by
 have h':∃pl:Nat→Option(Nat×Nat),(pl 0=some(0,200)∧pl 1=some(200,1))∧∀ps,Tryz.prog.built 116 ps=Instr.fill pl(zT ++ [Value.pointer none]).toArray ps:=⟨(#[(0,200),(200,1)][·]?),⟨rfl,rfl⟩,fun ps=>by kernel_rfl⟩
 obtain⟨pl,⟨p0,p1⟩,hp⟩ :=h'
 rw [hp]
 have lz:=jcQ
 generalize zT=Z at *
 rw [qJ p0(by simp [qo,h])(by simp [lz])]
 have e0:splice(Z ++ [Value.pointer none])0(Value.agg C.toArray).cells.toList=C ++ [Value.pointer none]:=(qA(p:= [])(y:=Z)rfl(by rw [lz];simp [qo,h])).trans(by simp [qo])
 rw [e0,qJ p1(by rw [hv];rfl)(by simp [h])]
 have e1:splice(C ++ [Value.pointer none])200 v.cells.toList=C ++ [v]:=by
  rw [hv]
  exact ZP h rfl
 rw [e1]
 rfl
set_option maxHeartbeats 4000000 in
theorem jan{w:World}{sg kp mb gs:Nat}{t:Rz}(h:SS w sg kp mb gs t):
  Calls Tryz.prog 25 #[.pointer(some⟨sg,0,none⟩)] w fun e w'=>e= .returned(.int .i64(t.L.length:Int))∧Ext w w':=by
 have f1:=h.sq.kpc h.ok
 have K1:=hd(je3 h.sk)
 clear h
 go_enter Tryz.func25,Tryz.ntmps25
 go_wp2_with fail
 refine K1.out.mono ?_
 rintro e w1⟨rfl,x1⟩
 go_wp2_with fail
 go_ret
 exact⟨rfl,x1⟩
set_option maxHeartbeats 8000000 in
theorem Z9{w:World}{gs:Nat}{root own:List UInt8}(lr:root.length=32)(lo_:own.length=64):
  Calls Tryz.prog 36 #[.agg(cellsOf root).toArray, .agg(cellsOf own).toArray, .pointer(some⟨gs,0,none⟩)] w fun e w'=>∃sg kp mb,e= .returned(.pointer(some⟨sg,0,none⟩))∧(w.heap.size≤sg∧w.heap.size≤kp∧w.heap.size≤mb)∧SS w' sg kp mb gs⟨YB root own, [],0⟩∧Ext w w':=by
 have NW:Hid(∀W:World,Calls Tryz.prog 59 #[] W fun e w'=>∃g b,e= .returned(.pointer(some⟨g,0,none⟩))∧W.heap.size≤g∧W.heap.size≤b∧SK w' g b [] 0∧Ext W w'):=fun W=>jaQ
 have BU:=hd(fun kp=>jbX lr lo_ kp)
 have ok:=jiT lr lo_
 have BS:=hd(fun kp=>Qi(Rt.C_len ok kp)(.pointer(some⟨gs,0,none⟩))rfl)
 have S_r:(cellsOf root).toArray.size=32:=by simp [ja,lr]
 have S_o:(cellsOf own).toArray.size=64:=by simp [ja,lo_]
 obtain⟨A0,hA0⟩:∃x,x=YB root own:=⟨_,rfl⟩
 rw [← hA0] at BU ok BS ⊢
 clear hA0
 obtain⟨r,hr⟩:∃r,r=w.heap.size:=⟨_,rfl⟩
 have B0:Hid(Cb((w.alloc(.cells(cellsOf root).toArray 23)).alloc(.cells(cellsOf own).toArray 31))r 23(cellsOf root)∧Cb((w.alloc(.cells(cellsOf root).toArray 23)).alloc(.cells(cellsOf own).toArray 31))(r+1)31(cellsOf own)∧Ext w((w.alloc(.cells(cellsOf root).toArray 23)).alloc(.cells(cellsOf own).toArray 31))):=by rw [hr];exact⟨jQ _ _ _,jK _ _ _,((Ext.refl w).alloc _).alloc _⟩
 go_enter Tryz.func36,Tryz.ntmps36
 go_upto_region 1 with fail
 refine jg(fun W=>Cb W r 23(cellsOf root)∧Cb W(r+1)31(cellsOf own)∧Ext w W)B0.out ?_
 rw [← hr]
 clear B0
 replace hr:=hd hr
 rintro w0⟨k3,k4,x0⟩
 have P0:Hid(∀u,Ext w0.drew u→Cb u r 23(cellsOf root)∧Cb u(r+1)31(cellsOf own)∧Ext w u):=fun u x=>⟨k3.ext((Ext.refl w0).drew.trans x),k4.ext((Ext.refl w0).drew.trans x),(x0.trans(Ext.refl w0).drew).trans x⟩
 clear k3 k4 x0
 refine qgE [0,1,4,2,3,5,6,7] [2,6] ?_
 refine qV rfl(fun w'=>w'.heap[r]? =some(.cells(cellsOf root).toArray 23(0,0)))(fun w' e=>(P0.out w' e).1)(.agg(cellsOf root).toArray)(fun w' hF=>jd rfl rfl hF rfl rfl(by rw [S_r];rfl))?_
 go_frame
 refine qV rfl(fun w'=>w'.heap[(r+1)]? =some(.cells(cellsOf own).toArray 31(0,0)))(fun w' e=>(P0.out w' e).2.1)(.agg(cellsOf own).toArray)(fun w' hF=>jd rfl rfl hF rfl rfl(by rw [S_o];rfl))?_
 go_frame
 repeat((first |refine qR0 ?_ |refine qS ?_);go_frame)
 have X0:=hd(P0.out w0.drew(Ext.refl _)).2.2
 generalize w0.drew=V at *
 refine qD fun K hK=> ?_
 go_simp
 refine(NW.out V).mono ?_
 rintro e w1⟨kp,mb,rfl,lk,lm,s1,x1⟩
 refine hK.out _ _ x1 ?_
 clear hK K
 try go_frame
 refine qV rfl(fun _=>True)(fun _ _=>trivial)(.agg(A0.C kp).toArray)(fun w' _=>qe rfl(by simp only [List.map_toArray,List.map_cons,List.map_nil];exact BU.out kp))?_
 go_frame
 repeat((first |refine qR0 ?_ |refine qS ?_);go_frame)
 refine qV rfl(fun _=>True)(fun _ _=>trivial)(.agg(A0.C kp ++ [Value.pointer(some⟨gs,0,none⟩)]).toArray)(fun w' _=>qe rfl(by simp only [List.map_toArray,List.map_cons,List.map_nil];exact BS.out kp))?_
 go_frame
 have X1:=hd(X0.out.trans x1)
 replace s1:=hd s1
 have v1:=X0.out.size
 clear x1 P0 NW X0
 refine qD fun K hK=> ?_
 go_simp
 refine hK.out _ _((Ext.refl w1).alloc _)?_
 clear hK K
 try go_frame
 repeat((first |refine qR0 ?_ |refine qS ?_);go_frame)
 refine jp ?_
 have F:Hid(SS(w1.alloc(.cells(A0.C kp ++ [Value.pointer(some⟨gs,0,none⟩)]).toArray 116))w1.heap.size kp mb gs⟨A0, [],0⟩∧Ext w(w1.alloc(.cells(A0.C kp ++ [Value.pointer(some⟨gs,0,none⟩)]).toArray 116))):=⟨⟨Cb.new _ _ _,s1.out.ext((Ext.refl w1).alloc _),ok,Nat.zero_le _⟩,X1.out.alloc _⟩
 go_wp2_with fail
 go_ret
 exact⟨w1.heap.size,kp,mb,rfl,⟨X1.out.size,Nat.le_trans v1 lk,Nat.le_trans v1 lm⟩,F.out.1,F.out.2⟩
end
end Go.Proofs.YtakpgbaijkhpmaaGreatDoor
