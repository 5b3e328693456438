import Derived.Test.YtakpgbaijkhpmaaGreatDoorPkAO
import Derived.Test.YtakpgbaijkhpmaaGreatDoorPkAA
import Derived.Test.YtakpgbaijkhpmaaGreatDoorPkAI
import Derived.Test.YtakpgbaijkhpmaaGreatDoorPkAJ
import Derived.Test.YtakpgbaijkhpmaaGreatDoorPkAK
namespace Go.Proofs.YtakpgbaijkhpmaaGreatDoor
section
open Go.ChangeShapes Go.WideShapes Go.ChangeAt Go.RowKit Go.Deep Go.Maps
set_option maxRecDepth 100000
theorem Vw.of_mem{P:Program}{k:TypeId}{D:DataW Value}{E E':List(Value×Value)}(h:Vw P k D E)(ap:E'.Pairwise fun p q=>p.1≠q.1)(hm:∀p,p∈E'↔p∈E):Vw P k D E':=
 ⟨ap,h.size.trans(Nat.le_antisymm(List.Nodup.length_le_of_subset(h.apart.imp fun h e=>h(congrArg Prod.fst e))fun p hp=>(hm p).2 hp)(List.Nodup.length_le_of_subset(ap.imp fun h e=>h(congrArg Prod.fst e))fun p hp=>(hm p).1 hp)),
  fun p hp=>h.into p((hm p).1 hp),fun kl hh=>by obtain⟨p,hp,q⟩ :=h.back kl hh;exact⟨p,(hm p).2 hp,q⟩⟩
theorem Mp.of_mem{P:Program}{k:TypeId}{w:World}{b:Nat}{E E':List(Value×Value)}(h:Mp P k w b E)(ap:E'.Pairwise fun p q=>p.1≠q.1)(hm:∀p,p∈E'↔p∈E):Mp P k w b E':=by
 obtain⟨D,h,v⟩ :=h
 exact Mp.of h(v.of_mem ap hm)
def CpI(L:List Ke)(lf:Value→Prop)(L1:List Ke):Prop:=(∀y∈L1,y∈L)∧(∀y∈L,y∈L1↔¬ lf y.kv)∧L1.length≤L.length
theorem CpI.start(L:List Ke):CpI L(fun _=>True) []:=⟨(fun y h=>by cases h),(fun y _=>⟨(fun h=>by cases h),fun h=>absurd trivial h⟩),Nat.zero_le _⟩
theorem CpI.add{L:List Ke}{lf:Value→Prop}{L1:List Ke}(h:CpI L lf L1)(ok:∀x∈L,x.ok)(ap:L.Pairwise fun x y=> ¬(x.pk=y.pk∧x.n=y.n)){y:Ke}(hy:y∈L)(hl:lf y.kv)(nd:(L1 ++ [y]).Nodup):CpI L(fun key=>lf key∧key≠y.kv)(L1 ++ [y]):=by
 have sub:∀z∈L1 ++ [y],z∈L:=fun z hz=>by
  rcases List.mem_append.1 hz with q |q
  ·exact h.1 z q
  ·rw [List.mem_singleton.1 q];exact hy
 refine⟨sub,fun z hz=> ?_,List.Nodup.length_le_of_subset nd sub⟩
 rw [List.mem_append,List.mem_singleton,h.2.1 z hz]
 constructor
 ·rintro(q |rfl)⟨r1,r2⟩
  ·exact q r1
  ·exact r2 rfl
 ·intro q
  by_cases hz2:lf z.kv
  ·right
   exact kv_inj ok ap hz hy(Classical.byContradiction fun e=>q⟨hz2,e⟩)
  ·exact .inl hz2
theorem jgc{L1:List Ke}(h:(L1.map Ke.ent).Pairwise fun p q=>p.1≠q.1):L1.Nodup:=by
 rw [List.pairwise_map] at h
 exact h.imp fun h e=>h(by rw [e])
set_option maxHeartbeats 8000000 in
theorem jdO{w:World}{g mb:Nat}{L:List Ke}{puts:Int}(h:SK w g mb L puts)(h8:L.length≤1000):
  Calls Tryz.prog 51 #[.pointer(some⟨g,0,none⟩)] w fun e w'=>∃g' b',e= .returned(.pointer(some⟨g',0,none⟩))∧w.heap.size≤g'∧w.heap.size≤b'∧SK w' g' b' L puts∧Ext w w':=by
 have hal1:=Yw
 have hal2:=Ys
 have hmm:= @run_makeMap Tryz.prog
 have L_ZK:=QV
 have S_ZK:zKN.toArray.size=33:=by rw [List.size_toArray,L_ZK]
 have OK:=hd h.ok
 have AP:=hd h.apart
 have glt:=h.cb.lt
 have c0:=h.cb.cell(j:=0)rfl
 have c1:=h.cb.cell(j:=1)rfl
 have blt:=h.mp.lt
 have HM:Hid(Mp Tryz.prog 186 w mb(L.map fun y=>(y.kv,y.vv))):=h.mp
 have CE:Hid(∀s,Ext w s→s.cell?⟨g,0,none⟩=some(.map(some mb))):=fun s e=>(e.cell glt).trans c0
 have HS:=hd h
 have hbz:Hid(∀b,Tryz.prog.built 184 [(0, .map(some b)),(1, .int .i64 puts)]=some #[.map(some b), .int .i64 puts]):=fun b=>by kernel_rfl
 clear h
 obtain⟨b2,hb2⟩:∃r,r=w.heap.size:=⟨_,rfl⟩
 have hbb:=hbz.out w.heap.size
 have c1':(w.alloc(.map #[] 0)).cell?⟨g,1,none⟩=some(.int .i64 puts):=(((Ext.refl w).alloc _).cell glt).trans c1
 have B0:Hid(Mp Tryz.prog 186((w.alloc(.map #[] 0)).alloc(.cells #[.map(some w.heap.size), .int .i64 puts] 184))b2 []∧Cb((w.alloc(.map #[] 0)).alloc(.cells #[.map(some w.heap.size), .int .i64 puts] 184))(b2+1)184 [.map(some b2), .int .i64 puts]∧Ext w((w.alloc(.map #[] 0)).alloc(.cells #[.map(some w.heap.size), .int .i64 puts] 184))):=by
  subst hb2
  have C1:=Cb.new(w.alloc(.map #[] 0))184 [.map(some w.heap.size), .int .i64 puts]
  rw [show(w.alloc(.map #[] 0)).heap.size=w.heap.size+1 by simp] at C1
  exact⟨(Mp.made w _ _).ext((Ext.refl _).alloc _),C1,((Ext.refl w).alloc _).alloc _⟩
 generalize zKN=ZK at *
 replace hb2:=hd hb2
 go_enter Tryz.func51,Tryz.ntmps51
 go_upto_region 2 with(refine jm rfl _ _ rfl #[.map(some w.heap.size), .int .i64 puts](by simp only [List.map_toArray,List.map_cons,List.map_nil];exact hbb)?_;go_frame)
 refine jg(fun W=>Mp Tryz.prog 186 W b2 []∧Cb W(b2+1)184 [.map(some b2), .int .i64 puts]∧Ext w W)B0.out ?_
 rw [← hb2.out]
 have wb2:w.heap.size≤b2:=Nat.le_of_eq hb2.out.symm
 clear B0 hbb hbz hb2 c0 c1 c1'
 obtain⟨g2,hg2⟩:∃r,r=b2+1:=⟨_,rfl⟩
 rw [← hg2]
 have bg2:b2 < g2:=by omega
 replace hg2:=hd hg2
 rintro w0⟨n0,k0,x0⟩
 obtain⟨r4,hr4⟩:∃r,r=w0.heap.size:=⟨_,rfl⟩
 have hm0:=HM.out.ext x0
 have c0:=CE.out _ x0
 have l3:g2 < r4:=by rw [hr4];exact k0.lt
 have wr4:w.heap.size≤r4:=by rw [hr4];exact x0.size
 replace n0:=hd n0
 replace k0:=hd k0
 replace x0:=hd x0
 clear HM CE
 go_wp2_with(at_range;refine Ji rfl _ rfl yU Tryz.underlying182 rfl hm0 hr4.symm ?_;intro w1 m1 x1)
 go_frame
 replace hr4:=hd hr4
 go_loopw [4](fun _ wr=>∃(lf:Value→Prop)(cnt:Nat)(L1:List Ke),Mr Tryz.prog 186 wr mb r4(L.map fun y=>(y.kv,y.vv))lf cnt∧Mp Tryz.prog 186 wr b2(L1.map Ke.ent)∧CpI L lf L1∧Cb wr g2 184 [.map(some b2), .int .i64 puts]∧Ext w wr)(fun _ wr=>wr.rangeLeft mb r4)
 case atStart=>exact⟨_,_, [],m1,n0.out.ext x1,CpI.start L,k0.out.ext x1,x0.out.trans x1⟩
 case round =>
  obtain⟨lf,cnt,L1,mr,mp,ci,k2,xr⟩ :=hrel
  clear m1 c0 n0 k0 hm0
  have mro:Hid(wr.rangeLeft mb r4=cnt):=mr.left_eq
  have wsz:=xr.size
  have mpl:=mp.lt
  replace xr:=hd xr
  replace k2:=hd k2
  replace mp:=hd mp
  replace ci:=hd ci
  go_wp2_with(at_next;refine JG Ke.kv Ke.vv rfl _ rfl yU rfl mr ?_ ?_)
  ·intro hd
   have FIN:Hid(SK wr g2 b2 L puts):=⟨k2.out,mp.out.of_mem HS.out.mp.apart fun p=>by
    constructor
    ·intro q
     obtain⟨y,hy,rfl⟩ :=List.mem_map.1 q
     exact List.mem_map.2⟨y,(ci.out.2.1 y hy).2(hd y hy),rfl⟩
    ·intro q
     obtain⟨y,hy,rfl⟩ :=List.mem_map.1 q
     exact List.mem_map.2⟨y,ci.out.1 y hy,rfl⟩,HS.out.ok,HS.out.inc,HS.out.lt,HS.out.low⟩
   clear mr hd
   go_wp2_with fail
   go_ret
   exact⟨g2,b2,rfl,by omega,wb2,FIN.out,xr.out⟩
  ·intro y hy hly w3 cnt3 m3 hlt hg hs hen
   have hen':(Instr.entry(.pointer(some⟨r4,0,none⟩))).run Tryz.prog w3= .ok(.tuple #[.agg(knC y.pk y.n).toArray, .agg(knC y.k y.wh).toArray])w3:=hen
   have oky:=OK.out y hy
   have L_K:=yz oky.1 y.n
   have L_V:=yz oky.2.1 y.wh
   have S_K:(knC y.pk y.n).toArray.size=33:=by rw [List.size_toArray,L_K]
   have S_V:(knC y.k y.wh).toArray.size=33:=by rw [List.size_toArray,L_V]
   have O_K:=qB(Y4(pk:=y.pk)(n:=y.n))
   have O_V:=qB(Y4(pk:=y.k)(n:=y.wh))
   have st3:∀i,i < wr.heap.size→i≠r4→w3.heap[i]? =wr.heap[i]?:=fun i hi hne=>hg.block i hi(fun q=>hne(Option.some.inj q))
   have X3:Hid(Ext w w3):=Below.trans xr.out⟨hg.os,hg.tape,hg.output,hg.size,fun i hi=>st3 i(Nat.lt_of_lt_of_le hi xr.out.size)(by omega)⟩
   have k3:Hid(Cb w3 g2 184 [.map(some b2), .int .i64 puts]):=(st3 _ k2.out.lt(by omega)).trans k2.out
   have mp3:Mp Tryz.prog 186 w3 b2(L1.map Ke.ent):=mp.out.stay(st3 _ mpl(by omega))
   have r4lt:=m3.lt
   have AD:Hid(∀s,Ext w3 s→∃w',(Instr.mapUpdate 182(.map(some b2))(.agg(knC y.pk y.n).toArray)(.agg(knC y.k y.wh).toArray)).run Tryz.prog s= .ok()w'∧(Mp Tryz.prog 186 w' b2((L1 ++ [y]).map Ke.ent)∧CpI L(fun key=>lf key∧key≠y.kv)(L1 ++ [y]))∧s.grownBy w'(some b2)):=fun s e=>by
    obtain⟨kl,hkl⟩ :=JU oky.1 oky.2.2
    have hm:∀p∈L1.map Ke.ent,p.1≠ .agg(knC y.pk y.n).toArray:=fun p hp e=>by
     obtain⟨z,hz,rfl⟩ :=List.mem_map.1 hp
     have:=jci OK.out AP.out(ci.out.1 z hz)hy e
     rw [this] at hz
     exact(ci.out.2.1 y hy).1 hz hly
    obtain⟨w',r1,r2,r3,_⟩ :=(mp3.ext e).add yU Tryz.underlying182(by rw [List.length_map];have:=ci.out.2.2;unfold maxLen;omega)hkl hm(.agg(knC y.k y.wh).toArray)
    have r2':Mp Tryz.prog 186 w' b2((L1 ++ [y]).map Ke.ent):=by rw [List.map_append];exact r2
    exact⟨w',r1,⟨r2',ci.out.add OK.out AP.out hy hly(jgc r2'.apart)⟩,r3⟩
   clear mr hen k2 mp xr hly hs hg st3 mp3 ci
   generalize knC y.k y.wh=YV at *
   generalize knC y.pk y.n=YK at *
   have K5:Hid(Cb((((w3.alloc(.cells ZK.toArray 186)).alloc(.cells ZK.toArray 188)).setRow w3.heap.size YK.toArray).setRow(w3.heap.size+1)YV.toArray)w3.heap.size 186 YK∧Cb((((w3.alloc(.cells ZK.toArray 186)).alloc(.cells ZK.toArray 188)).setRow w3.heap.size YK.toArray).setRow(w3.heap.size+1)YV.toArray)(w3.heap.size+1)188 YV∧Ext w3((((w3.alloc(.cells ZK.toArray 186)).alloc(.cells ZK.toArray 188)).setRow w3.heap.size YK.toArray).setRow(w3.heap.size+1)YV.toArray)):=by
    have a1:Cb((w3.alloc(.cells ZK.toArray 186)).alloc(.cells ZK.toArray 188))w3.heap.size 186 ZK:=jQ _ _ _
    have a2:Cb((w3.alloc(.cells ZK.toArray 186)).alloc(.cells ZK.toArray 188))(w3.heap.size+1)188 ZK:=jK _ _ _
    exact⟨(a1.set(L':=YK)).row(by omega),(a2.row(by omega)).set,below_setRow(below_setRow(((Ext.refl w3).alloc _).alloc _)(Nat.le_refl _)_)(Nat.le_succ _)_⟩
   have a1:Hid(((w3.alloc(.cells ZK.toArray 186)).alloc(.cells ZK.toArray 188)).heap[w3.heap.size]? =some(.cells ZK.toArray 186(0,0))):=jQ _ _ _
   have a2:Hid((((w3.alloc(.cells ZK.toArray 186)).alloc(.cells ZK.toArray 188)).setRow w3.heap.size YK.toArray).heap[w3.heap.size+1]? =some(.cells ZK.toArray 188(0,0))):=(setRow_other _ _ _ _(by omega)).trans(jK _ _ _)
   go_upto_region 5 with(first
    |(refine wpList_store_row rfl 186 _ _ rfl w3.heap.size YK.toArray rfl rfl 186 ZK.toArray a1.out(by rw [S_K];rfl)(by rw [S_K,S_ZK])O_K ?_;simp only [Act.put])
    |(refine wpList_store_row rfl 188 _ _ rfl(w3.heap.size+1)YV.toArray rfl rfl 188 ZK.toArray a2.out(by rw [S_V];rfl)(by rw [S_V,S_ZK])O_V ?_;simp only [Act.put]))
   refine jg(fun W=>Cb W w3.heap.size 186 YK∧Cb W(w3.heap.size+1)188 YV∧Ext w3 W)K5.out ?_
   clear K5 a1 a2 hen'
   rintro w4⟨k5,k6,x4⟩
   have r5lt:r4 < w3.heap.size:=r4lt
   have A4:=hd(AD.out w4.drew x4.drew)
   have T4:Hid(∀s,w4.drew.grownBy s(some b2)→(Cb s w3.heap.size 186 YK∧Cb s(w3.heap.size+1)188 YV)∧s.cell?⟨g2,0,none⟩=some(.map(some b2))∧Mr Tryz.prog 186 s mb r4(L.map fun y=>(y.kv,y.vv))(fun key=>lf key∧key≠y.kv)cnt3∧Cb s g2 184 [.map(some b2), .int .i64 puts]∧Ext w s):=fun s e=>by
    have hb:∀i,i < w4.heap.size→i≠b2→s.heap[i]? =w4.heap[i]?:=fun i hi hne=>e.block i hi(fun q=>hne(Option.some.inj q))
    have kg:Cb s g2 184 [.map(some b2), .int .i64 puts]:=(hb _((k3.out.ext x4).lt)(by omega)).trans(k3.out.ext x4)
    refine⟨⟨(hb _ k5.lt(by omega)).trans k5,(hb _ k6.lt(by omega)).trans k6⟩,kg.cell rfl,((m3.ext x4).ext(Ext.refl _).drew).kept e(fun q=>by have:=Option.some.inj q;omega)(fun q=>by have:=Option.some.inj q;omega),kg,?_⟩
    have x:Ext w w4:=X3.out.trans x4
    exact⟨e.os.trans x.os,e.tape.trans x.tape,e.output.trans x.output,Nat.le_trans x.size e.size,fun i hi=>(hb i(Nat.lt_of_lt_of_le hi x.size)(by omega)).trans(x.block i hi)⟩
   generalize w3.heap.size=r5 at *
   clear AD m3 k3 X3 x4 k5 k6 r4lt w3
   refine qgW b2 [0,1,2,3,4,5,6] [6] ?_
   generalize w4.drew=W at *
   clear w4
   repeat((first |refine qR _(fun w' e=>(T4.out w' e).2.1)?_ |refine qS ?_);go_frame)
   refine qV rfl(fun w'=>w'.heap[r5]? =some(.cells YK.toArray 186(0,0)))(fun w' e=>(T4.out w' e).1.1)(.agg YK.toArray)(fun w' hF=>jd rfl rfl hF rfl rfl(by rw [S_K];rfl))?_
   go_frame
   refine qV rfl(fun w'=>w'.heap[(r5+1)]? =some(.cells YV.toArray 188(0,0)))(fun w' e=>(T4.out w' e).1.2)(.agg YV.toArray)(fun w' hF=>jd rfl rfl hF rfl rfl(by rw [S_V];rfl))?_
   go_frame
   repeat((first |refine qR _(fun w' e=>(T4.out w' e).2.1)?_ |refine qS ?_);go_frame)
   refine qD fun K hK=> ?_
   obtain⟨w5,d1,d2,d3⟩ :=A4.out
   refine QU rfl rfl rfl rfl d1 ?_
   refine hK.out _ _ d3 ?_
   clear hK K
   try go_frame
   repeat((first |refine qR0 ?_ |refine qS ?_);go_frame)
   refine jp ?_
   obtain⟨_,_,f1,f2,f3⟩ :=T4.out _ d3
   replace d2:=hd d2
   clear T4 A4 d1 d3
   go_wp2_with fail
   go_round
   case rel=>exact⟨_,cnt3,_,f1,d2.out.1,d2.out.2,f2,f3⟩
   case measure=>rw [f1.left_eq,mro.out];exact hlt
end
section
open Go.ChangeShapes Go.WideShapes Go.ChangeAt Go.RowKit Go.Deep
def Ot(p:Nat→Prop)(a b:World):Prop:=b.os=a.os∧b.tape=a.tape∧b.output=a.output∧a.heap.size≤b.heap.size∧∀i,i < a.heap.size→¬ p i→b.heap[i]? =a.heap[i]?
section
variable{p q:Nat→Prop}{a b c:World}
theorem Ot.refl(p:Nat→Prop)(w:World):Ot p w w:=⟨rfl,rfl,rfl,Nat.le_refl _,fun _ _ _=>rfl⟩
theorem Ot.trans(h:Ot p a b)(k:Ot p b c):Ot p a c:=
 ⟨k.1.trans h.1,k.2.1.trans h.2.1,k.2.2.1.trans h.2.2.1,Nat.le_trans h.2.2.2.1 k.2.2.2.1,fun i hi hp=>(k.2.2.2.2 i(Nat.lt_of_lt_of_le hi h.2.2.2.1)hp).trans(h.2.2.2.2 i hi hp)⟩
theorem Ot.of_ext(h:Ext a b):Ot p a b:=⟨h.os,h.tape,h.output,h.size,fun i hi _=>h.block i hi⟩
theorem Ot.of_two{g g':Nat}(h:Two g g' a b)(h1:p g)(h2:p g'):Ot p a b:=⟨h.1,h.2.1,h.2.2.1,h.2.2.2.1,fun i hi hn=>h.2.2.2.2 i hi(fun z=>hn(z ▸ h1))(fun z=>hn(z ▸ h2))⟩
theorem Ot.of_grown{g:Nat}(h:a.grownBy b(some g))(h1:p g):Ot p a b:=⟨h.os,h.tape,h.output,h.size,fun i hi hn=>h.block i hi(fun z=>hn(Option.some.inj z ▸ h1))⟩
theorem Ot.size(h:Ot p a b):a.heap.size≤b.heap.size:=h.2.2.2.1
theorem Ot.drew(h:Ot p a b):Ot p a b.drew:=h
theorem Ot.block{i:Nat}{o:Obj}(h:Ot p a b)(hi:a.heap[i]? =some o)(hp: ¬ p i):b.heap[i]? =some o:=(h.2.2.2.2 i(jh hi)hp).trans hi
theorem Ot.ext{w0:World}(h:Ext w0 a)(k:Ot p a b)(hp:∀i,p i→w0.heap.size≤i):Ext w0 b:=
 Below.trans h⟨k.1,k.2.1,k.2.2.1,k.2.2.2.1,fun i hi=>k.2.2.2.2 i(Nat.lt_of_lt_of_le hi h.size)(fun z=>by have:=hp i z;omega)⟩
theorem Ot.row(w:World){g:Nat}(C:Array Value)(h:p g):Ot p w(w.setRow g C):=⟨rfl,rfl,rfl,by simp,fun i _ hn=>setRow_other _ _ _ _(fun z=>hn(z ▸ h))⟩
end
theorem zq{w:World}{i j:Nat}{t t':TypeId}{C D:List Value}(h:w.heap[i]? =some(.cells C.toArray t(0,0)))(k:w.heap[j]? =some(.cells D.toArray t'(0,0)))(ht:t≠t'):i≠j:=by
 rintro rfl
 rw [h] at k
 injection k with k
 injection k with _ k
 exact ht k
end
section
theorem jdm(ks:List UInt8)(m:Nat):(Y2 ks m).length=m:=by simp [Y2]
end
section
open Go.ChangeShapes Go.WideShapes Go.ChangeAt Go.RowKit Go.Deep Go.Maps
set_option maxRecDepth 100000
theorem jgp{L:List Ke}{x:Ke}(h:L.length≤8):(jcz L x).length≤8:=by
 unfold jcz jeT
 split
 ·split
  ·simp;omega
  ·simp;omega
 ·exact h
theorem jbF(pk:List UInt8)(k:List UInt8):∀(xs:List(List UInt8))(L:List Ke)(p n:Int),yO pk L p n(xs ++ [k])=(jcz(yO pk L p n xs).1⟨pk,n+xs.length,k,(yO pk L p n xs).2⟩,jdx(yO pk L p n xs).1(yO pk L p n xs).2 pk(n+xs.length))
 | [],L,p,n=>by simp [yO]
 |x :: xs,L,p,n=>by
  rw [List.cons_append,yO,yO,jbF pk k xs]
  rw [show n+1+((xs.length:Nat):Int)=n+(((x :: xs).length:Nat):Int)by rw [List.length_cons];omega]
theorem jaF(pk:List UInt8):∀(xs:List(List UInt8))(L:List Ke)(p n:Int),L.length≤8→(yO pk L p n xs).1.length≤8
 | [],_,_,_,h=>h
 |_ :: xs,_,_,_,h=>jaF pk xs _ _ _(jgp h)
theorem jjy(L:List Ke)(p:Int)(pk:List UInt8)(n:Int):p≤jdx L p pk n∧jdx L p pk n≤p+1:=by
 unfold jdx;split <;> omega
theorem jcy(pk:List UInt8):∀(xs:List(List UInt8))(L:List Ke)(p n:Int),p≤(yO pk L p n xs).2∧(yO pk L p n xs).2≤p+xs.length
 | [],_,p,_=>by simp [yO]
 |x :: xs,L,p,n=>by
  have h:=jcy pk xs(jcz L⟨pk,n,x,p⟩)(jdx L p pk n)(n+1)
  have h2:=putP_le L p pk n
  rw [yO]
  rw [List.length_cons]
  omega
def P3(g kp mb i:Nat):Prop:=i=g∨i=kp∨i=mb
theorem Sq.ne_sk{w:World}{g kp kq mb:Nat}{s:Rt}{q:List Value}{L:List Ke}{p:Int}(h:Sq w g 114 s kq q)(k:SK w kp mb L p):g≠kp∧g≠mb:=by
 refine⟨zq h k.cb(by decide),fun e=> ?_⟩
 obtain⟨es,c,z⟩ :=k.mp.obj
 unfold Sq Cb at h
 rw [e,z] at h
 cases h
theorem Kl.keep{w w':World}{A:Option Addr}{n:Nat}{l:List(List UInt8)}(h:Kl w A n l)(e:∀b,0 < n→A=some⟨b,0,none⟩→b < w.heap.size→w'.heap[b]? =w.heap[b]?)(hs:w.heap.size≤w'.heap.size):Kl w' A n l:=
 ⟨h.1,h.2.1,fun h0=>by
  obtain⟨b,q,hb,hc⟩ :=h.2.2 h0
  exact⟨b,q,Nat.lt_of_lt_of_le hb hs,fun j hj i v hv=>(World.cell?_of_block(e b h0 q hb)).trans(hc j hj i v hv)⟩⟩
def wkL(s:Rt)(up:Int):List(List UInt8):=if qN s up=0 then Y2 s.rc(Jf s up).toNat else []
def wkC(s:Rt)(up:Int):List UInt8:=if qN s up=0 then Yg s.rc(Jf s up).toNat else List.replicate 32 0
theorem jiN{w:World}{s:Rt}(ok:s.ok)(up:Int){tg:TypeId×Nat×Nat}(hG:Gl w tg):Calls Tryz.prog 120 #[.agg(cellsOf s.rc).toArray, .int .i64(up - s.rm)] w(YQ(wkL s up)(wkC s up)(qN s up)w):=by
 unfold wkL wkC
 by_cases h:Jf s up < 0∨8 < Jf s up
 ·have e:qN s up=6:=if_pos h
  rw [e]
  exact jiK h
 ·have e:qN s up=0:=if_neg h
  rw [e]
  have hm:(up - s.rm)=(((Jf s up).toNat:Nat):Int):=by unfold Jf at *;omega
  rw [hm]
  exact jfj ok.rc(by omega)hG
theorem jkR(s:Rt)(up:Int):(wkL s up).length≤8∧(∀x∈wkL s up,x.length=32):=by
 unfold wkL
 split
 ·rename_i h
  refine⟨?_,fun x hx=> ?_⟩
  ·rw [jdm]
   unfold qN at h
   split at h
   ·cases h
   ·omega
  ·simp only [Y2,List.mem_map] at hx
   obtain⟨_,_,rfl⟩ :=hx
   exact jR _ _
 ·exact⟨by simp,fun x hx=>by cases hx⟩
theorem jjQ{s:Rt}(ok:s.ok)(up:Int):(wkC s up).length=32:=by
 unfold wkC
 split
 ·exact Jn ok.rc _
 ·rfl
theorem yt(t:Rz)(up:Int):(qN t.s up≠0→jX t up=t)∧(skipE t.s up=0→jX t up=⟨{t.s with rc:=wkC t.s up,rm:=up},(yO t.s.ot t.L t.puts t.s.rm(wkL t.s up)).1,(yO t.s.ot t.L t.puts t.s.rm(wkL t.s up)).2⟩):=by
 refine⟨fun h=>by unfold jX;rw [if_neg h],fun h=> ?_⟩
 unfold jX wkC wkL
 rw [if_pos h,if_pos h,if_pos h]
set_option maxHeartbeats 16000000 in
theorem jdM{w:World}{g kp mb:Nat}{t:Rz}{q:List Value}{up:Int}(h:Sq w g 114 t.s kp q)(hk:SK w kp mb t.L t.puts)(ok:t.s.ok)(l8:t.L.length≤8)(hp:t.puts≤4000000000000000000)(hu:0≤up∧up≤1000000){tg:TypeId×Nat×Nat}(hG:Gl w tg):
  Calls Tryz.prog 90 #[.pointer(some⟨g,0,none⟩), .int .i64 up] w fun e w'=>e= .returned(.int .i64(qN t.s up))∧Sq w' g 114(jX t up).s kp q∧SK w' kp mb(jX t up).L(jX t up).puts∧Ot(P3 g kp mb)w w':=by
 obtain⟨s,L0,p0⟩ :=t
 dsimp only at *
 obtain⟨nk,nm⟩ :=h.ne_sk hk
 have nkm:=hk.ne
 have orm:=ok.rm
 have WK:Hid(∀W,Ext w W→Calls Tryz.prog 120 #[.agg(cellsOf s.rc).toArray, .int .i64(up - s.rm)] W(YQ(wkL s up)(wkC s up)(qN s up)W)):=fun W e=>jiN ok up(hG.kept e hG.lt)
 obtain⟨S0,S1⟩ :=yt⟨s,L0,p0⟩up
 dsimp only at S0 S1
 obtain⟨wl8,wl32⟩ :=jkR s up
 have L_c:=wkC_len ok up
 replace S0:=hd S0
 replace S1:=hd S1
 obtain⟨er,her⟩:∃x,x=qN s up:=⟨_,rfl⟩
 obtain⟨TT,hTT⟩:∃x,x=jX⟨s,L0,p0⟩up:=⟨_,rfl⟩
 rw [← her] at WK S0 S1 ⊢
 rw [← hTT] at S0 S1 ⊢
 clear her hTT
 generalize wkL s up=ks at *
 generalize wkC s up=lc at *
 have S_lc:(cellsOf lc).toArray.size=32:=by simp [ja,L_c]
 have O_lc:=ji lc
 have hal:∀w,(zeroValue 23).run Tryz.prog w= .ok(.agg(cellsOf(List.replicate 32 0)).toArray)w:=fun w=>by rw [jU];exact j2 w
 have L_zk:(List.replicate 32(0:UInt8)).length=32:=rfl
 generalize List.replicate 32(0:UInt8)=zk at *
 have S_zk:(cellsOf zk).toArray.size=32:=by simp [ja,L_zk]
 have u1:IntKind.i64.wrap(up - s.rm)=up - s.rm:=IntWalk.i64_in _(by omega)
 have C_rc:(cellsOf s.rc).length=32:=by rw [ja,ok.rc]
 have C_ot:(cellsOf s.ot).length=32:=by rw [ja,ok.ot]
 have gl:=h.lt
 have kl:=hk.cb.lt
 have ml:=hk.mp.lt
 have P0:Hid(∀u,Below w.heap.size w u→Sq u g 114 s kp q∧SK u kp mb L0 p0∧Ext w u):=fun u x=>⟨h.ext x,hk.ext x,x⟩
 have RC:Hid(∀u,Below w.heap.size w u→(∀j v,(cellsOf s.rc)[j]? =some v→u.cell?⟨g,166+j,none⟩=some v)):=fun u x=>(P0.out u x).1.at_rc ok
 have RM:Hid(∀u,Below w.heap.size w u→u.cell?⟨g,198,none⟩=some(.int .i64 s.rm)):=fun u x=>(P0.out u x).1.rm ok
 clear h hk hG
 go_enter Tryz.func90,Tryz.ntmps90
 go_upto_region 1 with fail
 go_cut [5,6,7](fun s5 s6 s7 wx=>∃(A:Option Addr)(c g6:Nat),s5= .slice A ks.length c∧s6= .pointer(some⟨g6,0,none⟩)∧s7= .int .i64 er∧(Kl wx A ks.length ks∧ks.length≤c∧c≤9223372036854775807∧∀b,A=some⟨b,0,none⟩→w.heap.size≤b)∧Below w.heap.size w wx∧wx.heap[g6]? =some(.cells(cellsOf lc).toArray 23(0,0))∧w.heap.size≤g6)
 case first =>
  refine qgT(R:=Below w.heap.size)(Below.refl _)(fun _ _ _=>Below.trans)(.rd 0(.rd 1(.rd 2(.rd 3(.rd 4(.rd 5(.rd 6(.rd 7(.rd 8(.rd 9(.rd 10(.rd 11(.alt 12(.rd 13(.rd 14(.rd 15(.rd 16(.alt 17(.rd 18(.alt 19(.rd 20 .nil) .stop)) .stop)))))(.alt 17(.alt 12(.rd 13(.rd 14(.rd 15(.rd 16(.rd 18(.alt 19(.rd 20 .nil) .stop)))))) .stop) .stop))))))))))))))21 ?_
  repeat((first |refine vM ?_ |refine qtS ?_);go_frame)
  refine qtV rfl(fun w'=>∀q_ v,(cellsOf s.rc)[q_]? =some v→w'.cell?⟨g,166+q_,none⟩=some v)(fun w' e=>RC.out w'(Ext.trans(Ext.refl _).drew e))(.agg(cellsOf s.rc).toArray)(fun w' hF=>jy rfl rfl hF rfl rfl(by rw [C_rc];rfl))?_
  go_frame
  repeat((first |refine qtR _(fun w' e=>RM.out w'(Ext.trans(Ext.refl _).drew e))?_ |refine qtS ?_);go_frame)
  have SE:Hid(Ext w w.drew):=(Ext.refl w).drew
  generalize w.drew=WC at *
  repeat'(first
   |exact yC
   |(refine qc(i:=12)_ rfl ?_ ?_(fun K1 hK1=> ?_)
     (·rfl)
     rotate_left
     go_simp
     refine(WK.out WC SE.out).mono ?_
     rintro e0 WC⟨AW,cW,rfl,KLr,kc1,kc2,e,KBr⟩
     refine hK1.out _ _(e.mono SE.out.size)?_
     clear hK1 K1
     have KL:=hd KLr
     clear KLr
     have KB:Hid(∀b,AW=some⟨b,0,none⟩→w.heap.size≤b):=fun b q=>Nat.le_trans SE.out.size(KBr b q)
     (try have NB:0 < ks.length→AW=some⟨g6,0,none⟩→False:=fun _ q=>by have:=KBr g6 q;have:=jh hL.out;omega)
     (try replace hL:=hd((e.block _(jh hL.out)).trans hL.out))
     replace SE:=hd(SE.out.trans e)
     clear e KBr
     (try go_frame)
     repeat((first |refine vM ?_ |refine qtS ?_);go_frame)
     skip)
   |(refine qc(i:=17)_ rfl ?_ ?_(fun K1 hK1=> ?_)
     (·rfl)
     rotate_left
     go_simp
     have e:Ext WC(WC.alloc(Obj.cells(cellsOf zk).toArray 23)):=(Ext.refl WC).alloc _
     obtain⟨g6,hgL⟩:∃g,g=WC.heap.size:=⟨_,rfl⟩
     have hL:=hd(heap_alloc_new WC(Obj.cells(cellsOf zk).toArray 23))
     rw [← hgL] at hL ⊢
     have z_g6:w.heap.size≤g6:=by rw [hgL];exact SE.out.size
     refine hK1.out _ _(e.mono SE.out.size)?_
     clear hK1 K1
     replace hgL:=hd hgL
     (try have NB:0 < ks.length→AW=some⟨g6,0,none⟩→False:=fun h0 q=>by obtain⟨b,q2,hb,_⟩ :=KL.out.2.2 h0;rw [q] at q2;injection q2 with q2;injection q2 with q2;have:=hgL.out;omega)
     (try replace KL:=hd(KL.out.ext e))
     replace SE:=hd(SE.out.trans e)
     clear e
     generalize WC.alloc(Obj.cells(cellsOf zk).toArray 23)=WC at *
     (try go_frame)
     repeat((first |refine vM ?_ |refine qtS ?_);go_frame)
     skip)
   |(refine qc(i:=19)_ rfl ?_ ?_(fun K1 hK1=> ?_)
     (·rfl)
     rotate_left
     refine wp_store_row _ _ _ rfl g6(cellsOf lc).toArray rfl rfl 23(cellsOf zk).toArray hL.out(by rw [S_lc];rfl)(by rw [S_lc];exact S_zk)O_lc ?_
     refine hK1.out _ _(below_setRow(Below.refl _ _)z_g6 _)?_
     clear hK1 K1
     replace SE:Hid(Below w.heap.size w(WC.setRow g6(cellsOf lc).toArray)):=below_setRow SE.out z_g6 _
     replace hL:Hid((WC.setRow g6(cellsOf lc).toArray).heap[g6]? =some(.cells(cellsOf lc).toArray 23(0,0))):=setRow_heap _ _ _ _ _ _ hL.out
     (try replace KL:=hd(KL.out.keep(w':=WC.setRow g6(cellsOf lc).toArray)(fun b h0 q _=>setRow_other _ _ _ _(fun z=>by subst z;exact NB h0 q))(by simp)))
     generalize WC.setRow g6(cellsOf lc).toArray=WC at *
     (try simp only [Act.put])
     repeat((first |refine vM ?_ |refine qtS ?_);go_frame)
     skip)
   |(refine yB ?_
     go_wp2_with fail
     go_meet
     exact⟨AW,cW,g6,rfl,rfl,rfl,⟨KL.out,kc1,kc2,KB.out⟩,SE.out,hL.out,z_g6⟩))
 case rest =>
  obtain⟨A,c,g6,rfl,rfl,rfl,⟨kl_,kc1,kc2,kb⟩,b6,k6,z6⟩ :=hcut
  obtain⟨hS,hK,xw⟩ :=P0.out wc b6
  clear P0 RC RM WK
  by_cases he:er=0
  ·replace S1:=hd(S1.out he)
   subst he
   have AP:=hd(fun(j:Nat)(k:List UInt8)(e:ks.take(j+1)=ks.take j ++ [k]) =>by
    have:=jbF s.ot k(ks.take j)L0 p0 s.rm
    rw [← e] at this
    exact this)
   have AL:=hd(fun j=>jaF s.ot(ks.take j)L0 p0 s.rm l8)
   have AU:=hd(fun j=>jcy s.ot(ks.take j)L0 p0 s.rm)
   have g6l:=jh k6
   have w06:=b6.size
   generalize hn:ks.length=n at *
   have I0:Hid(Sq wc g 114 s kp q∧SK wc kp mb(yO s.ot L0 p0 s.rm(ks.take 0)).1(yO s.ot L0 p0 s.rm(ks.take 0)).2∧Kl wc A n ks∧wc.heap[g6]? =some(.cells(cellsOf lc).toArray 23(0,0))∧Ot(P3 g kp mb)w wc):=⟨hS,hK,kl_,k6,Ot.of_ext xw⟩
   clear hS hK kl_ k6 xw S0
   have wlen:w.heap.size≤wc.heap.size:=w06
   replace hn:=hd hn
   go_wp2_with fail
   go_loopw [32](fun iv W=>∃j:Nat,j≤n∧iv= .int .i64(j:Int)∧Sq W g 114 s kp q∧SK W kp mb(yO s.ot L0 p0 s.rm(ks.take j)).1(yO s.ot L0 p0 s.rm(ks.take j)).2∧Kl W A n ks∧W.heap[g6]? =some(.cells(cellsOf lc).toArray 23(0,0))∧Ot(P3 g kp mb)w W)(fun iv _=>n - (intOf iv).toNat)
   case atStart=>exact⟨0,Nat.zero_le _,rfl,I0.out⟩
   case round =>
    clear I0
    obtain⟨j,hj,rfl,hS,hK,hL,h6,hO⟩ :=hrel
    by_cases hlt:j < n
    ·have d1:decide((j:Int) < (n:Int))=true:=decide_eq_true(by omega)
     obtain⟨b,rfl,hb,hc⟩ :=hL.2.2(by omega)
     have hc2:=hd(hc j hlt)
     have bw:=kb b rfl
     obtain⟨kj,hkj⟩:∃k,k=ks.getD j []:=⟨_,rfl⟩
     rw [← hkj] at hc2
     have L_kj:kj.length=32:=hL.2.1 _(by rw [hkj];have:=hL.1;simp [List.getD,show j < ks.length by omega])
     have TK:ks.take(j+1)=ks.take j ++ [kj]:=by
      have:=hL.1
      rw [List.take_succ_eq_append_getElem(by omega),hkj]
      simp [List.getD,show j < ks.length by omega]
     have EA:=AP.out j kj TK
     have l8j:=AL.out j
     have auj:=AU.out j
     have ltk:(ks.take j).length=j:=by rw [List.length_take];have:=hL.1;omega
     rw [ltk] at EA auj
     have EB1:=congrArg Prod.fst EA
     have EB2:=congrArg Prod.snd EA
     dsimp only at EB1 EB2
     replace EB1:=hd(fun _:Unit=>EB1)
     replace EB2:=hd(fun _:Unit=>EB2)
     clear EA TK hkj hc ltk
     generalize(yO s.ot L0 p0 s.rm(ks.take j)).1=Lj at *
     generalize(yO s.ot L0 p0 s.rm(ks.take j)).2=pj at *
     have S_kj:(cellsOf kj).toArray.size=32:=by simp [ja,L_kj]
     have O_kj:=ji kj
     have hc3:Hid(∀i v,(cellsOf kj)[i]? =some v→wr.cell?⟨b,j *32+i,none⟩=some v):=fun i v hv=>by rw [Nat.mul_comm];exact hc2.out i v hv
     have Y:Hid(Cb((wr.alloc(.cells(cellsOf zk).toArray 23)).setRow wr.heap.size(cellsOf kj).toArray)wr.heap.size 23(cellsOf kj)∧Ext wr((wr.alloc(.cells(cellsOf zk).toArray 23)).setRow wr.heap.size(cellsOf kj).toArray)):=⟨Cb.set(Cb.new _ _ _),Ext.newRow _ _ _⟩
     have I1:Hid(∀u,Ext wr u→Sq u g 114 s kp q∧SK u kp mb Lj pj∧Kl u(some⟨b,0,none⟩)n ks∧u.heap[g6]? =some(.cells(cellsOf lc).toArray 23(0,0))∧Ot(P3 g kp mb)w u):=fun u x=>⟨hS.ext x,hK.ext x,hL.ext x,(x.block _(jh h6)).trans h6,Ot.trans hO(Ot.of_ext x)⟩
     have osz:=hO.size
     clear hS hK hL h6 hO hc2
     go_upto_region 7 with(first
      |((with_reducible refine jI(o:=⟨some 36,_,_,_,_,_⟩)(ty:=23)(g:=b)(off:=(j *32))(ys:=cellsOf kj)?_ rfl ?_ ?_ Tryz.underlying23 ?_ ?_ ?_);(·rfl);(·rfl);(·exact hc3.out);(·rfl);(·rw [(ja _).trans L_kj];rfl);go_frame)
      |(refine wpList_store_row rfl 23 _ _ rfl wr.heap.size(cellsOf kj).toArray rfl rfl 23(cellsOf zk).toArray(heap_alloc_new _ _)(by rw [S_kj];rfl)(by rw [S_kj,S_zk])O_kj ?_;simp only [Act.put]))
     obtain⟨r9,hr9⟩:∃x,x=wr.heap.size:=⟨_,rfl⟩
     refine jg(fun W=>Cb W wr.heap.size 23(cellsOf kj)∧Ext wr W)Y.out ?_
     rw [← hr9]
     have w9:wr.heap.size≤r9:=Nat.le_of_eq hr9.symm
     clear Y hc3
     replace hr9:=hd hr9
     rintro w2⟨k9,x2⟩
     have kw:kp < wr.heap.size:=by omega
     have mw:mb < wr.heap.size:=by omega
     have I2:Hid(∀u,Two kp mb w2.drew u→Sq u g 114 s kp q∧Cb u r9 23(cellsOf kj)∧Kl u(some⟨b,0,none⟩)n ks∧u.heap[g6]? =some(.cells(cellsOf lc).toArray 23(0,0))∧Ot(P3 g kp mb)w u):=fun u x=>by
      obtain⟨a1,a2,a3,a4,a5⟩ :=I1.out w2 x2
      exact⟨a1.keep(x.2.2.2.2 _ a1.lt nk nm),x.block k9(by omega)(by omega),a3.keep(fun b' _ q hb'=>by
       injection q with q
       injection q with q
       exact x.2.2.2.2 _ hb'(by omega)(by omega))x.2.2.2.1,x.block a4(by omega)(by omega),Ot.trans a5(Ot.of_two x(.inr(.inl rfl))(.inr(.inr rfl)))⟩
     have K2:=(I1.out w2 x2).2.1
     have hq9:pj≤4611686018427387904:=by omega
     have nj:IntKind.i64.wrap(s.rm+(j:Int))=s.rm+(j:Int):=IntWalk.i64_in _(by omega)
     have PUT:=hd(jfb(w:=w2.drew)(K2.ext(Ext.refl _).drew)ok.ot L_kj(n:=s.rm+(j:Int))(by omega)l8j hq9)
     have F2:Hid(∀u,Two kp mb w2.drew u→u.cell?⟨g,199,none⟩=some(.pointer(some⟨kp,0,none⟩))∧u.cell?⟨g,198,none⟩=some(.int .i64 s.rm)):=fun u x=>⟨(I2.out u x).1.kpc ok,(I2.out u x).1.rm ok⟩
     have F3:Hid(∀u,Two kp mb w2.drew u→∀i v,(cellsOf s.ot)[i]? =some v→u.cell?⟨g,97+i,none⟩=some v):=fun u x=>(I2.out u x).1.at_ot ok
     clear I1 K2 k9 x2
     refine qgR(R:=Two kp mb)(Two.refl _ _)(fun _ _ _=>Two.trans) [0,1,2,3,4,5,6,7,8,9,10,11,12,13,14,15,16] [16] ?_
     repeat((first |refine qR _(fun w' e=>(F2.out w' e))?_ |refine qS ?_);go_frame)
     refine qV rfl(fun w'=>∀q_ v,(cellsOf s.ot)[q_]? =some v→w'.cell?⟨g,97+q_,none⟩=some v)(fun w' e=>F3.out w' e)(.agg(cellsOf s.ot).toArray)(fun w' hF=>jy rfl rfl hF rfl rfl(by rw [C_ot];rfl))?_
     go_frame
     repeat((first |refine qR _(fun w' e=>(F2.out w' e))?_ |refine qS ?_);go_frame)
     refine qV rfl(fun w'=>w'.heap[r9]? =some(.cells(cellsOf kj).toArray 23(0,0)))(fun w' e=>(I2.out w' e).2.1)(.agg(cellsOf kj).toArray)(fun w' hF=>jd rfl rfl hF rfl rfl(by rw [S_kj];rfl))?_
     go_frame
     repeat((first |refine qR _(fun w' e=>(F2.out w' e))?_ |refine qS ?_);go_frame)
     generalize w2.drew=V at *
     refine qD fun K hK=> ?_
     go_simp
     refine PUT.out.mono ?_
     rintro e w4⟨rfl,⟨p4,_,_,h41,h42,s4⟩,t4⟩
     refine hK.out _ _ t4 ?_
     clear hK K
     try go_frame
     have FIN:Hid(SK w4 kp mb(yO s.ot L0 p0 s.rm(ks.take(j+1))).1(yO s.ot L0 p0 s.rm(ks.take(j+1))).2):=by
      rw [EB1.out(),EB2.out()]
      have:p4=jdx Lj pj s.ot(s.rm+(j:Int)):=by
       unfold jdx
       by_cases z:Jt Lj s.ot(s.rm+(j:Int))=0
       ·rw [if_pos z];exact h41 z
       ·rw [if_neg z];exact h42 z
      rw [← this]
      exact s4
     have FIN2:=hd(I2.out w4 t4)
     clear PUT F2 F3 I2 s4 t4 h41 h42 EB1 EB2 AP AL AU
     repeat((first |refine qR0 ?_ |refine qS ?_);go_frame)
     refine jp ?_
     go_wp2_with fail
     go_roundw
     case rel=>exact⟨j+1,by omega,by go_num,FIN2.out.1,FIN.out,FIN2.out.2.2⟩
     case measure=>simp [intOf];omega
    ·obtain rfl:j=n:=by omega
     have d1:decide((j:Int) < (j:Int))=false:=decide_eq_false(by omega)
     rw [show ks.take j=ks from List.take_of_length_le(Nat.le_of_eq hn.out)] at hK
     have ok2:({s with rc:=lc}:Rt).ok:=⟨ok.root,ok.own,ok.ot,ok.sc,L_c,ok.sm,ok.bf,ok.rm⟩
     have TH:=hd(hS.there_rc ok)
     have A1:=hd(hS.put_rc ok L_c)
     have osz:=hO.size
     have KB2:Hid(∀u,wr.grownBy u(some g)→SK u kp mb(yO s.ot L0 p0 s.rm ks).1(yO s.ot L0 p0 s.rm ks).2∧Ot(P3 g kp mb)w u):=fun u x=>⟨hK.stay(x.block _ hK.cb.lt(fun z=>nk(Option.some.inj z).symm))(x.block _ hK.mp.lt(fun z=>nm(Option.some.inj z).symm)),Ot.trans hO(Ot.of_grown x(.inl rfl))⟩
     replace h6:=hd h6
     clear hS hK hL hO AP AL AU
     go_upto_region 10 with(first
      |((with_reducible refine js(o:=⟨some 56,_,_,_,_,_⟩)?_ 23 _ rfl g6 ?_ 23(cellsOf lc).toArray(0,0)_ ?_ Tryz.underlying23 ?_ ?_ ?_);(·rfl);(·rfl);(·exact h6.out);(·rfl);(·rw [S_lc];rfl);go_frame)
      |((with_reducible refine wpList_store_mid(op:=⟨none, .store 23(.tmp 59)(.tmp 56),_,_,_,_⟩)?_ 23 _ _ rfl g 166(cellsOf lc).toArray ?_ ?_ ?_ ?_ ?_ ?_);(·rfl);(·rfl);(·rfl);(·rw [S_lc];exact TH.out);(·rw [S_lc];rfl);(·exact O_lc);go_frame))
     refine jg(fun W=>Sq W g 114{s with rc:=lc}kp q∧SK W kp mb(yO s.ot L0 p0 s.rm ks).1(yO s.ot L0 p0 s.rm ks).2∧Ot(P3 g kp mb)w W)⟨A1.out,KB2.out _ ju⟩?_
     clear A1 KB2 h6 TH
     rintro w5⟨hS,hK,hO⟩
     have c1:=hS.rm ok2
     have z1:=hS.frozen 198
     have A2:=hd(hS.set_rm ok2 up)
     have F:Hid(SK(w5.setCell⟨g,198,none⟩(.int .i64 up))kp mb(putA s.ot L0 p0 s.rm ks).1(yO s.ot L0 p0 s.rm ks).2∧Ot(P3 g kp mb)w(w5.setCell⟨g,198,none⟩(.int .i64 up))):=⟨hK.stay(jP.block _ hK.cb.lt(fun z=>nk(Option.some.inj z).symm))(jP.block _ hK.mp.lt(fun z=>nm(Option.some.inj z).symm)),Ot.trans hO(Ot.of_grown grown_setCell(.inl rfl))⟩
     clear hS hK hO
     go_wp2_with fail
     go_ret
     exact⟨rfl,by rw [S1.out];exact A2.out,by rw [S1.out];exact F.out.1,F.out.2⟩
  ·replace S0:=S0.out he
   have hbn:(er !=0)=true:=bne_iff_ne.2 he
   have F:Hid(Sq wc g 114 TT.s kp q∧SK wc kp mb TT.L TT.puts∧Ot(P3 g kp mb)w wc):=by rw [S0];exact⟨hS,hK,Ot.of_ext xw⟩
   clear S1 S0 hS hK kl_ k6 xw
   go_wp2_with fail
   go_ret
   exact⟨rfl,F.out⟩
theorem sopen_calls{A B:Option Addr}{n c m d:Nat}{ks bs cs:List UInt8}{w:World}(hk:ks.length=32)(h:Bs w A n c bs)(h':Bs w B m d cs)(hn:n≤1000000)(hm:m≤1000000){tg:TypeId×Nat×Nat}(hG:Gl w tg):
  Calls Tryz.prog 89 #[.agg(cellsOf ks).toArray, .slice A n c, .slice B m d] w(JJ(J5 ks bs cs)(opnE ks bs cs)w):=by
 have lm:=h'.len
 unfold opnT J4
 rw [lm]
 by_cases h1:m < 32
 ·rw [if_pos h1,if_pos h1]
  exact open_shortO h h' h1
 ·rw [if_neg h1,if_neg h1]
  have:=open_mainO(q:=m - 32)hk h h'(by omega)hn hm rfl hG
  by_cases h2:YI ks bs(cs.take(m - 32))=cs.drop(m - 32)
  ·rw [if_pos h2,if_pos h2]
   rw [decide_eq_true h2] at this
   exact this
  ·rw [if_neg h2,if_neg h2]
   rw [decide_eq_false h2] at this
   exact this
end
section
open Go.ChangeShapes Go.WideShapes Go.ChangeAt Go.RowKit Go.Deep
set_option maxRecDepth 100000
theorem jfU{W:World}{t:TypeId}{A B:Option Addr}{n m c d:Nat}{xs ys:List UInt8}(h1:Bs W A n c xs)(h2:Bs W B m d ys):Rw(W.alloc(.cells #[.slice A n c, .slice B m d] t))(some⟨W.heap.size,0,none⟩)2 2 [xs,ys]:=by
 have e:Ext W(W.alloc(.cells #[.slice A n c, .slice B m d] t)):=(Ext.refl W).alloc _
 refine⟨rfl,Nat.le_refl _,by unfold maxLen;omega,fun _=>⟨_,0,rfl,by rw [je];omega,fun j hj=> ?_⟩⟩
 rw [cell_of_row _ _ _ _ _(0,0)(heap_alloc_new _ _)]
 match j with
 |0=>exact⟨A,n,c,rfl,h1.ext e⟩
 |1=>exact⟨B,m,d,rfl,h2.ext e⟩
 |j+2=>omega
end
section
open Go.ChangeShapes Go.WideShapes Go.ChangeAt Go.RowKit Go.Deep Go.Maps
set_option maxRecDepth 100000
def vR(p n:Int):Int:=if okH p n then 0 else 1
def yE(bs pk:List UInt8)(p n:Int):List UInt8:=if okH p n then qb bs pk p n else []
theorem QH{p n:Int}(h:okH p n=true):∃a b:Nat,p=(a:Int)∧n=(b:Int)∧a≤1000000∧b≤1000000:=by
 unfold okH upB at h
 simp only [Bool.and_eq_true,decide_eq_true_eq] at h
 exact⟨p.toNat,n.toNat,by omega,by omega,by omega,by omega⟩
theorem Zf(xs ys:List UInt8):(joinL [xs,ys]).length=8+xs.length+ys.length:=by
 simp [qw,jaM];omega
theorem jgb(bs:List UInt8){pk:List UInt8}(h:pk.length=32)(p n:Int):(qb bs pk p n).length=48+bs.length:=by
 unfold qb;rw [join2_len,Zd h];omega
theorem JN(bs:List UInt8){pk:List UInt8}(h:pk.length=32)(p n:Int):(yE bs pk p n).length≤48+bs.length:=by
 unfold yE
 split
 ·rw [jgb bs h];exact Nat.le_refl _
 ·exact Nat.zero_le _
set_option maxHeartbeats 4000000 in
theorem jen{w:World}{A:Option Addr}{m c:Nat}{bs pk:List UInt8}{p n:Int}(h:Bs w A m c bs)(hm:m≤1000000)(lp:pk.length=32):
  Calls Tryz.prog 45 #[.slice A m c, .agg(hdC pk p n).toArray] w(YP(yE bs pk p n)(vR p n)w):=by
 have L_h:=hdC_len lp p n
 rcases hk:okH p n with _ |_
 ·have HB:Hid(∀W,Calls Tryz.prog 78 #[.agg(hdC pk p n).toArray] W fun e w'=>e= .returned(.tuple #[.slice none 0 0, .int .i64 1])∧Ext W w'):=fun W=>Qc lp hk
  have F:yE bs pk p n= []∧vR p n=1:=by unfold yE vR;rw [hk];exact⟨rfl,rfl⟩
  rw [F.1,F.2]
  clear F hk
  generalize hdC pk p n=hd at *
  have S_h:hd.toArray.size=34:=by rw [List.size_toArray,L_h]
  obtain⟨r,hr⟩:∃r,r=w.heap.size:=⟨_,rfl⟩
  have B0:Hid(Cb(w.alloc(.cells hd.toArray 47))r 47 hd∧Ext w(w.alloc(.cells hd.toArray 47))):=by rw [hr];exact⟨Cb.new _ _ _,(Ext.refl w).alloc _⟩
  go_enter Tryz.func45,Tryz.ntmps45
  go_upto_region 1 with fail
  refine jg(fun W=>Cb W r 47 hd∧Ext w W)B0.out ?_
  rw [← hr]
  clear B0
  replace hr:=hd hr
  rintro w0⟨k0,x0⟩
  replace k0:=hd k0
  replace x0:=hd x0
  go_wp2_with(first |((with_reducible refine js(o:=⟨some 9,_,_,_,_,_⟩)?_ 47 _ rfl r ?_ 47 hd.toArray(0,0)_ ?_ Tryz.underlying47 ?_ ?_ ?_);(·rfl);(·rfl);(·exact k0.out);(·rfl);(·rw [S_h];rfl);go_frame))
  refine(HB.out _).mono ?_
  rintro e w1⟨rfl,x1⟩
  have F:=hd(x0.out.trans x1)
  clear HB x0 k0 x1
  go_wp2_with fail
  go_ret2
  exact⟨none,0,0,rfl,Bs.nil _,F.out⟩
 ·obtain⟨a,b,rfl,rfl,ha,hb⟩ :=QH hk
  have HB:Hid(∀W,Calls Tryz.prog 78 #[.agg(hdC pk(a:Int)(b:Int)).toArray] W(YP(zo pk a b)0 W)):=fun W=>QF lp ha hb
  have F:yE bs pk a b=qw [bs,zo pk a b]∧vR a b=0:=by unfold yE vR qb;rw [hk];exact⟨rfl,rfl⟩
  rw [F.1,F.2]
  clear F hk
  have JL:(joinL [bs,zo pk a b]).length≤100000000:=by rw [Zf,Zd lp,h.len];omega
  have JO:Hid(∀(W:World)(C:Option Addr),Rw W C 2 2 [bs,zo pk a b]→Calls Tryz.prog 79 #[.slice C 2 2] W(Qw(qw [bs,zo pk a b])W)):=fun W C r=>jam r JL
  clear JL
  generalize zo pk(a:Nat)b=HL at *
  generalize hdC pk(a:Int)(b:Int)=hd at *
  have S_h:hd.toArray.size=34:=by rw [List.size_toArray,L_h]
  obtain⟨r,hr⟩:∃r,r=w.heap.size:=⟨_,rfl⟩
  have B0:Hid(Cb(w.alloc(.cells hd.toArray 47))r 47 hd∧Ext w(w.alloc(.cells hd.toArray 47))):=by rw [hr];exact⟨Cb.new _ _ _,(Ext.refl w).alloc _⟩
  replace h:=hd h
  go_enter Tryz.func45,Tryz.ntmps45
  go_upto_region 1 with fail
  refine jg(fun W=>Cb W r 47 hd∧Ext w W)B0.out ?_
  rw [← hr]
  clear B0
  replace hr:=hd hr
  rintro w0⟨k0,x0⟩
  replace k0:=hd k0
  replace x0:=hd x0
  go_wp2_with(first |((with_reducible refine js(o:=⟨some 9,_,_,_,_,_⟩)?_ 47 _ rfl r ?_ 47 hd.toArray(0,0)_ ?_ Tryz.underlying47 ?_ ?_ ?_);(·rfl);(·rfl);(·exact k0.out);(·rfl);(·rw [S_h];rfl);go_frame))
  refine(HB.out _).mono ?_
  rintro e w1⟨A1,n1,c1,rfl,b1,x1⟩
  have x2:=hd(x0.out.trans x1)
  have R1:=hd(jfU(t:=33)(h.out.ext x2.out)b1)
  have J1:=hd(JO.out _ _ R1.out)
  have x3:=hd(x2.out.alloc(.cells #[.slice A m c, .slice A1 n1 c1] 33))
  clear HB x0 k0 x1 b1 JO R1 x2
  go_wp2_with fail
  refine J1.out.mono ?_
  rintro e w3⟨A3,n3,c3,rfl,b3,x4⟩
  have F:=hd(x3.out.trans x4)
  replace b3:=hd b3
  clear J1 x3 x4
  go_wp2_with fail
  go_ret2
  exact⟨A3,n3,c3,rfl,b3.out,F.out⟩
end
section
open Go.ChangeShapes Go.WideShapes Go.ChangeAt Go.RowKit Go.Deep
def Tq(B g b:Nat)(a c:World):Prop:=c.os=a.os∧c.tape=a.tape∧c.output=a.output∧a.heap.size≤c.heap.size∧∀i,i < B→i≠g→i≠b→c.heap[i]? =a.heap[i]?
theorem Tq.refl(B g b:Nat)(w:World):Tq B g b w w:=⟨rfl,rfl,rfl,Nat.le_refl _,fun _ _ _ _=>rfl⟩
theorem Tq.trans{B g b:Nat}{x y z:World}(h:Tq B g b x y)(k:Tq B g b y z):Tq B g b x z:=
 ⟨k.1.trans h.1,k.2.1.trans h.2.1,k.2.2.1.trans h.2.2.1,Nat.le_trans h.2.2.2.1 k.2.2.2.1,fun i hi h1 h2=>(k.2.2.2.2 i hi h1 h2).trans(h.2.2.2.2 i hi h1 h2)⟩
theorem Tq.of_two{B g b:Nat}{x y:World}(h:Two g b x y)(hB:B≤x.heap.size):Tq B g b x y:=⟨h.1,h.2.1,h.2.2.1,h.2.2.2.1,fun i hi h1 h2=>h.2.2.2.2 i(Nat.lt_of_lt_of_le hi hB)h1 h2⟩
theorem Tq.of_ext{B g b:Nat}{x y:World}(h:Ext x y)(hB:B≤x.heap.size):Tq B g b x y:=⟨h.os,h.tape,h.output,h.size,fun i hi _ _=>h.block i(Nat.lt_of_lt_of_le hi hB)⟩
theorem Tq.row{B g b r:Nat}(x:World)(C:Array Value)(hr:B≤r):Tq B g b x(x.setRow r C):=⟨rfl,rfl,rfl,by simp,fun i hi _ _=>setRow_other _ _ _ _(by omega)⟩
theorem Tq.block{B g b i:Nat}{x y:World}(k:Tq B g b x y){o:Obj}(h:x.heap[i]? =some o)(hi:i < B)(h1:i≠g)(h2:i≠b):y.heap[i]? =some o:=(k.2.2.2.2 i hi h1 h2).trans h
end
end Go.Proofs.YtakpgbaijkhpmaaGreatDoor
