import Derived.Test.YtakpgbaijkhpmaaGreatDoorPkAK
import Derived.Test.YtakpgbaijkhpmaaGreatDoorPkAG
import Derived.Test.YtakpgbaijkhpmaaGreatDoorPkAA
import Derived.Deep.DeepCutAuto
import Derived.Deep.DeepHandedRow
import Derived.Test.YtakpgbaijkhpmaaGreatDoorPkAF
namespace Go.Proofs.YtakpgbaijkhpmaaGreatDoor
section
open Go.ChangeShapes Go.WideShapes Go.ChangeAt Go.RowKit Go.Deep
set_option maxRecDepth 100000
def jhG:List UInt8:= [65,219,1] ++ List.replicate 29 0
def jhH:List UInt8:= [1] ++ List.replicate 31 0
def jdg:List UInt8:= [9] ++ List.replicate 31 0
theorem jkb:Tryz.prog.built 23 [(0, .int .u8 65),(1, .int .u8 219),(2, .int .u8 1)]=some(cellsOf keyF).toArray:=by kernel_rfl
theorem jkc:Tryz.prog.built 23 [(0, .int .u8 1)]=some(cellsOf jhH).toArray:=by kernel_rfl
theorem jha:Tryz.prog.built 23 [(0, .int .u8 9)]=some(cellsOf jdg).toArray:=by kernel_rfl
theorem jme:ofV jhG=121665:=by decide +kernel
theorem jmf:ofV jhH=1:=by decide +kernel
theorem jk3:ofV jdg=9:=by decide +kernel
set_option maxHeartbeats 1000000 in
theorem jgx{w:World}{tg:TypeId×Nat×Nat}(hG:Gp w tg):Calls Tryz.prog 138 #[] w fun e w'=>e= .returned(eV 1)∧Ext w w':=by
 have OF:Hid(∀W,Ext w W→Calls Tryz.prog 136 #[.agg(cellsOf jhH).toArray] W fun e w'=>e= .returned(eV 1)∧Ext W w'):=fun W e=>by
  have:=jav(ks:=jhH)rfl(hG.ext e)
  rwa [jmf] at this
 clear hG
 unfold eV at *
 have RL:=jq 8 1
 generalize lbs 8 1=rr at *
 have RS:=jf RL
 have OR:=jo rr
 have hal2:=vp
 have ZL:zw8.length=8:=rfl
 generalize zw8=zs at *
 have ZS:=jf ZL
 have hb:=hd jkc
 generalize jhH=ks at *
 have B0:Hid(Wr(w.alloc(Obj.cells(jb zs).toArray 233))w.heap.size 233 zs):=Wr.new _ _ _
 go_enter Tryz.func138,Tryz.ntmps138
 go_wp2_with(refine jm rfl _ _ rfl(cellsOf ks).toArray(by simp only [List.map_toArray,List.map_cons,List.map_nil];exact hb.out)?_;go_frame)
 refine(OF.out _((Ext.refl w).alloc _)).mono ?_
 rintro e w1⟨rfl,e1⟩
 have kr:=hd(B0.out.kept e1 B0.out.lt)
 have kx:Hid(Ext w w1):=((Ext.refl w).alloc _).trans e1
 clear B0 OF e1
 go_wp2_with(refine wpList_store_row rfl 233 _ _ rfl w.heap.size(jb rr).toArray rfl rfl 233 _ kr.out(by rw [RS];rfl)(by rw [RS,ZS])OR ?_;go_frame)
 (try simp only [Exit.inBlock,Exit.then])
 refine bodyPost_ret(results_cell_row rfl _ _ w.heap.size 233(jb rr).toArray(0,0)_ rfl(setRow_heap _ _ _ _ _ _ kr.out)rfl rfl(by rw [RS];rfl))rfl ?_
 exact⟨rfl,below_setRow kx.out(Nat.le_refl _)_⟩
set_option maxHeartbeats 1000000 in
theorem jcc{w:World}{tg:TypeId×Nat×Nat}(hG:Gp w tg):Calls Tryz.prog 163 #[] w fun e w'=>e= .returned(eV 121665)∧Ext w w':=by
 have OF:Hid(∀W,Ext w W→Calls Tryz.prog 136 #[.agg(cellsOf jhG).toArray] W fun e w'=>e= .returned(eV 121665)∧Ext W w'):=fun W e=>by
  have:=jav(ks:=jhG)rfl(hG.ext e)
  rwa [jme] at this
 clear hG
 unfold eV at *
 have RL:=jq 8 121665
 generalize lbs 8 121665=rr at *
 have RS:=jf RL
 have OR:=jo rr
 have hal2:=vp
 have ZL:zw8.length=8:=rfl
 generalize zw8=zs at *
 have ZS:=jf ZL
 have hb:=hd jkb
 generalize jhG=ks at *
 have B0:Hid(Wr(w.alloc(Obj.cells(jb zs).toArray 233))w.heap.size 233 zs):=Wr.new _ _ _
 go_enter Tryz.func163,Tryz.ntmps163
 go_wp2_with(refine jm rfl _ _ rfl(cellsOf ks).toArray(by simp only [List.map_toArray,List.map_cons,List.map_nil];exact hb.out)?_;go_frame)
 refine(OF.out _((Ext.refl w).alloc _)).mono ?_
 rintro e w1⟨rfl,e1⟩
 have kr:=hd(B0.out.kept e1 B0.out.lt)
 have kx:Hid(Ext w w1):=((Ext.refl w).alloc _).trans e1
 clear B0 OF e1
 go_wp2_with(refine wpList_store_row rfl 233 _ _ rfl w.heap.size(jb rr).toArray rfl rfl 233 _ kr.out(by rw [RS];rfl)(by rw [RS,ZS])OR ?_;go_frame)
 (try simp only [Exit.inBlock,Exit.then])
 refine bodyPost_ret(results_cell_row rfl _ _ w.heap.size 233(jb rr).toArray(0,0)_ rfl(setRow_heap _ _ _ _ _ _ kr.out)rfl rfl(by rw [RS];rfl))rfl ?_
 exact⟨rfl,below_setRow kx.out(Nat.le_refl _)_⟩
end
section
open Go.ChangeShapes Go.WideShapes Go.ChangeAt Go.RowKit Go.Deep
def jcx:Nat→List Value→List(Nat×Value)
 |_, []=> []
 |i,v :: r=>(i,v):: jcx(i+1)r
def Yi:List Value→List Value
 | []=> []
 |v :: r=>v.cells.toList ++ Yi r
def jj5(pl:Nat→Option(Nat×Nat)):Nat→Nat→List Value→Prop
 |_,_, []=>True
 |i,off,v :: r=>pl i=some(off,v.cells.size)∧jj5 pl(i+1)(off+v.cells.size)r
theorem jc6{pl:Nat→Option(Nat×Nat)}:∀(vs:List Value)(i off:Nat)(Z:Array Value),jj5 pl i off vs→off+(Yi vs).length≤Z.size→
  ∃r,Instr.fill pl Z(jcx i vs)=some r∧r.size=Z.size∧∀k,r[k]? =if off≤k∧k < off+(Yi vs).length then(Yi vs)[k - off]? else Z[k]?
 | [],i,off,Z,_,_=>⟨Z,rfl,rfl,fun k=>by rw [if_neg(by show ¬(off≤k∧k < off+0);omega)]⟩
 |v :: r,i,off,Z,⟨h1,h2⟩,hz=>by
  have hlen:(Yi(v :: r)).length=v.cells.size+(Yi r).length:=by simp [Yi]
  obtain⟨g1,g2⟩ :=Great.foldl_set off v.cells.toList 0 Z
  rw [← vA] at g1 g2
  obtain⟨r',hr,hs,hk⟩ :=jc6 r(i+1)(off+v.cells.size)_ h2(by rw [g1];omega)
  refine⟨r',?_,hs.trans g1,fun k=> ?_⟩
  ·show Instr.fill pl Z((i,v):: jcx(i+1)r)=_
   unfold Instr.fill
   simp only [h1]
   rw [if_neg(by simp;omega)]
   exact hr
  ·rw [hk k,g2 k,hlen]
   simp only [Nat.add_zero,Nat.zero_le,true_and,Array.length_toList,Nat.sub_zero]
   by_cases a:off≤k∧k < off+v.cells.size
   ·rw [if_neg(by omega),if_pos(by omega),if_pos(by omega)]
    show _=(v.cells.toList ++ Yi r)[k - off]?
    rw [List.getElem?_append_left(by simp;omega)]
   ·by_cases b:off+v.cells.size≤k∧k < off+v.cells.size+(Yi r).length
    ·rw [if_pos b,if_pos(by omega)]
     show _=(v.cells.toList ++ Yi r)[k - off]?
     rw [List.getElem?_append_right(by simp;omega)]
     congr 1
     simp;omega
    ·rw [if_neg b,if_neg(by omega),if_neg(by omega)]
theorem jc7{pl:Nat→Option(Nat×Nat)}{vs:List Value}{Z:Array Value}(h:jj5 pl 0 0 vs)(hz:(Yi vs).length=Z.size):Instr.fill pl Z(jcx 0 vs)=some(Yi vs).toArray:=by
 obtain⟨r,hr,hs,hk⟩ :=jc6 vs 0 0 Z h(by omega)
 rw [hr]
 congr 1
 apply Array.ext_getElem?
 intro k
 rw [hk k,Nat.zero_add,Nat.sub_zero]
 by_cases a:k < (Yi vs).length
 ·rw [if_pos⟨Nat.zero_le _,a⟩];simp
 ·rw [if_neg(fun q=>a q.2),Array.getElem?_eq_none(by omega),Array.getElem?_eq_none(by simp;omega)]
end
section
open Go.ChangeShapes Go.WideShapes Go.ChangeAt Go.RowKit Go.Deep
set_option maxRecDepth 100000
theorem jhb{a b c d:List Nat}(h:L8 a b c d):Tryz.prog.built 238 [(0, .agg(jb a).toArray),(1, .agg(wcells b).toArray),(2, .agg(jb c).toArray),(3, .agg(jb d).toArray)]=some(prC a b c d).toArray:=by
 obtain⟨h1,h2,h3,h4⟩ :=h
 have hb:∃pl:Nat→Option(Nat×Nat),(pl 0=some(0,8)∧pl 1=some(8,8)∧pl 2=some(16,8)∧pl 3=some(24,8))∧∀ps,Tryz.prog.built 238 ps=Instr.fill pl(prC zw8 zw8 zw8 zw8).toArray ps:=⟨(#[(0,8),(8,8),(16,8),(24,8)][·]?),⟨rfl,rfl,rfl,rfl⟩,fun ps=>by kernel_rfl⟩
 obtain⟨pl,⟨q0,q1,q2,q3⟩,hp⟩ :=hb
 rw [hp]
 have hf:Yi [.agg(jb a).toArray, .agg(jb b).toArray, .agg(jb c).toArray, .agg(jb d).toArray]=prC a b c d:=by simp [Yi,Value.cells,prC]
 have s1:(Value.agg(jb a).toArray).cells.size=8:=jf h1
 have s2:(Value.agg(jb b).toArray).cells.size=8:=jf h2
 have s3:(Value.agg(jb c).toArray).cells.size=8:=jf h3
 have s4:(Value.agg(jb d).toArray).cells.size=8:=jf h4
 rw [← hf]
 exact jc7(vs:= [.agg(jb a).toArray, .agg(jb b).toArray, .agg(jb c).toArray, .agg(jb d).toArray])⟨by rw [s1,q0],by rw [s1,s2,q1],by rw [s1,s2,s3,q2],by rw [s1,s2,s3,s4,q3],trivial⟩(by rw [hf];exact qT⟨h1,h2,h3,h4⟩)
theorem jaA(w:World):(zeroValue 238).run Tryz.prog w= .ok(.agg(prC zw8 zw8 zw8 zw8).toArray)w:=by
 kernel_rfl
set_option maxHeartbeats 8000000 in
theorem ZQ{x:Nat}{s:StN}{w:World}(hs:LtS s)(hx:x < P25){tg:TypeId×Nat×Nat}(hG:Gp w tg):
  Calls Tryz.prog 140 #[.agg(prC(lbs 8 s.1)(lbs 8 s.2.1)(lbs 8 s.2.2.1)(lbs 8 s.2.2.2)).toArray, .agg(jb(lbs 8 x)).toArray] w fun e w' =>
   e= .returned(.agg(prC(lbs 8(yL x s).1)(lbs 8(yL x s).2.1)(lbs 8(yL x s).2.2.1)(lbs 8(yL x s).2.2.2)).toArray)∧Ext w w':=by
 obtain⟨a,b,c,d⟩ :=s
 obtain⟨pa,pb,pc,pd⟩ :=hs
 simp only at pa pb pc pd
 have px:=hx
 obtain⟨q,hq⟩:∃n_,n_=121665:=⟨_,rfl⟩
 have pq:q < P25:=by rw [hq];decide +kernel
 obtain⟨ee,hee⟩:∃n_,n_=yZ a c:=⟨_,rfl⟩
 have pee:ee < P25:=by rw [hee];exact Z3 _ _
 obtain⟨f,hf⟩:∃n_,n_=zO a c:=⟨_,rfl⟩
 have pf:f < P25:=by rw [hf];exact Z6 _ _
 obtain⟨g,hg⟩:∃n_,n_=yZ b d:=⟨_,rfl⟩
 have pg:g < P25:=by rw [hg];exact Z3 _ _
 obtain⟨h,hh⟩:∃n_,n_=zO b d:=⟨_,rfl⟩
 have ph:h < P25:=by rw [hh];exact Z6 _ _
 obtain⟨u,hu⟩:∃n_,n_=qr ee ee:=⟨_,rfl⟩
 have pu:u < P25:=by rw [hu];exact vT _ _
 obtain⟨v,hv⟩:∃n_,n_=qr f f:=⟨_,rfl⟩
 have pv:v < P25:=by rw [hv];exact vT _ _
 obtain⟨k,hk⟩:∃n_,n_=zO u v:=⟨_,rfl⟩
 have pk:k < P25:=by rw [hk];exact Z6 _ _
 obtain⟨y,hy⟩:∃n_,n_=qr h ee:=⟨_,rfl⟩
 have py:y < P25:=by rw [hy];exact vT _ _
 obtain⟨z,hz⟩:∃n_,n_=qr g f:=⟨_,rfl⟩
 have pz:z < P25:=by rw [hz];exact vT _ _
 obtain⟨m,hm⟩:∃n_,n_=yZ y z:=⟨_,rfl⟩
 have pm:m < P25:=by rw [hm];exact Z3 _ _
 obtain⟨n,hn⟩:∃n_,n_=zO y z:=⟨_,rfl⟩
 have pn:n < P25:=by rw [hn];exact Z6 _ _
 obtain⟨r1,hr1⟩:∃n_,n_=qr u v:=⟨_,rfl⟩
 have pr1:r1 < P25:=by rw [hr1];exact vT _ _
 obtain⟨r2,hr2⟩:∃n_,n_=qr m m:=⟨_,rfl⟩
 have pr2:r2 < P25:=by rw [hr2];exact vT _ _
 obtain⟨t,ht⟩:∃n_,n_=qr q k:=⟨_,rfl⟩
 have pt:t < P25:=by rw [ht];exact vT _ _
 obtain⟨i,hi⟩:∃n_,n_=yZ u t:=⟨_,rfl⟩
 have pi:i < P25:=by rw [hi];exact Z3 _ _
 obtain⟨r3,hr3⟩:∃n_,n_=qr k i:=⟨_,rfl⟩
 have pr3:r3 < P25:=by rw [hr3];exact vT _ _
 obtain⟨j,hj⟩:∃n_,n_=qr x n:=⟨_,rfl⟩
 have pj:j < P25:=by rw [hj];exact vT _ _
 obtain⟨r4,hr4⟩:∃n_,n_=qr j n:=⟨_,rfl⟩
 have pr4:r4 < P25:=by rw [hr4];exact vT _ _
 have HR:Hid(yL x(a,b,c,d)=(r1,r2,r3,r4)):=by unfold Hid;rw [hr1,hr2,hr3,hr4,hi,hj,ht,hm,hn,hk,hy,hz,hu,hv,hh,hg,hf,hee,hq];rfl
 have F_ee:Hid(∀W,Ext w W→Calls Tryz.prog 161 #[.agg(jb(lbs 8 a)).toArray, .agg(jb(lbs 8 c)).toArray] W fun e w'=>e= .returned(.agg(jb(lbs 8 ee)).toArray)∧Ext W w'):=fun W e_=>by rw [hee];exact YW pa pc(hG.ext e_)
 have F_f:Hid(∀W,Ext w W→Calls Tryz.prog 162 #[.agg(jb(lbs 8 a)).toArray, .agg(jb(lbs 8 c)).toArray] W fun e w'=>e= .returned(.agg(jb(lbs 8 f)).toArray)∧Ext W w'):=fun W e_=>by rw [hf];exact YX pa pc(hG.ext e_)
 have F_g:Hid(∀W,Ext w W→Calls Tryz.prog 161 #[.agg(jb(lbs 8 b)).toArray, .agg(jb(lbs 8 d)).toArray] W fun e w'=>e= .returned(.agg(jb(lbs 8 g)).toArray)∧Ext W w'):=fun W e_=>by rw [hg];exact YW pb pd(hG.ext e_)
 have F_h:Hid(∀W,Ext w W→Calls Tryz.prog 162 #[.agg(jb(lbs 8 b)).toArray, .agg(jb(lbs 8 d)).toArray] W fun e w'=>e= .returned(.agg(jb(lbs 8 h)).toArray)∧Ext W w'):=fun W e_=>by rw [hh];exact YX pb pd(hG.ext e_)
 have F_u:Hid(∀W,Ext w W→Calls Tryz.prog 141 #[.agg(jb(lbs 8 ee)).toArray, .agg(jb(lbs 8 ee)).toArray] W fun e w'=>e= .returned(.agg(jb(lbs 8 u)).toArray)∧Ext W w'):=fun W e_=>by rw [hu];exact qO pee pee(hG.ext e_)
 have F_v:Hid(∀W,Ext w W→Calls Tryz.prog 141 #[.agg(jb(lbs 8 f)).toArray, .agg(jb(lbs 8 f)).toArray] W fun e w'=>e= .returned(.agg(jb(lbs 8 v)).toArray)∧Ext W w'):=fun W e_=>by rw [hv];exact qO pf pf(hG.ext e_)
 have F_k:Hid(∀W,Ext w W→Calls Tryz.prog 162 #[.agg(jb(lbs 8 u)).toArray, .agg(jb(lbs 8 v)).toArray] W fun e w'=>e= .returned(.agg(jb(lbs 8 k)).toArray)∧Ext W w'):=fun W e_=>by rw [hk];exact YX pu pv(hG.ext e_)
 have F_y:Hid(∀W,Ext w W→Calls Tryz.prog 141 #[.agg(jb(lbs 8 h)).toArray, .agg(jb(lbs 8 ee)).toArray] W fun e w'=>e= .returned(.agg(jb(lbs 8 y)).toArray)∧Ext W w'):=fun W e_=>by rw [hy];exact qO ph pee(hG.ext e_)
 have F_z:Hid(∀W,Ext w W→Calls Tryz.prog 141 #[.agg(jb(lbs 8 g)).toArray, .agg(jb(lbs 8 f)).toArray] W fun e w'=>e= .returned(.agg(jb(lbs 8 z)).toArray)∧Ext W w'):=fun W e_=>by rw [hz];exact qO pg pf(hG.ext e_)
 have F_m:Hid(∀W,Ext w W→Calls Tryz.prog 161 #[.agg(jb(lbs 8 y)).toArray, .agg(jb(lbs 8 z)).toArray] W fun e w'=>e= .returned(.agg(jb(lbs 8 m)).toArray)∧Ext W w'):=fun W e_=>by rw [hm];exact YW py pz(hG.ext e_)
 have F_n:Hid(∀W,Ext w W→Calls Tryz.prog 162 #[.agg(jb(lbs 8 y)).toArray, .agg(jb(lbs 8 z)).toArray] W fun e w'=>e= .returned(.agg(jb(lbs 8 n)).toArray)∧Ext W w'):=fun W e_=>by rw [hn];exact YX py pz(hG.ext e_)
 have F_r1:Hid(∀W,Ext w W→Calls Tryz.prog 141 #[.agg(jb(lbs 8 u)).toArray, .agg(jb(lbs 8 v)).toArray] W fun e w'=>e= .returned(.agg(jb(lbs 8 r1)).toArray)∧Ext W w'):=fun W e_=>by rw [hr1];exact qO pu pv(hG.ext e_)
 have F_r2:Hid(∀W,Ext w W→Calls Tryz.prog 141 #[.agg(jb(lbs 8 m)).toArray, .agg(jb(lbs 8 m)).toArray] W fun e w'=>e= .returned(.agg(jb(lbs 8 r2)).toArray)∧Ext W w'):=fun W e_=>by rw [hr2];exact qO pm pm(hG.ext e_)
 have F_t:Hid(∀W,Ext w W→Calls Tryz.prog 141 #[.agg(jb(lbs 8 q)).toArray, .agg(jb(lbs 8 k)).toArray] W fun e w'=>e= .returned(.agg(jb(lbs 8 t)).toArray)∧Ext W w'):=fun W e_=>by rw [ht];exact qO pq pk(hG.ext e_)
 have F_i:Hid(∀W,Ext w W→Calls Tryz.prog 161 #[.agg(jb(lbs 8 u)).toArray, .agg(jb(lbs 8 t)).toArray] W fun e w'=>e= .returned(.agg(jb(lbs 8 i)).toArray)∧Ext W w'):=fun W e_=>by rw [hi];exact YW pu pt(hG.ext e_)
 have F_r3:Hid(∀W,Ext w W→Calls Tryz.prog 141 #[.agg(jb(lbs 8 k)).toArray, .agg(jb(lbs 8 i)).toArray] W fun e w'=>e= .returned(.agg(jb(lbs 8 r3)).toArray)∧Ext W w'):=fun W e_=>by rw [hr3];exact qO pk pi(hG.ext e_)
 have F_j:Hid(∀W,Ext w W→Calls Tryz.prog 141 #[.agg(jb(lbs 8 x)).toArray, .agg(jb(lbs 8 n)).toArray] W fun e w'=>e= .returned(.agg(jb(lbs 8 j)).toArray)∧Ext W w'):=fun W e_=>by rw [hj];exact qO px pn(hG.ext e_)
 have F_r4:Hid(∀W,Ext w W→Calls Tryz.prog 141 #[.agg(jb(lbs 8 j)).toArray, .agg(jb(lbs 8 n)).toArray] W fun e w'=>e= .returned(.agg(jb(lbs 8 r4)).toArray)∧Ext W w'):=fun W e_=>by rw [hr4];exact qO pj pn(hG.ext e_)
 have F_q:Hid(∀W,Ext w W→Calls Tryz.prog 163 #[] W fun e w'=>e= .returned(.agg(jb(lbs 8 q)).toArray)∧Ext W w'):=fun W e_=>by rw [hq];exact jcc(hG.ext e_)
 have HR2:Hid(∀_:Unit,prC(lbs 8(yL x(a,b,c,d)).1)(lbs 8(yL x(a,b,c,d)).2.1)(lbs 8(yL x(a,b,c,d)).2.2.1)(lbs 8(yL x(a,b,c,d)).2.2.2)=prC(lbs 8 r1)(lbs 8 r2)(lbs 8 r3)(lbs 8 r4)):=fun _=>by rw [HR.out]
 generalize prC(lbs 8(yL x(a,b,c,d)).1)(lbs 8(yL x(a,b,c,d)).2.1)(lbs 8(yL x(a,b,c,d)).2.2.1)(lbs 8(yL x(a,b,c,d)).2.2.2)=RES at *
 show Calls Tryz.prog 140 #[.agg(prC(lbs 8 a)(lbs 8 b)(lbs 8 c)(lbs 8 d)).toArray, .agg(jb(lbs 8 x)).toArray] w _
 clear HR hG hq hx pa pb pc pd px pq pee pf pg ph pu pv pk py pz pm pn pr1 pr2 pt pi pr3 pj pr4 hee hf hg hh hu hv hk hy hz hm hn hr1 hr2 ht hi hr3 hj hr4
 have L_va:=jq 8 a
 have L_vb:=jq 8 b
 have L_vc:=jq 8 c
 have L_vd:=jq 8 d
 have L_vx:=jq 8 x
 have L_vq:=jq 8 q
 have L_vee:=jq 8 ee
 have L_vf:=jq 8 f
 have L_vg:=jq 8 g
 have L_vh:=jq 8 h
 have L_vu:=jq 8 u
 have L_vv:=jq 8 v
 have L_vk:=jq 8 k
 have L_vy:=jq 8 y
 have L_vz:=jq 8 z
 have L_vm:=jq 8 m
 have L_vn:=jq 8 n
 have L_vr1:=jq 8 r1
 have L_vr2:=jq 8 r2
 have L_vt:=jq 8 t
 have L_vi:=jq 8 i
 have L_vr3:=jq 8 r3
 have L_vj:=jq 8 j
 have L_vr4:=jq 8 r4
 generalize lbs 8 a=va at *
 generalize lbs 8 b=vb at *
 generalize lbs 8 c=vc at *
 generalize lbs 8 d=vd at *
 generalize lbs 8 x=vx at *
 generalize lbs 8 q=vq at *
 generalize lbs 8 ee=vee at *
 generalize lbs 8 f=vf at *
 generalize lbs 8 g=vg at *
 generalize lbs 8 h=vh at *
 generalize lbs 8 u=vu at *
 generalize lbs 8 v=vv at *
 generalize lbs 8 k=vk at *
 generalize lbs 8 y=vy at *
 generalize lbs 8 z=vz at *
 generalize lbs 8 m=vm at *
 generalize lbs 8 n=vn at *
 generalize lbs 8 r1=vr1 at *
 generalize lbs 8 r2=vr2 at *
 generalize lbs 8 t=vt at *
 generalize lbs 8 i=vi at *
 generalize lbs 8 r3=vr3 at *
 generalize lbs 8 j=vj at *
 generalize lbs 8 r4=vr4 at *
 have S_va:=jf L_va
 have O_va:=jo va
 have C_va:=j4 L_va
 have S_vb:=jf L_vb
 have O_vb:=jo vb
 have C_vb:=j4 L_vb
 have S_vc:=jf L_vc
 have O_vc:=jo vc
 have C_vc:=j4 L_vc
 have S_vd:=jf L_vd
 have O_vd:=jo vd
 have C_vd:=j4 L_vd
 have S_vx:=jf L_vx
 have O_vx:=jo vx
 have C_vx:=j4 L_vx
 have S_vq:=jf L_vq
 have O_vq:=jo vq
 have C_vq:=j4 L_vq
 have S_vee:=jf L_vee
 have O_vee:=jo vee
 have C_vee:=j4 L_vee
 have S_vf:=jf L_vf
 have O_vf:=jo vf
 have C_vf:=j4 L_vf
 have S_vg:=jf L_vg
 have O_vg:=jo vg
 have C_vg:=j4 L_vg
 have S_vh:=jf L_vh
 have O_vh:=jo vh
 have C_vh:=j4 L_vh
 have S_vu:=jf L_vu
 have O_vu:=jo vu
 have C_vu:=j4 L_vu
 have S_vv:=jf L_vv
 have O_vv:=jo vv
 have C_vv:=j4 L_vv
 have S_vk:=jf L_vk
 have O_vk:=jo vk
 have C_vk:=j4 L_vk
 have S_vy:=jf L_vy
 have O_vy:=jo vy
 have C_vy:=j4 L_vy
 have S_vz:=jf L_vz
 have O_vz:=jo vz
 have C_vz:=j4 L_vz
 have S_vm:=jf L_vm
 have O_vm:=jo vm
 have C_vm:=j4 L_vm
 have S_vn:=jf L_vn
 have O_vn:=jo vn
 have C_vn:=j4 L_vn
 have S_vr1:=jf L_vr1
 have O_vr1:=jo vr1
 have C_vr1:=j4 L_vr1
 have S_vr2:=jf L_vr2
 have O_vr2:=jo vr2
 have C_vr2:=j4 L_vr2
 have S_vt:=jf L_vt
 have O_vt:=jo vt
 have C_vt:=j4 L_vt
 have S_vi:=jf L_vi
 have O_vi:=jo vi
 have C_vi:=j4 L_vi
 have S_vr3:=jf L_vr3
 have O_vr3:=jo vr3
 have C_vr3:=j4 L_vr3
 have S_vj:=jf L_vj
 have O_vj:=jo vj
 have C_vj:=j4 L_vj
 have S_vr4:=jf L_vr4
 have O_vr4:=jo vr4
 have C_vr4:=j4 L_vr4
 have hal2:=vp
 have hal9:=jaA
 have L_zs:zw8.length=8:=rfl
 generalize zw8=zs at *
 have S_zs:=jf L_zs
 have hin:L8 va vb vc vd:=⟨L_va,L_vb,L_vc,L_vd⟩
 have hzz:L8 zs zs zs zs:=⟨L_zs,L_zs,L_zs,L_zs⟩
 have hout:L8 vr1 vr2 vr3 vr4:=⟨L_vr1,L_vr2,L_vr3,L_vr4⟩
 have hbp:=hd(jhb hout)
 have S_in:(prC va vb vc vd).toArray.size=32:=qT hin
 have S_out:(prC vr1 vr2 vr3 vr4).toArray.size=32:=qT hout
 have S_zz:(prC zs zs zs zs).toArray.size=32:=qT hzz
 have B0:Hid(∀s,Ext(((w.alloc(Obj.cells(prC va vb vc vd).toArray 238)).alloc(Obj.cells(jb vx).toArray 233)).alloc(Obj.cells(prC zs zs zs zs).toArray 238))s→Pr s w.heap.size va vb vc vd∧Wr s(w.heap.size+1)233 vx∧Pr s(w.heap.size+1+1)zs zs zs zs∧Ext w s):=fun s e=>⟨Pr.kept⟨jF _ _ _ _,hin⟩e(by simp;omega),Wr.kept(jH _ _ _ _)e(by simp),Pr.kept⟨jB _ _ _ _,hzz⟩e(by simp),((((Ext.refl w).alloc _).alloc _).alloc _).trans e⟩
 go_enter Tryz.func140,Tryz.ntmps140
 go_upto_region 1 with fail
 refine jg(fun W=>∀s,Ext W s→Pr s w.heap.size va vb vc vd∧Wr s(w.heap.size+1)233 vx∧Pr s(w.heap.size+1+1)zs zs zs zs∧Ext w s)B0.out ?_
 clear B0
 rintro w0 P0
 replace P0:=hd P0
 go_wp2_with fail
 refine qgF(R:=Ext)Ext.refl(fun _ _ _=>Ext.trans) [0,1,2,3,4,5,6,7,8,9,10,11] [12,13] [0,1,0,4,15,0,32,0,128,511,0,0,4095,8191] [true,true,true,true,true,true,true,true,true,true,true,true,false,false] ?_
 refine jl(fun _=>Ext.refl _)_ rfl(v:= ?_)(d:=17)rfl rfl ?_ ?_
 rotate_left
 ·intro a_ w_ hev hR hk
  have e2:a_.eval(.tmp 2)=_:=hk 2 rfl
  clear hk
  generalize a_.eval=ev at *
  obtain⟨hev1,hev2,hev3⟩ :=hev
  go_simp
  (try with_reducible rfl)
 refine jl(fun _=>Ext.refl _)_ rfl(v:= .agg(jb va).toArray)(d:=18)rfl rfl ?_ ?_
 ·intro a_ w_ hev hR hk
  have e16:a_.eval(.tmp 16)=_:=hk 16 rfl
  exact(jy rfl e16(P0.out w_(Ext.trans(Ext.refl _).drew hR)).1.at0 rfl rfl(by rw [C_va];rfl))
 refine jl(fun _=>Ext.refl _)_ rfl(v:= ?_)(d:=19)rfl rfl ?_ ?_
 rotate_left
 ·intro a_ w_ hev hR hk
  have e2:a_.eval(.tmp 2)=_:=hk 2 rfl
  clear hk
  generalize a_.eval=ev at *
  obtain⟨hev1,hev2,hev3⟩ :=hev
  go_simp
  (try with_reducible rfl)
 refine jl(fun _=>Ext.refl _)_ rfl(v:= .agg(jb vc).toArray)(d:=20)rfl rfl ?_ ?_
 ·intro a_ w_ hev hR hk
  have e18:a_.eval(.tmp 18)=_:=hk 18 rfl
  exact(jy rfl e18(P0.out w_(Ext.trans(Ext.refl _).drew hR)).1.at16 rfl rfl(by rw [C_vc];rfl))
 refine jx _ rfl(fun u _=>u= .agg(jb vee).toArray)(d:=21)rfl(fun _ _ _ h _=>h)rfl ?_ ?_
 ·intro a_ w_ hev hR hk K1 hK1
  have e17:a_.eval(.tmp 17)=_:=hk 17 rfl
  have e19:a_.eval(.tmp 19)=_:=hk 19 rfl
  clear hk
  have f17:=jz.trans e17
  have f19:=jz.trans e19
  go_simp
  refine(F_ee.out _(P0.out w_(Ext.trans(Ext.refl _).drew hR)).2.2.2).mono ?_
  rintro e_ w2_⟨rfl,x_⟩
  exact hK1.out _ _ x_ rfl
 refine jl(fun _=>Ext.refl _)_ rfl(v:= ?_)(d:=22)rfl rfl ?_ ?_
 rotate_left
 ·intro a_ w_ hev hR hk
  have e2:a_.eval(.tmp 2)=_:=hk 2 rfl
  clear hk
  generalize a_.eval=ev at *
  obtain⟨hev1,hev2,hev3⟩ :=hev
  go_simp
  (try with_reducible rfl)
 refine jl(fun _=>Ext.refl _)_ rfl(v:= .agg(jb va).toArray)(d:=23)rfl rfl ?_ ?_
 ·intro a_ w_ hev hR hk
  have e21:a_.eval(.tmp 21)=_:=hk 21 rfl
  exact(jy rfl e21(P0.out w_(Ext.trans(Ext.refl _).drew hR)).1.at0 rfl rfl(by rw [C_va];rfl))
 refine jl(fun _=>Ext.refl _)_ rfl(v:= ?_)(d:=24)rfl rfl ?_ ?_
 rotate_left
 ·intro a_ w_ hev hR hk
  have e2:a_.eval(.tmp 2)=_:=hk 2 rfl
  clear hk
  generalize a_.eval=ev at *
  obtain⟨hev1,hev2,hev3⟩ :=hev
  go_simp
  (try with_reducible rfl)
 refine jl(fun _=>Ext.refl _)_ rfl(v:= .agg(jb vc).toArray)(d:=25)rfl rfl ?_ ?_
 ·intro a_ w_ hev hR hk
  have e23:a_.eval(.tmp 23)=_:=hk 23 rfl
  exact(jy rfl e23(P0.out w_(Ext.trans(Ext.refl _).drew hR)).1.at16 rfl rfl(by rw [C_vc];rfl))
 refine jx _ rfl(fun u _=>u= .agg(jb vf).toArray)(d:=26)rfl(fun _ _ _ h _=>h)rfl ?_ ?_
 ·intro a_ w_ hev hR hk K1 hK1
  have e22:a_.eval(.tmp 22)=_:=hk 22 rfl
  have e24:a_.eval(.tmp 24)=_:=hk 24 rfl
  clear hk
  have f22:=jz.trans e22
  have f24:=jz.trans e24
  go_simp
  refine(F_f.out _(P0.out w_(Ext.trans(Ext.refl _).drew hR)).2.2.2).mono ?_
  rintro e_ w2_⟨rfl,x_⟩
  exact hK1.out _ _ x_ rfl
 refine qX _ rfl(fun u w_=>∃g,u= .pointer(some⟨g,0,none⟩)∧w0.drew.heap.size≤g∧w_.heap[g]? =some(.cells(jb zs).toArray 233(0,0)))(d:=6)rfl(fun _ _ _ h e=>by obtain⟨g,h1,h2,h3⟩ :=h;exact⟨g,h1,h2,(e.block g(jh h3)).trans h3⟩)rfl(by decide)(fun _ _ h=>by obtain⟨g,h1,h2,h3⟩ :=h;subst h1;exact⟨g,rfl,jh h3⟩)?_ ?_
 ·intro a_ w_ hev hR hk K1 hK1
  go_simp
  exact hK1.out _ _((Ext.refl _).alloc _)⟨_,rfl,hR.size,heap_alloc_new _ _⟩(fun _ q=>by cases q;exact Nat.le_refl _)
 refine qX _ rfl(fun u w_=>∃g,u= .pointer(some⟨g,0,none⟩)∧w0.drew.heap.size≤g∧w_.heap[g]? =some(.cells(jb zs).toArray 233(0,0)))(d:=7)rfl(fun _ _ _ h e=>by obtain⟨g,h1,h2,h3⟩ :=h;exact⟨g,h1,h2,(e.block g(jh h3)).trans h3⟩)rfl(by decide)(fun _ _ h=>by obtain⟨g,h1,h2,h3⟩ :=h;subst h1;exact⟨g,rfl,jh h3⟩)?_ ?_
 ·intro a_ w_ hev hR hk K1 hK1
  go_simp
  exact hK1.out _ _((Ext.refl _).alloc _)⟨_,rfl,hR.size,heap_alloc_new _ _⟩(fun _ q=>by cases q;exact Nat.le_refl _)
 intro v_ w0q hR hV_ hN_
 obtain⟨hv11,hv10,hv9,hv8,hv7,hv6,hv5,hv4,hv3,hv2,hv1,hv0,_⟩ :=hV_
 replace hv0:v_ 0=_:=hv0
 replace hv1:v_ 1=_:=hv1
 replace hv2:v_ 2=_:=hv2
 replace hv3:v_ 3=_:=hv3
 replace hv4:v_ 4=_:=hv4
 replace hv5:v_ 5=_:=hv5
 replace hv6:v_ 6=_:=hv6
 replace hv7:v_ 7=_:=hv7
 replace hv8:v_ 8=_:=hv8
 replace hv9:v_ 9=_:=hv9
 skip
 skip
 dsimp only [yP,zu]
 obtain⟨g_10,hv10,gb_10,gc_10⟩ :=hv10
 obtain⟨g_11,hv11,gb_11,gc_11⟩ :=hv11
 have gd_10_11:g_10≠g_11:=by
  have q_:=hN_ 10 11 rfl rfl(by decide)
  rw [hv10,hv11] at q_
  simpa [blk] using q_
 clear hN_
 rw [hv0,hv1,hv2,hv3,hv4,hv5,hv6,hv7,hv8,hv9,hv10,hv11]
 go_frame
 clear hv0 hv1 hv2 hv3 hv4 hv5 hv6 hv7 hv8 hv9 hv10 hv11
 refine qi(z:=12)_ rfl rfl(by kernel_rfl)?_
 intro K1 hK1
 refine wp_store_row _ _ _ rfl g_10(wcells vee).toArray rfl rfl 233(jb zs).toArray gc_10(by rw [S_vee];rfl)(by rw [S_vee,S_zs])O_vee ?_
 refine hK1.out _ _ ?_
 clear hK1 K1
 refine qi(z:=13)_ rfl rfl(by kernel_rfl)?_
 intro K1 hK1
 refine wp_store_row _ _ _ rfl g_11(wcells vf).toArray rfl rfl 233(jb zs).toArray((setRow_other _ _ _ _(by omega)).trans gc_11)(by rw [S_vf];rfl)(by rw [S_vf,S_zs])O_vf ?_
 refine hK1.out _ _ ?_
 clear hK1 K1
 refine qQ(by kernel_rfl)?_
 refine ye(fun W=>Ext w0 W∧Wr W g_10 233 vee∧Wr W g_11 233 vf)⟨(below_setRow(below_setRow((Ext.refl w0).drew.trans hR)gb_10 _)gb_11 _),((setRow_other _ _ _ _(by omega)).trans(setRow_heap _ _ _ _ _ _ gc_10)),(setRow_heap _ _ _ _ _ _((setRow_other _ _ _ _(by omega)).trans gc_11))⟩?_
 clear hR gc_10 gc_11
 rintro w1⟨x_,k0,k1⟩
 generalize g_10=g1_5 at *
 generalize g_11=g1_6 at *
 have P1:Hid(∀s,Ext w1 s→Pr s w.heap.size va vb vc vd∧Wr s(w.heap.size+1)233 vx∧Pr s(w.heap.size+1+1)zs zs zs zs∧Wr s g1_5 233 vee∧Wr s g1_6 233 vf∧Ext w s):=fun s e=>by
  obtain⟨p0,p1,p2,p3⟩ :=P0.out s(x_.trans e)
  exact⟨p0,p1,p2,k0.kept e k0.lt,k1.kept e k1.lt,p3⟩
 clear P0 x_ k0 k1
 clear gd_10_11
 clear gb_10 gb_11
 go_upto_region 2 with fail
 refine qgF(R:=Ext)Ext.refl(fun _ _ _=>Ext.trans) [0,1,2,3,4,5,6,7,8,9,10,11] [12,13] [0,1,0,4,15,0,32,0,128,511,0,0,4095,8191] [true,true,true,true,true,true,true,true,true,true,true,true,false,false] ?_
 refine jl(fun _=>Ext.refl _)_ rfl(v:= ?_)(d:=27)rfl rfl ?_ ?_
 rotate_left
 ·intro a_ w_ hev hR hk
  have e2:a_.eval(.tmp 2)=_:=hk 2 rfl
  clear hk
  generalize a_.eval=ev at *
  obtain⟨hev1,hev2,hev3⟩ :=hev
  go_simp
  (try with_reducible rfl)
 refine jl(fun _=>Ext.refl _)_ rfl(v:= .agg(jb vb).toArray)(d:=28)rfl rfl ?_ ?_
 ·intro a_ w_ hev hR hk
  have e26:a_.eval(.tmp 26)=_:=hk 26 rfl
  exact(jy rfl e26(P1.out w_(Ext.trans(Ext.refl _).drew hR)).1.at8 rfl rfl(by rw [C_vb];rfl))
 refine jl(fun _=>Ext.refl _)_ rfl(v:= ?_)(d:=29)rfl rfl ?_ ?_
 rotate_left
 ·intro a_ w_ hev hR hk
  have e2:a_.eval(.tmp 2)=_:=hk 2 rfl
  clear hk
  generalize a_.eval=ev at *
  obtain⟨hev1,hev2,hev3⟩ :=hev
  go_simp
  (try with_reducible rfl)
 refine jl(fun _=>Ext.refl _)_ rfl(v:= .agg(jb vd).toArray)(d:=30)rfl rfl ?_ ?_
 ·intro a_ w_ hev hR hk
  have e28:a_.eval(.tmp 28)=_:=hk 28 rfl
  exact(jy rfl e28(P1.out w_(Ext.trans(Ext.refl _).drew hR)).1.at24 rfl rfl(by rw [C_vd];rfl))
 refine jx _ rfl(fun u _=>u= .agg(jb vg).toArray)(d:=31)rfl(fun _ _ _ h _=>h)rfl ?_ ?_
 ·intro a_ w_ hev hR hk K1 hK1
  have e27:a_.eval(.tmp 27)=_:=hk 27 rfl
  have e29:a_.eval(.tmp 29)=_:=hk 29 rfl
  clear hk
  have f27:=jz.trans e27
  have f29:=jz.trans e29
  go_simp
  refine(F_g.out _(P1.out w_(Ext.trans(Ext.refl _).drew hR)).2.2.2.2.2).mono ?_
  rintro e_ w2_⟨rfl,x_⟩
  exact hK1.out _ _ x_ rfl
 refine jl(fun _=>Ext.refl _)_ rfl(v:= ?_)(d:=32)rfl rfl ?_ ?_
 rotate_left
 ·intro a_ w_ hev hR hk
  have e2:a_.eval(.tmp 2)=_:=hk 2 rfl
  clear hk
  generalize a_.eval=ev at *
  obtain⟨hev1,hev2,hev3⟩ :=hev
  go_simp
  (try with_reducible rfl)
 refine jl(fun _=>Ext.refl _)_ rfl(v:= .agg(jb vb).toArray)(d:=33)rfl rfl ?_ ?_
 ·intro a_ w_ hev hR hk
  have e31:a_.eval(.tmp 31)=_:=hk 31 rfl
  exact(jy rfl e31(P1.out w_(Ext.trans(Ext.refl _).drew hR)).1.at8 rfl rfl(by rw [C_vb];rfl))
 refine jl(fun _=>Ext.refl _)_ rfl(v:= ?_)(d:=34)rfl rfl ?_ ?_
 rotate_left
 ·intro a_ w_ hev hR hk
  have e2:a_.eval(.tmp 2)=_:=hk 2 rfl
  clear hk
  generalize a_.eval=ev at *
  obtain⟨hev1,hev2,hev3⟩ :=hev
  go_simp
  (try with_reducible rfl)
 refine jl(fun _=>Ext.refl _)_ rfl(v:= .agg(jb vd).toArray)(d:=35)rfl rfl ?_ ?_
 ·intro a_ w_ hev hR hk
  have e33:a_.eval(.tmp 33)=_:=hk 33 rfl
  exact(jy rfl e33(P1.out w_(Ext.trans(Ext.refl _).drew hR)).1.at24 rfl rfl(by rw [C_vd];rfl))
 refine jx _ rfl(fun u _=>u= .agg(jb vh).toArray)(d:=36)rfl(fun _ _ _ h _=>h)rfl ?_ ?_
 ·intro a_ w_ hev hR hk K1 hK1
  have e32:a_.eval(.tmp 32)=_:=hk 32 rfl
  have e34:a_.eval(.tmp 34)=_:=hk 34 rfl
  clear hk
  have f32:=jz.trans e32
  have f34:=jz.trans e34
  go_simp
  refine(F_h.out _(P1.out w_(Ext.trans(Ext.refl _).drew hR)).2.2.2.2.2).mono ?_
  rintro e_ w2_⟨rfl,x_⟩
  exact hK1.out _ _ x_ rfl
 refine qX _ rfl(fun u w_=>∃g,u= .pointer(some⟨g,0,none⟩)∧w1.drew.heap.size≤g∧w_.heap[g]? =some(.cells(jb zs).toArray 233(0,0)))(d:=8)rfl(fun _ _ _ h e=>by obtain⟨g,h1,h2,h3⟩ :=h;exact⟨g,h1,h2,(e.block g(jh h3)).trans h3⟩)rfl(by decide)(fun _ _ h=>by obtain⟨g,h1,h2,h3⟩ :=h;subst h1;exact⟨g,rfl,jh h3⟩)?_ ?_
 ·intro a_ w_ hev hR hk K1 hK1
  go_simp
  exact hK1.out _ _((Ext.refl _).alloc _)⟨_,rfl,hR.size,heap_alloc_new _ _⟩(fun _ q=>by cases q;exact Nat.le_refl _)
 refine qX _ rfl(fun u w_=>∃g,u= .pointer(some⟨g,0,none⟩)∧w1.drew.heap.size≤g∧w_.heap[g]? =some(.cells(jb zs).toArray 233(0,0)))(d:=9)rfl(fun _ _ _ h e=>by obtain⟨g,h1,h2,h3⟩ :=h;exact⟨g,h1,h2,(e.block g(jh h3)).trans h3⟩)rfl(by decide)(fun _ _ h=>by obtain⟨g,h1,h2,h3⟩ :=h;subst h1;exact⟨g,rfl,jh h3⟩)?_ ?_
 ·intro a_ w_ hev hR hk K1 hK1
  go_simp
  exact hK1.out _ _((Ext.refl _).alloc _)⟨_,rfl,hR.size,heap_alloc_new _ _⟩(fun _ q=>by cases q;exact Nat.le_refl _)
 intro v_ w1q hR hV_ hN_
 obtain⟨hv11,hv10,hv9,hv8,hv7,hv6,hv5,hv4,hv3,hv2,hv1,hv0,_⟩ :=hV_
 replace hv0:v_ 0=_:=hv0
 replace hv1:v_ 1=_:=hv1
 replace hv2:v_ 2=_:=hv2
 replace hv3:v_ 3=_:=hv3
 replace hv4:v_ 4=_:=hv4
 replace hv5:v_ 5=_:=hv5
 replace hv6:v_ 6=_:=hv6
 replace hv7:v_ 7=_:=hv7
 replace hv8:v_ 8=_:=hv8
 replace hv9:v_ 9=_:=hv9
 skip
 skip
 dsimp only [yP,zu]
 obtain⟨g_10,hv10,gb_10,gc_10⟩ :=hv10
 obtain⟨g_11,hv11,gb_11,gc_11⟩ :=hv11
 have gd_10_11:g_10≠g_11:=by
  have q_:=hN_ 10 11 rfl rfl(by decide)
  rw [hv10,hv11] at q_
  simpa [blk] using q_
 clear hN_
 rw [hv0,hv1,hv2,hv3,hv4,hv5,hv6,hv7,hv8,hv9,hv10,hv11]
 go_frame
 clear hv0 hv1 hv2 hv3 hv4 hv5 hv6 hv7 hv8 hv9 hv10 hv11
 refine qi(z:=12)_ rfl rfl(by kernel_rfl)?_
 intro K1 hK1
 refine wp_store_row _ _ _ rfl g_10(wcells vg).toArray rfl rfl 233(jb zs).toArray gc_10(by rw [S_vg];rfl)(by rw [S_vg,S_zs])O_vg ?_
 refine hK1.out _ _ ?_
 clear hK1 K1
 refine qi(z:=13)_ rfl rfl(by kernel_rfl)?_
 intro K1 hK1
 refine wp_store_row _ _ _ rfl g_11(wcells vh).toArray rfl rfl 233(jb zs).toArray((setRow_other _ _ _ _(by omega)).trans gc_11)(by rw [S_vh];rfl)(by rw [S_vh,S_zs])O_vh ?_
 refine hK1.out _ _ ?_
 clear hK1 K1
 refine qQ(by kernel_rfl)?_
 refine ye(fun W=>Ext w1 W∧Wr W g_10 233 vg∧Wr W g_11 233 vh)⟨(below_setRow(below_setRow((Ext.refl w1).drew.trans hR)gb_10 _)gb_11 _),((setRow_other _ _ _ _(by omega)).trans(setRow_heap _ _ _ _ _ _ gc_10)),(setRow_heap _ _ _ _ _ _((setRow_other _ _ _ _(by omega)).trans gc_11))⟩?_
 clear hR gc_10 gc_11
 rintro w2⟨x_,k0,k1⟩
 generalize g_10=g2_7 at *
 generalize g_11=g2_8 at *
 have P2:Hid(∀s,Ext w2 s→Pr s w.heap.size va vb vc vd∧Wr s(w.heap.size+1)233 vx∧Pr s(w.heap.size+1+1)zs zs zs zs∧Wr s g1_5 233 vee∧Wr s g1_6 233 vf∧Wr s g2_7 233 vg∧Wr s g2_8 233 vh∧Ext w s):=fun s e=>by
  obtain⟨p0,p1,p2,p3,p4,p5⟩ :=P1.out s(x_.trans e)
  exact⟨p0,p1,p2,p3,p4,k0.kept e k0.lt,k1.kept e k1.lt,p5⟩
 clear P1 x_ k0 k1
 clear gd_10_11
 clear gb_10 gb_11
 go_upto_region 3 with fail
 refine qgF(R:=Ext)Ext.refl(fun _ _ _=>Ext.trans) [0,1,2,3,4,5,6,7] [8,9] [0,0,3,0,0,31,0,0,255,511] [true,true,true,true,true,true,true,true,false,false] ?_
 refine jl(fun _=>Ext.refl _)_ rfl(v:= .agg(jb vee).toArray)(d:=37)rfl rfl ?_ ?_
 ·intro a_ w_ hev hR hk
  have e5:a_.eval(.tmp 5)=_:=hk 5 rfl
  exact(jd rfl e5(P2.out w_(Ext.trans(Ext.refl _).drew hR)).2.2.2.1 rfl rfl(by rw [S_vee];rfl))
 refine jl(fun _=>Ext.refl _)_ rfl(v:= .agg(jb vee).toArray)(d:=38)rfl rfl ?_ ?_
 ·intro a_ w_ hev hR hk
  have e5:a_.eval(.tmp 5)=_:=hk 5 rfl
  exact(jd rfl e5(P2.out w_(Ext.trans(Ext.refl _).drew hR)).2.2.2.1 rfl rfl(by rw [S_vee];rfl))
 refine jx _ rfl(fun u _=>u= .agg(jb vu).toArray)(d:=39)rfl(fun _ _ _ h _=>h)rfl ?_ ?_
 ·intro a_ w_ hev hR hk K1 hK1
  have e36:a_.eval(.tmp 36)=_:=hk 36 rfl
  have e37:a_.eval(.tmp 37)=_:=hk 37 rfl
  clear hk
  have f36:=jz.trans e36
  have f37:=jz.trans e37
  go_simp
  refine(F_u.out _(P2.out w_(Ext.trans(Ext.refl _).drew hR)).2.2.2.2.2.2.2).mono ?_
  rintro e_ w2_⟨rfl,x_⟩
  exact hK1.out _ _ x_ rfl
 refine jl(fun _=>Ext.refl _)_ rfl(v:= .agg(jb vf).toArray)(d:=40)rfl rfl ?_ ?_
 ·intro a_ w_ hev hR hk
  have e6:a_.eval(.tmp 6)=_:=hk 6 rfl
  exact(jd rfl e6(P2.out w_(Ext.trans(Ext.refl _).drew hR)).2.2.2.2.1 rfl rfl(by rw [S_vf];rfl))
 refine jl(fun _=>Ext.refl _)_ rfl(v:= .agg(jb vf).toArray)(d:=41)rfl rfl ?_ ?_
 ·intro a_ w_ hev hR hk
  have e6:a_.eval(.tmp 6)=_:=hk 6 rfl
  exact(jd rfl e6(P2.out w_(Ext.trans(Ext.refl _).drew hR)).2.2.2.2.1 rfl rfl(by rw [S_vf];rfl))
 refine jx _ rfl(fun u _=>u= .agg(jb vv).toArray)(d:=42)rfl(fun _ _ _ h _=>h)rfl ?_ ?_
 ·intro a_ w_ hev hR hk K1 hK1
  have e39:a_.eval(.tmp 39)=_:=hk 39 rfl
  have e40:a_.eval(.tmp 40)=_:=hk 40 rfl
  clear hk
  have f39:=jz.trans e39
  have f40:=jz.trans e40
  go_simp
  refine(F_v.out _(P2.out w_(Ext.trans(Ext.refl _).drew hR)).2.2.2.2.2.2.2).mono ?_
  rintro e_ w2_⟨rfl,x_⟩
  exact hK1.out _ _ x_ rfl
 refine qX _ rfl(fun u w_=>∃g,u= .pointer(some⟨g,0,none⟩)∧w2.drew.heap.size≤g∧w_.heap[g]? =some(.cells(jb zs).toArray 233(0,0)))(d:=10)rfl(fun _ _ _ h e=>by obtain⟨g,h1,h2,h3⟩ :=h;exact⟨g,h1,h2,(e.block g(jh h3)).trans h3⟩)rfl(by decide)(fun _ _ h=>by obtain⟨g,h1,h2,h3⟩ :=h;subst h1;exact⟨g,rfl,jh h3⟩)?_ ?_
 ·intro a_ w_ hev hR hk K1 hK1
  go_simp
  exact hK1.out _ _((Ext.refl _).alloc _)⟨_,rfl,hR.size,heap_alloc_new _ _⟩(fun _ q=>by cases q;exact Nat.le_refl _)
 refine qX _ rfl(fun u w_=>∃g,u= .pointer(some⟨g,0,none⟩)∧w2.drew.heap.size≤g∧w_.heap[g]? =some(.cells(jb zs).toArray 233(0,0)))(d:=11)rfl(fun _ _ _ h e=>by obtain⟨g,h1,h2,h3⟩ :=h;exact⟨g,h1,h2,(e.block g(jh h3)).trans h3⟩)rfl(by decide)(fun _ _ h=>by obtain⟨g,h1,h2,h3⟩ :=h;subst h1;exact⟨g,rfl,jh h3⟩)?_ ?_
 ·intro a_ w_ hev hR hk K1 hK1
  go_simp
  exact hK1.out _ _((Ext.refl _).alloc _)⟨_,rfl,hR.size,heap_alloc_new _ _⟩(fun _ q=>by cases q;exact Nat.le_refl _)
 intro v_ w2q hR hV_ hN_
 obtain⟨hv7,hv6,hv5,hv4,hv3,hv2,hv1,hv0,_⟩ :=hV_
 replace hv0:v_ 0=_:=hv0
 replace hv1:v_ 1=_:=hv1
 replace hv2:v_ 2=_:=hv2
 replace hv3:v_ 3=_:=hv3
 replace hv4:v_ 4=_:=hv4
 replace hv5:v_ 5=_:=hv5
 skip
 skip
 dsimp only [yP,zu]
 obtain⟨g_6,hv6,gb_6,gc_6⟩ :=hv6
 obtain⟨g_7,hv7,gb_7,gc_7⟩ :=hv7
 have gd_6_7:g_6≠g_7:=by
  have q_:=hN_ 6 7 rfl rfl(by decide)
  rw [hv6,hv7] at q_
  simpa [blk] using q_
 clear hN_
 rw [hv0,hv1,hv2,hv3,hv4,hv5,hv6,hv7]
 go_frame
 clear hv0 hv1 hv2 hv3 hv4 hv5 hv6 hv7
 refine qi(z:=8)_ rfl rfl(by kernel_rfl)?_
 intro K1 hK1
 refine wp_store_row _ _ _ rfl g_6(jb vu).toArray rfl rfl 233(jb zs).toArray gc_6(by rw [S_vu];rfl)(by rw [S_vu,S_zs])O_vu ?_
 refine hK1.out _ _ ?_
 clear hK1 K1
 refine qi(z:=9)_ rfl rfl(by kernel_rfl)?_
 intro K1 hK1
 refine wp_store_row _ _ _ rfl g_7(jb vv).toArray rfl rfl 233(jb zs).toArray((setRow_other _ _ _ _(by omega)).trans gc_7)(by rw [S_vv];rfl)(by rw [S_vv,S_zs])O_vv ?_
 refine hK1.out _ _ ?_
 clear hK1 K1
 refine qQ(by kernel_rfl)?_
 refine ye(fun W=>Ext w2 W∧Wr W g_6 233 vu∧Wr W g_7 233 vv)⟨(below_setRow(below_setRow((Ext.refl w2).drew.trans hR)gb_6 _)gb_7 _),((setRow_other _ _ _ _(by omega)).trans(setRow_heap _ _ _ _ _ _ gc_6)),(setRow_heap _ _ _ _ _ _((setRow_other _ _ _ _(by omega)).trans gc_7))⟩?_
 clear hR gc_6 gc_7
 rintro w3⟨x_,k0,k1⟩
 generalize g_6=g3_9 at *
 generalize g_7=g3_10 at *
 have P3:Hid(∀s,Ext w3 s→Pr s w.heap.size va vb vc vd∧Wr s(w.heap.size+1)233 vx∧Pr s(w.heap.size+1+1)zs zs zs zs∧Wr s g1_5 233 vee∧Wr s g1_6 233 vf∧Wr s g2_7 233 vg∧Wr s g2_8 233 vh∧Wr s g3_9 233 vu∧Wr s g3_10 233 vv∧Ext w s):=fun s e=>by
  obtain⟨p0,p1,p2,p3,p4,p5,p6,p7⟩ :=P2.out s(x_.trans e)
  exact⟨p0,p1,p2,p3,p4,p5,p6,k0.kept e k0.lt,k1.kept e k1.lt,p7⟩
 clear P2 x_ k0 k1
 clear gd_6_7
 clear gb_6 gb_7
 go_upto_region 4 with fail
 have q0:=hd(P3.out _(Ext.refl _)).2.2.2.2.2.2.2.1
 have q1:=hd(P3.out _(Ext.refl _)).2.2.2.2.2.2.2.2.1
 go_wp2_with(first
  |(refine vP rfl(jd rfl rfl q0.out rfl rfl(by rw [S_vu];rfl))?_;go_frame)
  |(refine vP rfl(jd rfl rfl q1.out rfl rfl(by rw [S_vv];rfl))?_;go_frame))
 refine(F_k.out _(P3.out _(Ext.refl _)).2.2.2.2.2.2.2.2.2).mono ?_
 rintro e v_⟨rfl,e1⟩
 have a1:Hid((v_.alloc(Obj.cells(jb zs).toArray 233)).heap[v_.heap.size]? =some(.cells(jb zs).toArray 233(0,0))):=heap_alloc_new _ _
 have e5:Ext v_((v_.alloc(Obj.cells(wcells zs).toArray 233)).setRow v_.heap.size(jb vk).toArray):=below_setRow((Ext.refl v_).alloc _)(Nat.le_refl _)_
 go_upto_region 5 with(refine wpList_store_row rfl 233 _ _ rfl v_.heap.size(jb vk).toArray rfl rfl 233 _ a1.out(by rw [S_vk];rfl)(by rw [S_vk,S_zs])O_vk ?_;go_frame)
 obtain⟨g4_s,hg_⟩:∃g,g=v_.heap.size:=⟨_,rfl⟩
 refine jg(fun W=>Ext w3 W∧Wr W g4_s 233 vk)⟨e1.trans e5,by rw [hg_];exact setRow_heap _ _ _ _ _ _ a1.out⟩?_
 rw [← hg_]
 clear hg_ a1 e5 e1 q0 q1
 rintro w4⟨x_,k0⟩
 have P4:Hid(∀s,Ext w4 s→Pr s w.heap.size va vb vc vd∧Wr s(w.heap.size+1)233 vx∧Pr s(w.heap.size+1+1)zs zs zs zs∧Wr s g1_5 233 vee∧Wr s g1_6 233 vf∧Wr s g2_7 233 vg∧Wr s g2_8 233 vh∧Wr s g3_9 233 vu∧Wr s g3_10 233 vv∧Wr s g4_s 233 vk∧Ext w s):=fun s e=>by
  obtain⟨p0,p1,p2,p3,p4,p5,p6,p7,p8,p9⟩ :=P3.out s(x_.trans e)
  exact⟨p0,p1,p2,p3,p4,p5,p6,p7,p8,k0.kept e k0.lt,p9⟩
 clear P3 x_ k0
 refine qgF(R:=Ext)Ext.refl(fun _ _ _=>Ext.trans) [0,1,2,3,4,5,6,7] [8,9] [0,0,3,0,0,31,0,0,255,511] [true,true,true,true,true,true,true,true,false,false] ?_
 refine jl(fun _=>Ext.refl _)_ rfl(v:= .agg(jb vh).toArray)(d:=46)rfl rfl ?_ ?_
 ·intro a_ w_ hev hR hk
  have e8:a_.eval(.tmp 8)=_:=hk 8 rfl
  exact(jd rfl e8(P4.out w_(Ext.trans(Ext.refl _).drew hR)).2.2.2.2.2.2.1 rfl rfl(by rw [S_vh];rfl))
 refine jl(fun _=>Ext.refl _)_ rfl(v:= .agg(jb vee).toArray)(d:=47)rfl rfl ?_ ?_
 ·intro a_ w_ hev hR hk
  have e5:a_.eval(.tmp 5)=_:=hk 5 rfl
  exact(jd rfl e5(P4.out w_(Ext.trans(Ext.refl _).drew hR)).2.2.2.1 rfl rfl(by rw [S_vee];rfl))
 refine jx _ rfl(fun u _=>u= .agg(jb vy).toArray)(d:=48)rfl(fun _ _ _ h _=>h)rfl ?_ ?_
 ·intro a_ w_ hev hR hk K1 hK1
  have e45:a_.eval(.tmp 45)=_:=hk 45 rfl
  have e46:a_.eval(.tmp 46)=_:=hk 46 rfl
  clear hk
  have f45:=jz.trans e45
  have f46:=jz.trans e46
  go_simp
  refine(F_y.out _(P4.out w_(Ext.trans(Ext.refl _).drew hR)).2.2.2.2.2.2.2.2.2.2).mono ?_
  rintro e_ w2_⟨rfl,x_⟩
  exact hK1.out _ _ x_ rfl
 refine jl(fun _=>Ext.refl _)_ rfl(v:= .agg(jb vg).toArray)(d:=49)rfl rfl ?_ ?_
 ·intro a_ w_ hev hR hk
  have e7:a_.eval(.tmp 7)=_:=hk 7 rfl
  exact(jd rfl e7(P4.out w_(Ext.trans(Ext.refl _).drew hR)).2.2.2.2.2.1 rfl rfl(by rw [S_vg];rfl))
 refine jl(fun _=>Ext.refl _)_ rfl(v:= .agg(jb vf).toArray)(d:=50)rfl rfl ?_ ?_
 ·intro a_ w_ hev hR hk
  have e6:a_.eval(.tmp 6)=_:=hk 6 rfl
  exact(jd rfl e6(P4.out w_(Ext.trans(Ext.refl _).drew hR)).2.2.2.2.1 rfl rfl(by rw [S_vf];rfl))
 refine jx _ rfl(fun u _=>u= .agg(jb vz).toArray)(d:=51)rfl(fun _ _ _ h _=>h)rfl ?_ ?_
 ·intro a_ w_ hev hR hk K1 hK1
  have e48:a_.eval(.tmp 48)=_:=hk 48 rfl
  have e49:a_.eval(.tmp 49)=_:=hk 49 rfl
  clear hk
  have f48:=jz.trans e48
  have f49:=jz.trans e49
  go_simp
  refine(F_z.out _(P4.out w_(Ext.trans(Ext.refl _).drew hR)).2.2.2.2.2.2.2.2.2.2).mono ?_
  rintro e_ w2_⟨rfl,x_⟩
  exact hK1.out _ _ x_ rfl
 refine qX _ rfl(fun u w_=>∃g,u= .pointer(some⟨g,0,none⟩)∧w4.drew.heap.size≤g∧w_.heap[g]? =some(.cells(jb zs).toArray 233(0,0)))(d:=13)rfl(fun _ _ _ h e=>by obtain⟨g,h1,h2,h3⟩ :=h;exact⟨g,h1,h2,(e.block g(jh h3)).trans h3⟩)rfl(by decide)(fun _ _ h=>by obtain⟨g,h1,h2,h3⟩ :=h;subst h1;exact⟨g,rfl,jh h3⟩)?_ ?_
 ·intro a_ w_ hev hR hk K1 hK1
  go_simp
  exact hK1.out _ _((Ext.refl _).alloc _)⟨_,rfl,hR.size,heap_alloc_new _ _⟩(fun _ q=>by cases q;exact Nat.le_refl _)
 refine qX _ rfl(fun u w_=>∃g,u= .pointer(some⟨g,0,none⟩)∧w4.drew.heap.size≤g∧w_.heap[g]? =some(.cells(jb zs).toArray 233(0,0)))(d:=14)rfl(fun _ _ _ h e=>by obtain⟨g,h1,h2,h3⟩ :=h;exact⟨g,h1,h2,(e.block g(jh h3)).trans h3⟩)rfl(by decide)(fun _ _ h=>by obtain⟨g,h1,h2,h3⟩ :=h;subst h1;exact⟨g,rfl,jh h3⟩)?_ ?_
 ·intro a_ w_ hev hR hk K1 hK1
  go_simp
  exact hK1.out _ _((Ext.refl _).alloc _)⟨_,rfl,hR.size,heap_alloc_new _ _⟩(fun _ q=>by cases q;exact Nat.le_refl _)
 intro v_ w4q hR hV_ hN_
 obtain⟨hv7,hv6,hv5,hv4,hv3,hv2,hv1,hv0,_⟩ :=hV_
 replace hv0:v_ 0=_:=hv0
 replace hv1:v_ 1=_:=hv1
 replace hv2:v_ 2=_:=hv2
 replace hv3:v_ 3=_:=hv3
 replace hv4:v_ 4=_:=hv4
 replace hv5:v_ 5=_:=hv5
 skip
 skip
 dsimp only [yP,zu]
 obtain⟨g_6,hv6,gb_6,gc_6⟩ :=hv6
 obtain⟨g_7,hv7,gb_7,gc_7⟩ :=hv7
 have gd_6_7:g_6≠g_7:=by
  have q_:=hN_ 6 7 rfl rfl(by decide)
  rw [hv6,hv7] at q_
  simpa [blk] using q_
 clear hN_
 rw [hv0,hv1,hv2,hv3,hv4,hv5,hv6,hv7]
 go_frame
 clear hv0 hv1 hv2 hv3 hv4 hv5 hv6 hv7
 refine qi(z:=8)_ rfl rfl(by kernel_rfl)?_
 intro K1 hK1
 refine wp_store_row _ _ _ rfl g_6(jb vy).toArray rfl rfl 233(jb zs).toArray gc_6(by rw [S_vy];rfl)(by rw [S_vy,S_zs])O_vy ?_
 refine hK1.out _ _ ?_
 clear hK1 K1
 refine qi(z:=9)_ rfl rfl(by kernel_rfl)?_
 intro K1 hK1
 refine wp_store_row _ _ _ rfl g_7(jb vz).toArray rfl rfl 233(jb zs).toArray((setRow_other _ _ _ _(by omega)).trans gc_7)(by rw [S_vz];rfl)(by rw [S_vz,S_zs])O_vz ?_
 refine hK1.out _ _ ?_
 clear hK1 K1
 refine qQ(by kernel_rfl)?_
 refine ye(fun W=>Ext w4 W∧Wr W g_6 233 vy∧Wr W g_7 233 vz)⟨(below_setRow(below_setRow((Ext.refl w4).drew.trans hR)gb_6 _)gb_7 _),((setRow_other _ _ _ _(by omega)).trans(setRow_heap _ _ _ _ _ _ gc_6)),(setRow_heap _ _ _ _ _ _((setRow_other _ _ _ _(by omega)).trans gc_7))⟩?_
 clear hR gc_6 gc_7
 rintro w5⟨x_,k0,k1⟩
 generalize g_6=g5_12 at *
 generalize g_7=g5_13 at *
 have P5:Hid(∀s,Ext w5 s→Pr s w.heap.size va vb vc vd∧Wr s(w.heap.size+1)233 vx∧Pr s(w.heap.size+1+1)zs zs zs zs∧Wr s g1_5 233 vee∧Wr s g1_6 233 vf∧Wr s g2_7 233 vg∧Wr s g2_8 233 vh∧Wr s g3_9 233 vu∧Wr s g3_10 233 vv∧Wr s g4_s 233 vk∧Wr s g5_12 233 vy∧Wr s g5_13 233 vz∧Ext w s):=fun s e=>by
  obtain⟨p0,p1,p2,p3,p4,p5,p6,p7,p8,p9,p10⟩ :=P4.out s(x_.trans e)
  exact⟨p0,p1,p2,p3,p4,p5,p6,p7,p8,p9,k0.kept e k0.lt,k1.kept e k1.lt,p10⟩
 clear P4 x_ k0 k1
 clear gd_6_7
 clear gb_6 gb_7
 go_upto_region 6 with fail
 refine qgF(R:=Ext)Ext.refl(fun _ _ _=>Ext.trans) [0,1,2,3,4,5,6,7] [8,9] [0,0,3,0,0,31,0,0,255,511] [true,true,true,true,true,true,true,true,false,false] ?_
 refine jl(fun _=>Ext.refl _)_ rfl(v:= .agg(jb vy).toArray)(d:=52)rfl rfl ?_ ?_
 ·intro a_ w_ hev hR hk
  have e12:a_.eval(.tmp 12)=_:=hk 12 rfl
  exact(jd rfl e12(P5.out w_(Ext.trans(Ext.refl _).drew hR)).2.2.2.2.2.2.2.2.2.2.1 rfl rfl(by rw [S_vy];rfl))
 refine jl(fun _=>Ext.refl _)_ rfl(v:= .agg(jb vz).toArray)(d:=53)rfl rfl ?_ ?_
 ·intro a_ w_ hev hR hk
  have e13:a_.eval(.tmp 13)=_:=hk 13 rfl
  exact(jd rfl e13(P5.out w_(Ext.trans(Ext.refl _).drew hR)).2.2.2.2.2.2.2.2.2.2.2.1 rfl rfl(by rw [S_vz];rfl))
 refine jx _ rfl(fun u _=>u= .agg(jb vm).toArray)(d:=54)rfl(fun _ _ _ h _=>h)rfl ?_ ?_
 ·intro a_ w_ hev hR hk K1 hK1
  have e51:a_.eval(.tmp 51)=_:=hk 51 rfl
  have e52:a_.eval(.tmp 52)=_:=hk 52 rfl
  clear hk
  have f51:=jz.trans e51
  have f52:=jz.trans e52
  go_simp
  refine(F_m.out _(P5.out w_(Ext.trans(Ext.refl _).drew hR)).2.2.2.2.2.2.2.2.2.2.2.2).mono ?_
  rintro e_ w2_⟨rfl,x_⟩
  exact hK1.out _ _ x_ rfl
 refine jl(fun _=>Ext.refl _)_ rfl(v:= .agg(jb vy).toArray)(d:=55)rfl rfl ?_ ?_
 ·intro a_ w_ hev hR hk
  have e12:a_.eval(.tmp 12)=_:=hk 12 rfl
  exact(jd rfl e12(P5.out w_(Ext.trans(Ext.refl _).drew hR)).2.2.2.2.2.2.2.2.2.2.1 rfl rfl(by rw [S_vy];rfl))
 refine jl(fun _=>Ext.refl _)_ rfl(v:= .agg(jb vz).toArray)(d:=56)rfl rfl ?_ ?_
 ·intro a_ w_ hev hR hk
  have e13:a_.eval(.tmp 13)=_:=hk 13 rfl
  exact(jd rfl e13(P5.out w_(Ext.trans(Ext.refl _).drew hR)).2.2.2.2.2.2.2.2.2.2.2.1 rfl rfl(by rw [S_vz];rfl))
 refine jx _ rfl(fun u _=>u= .agg(jb vn).toArray)(d:=57)rfl(fun _ _ _ h _=>h)rfl ?_ ?_
 ·intro a_ w_ hev hR hk K1 hK1
  have e54:a_.eval(.tmp 54)=_:=hk 54 rfl
  have e55:a_.eval(.tmp 55)=_:=hk 55 rfl
  clear hk
  have f54:=jz.trans e54
  have f55:=jz.trans e55
  go_simp
  refine(F_n.out _(P5.out w_(Ext.trans(Ext.refl _).drew hR)).2.2.2.2.2.2.2.2.2.2.2.2).mono ?_
  rintro e_ w2_⟨rfl,x_⟩
  exact hK1.out _ _ x_ rfl
 refine qX _ rfl(fun u w_=>∃g,u= .pointer(some⟨g,0,none⟩)∧w5.drew.heap.size≤g∧w_.heap[g]? =some(.cells(jb zs).toArray 233(0,0)))(d:=15)rfl(fun _ _ _ h e=>by obtain⟨g,h1,h2,h3⟩ :=h;exact⟨g,h1,h2,(e.block g(jh h3)).trans h3⟩)rfl(by decide)(fun _ _ h=>by obtain⟨g,h1,h2,h3⟩ :=h;subst h1;exact⟨g,rfl,jh h3⟩)?_ ?_
 ·intro a_ w_ hev hR hk K1 hK1
  go_simp
  exact hK1.out _ _((Ext.refl _).alloc _)⟨_,rfl,hR.size,heap_alloc_new _ _⟩(fun _ q=>by cases q;exact Nat.le_refl _)
 refine qX _ rfl(fun u w_=>∃g,u= .pointer(some⟨g,0,none⟩)∧w5.drew.heap.size≤g∧w_.heap[g]? =some(.cells(jb zs).toArray 233(0,0)))(d:=16)rfl(fun _ _ _ h e=>by obtain⟨g,h1,h2,h3⟩ :=h;exact⟨g,h1,h2,(e.block g(jh h3)).trans h3⟩)rfl(by decide)(fun _ _ h=>by obtain⟨g,h1,h2,h3⟩ :=h;subst h1;exact⟨g,rfl,jh h3⟩)?_ ?_
 ·intro a_ w_ hev hR hk K1 hK1
  go_simp
  exact hK1.out _ _((Ext.refl _).alloc _)⟨_,rfl,hR.size,heap_alloc_new _ _⟩(fun _ q=>by cases q;exact Nat.le_refl _)
 intro v_ w5q hR hV_ hN_
 obtain⟨hv7,hv6,hv5,hv4,hv3,hv2,hv1,hv0,_⟩ :=hV_
 replace hv0:v_ 0=_:=hv0
 replace hv1:v_ 1=_:=hv1
 replace hv2:v_ 2=_:=hv2
 replace hv3:v_ 3=_:=hv3
 replace hv4:v_ 4=_:=hv4
 replace hv5:v_ 5=_:=hv5
 skip
 skip
 dsimp only [yP,zu]
 obtain⟨g_6,hv6,gb_6,gc_6⟩ :=hv6
 obtain⟨g_7,hv7,gb_7,gc_7⟩ :=hv7
 have gd_6_7:g_6≠g_7:=by
  have q_:=hN_ 6 7 rfl rfl(by decide)
  rw [hv6,hv7] at q_
  simpa [blk] using q_
 clear hN_
 rw [hv0,hv1,hv2,hv3,hv4,hv5,hv6,hv7]
 go_frame
 clear hv0 hv1 hv2 hv3 hv4 hv5 hv6 hv7
 refine qi(z:=8)_ rfl rfl(by kernel_rfl)?_
 intro K1 hK1
 refine wp_store_row _ _ _ rfl g_6(jb vm).toArray rfl rfl 233(jb zs).toArray gc_6(by rw [S_vm];rfl)(by rw [S_vm,S_zs])O_vm ?_
 refine hK1.out _ _ ?_
 clear hK1 K1
 refine qi(z:=9)_ rfl rfl(by kernel_rfl)?_
 intro K1 hK1
 refine wp_store_row _ _ _ rfl g_7(jb vn).toArray rfl rfl 233(jb zs).toArray((setRow_other _ _ _ _(by omega)).trans gc_7)(by rw [S_vn];rfl)(by rw [S_vn,S_zs])O_vn ?_
 refine hK1.out _ _ ?_
 clear hK1 K1
 refine qQ(by kernel_rfl)?_
 refine ye(fun W=>Ext w5 W∧Wr W g_6 233 vm∧Wr W g_7 233 vn)⟨(below_setRow(below_setRow((Ext.refl w5).drew.trans hR)gb_6 _)gb_7 _),((setRow_other _ _ _ _(by omega)).trans(setRow_heap _ _ _ _ _ _ gc_6)),(setRow_heap _ _ _ _ _ _((setRow_other _ _ _ _(by omega)).trans gc_7))⟩?_
 clear hR gc_6 gc_7
 rintro w6⟨x_,k0,k1⟩
 generalize g_6=g6_14 at *
 generalize g_7=g6_15 at *
 have P6:Hid(∀s,Ext w6 s→Pr s w.heap.size va vb vc vd∧Wr s(w.heap.size+1)233 vx∧Pr s(w.heap.size+1+1)zs zs zs zs∧Wr s g1_5 233 vee∧Wr s g1_6 233 vf∧Wr s g2_7 233 vg∧Wr s g2_8 233 vh∧Wr s g3_9 233 vu∧Wr s g3_10 233 vv∧Wr s g4_s 233 vk∧Wr s g5_12 233 vy∧Wr s g5_13 233 vz∧Wr s g6_14 233 vm∧Wr s g6_15 233 vn∧Ext w s):=fun s e=>by
  obtain⟨p0,p1,p2,p3,p4,p5,p6,p7,p8,p9,p10,p11,p12⟩ :=P5.out s(x_.trans e)
  exact⟨p0,p1,p2,p3,p4,p5,p6,p7,p8,p9,p10,p11,k0.kept e k0.lt,k1.kept e k1.lt,p12⟩
 clear P5 x_ k0 k1
 clear gd_6_7
 clear gb_6 gb_7
 go_upto_region 7 with fail
 refine qgF(R:=Ext)Ext.refl(fun _ _ _=>Ext.trans) [0,1,2,3,4,5,6,7,8,9,10,11,12,13,14,15,16,17,18] [19] [0,0,3,0,0,31,0,0,63,0,831,1983,4095,0,0,32767,0,131071,262143,524287] [true,true,true,true,true,true,true,true,true,true,true,true,true,true,true,true,true,true,true,false] ?_
 refine jl(fun _=>Ext.refl _)_ rfl(v:= .agg(jb vu).toArray)(d:=58)rfl rfl ?_ ?_
 ·intro a_ w_ hev hR hk
  have e9:a_.eval(.tmp 9)=_:=hk 9 rfl
  exact(jd rfl e9(P6.out w_(Ext.trans(Ext.refl _).drew hR)).2.2.2.2.2.2.2.1 rfl rfl(by rw [S_vu];rfl))
 refine jl(fun _=>Ext.refl _)_ rfl(v:= .agg(jb vv).toArray)(d:=59)rfl rfl ?_ ?_
 ·intro a_ w_ hev hR hk
  have e10:a_.eval(.tmp 10)=_:=hk 10 rfl
  exact(jd rfl e10(P6.out w_(Ext.trans(Ext.refl _).drew hR)).2.2.2.2.2.2.2.2.1 rfl rfl(by rw [S_vv];rfl))
 refine jx _ rfl(fun u _=>u= .agg(jb vr1).toArray)(d:=60)rfl(fun _ _ _ h _=>h)rfl ?_ ?_
 ·intro a_ w_ hev hR hk K1 hK1
  have e57:a_.eval(.tmp 57)=_:=hk 57 rfl
  have e58:a_.eval(.tmp 58)=_:=hk 58 rfl
  clear hk
  have f57:=jz.trans e57
  have f58:=jz.trans e58
  go_simp
  refine(F_r1.out _(P6.out w_(Ext.trans(Ext.refl _).drew hR)).2.2.2.2.2.2.2.2.2.2.2.2.2.2).mono ?_
  rintro e_ w2_⟨rfl,x_⟩
  exact hK1.out _ _ x_ rfl
 refine jl(fun _=>Ext.refl _)_ rfl(v:= .agg(jb vm).toArray)(d:=61)rfl rfl ?_ ?_
 ·intro a_ w_ hev hR hk
  have e14:a_.eval(.tmp 14)=_:=hk 14 rfl
  exact(jd rfl e14(P6.out w_(Ext.trans(Ext.refl _).drew hR)).2.2.2.2.2.2.2.2.2.2.2.2.1 rfl rfl(by rw [S_vm];rfl))
 refine jl(fun _=>Ext.refl _)_ rfl(v:= .agg(jb vm).toArray)(d:=62)rfl rfl ?_ ?_
 ·intro a_ w_ hev hR hk
  have e14:a_.eval(.tmp 14)=_:=hk 14 rfl
  exact(jd rfl e14(P6.out w_(Ext.trans(Ext.refl _).drew hR)).2.2.2.2.2.2.2.2.2.2.2.2.1 rfl rfl(by rw [S_vm];rfl))
 refine jx _ rfl(fun u _=>u= .agg(jb vr2).toArray)(d:=63)rfl(fun _ _ _ h _=>h)rfl ?_ ?_
 ·intro a_ w_ hev hR hk K1 hK1
  have e60:a_.eval(.tmp 60)=_:=hk 60 rfl
  have e61:a_.eval(.tmp 61)=_:=hk 61 rfl
  clear hk
  have f60:=jz.trans e60
  have f61:=jz.trans e61
  go_simp
  refine(F_r2.out _(P6.out w_(Ext.trans(Ext.refl _).drew hR)).2.2.2.2.2.2.2.2.2.2.2.2.2.2).mono ?_
  rintro e_ w2_⟨rfl,x_⟩
  exact hK1.out _ _ x_ rfl
 refine jl(fun _=>Ext.refl _)_ rfl(v:= .agg(jb vk).toArray)(d:=64)rfl rfl ?_ ?_
 ·intro a_ w_ hev hR hk
  have e11:a_.eval(.tmp 11)=_:=hk 11 rfl
  exact(jd rfl e11(P6.out w_(Ext.trans(Ext.refl _).drew hR)).2.2.2.2.2.2.2.2.2.1 rfl rfl(by rw [S_vk];rfl))
 refine jl(fun _=>Ext.refl _)_ rfl(v:= .agg(jb vu).toArray)(d:=65)rfl rfl ?_ ?_
 ·intro a_ w_ hev hR hk
  have e9:a_.eval(.tmp 9)=_:=hk 9 rfl
  exact(jd rfl e9(P6.out w_(Ext.trans(Ext.refl _).drew hR)).2.2.2.2.2.2.2.1 rfl rfl(by rw [S_vu];rfl))
 refine jx _ rfl(fun u _=>u= .agg(jb vq).toArray)(d:=66)rfl(fun _ _ _ h _=>h)rfl ?_ ?_
 ·intro a_ w_ hev hR hk K1 hK1
  clear hk
  go_simp
  refine(F_q.out _(P6.out w_(Ext.trans(Ext.refl _).drew hR)).2.2.2.2.2.2.2.2.2.2.2.2.2.2).mono ?_
  rintro e_ w2_⟨rfl,x_⟩
  exact hK1.out _ _ x_ rfl
 refine jl(fun _=>Ext.refl _)_ rfl(v:= .agg(jb vk).toArray)(d:=67)rfl rfl ?_ ?_
 ·intro a_ w_ hev hR hk
  have e11:a_.eval(.tmp 11)=_:=hk 11 rfl
  exact(jd rfl e11(P6.out w_(Ext.trans(Ext.refl _).drew hR)).2.2.2.2.2.2.2.2.2.1 rfl rfl(by rw [S_vk];rfl))
 refine jx _ rfl(fun u _=>u= .agg(jb vt).toArray)(d:=68)rfl(fun _ _ _ h _=>h)rfl ?_ ?_
 ·intro a_ w_ hev hR hk K1 hK1
  have e65:a_.eval(.tmp 65)=_:=hk 65 rfl
  have e66:a_.eval(.tmp 66)=_:=hk 66 rfl
  clear hk
  have f65:=jz.trans e65
  have f66:=jz.trans e66
  go_simp
  refine(F_t.out _(P6.out w_(Ext.trans(Ext.refl _).drew hR)).2.2.2.2.2.2.2.2.2.2.2.2.2.2).mono ?_
  rintro e_ w2_⟨rfl,x_⟩
  exact hK1.out _ _ x_ rfl
 refine jx _ rfl(fun u _=>u= .agg(jb vi).toArray)(d:=69)rfl(fun _ _ _ h _=>h)rfl ?_ ?_
 ·intro a_ w_ hev hR hk K1 hK1
  have e64:a_.eval(.tmp 64)=_:=hk 64 rfl
  have e67:a_.eval(.tmp 67)=_:=hk 67 rfl
  clear hk
  have f64:=jz.trans e64
  have f67:=jz.trans e67
  go_simp
  refine(F_i.out _(P6.out w_(Ext.trans(Ext.refl _).drew hR)).2.2.2.2.2.2.2.2.2.2.2.2.2.2).mono ?_
  rintro e_ w2_⟨rfl,x_⟩
  exact hK1.out _ _ x_ rfl
 refine jx _ rfl(fun u _=>u= .agg(jb vr3).toArray)(d:=70)rfl(fun _ _ _ h _=>h)rfl ?_ ?_
 ·intro a_ w_ hev hR hk K1 hK1
  have e63:a_.eval(.tmp 63)=_:=hk 63 rfl
  have e68:a_.eval(.tmp 68)=_:=hk 68 rfl
  clear hk
  have f63:=jz.trans e63
  have f68:=jz.trans e68
  go_simp
  refine(F_r3.out _(P6.out w_(Ext.trans(Ext.refl _).drew hR)).2.2.2.2.2.2.2.2.2.2.2.2.2.2).mono ?_
  rintro e_ w2_⟨rfl,x_⟩
  exact hK1.out _ _ x_ rfl
 refine jl(fun _=>Ext.refl _)_ rfl(v:= .agg(jb vx).toArray)(d:=71)rfl rfl ?_ ?_
 ·intro a_ w_ hev hR hk
  have e3:a_.eval(.tmp 3)=_:=hk 3 rfl
  exact(jd rfl e3(P6.out w_(Ext.trans(Ext.refl _).drew hR)).2.1 rfl rfl(by rw [S_vx];rfl))
 refine jl(fun _=>Ext.refl _)_ rfl(v:= .agg(jb vn).toArray)(d:=72)rfl rfl ?_ ?_
 ·intro a_ w_ hev hR hk
  have e15:a_.eval(.tmp 15)=_:=hk 15 rfl
  exact(jd rfl e15(P6.out w_(Ext.trans(Ext.refl _).drew hR)).2.2.2.2.2.2.2.2.2.2.2.2.2.1 rfl rfl(by rw [S_vn];rfl))
 refine jx _ rfl(fun u _=>u= .agg(jb vj).toArray)(d:=73)rfl(fun _ _ _ h _=>h)rfl ?_ ?_
 ·intro a_ w_ hev hR hk K1 hK1
  have e70:a_.eval(.tmp 70)=_:=hk 70 rfl
  have e71:a_.eval(.tmp 71)=_:=hk 71 rfl
  clear hk
  have f70:=jz.trans e70
  have f71:=jz.trans e71
  go_simp
  refine(F_j.out _(P6.out w_(Ext.trans(Ext.refl _).drew hR)).2.2.2.2.2.2.2.2.2.2.2.2.2.2).mono ?_
  rintro e_ w2_⟨rfl,x_⟩
  exact hK1.out _ _ x_ rfl
 refine jl(fun _=>Ext.refl _)_ rfl(v:= .agg(jb vn).toArray)(d:=74)rfl rfl ?_ ?_
 ·intro a_ w_ hev hR hk
  have e15:a_.eval(.tmp 15)=_:=hk 15 rfl
  exact(jd rfl e15(P6.out w_(Ext.trans(Ext.refl _).drew hR)).2.2.2.2.2.2.2.2.2.2.2.2.2.1 rfl rfl(by rw [S_vn];rfl))
 refine jx _ rfl(fun u _=>u= .agg(jb vr4).toArray)(d:=75)rfl(fun _ _ _ h _=>h)rfl ?_ ?_
 ·intro a_ w_ hev hR hk K1 hK1
  have e72:a_.eval(.tmp 72)=_:=hk 72 rfl
  have e73:a_.eval(.tmp 73)=_:=hk 73 rfl
  clear hk
  have f72:=jz.trans e72
  have f73:=jz.trans e73
  go_simp
  refine(F_r4.out _(P6.out w_(Ext.trans(Ext.refl _).drew hR)).2.2.2.2.2.2.2.2.2.2.2.2.2.2).mono ?_
  rintro e_ w2_⟨rfl,x_⟩
  exact hK1.out _ _ x_ rfl
 refine jl(fun _=>Ext.refl _)_ rfl(v:= .agg(prC vr1 vr2 vr3 vr4).toArray)(d:=76)rfl rfl ?_ ?_
 ·intro a_ w_ hev hR hk
  have e59:a_.eval(.tmp 59)=_:=hk 59 rfl
  have e62:a_.eval(.tmp 62)=_:=hk 62 rfl
  have e69:a_.eval(.tmp 69)=_:=hk 69 rfl
  have e74:a_.eval(.tmp 74)=_:=hk 74 rfl
  exact(qe rfl(by simp only [List.map_toArray,List.map_cons,List.map_nil,e59,e62,e69,e74];exact hbp.out))
 intro v_ w6q hR hV_ hN_
 obtain⟨hv18,hv17,hv16,hv15,hv14,hv13,hv12,hv11,hv10,hv9,hv8,hv7,hv6,hv5,hv4,hv3,hv2,hv1,hv0,_⟩ :=hV_
 replace hv0:v_ 0=_:=hv0
 replace hv1:v_ 1=_:=hv1
 replace hv2:v_ 2=_:=hv2
 replace hv3:v_ 3=_:=hv3
 replace hv4:v_ 4=_:=hv4
 replace hv5:v_ 5=_:=hv5
 replace hv6:v_ 6=_:=hv6
 replace hv7:v_ 7=_:=hv7
 replace hv8:v_ 8=_:=hv8
 replace hv9:v_ 9=_:=hv9
 replace hv10:v_ 10=_:=hv10
 replace hv11:v_ 11=_:=hv11
 replace hv12:v_ 12=_:=hv12
 replace hv13:v_ 13=_:=hv13
 replace hv14:v_ 14=_:=hv14
 replace hv15:v_ 15=_:=hv15
 replace hv16:v_ 16=_:=hv16
 replace hv17:v_ 17=_:=hv17
 replace hv18:v_ 18=_:=hv18
 dsimp only [yP,zu]
 clear hN_
 rw [hv0,hv1,hv2,hv3,hv4,hv5,hv6,hv7,hv8,hv9,hv10,hv11,hv12,hv13,hv14,hv15,hv16,hv17,hv18]
 go_frame
 clear hv0 hv1 hv2 hv3 hv4 hv5 hv6 hv7 hv8 hv9 hv10 hv11 hv12 hv13 hv14 hv15 hv16 hv17 hv18
 refine qi(z:=19)_ rfl rfl(by kernel_rfl)?_
 intro K1 hK1
 refine wp_store_row _ _ _ rfl(w.heap.size+1+1)(prC vr1 vr2 vr3 vr4).toArray rfl rfl 238(prC zs zs zs zs).toArray((P6.out _((Ext.refl _).drew.trans hR)).2.2.1).1(by rw [(show(prC vr1 vr2 vr3 vr4).toArray.size=32 from qT hout)];rfl)(by rw [(show(prC vr1 vr2 vr3 vr4).toArray.size=32 from qT hout),S_zz])(prC_one _ _ _ _)?_
 refine hK1.out _ _ ?_
 clear hK1 K1
 refine qQ(by kernel_rfl)?_
 have EX:=hd((P6.out _((Ext.refl _).drew.trans hR)).2.2.2.2.2.2.2.2.2.2.2.2.2.2)
 have kr:=hd(((P6.out _((Ext.refl _).drew.trans hR)).2.2.1).1)
 clear P6 hR
 go_wp2_with fail
 (try simp only [Exit.inBlock,Exit.then])
 refine bodyPost_ret(results_cell_row rfl _ _(w.heap.size+1+1)238(prC vr1 vr2 vr3 vr4).toArray(0,0)_ rfl(setRow_heap _ _ _ _ _ _ kr.out)rfl rfl(by rw [S_out];rfl))rfl ?_
 exact⟨by rw [HR2.out()],below_setRow EX.out(by omega)_⟩
def Kb(w:World)(g:Nat)(xs:List UInt8):Prop:=w.heap[g]? =some(.cells(cellsOf xs).toArray 22(0,0))∧xs.length=32
section
variable{w w':World}{g:Nat}{xs:List UInt8}
theorem Kb.lt(h:Kb w g xs):g < w.heap.size:=jh h.1
theorem Kb.kept{B:Nat}(h:Kb w g xs)(e:Below B w w')(hB:g < B):Kb w' g xs:=⟨(e.block g hB).trans h.1,h.2⟩
theorem Kb.cell(h:Kb w g xs){j:Nat}(hj:j < 32):w.cell?⟨g,j,none⟩=some(.int .u8(bt xs j:Int)):=by
 rw [cell_of_row w g j _ _ _ h.1]
 have:=jZ(xs:=xs)(j:=j)(by rw [h.2];exact hj)
 simpa using this
theorem Kb.frozen(h:Kb w g xs)(j:Nat):w.frozen?⟨g,j,none⟩=false:=frozen_of_row w g j _ _ h.1
theorem Kb.set(h:Kb w g xs){j x:Nat}(hj:j < 32)(hx:x < 256):Kb(w.setCell⟨g,j,none⟩(.int .u8(x:Int)))g(xs.set j(UInt8.ofNat x)):=by
 refine⟨?_,by rw [List.length_set];exact h.2⟩
 have hc:(cellsOf xs).set j(.int .u8(x:Int))=cellsOf(xs.set j(UInt8.ofNat x)):=by
  rw [qp,qp,List.map_set]
  congr 2
  simp
  omega
 rw [setCell_eq_setRow w g j _ _(0,0)_ h.1,setRow_heap w g _ _ _ _ h.1,← hc]
 simp
end
def scL(ks:List UInt8):List UInt8:=((ks.set 0(UInt8.ofNat(bt ks 0 / 8 *8))).set 31(UInt8.ofNat(bt ks 31 % 128))).set 31(UInt8.ofNat(bt ks 31 % 64+64))
theorem jfV{ks:List UInt8}(h:ks.length=32):(scL ks).length=32:=by simp [scL,h]
theorem Qz{xs:List UInt8}{i j x:Nat}(hi:i < xs.length)(hx:x < 256):bt(xs.set i(UInt8.ofNat x))j=if j=i then x else bt xs j:=by
 unfold bt
 by_cases e:j=i
 ·subst e;simp [List.getD,hi];omega
 ·rw [if_neg e];simp [List.getD,List.getElem?_set,show ¬ i=j from fun q=>e q.symm]
theorem jka{ks:List UInt8}(h:ks.length=32)(j:Nat):bt(scL ks)j=if j=31 then bt ks 31 % 64+64 else if j=0 then bt ks 0 / 8 *8 else bt ks j:=by
 have b0:=vJ ks 0
 unfold scL
 rw [Qz(by simp [h])(by omega),Qz(by simp [h])(by omega),bt_set7(by simp [h])(by omega)]
 by_cases e:j=31
 ·rw [if_pos e,if_pos e]
 ·rw [if_neg e,if_neg e,if_neg e]
theorem jmd:∀x,x < 256→∀i,i < 8→(x / 8 *8) / 2 ^ i % 2=if i < 3 then 0 else x / 2 ^ i % 2:=by decide +kernel
theorem jmj:∀x,x < 256→∀i,i < 7→(x % 64+64) / 2 ^ i % 2=if i=6 then 1 else x / 2 ^ i % 2:=by decide +kernel
theorem jiV{ks:List UInt8}(h:ks.length=32){i:Nat}(hi:i≤254):bt(scL ks)(i / 8) / 2 ^(i % 8)% 2=if yj ks i then 1 else 0:=by
 have hm:=Nat.mod_lt i(show 0 < 8 by decide)
 have hd:=Nat.div_add_mod i 8
 rw [jka h]
 have key:∀n:Nat,n % 2=if decide(n % 2=1)=true then 1 else 0:=fun n=>by
  rcases Nat.mod_two_eq_zero_or_one n with q |q <;> simp [q]
 have hB: ¬(i < 3∨i=255)→¬ i=254→yj ks i=decide(bt ks(i / 8) / 2 ^(i % 8)% 2=1):=fun a b=>by unfold yj;rw [if_neg a,if_neg b]
 by_cases e:i / 8=31
 ·rw [if_pos e,jmj _(vJ ks 31)_(by omega)]
  by_cases e6:i % 8=6
  ·have:yj ks i=true:=by unfold yj;rw [if_neg(by omega),if_pos(by omega)]
   rw [if_pos e6,this];rfl
  ·rw [if_neg e6,hB(by omega)(by omega),e]
   exact key _
 ·rw [if_neg e]
  by_cases e0:i / 8=0
  ·rw [if_pos e0,jmd _(vJ ks 0)_ hm]
   by_cases e3:i % 8 < 3
   ·have:bitB ks i=false:=by unfold yj;rw [if_pos(by omega)]
    rw [if_pos e3,this];rfl
   ·rw [if_neg e3,hB(by omega)(by omega),e0]
    exact key _
  ·rw [if_neg e0,hB(by omega)(by omega)]
   exact key _
theorem jj9:∀x,x < 256→x &&& 248=x / 8 *8:=by decide +kernel
theorem jj8:∀x,x < 256→x &&& 127=x % 128:=by decide +kernel
theorem jmg:∀x,x < 256→(x % 128)||| 64=x % 64+64:=by decide +kernel
theorem jde(w:World):(zeroValue 22).run Tryz.prog w= .ok(.agg(cellsOf(List.replicate 32 0)).toArray)w:=by kernel_rfl
set_option maxHeartbeats 2000000 in
theorem jcF{ks:List UInt8}{w:World}(hk:ks.length=32):
  Calls Tryz.prog 137 #[.agg(cellsOf ks).toArray] w fun e w'=>e= .returned(.agg(cellsOf(scL ks)).toArray)∧Ext w w':=by
 have b0:=vJ ks 0
 have b31:=vJ ks 31
 obtain⟨x,hx⟩:∃x,x=bt ks 0 / 8 *8:=⟨_,rfl⟩
 obtain⟨y,hy⟩:∃y,y=bt ks 31 % 128:=⟨_,rfl⟩
 obtain⟨z,hz⟩:∃z,z=bt ks 31 % 64+64:=⟨_,rfl⟩
 have x8:x < 256:=by omega
 have y8:y < 256:=by omega
 have z8:z < 256:=by omega
 have q1:bits .andNot .u8(bt ks 0:Int)7=(x:Int):=by
  have:=u8_andNot_nat(bt ks 0)7 b0(by omega)
  rw [show((7:Nat):Int)=7 from rfl] at this
  rw [this,hx,← jj9 _ b0]
 have q2:bits .andNot .u8(bt ks 31:Int)128=(y:Int):=by
  have:=u8_andNot_nat(bt ks 31)128 b31(by omega)
  rw [show((128:Nat):Int)=128 from rfl] at this
  rw [this,hy,← jj8 _ b31]
 have q3:bits .or .u8(y:Int)64=(z:Int):=by
  have:=u8_or_nat y 64 y8(by omega)
  rw [show((64:Nat):Int)=64 from rfl] at this
  rw [this,hz,hy,← jmg _ b31]
 have hsc:Hid(scL ks=((ks.set 0(UInt8.ofNat x)).set 31(UInt8.ofNat y)).set 31(UInt8.ofNat z)):=by unfold Hid;rw [hx,hy,hz];rfl
 have hb31:Hid(bt(ks.set 0(UInt8.ofNat x))31=bt ks 31):=by unfold Hid;rw [Qz(by omega)x8];rfl
 have hby:Hid(bt((ks.set 0(UInt8.ofNat x)).set 31(UInt8.ofNat y))31=y):=by unfold Hid;rw [Qz(by simp [hk])y8];rfl
 clear hx hy hz
 have hal:=j2
 have hal2:=jde
 have zl:(List.replicate 32(0:UInt8)).length=32:=rfl
 generalize List.replicate 32(0:UInt8)=zs at *
 have ZS:(cellsOf zs).toArray.size=32:=by simp [cellsOf_len,zl]
 have KS:(cellsOf ks).toArray.size=32:=by simp [cellsOf_len,hk]
 have K1:=ji ks
 have B0:Hid(Ky(((w.alloc(Obj.cells(cellsOf ks).toArray 23)).alloc(Obj.cells(cellsOf zs).toArray 22)).alloc(Obj.cells(cellsOf zs).toArray 22))w.heap.size ks∧Kb(((w.alloc(Obj.cells(cellsOf ks).toArray 23)).alloc(Obj.cells(cellsOf zs).toArray 22)).alloc(Obj.cells(cellsOf zs).toArray 22))(w.heap.size+1)zs∧Kb(((w.alloc(Obj.cells(cellsOf ks).toArray 23)).alloc(Obj.cells(cellsOf zs).toArray 22)).alloc(Obj.cells(cellsOf zs).toArray 22))(w.heap.size+1+1)zs∧Ext w(((w.alloc(Obj.cells(cellsOf ks).toArray 23)).alloc(Obj.cells(cellsOf zs).toArray 22)).alloc(Obj.cells(cellsOf zs).toArray 22))):=⟨⟨heap_alloc30 _ _ _ _,hk⟩,⟨jH _ _ _ _,zl⟩,⟨jB _ _ _ _,zl⟩,(((Ext.refl w).alloc _).alloc _).alloc _⟩
 have A0:Hid((w.alloc(Obj.cells(cellsOf ks).toArray 23)).heap[w.heap.size]? =some(.cells(cellsOf ks).toArray 23(0,0))∧((w.alloc(Obj.cells(cellsOf ks).toArray 23)).alloc(Obj.cells(cellsOf zs).toArray 22)).heap[w.heap.size]? =some(.cells(cellsOf ks).toArray 23(0,0))):=⟨heap_alloc_new _ _,jQ _ _ _⟩
 go_enter Tryz.func137,Tryz.ntmps137
 go_upto_region 2 with(first
  |(refine wpList_load_row rfl 23 _ rfl w.heap.size rfl 23(cellsOf ks).toArray(0,0)_ A0.out.2 rfl rfl(by rw [KS];rfl)?_;go_frame)
  |(refine wpList_store_row rfl 22 _ _ rfl(w.heap.size+1+1)(cellsOf ks).toArray rfl rfl 22 _ B0.out.2.2.1.1(by rw [KS];rfl)(by rw [KS,ZS])K1 ?_;go_frame))
 refine jg(fun W=>Kb W(w.heap.size+1)zs∧Kb W(w.heap.size+1+1)ks∧Ext w W)⟨⟨(setRow_other _ _ _ _(by omega)).trans B0.out.2.1.1,zl⟩,⟨setRow_heap _ _ _ _ _ _ B0.out.2.2.1.1,hk⟩,below_setRow B0.out.2.2.2(by omega)_⟩?_
 clear A0 B0
 rintro w1⟨k1,k2,e0⟩
 have c0:=k2.cell(j:=0)(by omega)
 have f0:=k2.frozen 0
 have n1:=k2.set(j:=0)(x:=x)(by omega)x8
 have c1:=n1.cell(j:=31)(by omega)
 rw [hb31.out] at c1
 have f1:=n1.frozen 31
 have n2:=n1.set(j:=31)(x:=y)(by omega)y8
 have c2:=n2.cell(j:=31)(by omega)
 rw [hby.out] at c2
 have f2:=n2.frozen 31
 have n3:=n2.set(j:=31)(x:=z)(by omega)z8
 rw [← hsc.out] at n3
 have RS:(cellsOf(scL ks)).toArray.size=32:=by simp [ja,jfV hk]
 have R1:=ji(scL ks)
 have gne:Hid(¬ w.heap.size+1=w.heap.size+1+1):=by unfold Hid;omega
 have kk:Hid(Kb(((w1.setCell⟨w.heap.size+1+1,0,none⟩(.int .u8(x:Int))).setCell⟨w.heap.size+1+1,31,none⟩(.int .u8(y:Int))).setCell⟨w.heap.size+1+1,31,none⟩(.int .u8(z:Int)))(w.heap.size+1)zs∧Kb(((w1.setCell⟨w.heap.size+1+1,0,none⟩(.int .u8(x:Int))).setCell⟨w.heap.size+1+1,31,none⟩(.int .u8(y:Int))).setCell⟨w.heap.size+1+1,31,none⟩(.int .u8(z:Int)))(w.heap.size+1+1)(scL ks)∧Ext w(((w1.setCell⟨w.heap.size+1+1,0,none⟩(.int .u8(x:Int))).setCell⟨w.heap.size+1+1,31,none⟩(.int .u8(y:Int))).setCell⟨w.heap.size+1+1,31,none⟩(.int .u8(z:Int)))):=
  ⟨⟨(Below.heap_setCell _ _ _ _ gne.out).trans((Below.heap_setCell _ _ _ _ gne.out).trans((Below.heap_setCell _ _ _ _ gne.out).trans k1.1)),zl⟩,n3,Ext.setCell(Ext.setCell(Ext.setCell e0(show w.heap.size≤w.heap.size+1+1 by omega)_)(show w.heap.size≤w.heap.size+1+1 by omega)_)(show w.heap.size≤w.heap.size+1+1 by omega)_⟩
 replace k1:=hd k1
 clear n1 n2 n3 e0 k2 k1
 clear hsc hb31 hby gne
 obtain⟨rs,hrs⟩:∃rs,rs=scL ks:=⟨_,rfl⟩
 rw [← hrs] at kk RS R1
 replace hrs:=hd(fun _:Unit=>hrs)
 generalize bt ks 0=v0 at *
 generalize bt ks 31=v31 at *
 go_upto_region 5 with fail
 refine jg(fun W=>Kb W(w.heap.size+1)zs∧Kb W(w.heap.size+1+1)rs∧Ext w W)kk.out ?_
 clear kk c0 c1 c2 f0 f1 f2 q1 q2 q3
 rintro w2⟨k1,k2,e0⟩
 go_wp2_with(first
  |(refine wpList_load_row rfl 22 _ rfl(w.heap.size+1+1)rfl 22(cellsOf rs).toArray(0,0)_ k2.1 rfl rfl(by rw [RS];rfl)?_;go_frame)
  |(refine wpList_store_row rfl 22 _ _ rfl(w.heap.size+1)(cellsOf rs).toArray rfl rfl 22 _ k1.1(by rw [RS];rfl)(by rw [RS,ZS])R1 ?_;go_frame))
 (try simp only [Exit.inBlock,Exit.then])
 refine bodyPost_ret(results_cell_row rfl _ _(w.heap.size+1)22(cellsOf rs).toArray(0,0)_ rfl(setRow_heap _ _ _ _ _ _ k1.1)rfl rfl(by rw [RS];rfl))rfl ?_
 exact⟨by rw [hrs.out()],below_setRow e0(by omega)_⟩
theorem jge{pl:Nat→Option(Nat×Nat)}(q0:pl 0=some(0,8))(q1:pl 1=some(8,8))(q3:pl 3=some(24,8)){K L M Z:Array Value}(s1:K.size=8)(s2:L.size=8)(s4:M.size=8)(sz:Z.size=32):
  ∃r,Instr.fill pl Z [(0, .agg K),(1, .agg L),(3, .agg M)]=some r∧r.size=32∧∀k,r[k]? =if 24≤k∧k < 32 then M[k - 24]? else if 8≤k∧k < 16 then L[k - 8]? else if k < 8 then K[k]? else Z[k]?:=by
 have c1:(Value.agg K).cells=K:=rfl
 have c2:(Value.agg L).cells=L:=rfl
 have c4:(Value.agg M).cells=M:=rfl
 obtain⟨g1,g2⟩ :=Great.foldl_set 0 K.toList 0 Z
 obtain⟨g3,g4⟩ :=Great.foldl_set 8 L.toList 0((K.toList.zipIdx 0).foldl(fun cs(x:Value×Nat) =>cs.setIfInBounds(0+x.2)x.1)Z)
 obtain⟨g5,g6⟩ :=Great.foldl_set 24 M.toList 0((L.toList.zipIdx 0).foldl(fun cs(x:Value×Nat) =>cs.setIfInBounds(8+x.2)x.1)((K.toList.zipIdx 0).foldl(fun cs(x:Value×Nat) =>cs.setIfInBounds(0+x.2)x.1)Z))
 rw [← vA,← vA,← vA] at g5 g6
 rw [← vA,← vA] at g3 g4
 rw [← vA] at g1 g2
 refine⟨_,?_,g5.trans(g3.trans(g1.trans sz)),fun k=> ?_⟩
 ·unfold Instr.fill
  simp only [q0,c1,s1]
  rw [if_neg(by rw [sz];simp)]
  unfold Instr.fill
  simp only [q1,c2,s2]
  rw [if_neg(by rw [g1,sz];simp)]
  unfold Instr.fill
  simp only [q3,c4,s4]
  rw [if_neg(by rw [g3,g1,sz];simp)]
  rfl
 ·rw [g6 k,g4 k,g2 k,g3,g1,sz]
  simp only [Nat.add_zero,Nat.zero_add,Nat.zero_le,true_and,Array.length_toList,s1,s2,s4,Nat.sub_zero]
  by_cases k1:24≤k∧k < 32
  ·rw [if_pos⟨k1.1,by omega,by omega⟩,if_pos k1];simp
  ·rw [if_neg(by omega),if_neg k1]
   by_cases k2:8≤k∧k < 16
   ·rw [if_pos⟨k2.1,by omega,by omega⟩,if_pos k2];simp
   ·rw [if_neg(by omega),if_neg k2]
    by_cases k3:k < 8
    ·rw [if_pos⟨by omega,by omega⟩,if_pos k3];simp
    ·rw [if_neg(by omega),if_neg k3]
theorem jf9{a b d:List Nat}(la:a.length=8)(lb:b.length=8)(ld:d.length=8):Tryz.prog.built 238 [(0, .agg(jb a).toArray),(1, .agg(jb b).toArray),(3, .agg(jb d).toArray)]=some(prC a b zw8 d).toArray:=by
 have hb:∃pl:Nat→Option(Nat×Nat),(pl 0=some(0,8)∧pl 1=some(8,8)∧pl 2=some(16,8)∧pl 3=some(24,8))∧∀ps,Tryz.prog.built 238 ps=Instr.fill pl(prC zw8 zw8 zw8 zw8).toArray ps:=⟨(#[(0,8),(8,8),(16,8),(24,8)][·]?),⟨rfl,rfl,rfl,rfl⟩,fun ps=>by kernel_rfl⟩
 obtain⟨pl,⟨q0,q1,q2,q3⟩,hp⟩ :=hb
 have lz:zw8.length=8:=rfl
 generalize zw8=zs at *
 obtain⟨r,hr,hs,hk⟩ :=jge(Z:=(prC zs zs zs zs).toArray)q0 q1 q3(wcells_size la)(jf lb)(jf ld)(qT⟨lz,lz,lz,lz⟩)
 rw [hp,hr]
 congr 1
 apply Array.ext_getElem?
 intro k
 rw [hk k]
 have e1:(prC a b zs d).length=32:=qT⟨la,lb,lz,ld⟩
 have e2:(prC zs zs zs zs).length=32:=qT⟨lz,lz,lz,lz⟩
 simp only [List.getElem?_toArray]
 by_cases k1:k < 8
 ·rw [if_neg(by omega),if_neg(by omega),if_pos k1,prC,List.getElem?_append_left(by rw [j4 la];omega)]
 ·by_cases k2:k < 16
  ·rw [if_neg(by omega),if_pos(by omega),prC,List.getElem?_append_right(by rw [j4 la];omega),j4 la,List.getElem?_append_left(by rw [j4 lb];omega)]
  ·by_cases k3:k < 24
   ·rw [if_neg(by omega),if_neg(by omega),if_neg(by omega),prC,prC,List.getElem?_append_right(by rw [j4 lz];omega),j4 lz,List.getElem?_append_right(by rw [j4 lz];omega),j4 lz,List.getElem?_append_left(by rw [j4 lz];omega),
     List.getElem?_append_right(by rw [j4 la];omega),wc8' la,List.getElem?_append_right(by rw [j4 lb];omega),j4 lb,List.getElem?_append_left(by rw [j4 lz];omega)]
   ·by_cases k4:k < 32
    ·rw [if_pos(by omega),prC,List.getElem?_append_right(by rw [j4 la];omega),j4 la,List.getElem?_append_right(by rw [j4 lb];omega),wc8' lb,List.getElem?_append_right(by rw [j4 lz];omega),j4 lz]
     congr 1
    ·rw [if_neg(by omega),if_neg(by omega),if_neg(by omega),List.getElem?_eq_none(by omega),List.getElem?_eq_none(by omega)]
set_option maxHeartbeats 8000000 in
theorem jar{ks ps:List UInt8}{w:World}(hk:ks.length=32)(hp:ps.length=32){tg:TypeId×Nat×Nat}(hG:Gp w tg):
  Calls Tryz.prog 111 #[.agg(cellsOf ks).toArray, .agg(cellsOf ps).toArray] w fun e w'=>e= .returned(.agg(cellsOf(kL(jY ks(ofV ps)))).toArray)∧Ext w w':=by
 obtain⟨x,hx⟩:∃x,x=ofV ps:=⟨_,rfl⟩
 have xp:x < P25:=by rw [hx];exact jku ps
 rw [← hx]
 have OFA:Hid(∀W,Ext w W→Calls Tryz.prog 136 #[.agg(cellsOf ps).toArray] W fun e w'=>e= .returned(.agg(jb(lbs 8 x)).toArray)∧Ext W w'):=fun W e=>by rw [hx];exact jav hp(hG.ext e)
 have SCA:Hid(∀W,Ext w W→Calls Tryz.prog 137 #[.agg(cellsOf ks).toArray] W fun e w'=>e= .returned(.agg(cellsOf(scL ks)).toArray)∧Ext W w'):=fun W _=>jcF hk
 have ONE:Hid(∀W,Ext w W→Calls Tryz.prog 138 #[] W fun e w'=>e= .returned(.agg(jb(lbs 8 1)).toArray)∧Ext W w'):=fun W e=>jgx(hG.ext e)
 obtain⟨B,hB⟩:∃B:Nat→Bool,B=fun m=>yj ks(254 - m):=⟨_,rfl⟩
 obtain⟨S,hS⟩:∃S:Nat→StN,S=Zg x B:=⟨_,rfl⟩
 have SL:∀m,LtS(S m):=fun m=>by rw [hS];exact jcj xp B m
 have S1:∀m,S(m+1)=YM(B m)(yL x(YM(B m)(S m))):=fun m=>by rw [hS];rfl
 have BIT:Hid(∀m n:Nat,m+n=254→bt(scL ks)(n / 8) / 2 ^(n % 8)% 2=if B m then 1 else 0):=fun m n h=>by
  rw [jiV hk(by omega),hB]
  show _=if yj ks(254 - m)then 1 else 0
  rw [show 254 - m=n by omega]
 have RES:Hid(jY ks x=mulP(S 255).1(zK(S 255).2.2.1)):=by unfold Hid;rw [hS,hB];rfl
 have RL:multN ks x < P25:=yK ks x
 have S0:S 0=(1,x,0,1):=by rw [hS];rfl
 have STF:Hid(∀m W,Ext w W→B m=false→Calls Tryz.prog 140 #[.agg(prC(lbs 8(S m).1)(lbs 8(S m).2.1)(lbs 8(S m).2.2.1)(lbs 8(S m).2.2.2)).toArray, .agg(jb(lbs 8 x)).toArray] W fun e w' =>
   e= .returned(.agg(prC(lbs 8(S(m+1)).1)(lbs 8(S(m+1)).2.1)(lbs 8(S(m+1)).2.2.1)(lbs 8(S(m+1)).2.2.2)).toArray)∧Ext W w'):=fun m W e h=>by
  have:=ZQ(SL m)xp(hG.ext e)
  rw [S1 m,h]
  exact this
 have STT:Hid(∀m W,Ext w W→B m=true→Calls Tryz.prog 140 #[.agg(prC(lbs 8(S m).2.1)(lbs 8(S m).1)(lbs 8(S m).2.2.2)(lbs 8(S m).2.2.1)).toArray, .agg(jb(lbs 8 x)).toArray] W fun e w' =>
   e= .returned(.agg(prC(lbs 8(S(m+1)).2.1)(lbs 8(S(m+1)).1)(lbs 8(S(m+1)).2.2.2)(lbs 8(S(m+1)).2.2.1)).toArray)∧Ext W w'):=fun m W e h=>by
  have:=ZQ(s:=YM true(S m))(jaX(SL m))xp(hG.ext e)
  rw [S1 m,h]
  exact this
 have INV:Hid(∀W,Ext w W→Calls Tryz.prog 142 #[.agg(jb(lbs 8(S 255).2.2.1)).toArray] W fun e w'=>e= .returned(.agg(jb(lbs 8(zK(S 255).2.2.1))).toArray)∧Ext W w'):=fun W e=>jgl(SL 255).2.2.1(hG.ext e)
 have MUL:Hid(∀W,Ext w W→Calls Tryz.prog 141 #[.agg(jb(lbs 8(S 255).1)).toArray, .agg(jb(lbs 8(zK(S 255).2.2.1))).toArray] W fun e w'=>e= .returned(.agg(jb(lbs 8(jY ks x))).toArray)∧Ext W w'):=fun W e=>by
  rw [RES.out];exact qO(SL 255).1(ji6 _)(hG.ext e)
 have KEY_:Hid(∀W,Ext w W→Calls Tryz.prog 143 #[.agg(jb(lbs 8(jY ks x))).toArray] W fun e w'=>e= .returned(.agg(cellsOf(kL(jY ks x))).toArray)∧Ext W w'):=fun W e=>jeo
 clear RES RL S1 SL hS hx xp hG
 obtain⟨SA,hSA⟩:∃f:Nat→List Nat,f=fun m=>lbs 8(S m).1:=⟨_,rfl⟩
 obtain⟨SB,hSB⟩:∃f:Nat→List Nat,f=fun m=>lbs 8(S m).2.1:=⟨_,rfl⟩
 obtain⟨SC,hSC⟩:∃f:Nat→List Nat,f=fun m=>lbs 8(S m).2.2.1:=⟨_,rfl⟩
 obtain⟨SD,hSD⟩:∃f:Nat→List Nat,f=fun m=>lbs 8(S m).2.2.2:=⟨_,rfl⟩
 have hSA':∀m,lbs 8(S m).1=SA m:=fun m=>by rw [hSA]
 have hSB':∀m,lbs 8(S m).2.1=SB m:=fun m=>by rw [hSB]
 have hSC':∀m,lbs 8(S m).2.2.1=SC m:=fun m=>by rw [hSC]
 have hSD':∀m,lbs 8(S m).2.2.2=SD m:=fun m=>by rw [hSD]
 have I0:Hid(∀_:Unit,SA 0=lbs 8 1∧SB 0=lbs 8 x∧SC 0=zw8∧SD 0=lbs 8 1):=fun _=>by
  rw [hSA,hSB,hSC,hSD]
  exact⟨by show lbs 8(S 0).1=_;rw [S0],by show lbs 8(S 0).2.1=_;rw [S0],by show lbs 8(S 0).2.2.1=_;rw [S0];show lbs 8 0=zw8;decide,by show lbs 8(S 0).2.2.2=_;rw [S0]⟩
 have L8S:Hid(∀m,L8(SA m)(SB m)(SC m)(SD m)):=fun m=>by
  rw [← hSA' m,← hSB' m,← hSC' m,← hSD' m]
  exact⟨jq _ _,jq _ _,jq _ _,lbs_len _ _⟩
 simp only [hSA',hSB',hSC',hSD'] at STF STT INV MUL
 have L_va:(SA 255).length=8:=(L8S.out 255).1
 have L_vc:(SC 255).length=8:=(L8S.out 255).2.2.1
 clear hSA hSB hSC hSD hSA' hSB' hSC' hSD' S0 hB
 have L_vo:=jq 8 1
 have L_vx:=jq 8 x
 have L_vi:=jq 8(zK(S 255).2.2.1)
 have L_vm:=jq 8(jY ks x)
 have L_rk:=zw(jY ks x)
 have L_sl:=jfV hk
 generalize lbs 8(zK(S 255).2.2.1)=vi at *
 generalize lbs 8(jY ks x)=vm at *
 generalize kL(jY ks x)=rk at *
 generalize lbs 8 1=vo at *
 generalize lbs 8 x=vx at *
 generalize scL ks=sl at *
 have L_ks:=hk
 have L_ps:=hp
 clear S
 have S_vo:=jf L_vo
 have O_vo:=jo vo
 have C_vo:=j4 L_vo
 have S_vx:=jf L_vx
 have O_vx:=jo vx
 have C_vx:=j4 L_vx
 have S_vi:=jf L_vi
 have O_vi:=jo vi
 have C_vi:=j4 L_vi
 have S_vm:=jf L_vm
 have O_vm:=jo vm
 have C_vm:=j4 L_vm
 have S_rk:(cellsOf rk).toArray.size=32:=by simp [ja,L_rk]
 have O_rk:=ji rk
 have S_sl:(cellsOf sl).toArray.size=32:=by simp [ja,L_sl]
 have O_sl:=ji sl
 have S_ks:(cellsOf ks).toArray.size=32:=by simp [ja,L_ks]
 have O_ks:=ji ks
 have S_ps:(cellsOf ps).toArray.size=32:=by simp [ja,L_ps]
 have O_ps:=ji ps
 have hbp:=hd(jf9 L_vo L_vx L_vo)
 have hal2:=vp
 have hal9:=jaA
 have hal4:=jde
 have L_zs:zw8.length=8:=rfl
 have hal:∀w,(zeroValue 23).run Tryz.prog w= .ok(.agg(cellsOf(List.replicate 32 0)).toArray)w:=fun w=>by rw [jU];exact j2 w
 have L_zk:(List.replicate 32(0:UInt8)).length=32:=rfl
 generalize List.replicate 32(0:UInt8)=zk at *
 generalize zw8=zs at *
 have S_zs:=jf L_zs
 have S_zk:(cellsOf zk).toArray.size=32:=by simp [ja,L_zk]
 have hzz:L8 zs zs zs zs:=⟨L_zs,L_zs,L_zs,L_zs⟩
 have hin:L8 vo vx zs vo:=⟨L_vo,L_vx,L_zs,L_vo⟩
 have S_zz:(prC zs zs zs zs).toArray.size=32:=qT hzz
 have B0:Hid(∀s,Ext(((w.alloc(Obj.cells(cellsOf ks).toArray 23)).alloc(Obj.cells(cellsOf ps).toArray 23)).alloc(Obj.cells(cellsOf zk).toArray 23))s→Ky s w.heap.size ks∧Ky s(w.heap.size+1)ps∧Ky s(w.heap.size+1+1)zk∧Ext w s):=fun s e=>⟨Ky.ext⟨jF _ _ _ _,hk⟩e,Ky.ext⟨jH _ _ _ _,hp⟩e,Ky.ext⟨jB _ _ _ _,L_zk⟩e,((((Ext.refl w).alloc _).alloc _).alloc _).trans e⟩
 go_enter Tryz.func111,Tryz.ntmps111
 go_upto_region 1 with fail
 refine jg(fun W=>∀s,Ext W s→Ky s w.heap.size ks∧Ky s(w.heap.size+1)ps∧Ky s(w.heap.size+1+1)zk∧Ext w s)B0.out ?_
 clear B0
 rintro w0 P0
 replace P0:=hd P0
 have q0:=hd(P0.out _(Ext.refl _)).2.1
 go_wp2_with(refine vP rfl(jd rfl rfl q0.out.1 rfl rfl(by rw [S_ps];rfl))?_;go_frame)
 refine(OFA.out _(P0.out _(Ext.refl _)).2.2.2).mono ?_
 rintro e v_⟨rfl,e1⟩
 have a1:Hid((v_.alloc(Obj.cells(jb zs).toArray 233)).heap[v_.heap.size]? =some(.cells(jb zs).toArray 233(0,0))):=heap_alloc_new _ _
 have e5:Ext v_((v_.alloc(Obj.cells(jb zs).toArray 233)).setRow v_.heap.size(jb vx).toArray):=below_setRow((Ext.refl v_).alloc _)(Nat.le_refl _)_
 go_upto_region 2 with(refine wpList_store_row rfl 233 _ _ rfl v_.heap.size(jb vx).toArray rfl rfl 233 _ a1.out(by rw [S_vx];rfl)(by rw [S_vx,S_zs])O_vx ?_;go_frame)
 obtain⟨g1_s,hg_⟩:∃g,g=v_.heap.size:=⟨_,rfl⟩
 refine jg(fun W=>Ext w0 W∧Wr W g1_s 233 vx)⟨e1.trans e5,by rw [hg_];exact setRow_heap _ _ _ _ _ _ a1.out⟩?_
 rw [← hg_]
 clear hg_ a1 e5 e1 q0
 rintro w1⟨x_,k0⟩
 have P1:Hid(∀s,Ext w1 s→Ky s w.heap.size ks∧Ky s(w.heap.size+1)ps∧Ky s(w.heap.size+1+1)zk∧Wr s g1_s 233 vx∧Ext w s):=fun s e=>by
  obtain⟨p0,p1,p2,p3⟩ :=P0.out s(x_.trans e)
  exact⟨p0,p1,p2,k0.kept e k0.lt,p3⟩
 clear P0 x_ k0
 have q0:=hd(P1.out _(Ext.refl _)).1
 go_wp2_with(refine vP rfl(jd rfl rfl q0.out.1 rfl rfl(by rw [S_ks];rfl))?_;go_frame)
 refine(SCA.out _(P1.out _(Ext.refl _)).2.2.2.2).mono ?_
 rintro e v_⟨rfl,e1⟩
 have a1:Hid((v_.alloc(Obj.cells(cellsOf zk).toArray 22)).heap[v_.heap.size]? =some(.cells(cellsOf zk).toArray 22(0,0))):=heap_alloc_new _ _
 have e5:Ext v_((v_.alloc(Obj.cells(cellsOf zk).toArray 22)).setRow v_.heap.size(cellsOf sl).toArray):=below_setRow((Ext.refl v_).alloc _)(Nat.le_refl _)_
 go_upto_region 3 with(refine wpList_store_row rfl 22 _ _ rfl v_.heap.size(cellsOf sl).toArray rfl rfl 22 _ a1.out(by rw [S_sl];rfl)(by rw [S_sl,S_zk])O_sl ?_;go_frame)
 obtain⟨g2_s,hg_⟩:∃g,g=v_.heap.size:=⟨_,rfl⟩
 refine jg(fun W=>Ext w1 W∧Kb W g2_s sl)⟨e1.trans e5,⟨by rw [hg_];exact setRow_heap _ _ _ _ _ _ a1.out,L_sl⟩⟩?_
 rw [← hg_]
 clear hg_ a1 e5 e1 q0
 rintro w2⟨x_,k0⟩
 have P2:Hid(∀s,Ext w2 s→Ky s w.heap.size ks∧Ky s(w.heap.size+1)ps∧Ky s(w.heap.size+1+1)zk∧Wr s g1_s 233 vx∧Kb s g2_s sl∧Ext w s):=fun s e=>by
  obtain⟨p0,p1,p2,p3,p4⟩ :=P1.out s(x_.trans e)
  exact⟨p0,p1,p2,p3,k0.kept e k0.lt,p4⟩
 clear P1 x_ k0
 refine qgF(R:=Ext)Ext.refl(fun _ _ _=>Ext.trans) [0,1,2,3,4] [5] [0,0,1,7,0,31] [true,true,true,true,true,false] ?_
 refine jx _ rfl(fun u _=>u= .agg(jb vo).toArray)(d:=16)rfl(fun _ _ _ h _=>h)rfl ?_ ?_
 ·intro a_ w_ hev hR hk K1 hK1
  clear hk
  go_simp
  refine(ONE.out _(P2.out w_(Ext.trans(Ext.refl _).drew hR)).2.2.2.2.2).mono ?_
  rintro e_ w2_⟨rfl,x_⟩
  exact hK1.out _ _ x_ rfl
 refine jl(fun _=>Ext.refl _)_ rfl(v:= .agg(jb vx).toArray)(d:=17)rfl rfl ?_ ?_
 ·intro a_ w_ hev hR hk
  have e5:a_.eval(.tmp 5)=_:=hk 5 rfl
  exact(jd rfl e5(P2.out w_(Ext.trans(Ext.refl _).drew hR)).2.2.2.1 rfl rfl(by rw [S_vx];rfl))
 refine jx _ rfl(fun u _=>u= .agg(jb vo).toArray)(d:=18)rfl(fun _ _ _ h _=>h)rfl ?_ ?_
 ·intro a_ w_ hev hR hk K1 hK1
  clear hk
  go_simp
  refine(ONE.out _(P2.out w_(Ext.trans(Ext.refl _).drew hR)).2.2.2.2.2).mono ?_
  rintro e_ w2_⟨rfl,x_⟩
  exact hK1.out _ _ x_ rfl
 refine jl(fun _=>Ext.refl _)_ rfl(v:= .agg(prC vo vx zs vo).toArray)(d:=19)rfl rfl ?_ ?_
 ·intro a_ w_ hev hR hk
  have e15:a_.eval(.tmp 15)=_:=hk 15 rfl
  have e16:a_.eval(.tmp 16)=_:=hk 16 rfl
  have e17:a_.eval(.tmp 17)=_:=hk 17 rfl
  exact(qe rfl(by simp only [List.map_toArray,List.map_cons,List.map_nil,e15,e16,e17];exact hbp.out))
 refine qX _ rfl(fun u w_=>∃g,u= .pointer(some⟨g,0,none⟩)∧w2.drew.heap.size≤g∧w_.heap[g]? =some(.cells(prC zs zs zs zs).toArray 238(0,0)))(d:=8)rfl(fun _ _ _ h e=>by obtain⟨g,h1,h2,h3⟩ :=h;exact⟨g,h1,h2,(e.block g(jh h3)).trans h3⟩)rfl(by decide)(fun _ _ h=>by obtain⟨g,h1,h2,h3⟩ :=h;subst h1;exact⟨g,rfl,jh h3⟩)?_ ?_
 ·intro a_ w_ hev hR hk K1 hK1
  go_simp
  exact hK1.out _ _((Ext.refl _).alloc _)⟨_,rfl,hR.size,heap_alloc_new _ _⟩(fun _ q=>by cases q;exact Nat.le_refl _)
 intro v_ w2q hR hV_ hN_
 obtain⟨hv4,hv3,hv2,hv1,hv0,_⟩ :=hV_
 replace hv0:v_ 0=_:=hv0
 replace hv1:v_ 1=_:=hv1
 replace hv2:v_ 2=_:=hv2
 replace hv3:v_ 3=_:=hv3
 skip
 dsimp only [yP,zu]
 obtain⟨g_4,hv4,gb_4,gc_4⟩ :=hv4
 clear hN_
 rw [hv0,hv1,hv2,hv3,hv4]
 go_frame
 clear hv0 hv1 hv2 hv3 hv4
 refine qi(z:=5)_ rfl rfl(by kernel_rfl)?_
 intro K1 hK1
 refine wp_store_row _ _ _ rfl g_4(prC vo vx zs vo).toArray rfl rfl 238(prC zs zs zs zs).toArray gc_4(by rw [(show(prC vo vx zs vo).toArray.size=32 from qT hin)];rfl)(by rw [(show(prC vo vx zs vo).toArray.size=32 from qT hin),S_zz])(Z4 _ _ _ _)?_
 refine hK1.out _ _ ?_
 clear hK1 K1
 refine qQ(by kernel_rfl)?_
 refine ye(fun W=>Ext w2 W∧Pr W g_4 vo vx zs vo)⟨below_setRow((Ext.refl w2).drew.trans hR)gb_4 _,⟨setRow_heap _ _ _ _ _ _ gc_4,hin⟩⟩?_
 clear hR gc_4
 rintro w3⟨x_,kp⟩
 have zg:w2.heap.size≤g_4:=gb_4
 generalize g_4=g7 at *
 clear gb_4
 have P3:Hid(∀s,Below g7 w3 s→Ky s w.heap.size ks∧Ky s(w.heap.size+1)ps∧Ky s(w.heap.size+1+1)zk∧Wr s g1_s 233 vx∧Kb s g2_s sl∧Ext w s):=fun s e=>P2.out s(Below.trans x_(e.mono zg))
 have lw:w.heap.size+1+1 < g7:=Nat.lt_of_lt_of_le(jh(P2.out _(Ext.refl _)).2.2.1.1)zg
 clear P2 x_ zg
 replace kp:=hd kp
 go_wp2_with fail
 go_loopw [9](fun iv wr=>∃m:Nat,m≤255∧iv= .int .i64(254 - (m:Int))∧Below g7 w3 wr∧Pr wr g7(SA m)(SB m)(SC m)(SD m))(fun iv _=>(intOf iv+1).toNat)
 case atStart =>
  obtain⟨i1,i2,i3,i4⟩ :=I0.out()
  exact⟨0,Nat.zero_le _,rfl,Below.refl _ _,by rw [i1,i2,i3,i4];exact kp.out⟩
 case round =>
  clear I0 kp
  obtain⟨m,hm,rfl,hB,hw⟩ :=hrel
  by_cases hlt:m < 255
  ·obtain⟨n,hn⟩:∃n:Nat,m+n=254:=⟨254 - m,by omega⟩
   obtain⟨b,hb⟩:∃b:Int,b=254 - (m:Int):=⟨_,rfl⟩
   have hbn:b=(n:Int):=by omega
   rw [← hb]
   have hbn1:Hid(b - 1=254 - ((m+1:Nat):Int)):=by unfold Hid;omega
   have hme:Hid((b - 1+1).toNat < (b+1).toNat):=by unfold Hid;omega
   have b0:(0:Int)≤b:=by omega
   have b1:b≤254:=by omega
   have bw:IntKind.i64.wrap(b - 1)=b - 1:=IntWalk.i64_in _(by omega)
   obtain⟨q,hq⟩:∃q,q=n / 8:=⟨_,rfl⟩
   obtain⟨r,hr⟩:∃r,r=n % 8:=⟨_,rfl⟩
   have iq:b / 8=(q:Int):=by omega
   have ir:b % 8=(r:Int):=by omega
   have iq':Int.tdiv b 8=(q:Int):=by rw [Int.tdiv_eq_ediv_of_nonneg(by omega)];omega
   have ir':Int.tmod b 8=(r:Int):=by rw [Int.tmod_eq_emod_of_nonneg(by omega)];omega
   have q32:q < 32:=by omega
   have q32':(q:Int) < 32:=by omega
   have q0:(0:Int)≤(q:Int):=by omega
   have r8:(r:Int) < 8:=by omega
   have bb:=BIT.out m n hn
   rw [← hq,← hr] at bb
   have KC:Hid(∀s,Below g7 w3 s→s.cell?⟨g2_s,q,none⟩=some(.int .u8(bt sl q:Int))):=fun s e=>((P3.out s e).2.2.2.2.1).cell q32
   have c6:=KC.out _ hB
   have b256:=vJ sl q
   generalize bt sl q=u at *
   obtain⟨y,hy⟩:∃y,y=u / 2 ^ r:=⟨_,rfl⟩
   have y8:y < 256:=by rw [hy];exact Nat.lt_of_le_of_lt(Nat.div_le_self _ _)b256
   have s1:Op.shift .shr .u8(u:Int) .i64(r:Int)=pure(.int .u8(y:Int)):=by
    have:=shift_shr .u8 .i64(u:Int)(r:Int)(by omega)(by show(r:Int)≤8;omega)
    rw [this,hy]
    simp
   have s3:(u:Int) / 2 ^ r=(y:Int):=by rw [hy];simp
   obtain⟨t,ht⟩:∃t,t=y % 2:=⟨_,rfl⟩
   have s2:bits .and .u8(y:Int)1=(t:Int):=by
    have:=u8_and_nat y 1 y8(by omega)
    rw [show((1:Nat):Int)=1 from rfl] at this
    rw [this,ht,Nat.and_one_is_mod]
   rw [← hy,← ht] at bb
   have l8:=L8S.out m
   have l8':=L8S.out(m+1)
   have XW:Hid(Ext w wr):=(P3.out _ hB).2.2.2.2.2
   clear hn hb hbn hq hr hy ht y8 b256 KC BIT OFA SCA ONE INV MUL KEY_ L8S
   replace hB:=hd hB
   replace hw:=hd hw
   rcases Bool.eq_false_or_eq_true(B m)with hbt |hbt
   ·have ST:=hd(fun W e=>STT.out m W e hbt)
    rw [hbt] at bb
    have bb':Hid(t=1):=bb
    clear STT STF bb hbt
    obtain⟨na,hna⟩:∃z,z=SA(m+1):=⟨_,rfl⟩
    obtain⟨nb,hnb⟩:∃z,z=SB(m+1):=⟨_,rfl⟩
    obtain⟨nc,hnc⟩:∃z,z=SC(m+1):=⟨_,rfl⟩
    obtain⟨nd,hnd⟩:∃z,z=SD(m+1):=⟨_,rfl⟩
    rw [← hna,← hnb,← hnc,← hnd] at ST l8'
    have hNN:=hd(And.intro hna(And.intro hnb(And.intro hnc hnd)))
    clear hna hnb hnc hnd
    generalize SA m=sa at *
    generalize SB m=sb at *
    generalize SC m=sc at *
    generalize SD m=sd at *
    have SS:(prC sb sa sd sc).toArray.size=32:=qT⟨l8.2.1,l8.1,l8.2.2.2,l8.2.2.1⟩
    have l8n:L8 nb na nd nc:=⟨l8'.2.1,l8'.1,l8'.2.2.2,l8'.2.2.1⟩
    have SN:(prC nb na nd nc).toArray.size=32:=qT l8n
    have ON:=Z4 nb na nd nc
    go_wp2_with fail
    refine(jbx bb'.out hw.out).mono ?_
    rintro e w4⟨rfl,gr4,p4⟩
    have B4:Hid(Below g7 w3 w4):=Below.trans hB.out(Zx hw.out.lt gr4)
    have X4:Hid(Wr w4 g1_s 233 vx∧Ext w w4):=⟨(P3.out _ B4.out).2.2.2.1,(P3.out _ B4.out).2.2.2.2.2⟩
    replace p4:=hd p4
    clear hw hB XW gr4 c6
    go_wp2_with(first
     |(refine wpList_load_row rfl 238 _ rfl g7 rfl 238(prC sb sa sd sc).toArray(0,0)_ p4.out.1 rfl rfl(by rw [SS];rfl)?_;go_frame)
     |(refine wpList_load_row rfl 233 _ rfl g1_s rfl 233(jb vx).toArray(0,0)_ X4.out.1 rfl rfl(by rw [S_vx];rfl)?_;go_frame))
    refine(ST.out _ X4.out.2).mono ?_
    rintro e w5⟨rfl,e5⟩
    have p5:=hd(p4.out.kept e5 p4.out.lt)
    have B5:Hid(Below g7 w3 w5):=Below.trans B4.out(e5.mono(Nat.le_of_lt p4.out.lt))
    clear p4 B4 X4 e5
    go_upto_region 11 with(refine wpList_store_row rfl 238 _ _ rfl g7(prC nb na nd nc).toArray rfl rfl 238 _ p5.out.1(by rw [SN];rfl)(by rw [SN,SS])ON ?_;go_frame)
    refine jg(fun W=>Pr W g7 nb na nd nc∧Below g7 w3 W)⟨⟨setRow_heap _ _ _ _ _ _ p5.out.1,l8n⟩,below_setRow B5.out(Nat.le_refl _)_⟩?_
    clear p5 B5
    rintro w6⟨p6,B6⟩
    go_wp2_with fail
    refine(jbx bb'.out p6).mono ?_
    rintro e w7⟨rfl,gr7,p7⟩
    have B7:Hid(Below g7 w3 w7):=Below.trans B6(Zx p6.lt gr7)
    clear p6 B6 gr7
    replace p7:=hd p7
    go_wp2_with fail
    obtain⟨hna,hnb,hnc,hnd⟩ :=hNN.out
    exact⟨⟨m+1,by omega,by rw [← hbn1.out],B7.out,by rw [← hna,← hnb,← hnc,← hnd];exact p7.out⟩,by simp [intOf];omega⟩
   ·have ST:=hd(fun W e=>STF.out m W e hbt)
    rw [hbt] at bb
    have bb':Hid(t≠1):=by unfold Hid;rw [bb];decide
    clear STT STF bb hbt
    obtain⟨na,hna⟩:∃z,z=SA(m+1):=⟨_,rfl⟩
    obtain⟨nb,hnb⟩:∃z,z=SB(m+1):=⟨_,rfl⟩
    obtain⟨nc,hnc⟩:∃z,z=SC(m+1):=⟨_,rfl⟩
    obtain⟨nd,hnd⟩:∃z,z=SD(m+1):=⟨_,rfl⟩
    rw [← hna,← hnb,← hnc,← hnd] at ST l8'
    have hNN:=hd(And.intro hna(And.intro hnb(And.intro hnc hnd)))
    clear hna hnb hnc hnd
    generalize SA m=sa at *
    generalize SB m=sb at *
    generalize SC m=sc at *
    generalize SD m=sd at *
    have SS:(prC sa sb sc sd).toArray.size=32:=qT l8
    have SN:(prC na nb nc nd).toArray.size=32:=qT l8'
    have ON:=Z4 na nb nc nd
    go_wp2_with fail
    refine(jby bb'.out).mono ?_
    rintro e w4⟨rfl,rfl⟩
    have X4:Hid(Wr w4 g1_s 233 vx∧Ext w w4):=⟨(P3.out _ hB.out).2.2.2.1,XW.out⟩
    clear XW c6
    go_wp2_with(first
     |(refine wpList_load_row rfl 238 _ rfl g7 rfl 238(prC sa sb sc sd).toArray(0,0)_ hw.out.1 rfl rfl(by rw [SS];rfl)?_;go_frame)
     |(refine wpList_load_row rfl 233 _ rfl g1_s rfl 233(jb vx).toArray(0,0)_ X4.out.1 rfl rfl(by rw [S_vx];rfl)?_;go_frame))
    refine(ST.out _ X4.out.2).mono ?_
    rintro e w5⟨rfl,e5⟩
    have p5:=hd(hw.out.kept e5 hw.out.lt)
    have B5:Hid(Below g7 w3 w5):=Below.trans hB.out(e5.mono(Nat.le_of_lt hw.out.lt))
    clear hw hB X4 e5
    go_upto_region 11 with(refine wpList_store_row rfl 238 _ _ rfl g7(prC na nb nc nd).toArray rfl rfl 238 _ p5.out.1(by rw [SN];rfl)(by rw [SN,SS])ON ?_;go_frame)
    refine jg(fun W=>Pr W g7 na nb nc nd∧Below g7 w3 W)⟨⟨setRow_heap _ _ _ _ _ _ p5.out.1,l8'⟩,below_setRow B5.out(Nat.le_refl _)_⟩?_
    clear p5 B5
    rintro w6⟨p6,B6⟩
    go_wp2_with fail
    refine(jby bb'.out).mono ?_
    rintro e w7⟨rfl,rfl⟩
    replace p6:=hd p6
    replace B6:=hd B6
    go_wp2_with fail
    obtain⟨hna,hnb,hnc,hnd⟩ :=hNN.out
    exact⟨⟨m+1,by omega,by rw [← hbn1.out],B6.out,by rw [← hna,← hnb,← hnc,← hnd];exact p6.out⟩,by simp [intOf];omega⟩
  ·obtain rfl:m=255:=by omega
   clear STF STT BIT
   have P4:Hid(∀s,Ext wr s→Pr s g7(SA 255)(SB 255)(SC 255)(SD 255)∧Ky s(w.heap.size+1+1)zk∧Ext w s):=fun s e=>⟨hw.kept e hw.lt,(P3.out s(Below.trans hB(e.mono(Nat.le_of_lt hw.lt)))).2.2.1,(P3.out s(Below.trans hB(e.mono(Nat.le_of_lt hw.lt)))).2.2.2.2.2⟩
   clear P3 hB hw L8S
   have C_va:=j4 L_va
   have C_vc:=j4 L_vc
   generalize SA 255=va at *
   generalize SB 255=vb at *
   generalize SC 255=vc at *
   generalize SD 255=vd at *
   go_wp2_with fail
   refine qgF(R:=Ext)Ext.refl(fun _ _ _=>Ext.trans) [0,1,2,3,4,5,6] [7] [0,1,0,4,12,31,63,127] [true,true,true,true,true,true,true,false] ?_
   refine jl(fun _=>Ext.refl _)_ rfl(v:= ?_)(d:=42)rfl rfl ?_ ?_
   rotate_left
   ·intro a_ w_ hev hR hk
    have e7:a_.eval(.tmp 7)=_:=hk 7 rfl
    clear hk
    generalize a_.eval=ev at *
    obtain⟨hev1,hev2,hev3⟩ :=hev
    go_simp
    (try with_reducible rfl)
   refine jl(fun _=>Ext.refl _)_ rfl(v:= .agg(jb va).toArray)(d:=43)rfl rfl ?_ ?_
   ·intro a_ w_ hev hR hk
    have e41:a_.eval(.tmp 41)=_:=hk 41 rfl
    exact(jy rfl e41(P4.out w_(Ext.trans(Ext.refl _).drew hR)).1.at0 rfl rfl(by rw [C_va];rfl))
   refine jl(fun _=>Ext.refl _)_ rfl(v:= ?_)(d:=44)rfl rfl ?_ ?_
   rotate_left
   ·intro a_ w_ hev hR hk
    have e7:a_.eval(.tmp 7)=_:=hk 7 rfl
    clear hk
    generalize a_.eval=ev at *
    obtain⟨hev1,hev2,hev3⟩ :=hev
    go_simp
    (try with_reducible rfl)
   refine jl(fun _=>Ext.refl _)_ rfl(v:= .agg(jb vc).toArray)(d:=45)rfl rfl ?_ ?_
   ·intro a_ w_ hev hR hk
    have e43:a_.eval(.tmp 43)=_:=hk 43 rfl
    exact(jy rfl e43(P4.out w_(Ext.trans(Ext.refl _).drew hR)).1.at16 rfl rfl(by rw [C_vc];rfl))
   refine jx _ rfl(fun u _=>u= .agg(jb vi).toArray)(d:=46)rfl(fun _ _ _ h _=>h)rfl ?_ ?_
   ·intro a_ w_ hev hR hk K1 hK1
    have e44:a_.eval(.tmp 44)=_:=hk 44 rfl
    clear hk
    have f44:=jz.trans e44
    go_simp
    refine(INV.out _(P4.out w_(Ext.trans(Ext.refl _).drew hR)).2.2).mono ?_
    rintro e_ w2_⟨rfl,x_⟩
    exact hK1.out _ _ x_ rfl
   refine jx _ rfl(fun u _=>u= .agg(jb vm).toArray)(d:=47)rfl(fun _ _ _ h _=>h)rfl ?_ ?_
   ·intro a_ w_ hev hR hk K1 hK1
    have e42:a_.eval(.tmp 42)=_:=hk 42 rfl
    have e45:a_.eval(.tmp 45)=_:=hk 45 rfl
    clear hk
    have f42:=jz.trans e42
    have f45:=jz.trans e45
    go_simp
    refine(MUL.out _(P4.out w_(Ext.trans(Ext.refl _).drew hR)).2.2).mono ?_
    rintro e_ w2_⟨rfl,x_⟩
    exact hK1.out _ _ x_ rfl
   refine jx _ rfl(fun u _=>u= .agg(cellsOf rk).toArray)(d:=48)rfl(fun _ _ _ h _=>h)rfl ?_ ?_
   ·intro a_ w_ hev hR hk K1 hK1
    have e46:a_.eval(.tmp 46)=_:=hk 46 rfl
    clear hk
    have f46:=jz.trans e46
    go_simp
    refine(KEY_.out _(P4.out w_(Ext.trans(Ext.refl _).drew hR)).2.2).mono ?_
    rintro e_ w2_⟨rfl,x_⟩
    exact hK1.out _ _ x_ rfl
   intro v_ w4q hR hV_ hN_
   obtain⟨hv6,hv5,hv4,hv3,hv2,hv1,hv0,_⟩ :=hV_
   replace hv0:v_ 0=_:=hv0
   replace hv1:v_ 1=_:=hv1
   replace hv2:v_ 2=_:=hv2
   replace hv3:v_ 3=_:=hv3
   replace hv4:v_ 4=_:=hv4
   replace hv5:v_ 5=_:=hv5
   replace hv6:v_ 6=_:=hv6
   dsimp only [yP,zu]
   clear hN_
   rw [hv0,hv1,hv2,hv3,hv4,hv5,hv6]
   go_frame
   clear hv0 hv1 hv2 hv3 hv4 hv5 hv6
   refine qi(z:=7)_ rfl rfl(by kernel_rfl)?_
   intro K1 hK1
   refine wp_store_row _ _ _ rfl(w.heap.size+1+1)(cellsOf rk).toArray rfl rfl 23(cellsOf zk).toArray((P4.out _(Ext.trans(Ext.refl _).drew hR)).2.1).1(by rw [S_rk];rfl)(by rw [S_rk,S_zk])O_rk ?_
   refine hK1.out _ _ ?_
   clear hK1 K1
   refine qQ(by kernel_rfl)?_
   have EX:=hd((P4.out _(Ext.trans(Ext.refl _).drew hR)).2.2)
   have kr:=hd(((P4.out _(Ext.trans(Ext.refl _).drew hR)).2.1).1)
   clear P4 hR
   go_wp2_with fail
   (try simp only [Exit.inBlock,Exit.then])
   refine bodyPost_ret(results_cell_row rfl _ _(w.heap.size+1+1)23(cellsOf rk).toArray(0,0)_ rfl(setRow_heap _ _ _ _ _ _ kr.out)rfl rfl(by rw [S_rk];rfl))rfl ?_
   exact⟨rfl,below_setRow EX.out(by omega)_⟩
end
end Go.Proofs.YtakpgbaijkhpmaaGreatDoor
