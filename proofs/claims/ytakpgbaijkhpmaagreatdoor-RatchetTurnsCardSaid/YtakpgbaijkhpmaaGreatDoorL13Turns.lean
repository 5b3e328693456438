/- The law RatchetTurns. -/
import Derived.Test.YtakpgbaijkhpmaaGreatDoorPkAO
import Derived.Test.YtakpgbaijkhpmaaGreatDoorPkAH
import Derived.Test.YtakpgbaijkhpmaaGreatDoorPkAA
open Go renaming TypeId→joE,heap_alloc_new→jps,wpList_store_mid→joi,zeroValue→joK
open Go.Act renaming put→joT
open Go.IntWalk renaming i64_in→jp2
open Go.Proofs.Tryz renaming prog→joz,underlying23→jpF
open Go.Value renaming pointer→jon
open List renaming length_append→joI,length_set→jo7,length_take→jou,map_cons→jpC,map_nil→jpH,map_toArray→jpG,mem_cons→joG,not_mem_nil→jpB,replicate→jpp,size_toArray→jpw
open Nat renaming le_of_eq→jod,le_refl→joq,zero_le→jor
namespace Go.Proofs.YtakpgbaijkhpmaaGreatDoor
set_option maxHeartbeats 64000000
set_option linter.unusedSimpArgs false
set_option linter.unusedVariables false
open Go.ChangeShapes Go.WideShapes Go.ChangeAt Go.RowKit Go.Deep Go.Maps
set_option maxRecDepth 100000
def jn (q:Bool):Nat:=cond q 1 0
theorem jmv (q:Bool):jn q < 2:=by cases q <;> decide
theorem jmz (q:Bool):jn q+jn (!q)=1:=by cases q <;> rfl
def jms:List Value:= [.int .i64 0, .int .i64 0]
def jmn:List Value:=cellsOf (jpp 64 0)
theorem jmt (w:World):(joK 74).run joz w= .ok (.agg jms.toArray) w:=by kernel_rfl
theorem jmu:Tryz.prog.built 74 []=some jms.toArray:=by kernel_rfl
theorem jmp (w:World):(joK 75).run joz w= .ok (.agg jmn.toArray) w:=by kernel_rfl
theorem jmq:Tryz.prog.built 75 []=some jmn.toArray:=by kernel_rfl
theorem jmC (sp:Bool→Nat) (q:Bool): [jon (some ⟨sp false,0,none⟩), .pointer (some ⟨sp true,0,none⟩)][jn q]? =some (.pointer (some ⟨sp q,0,none⟩)):=by cases q <;> rfl
theorem jmE {L:List Value}(h:L.length=64) (q:Bool):∃ p y z,L=p++(y++z)∧p.length=jn q*32∧y.length=32∧p.length+z.length=32:=by
 have:=jmv q
 exact ⟨L.take (jn q*32),(L.drop (jn q*32)).take 32,(L.drop (jn q*32)).drop 32,by rw [List.take_append_drop,List.take_append_drop],by rw [jou];omega,by rw [jou,List.length_drop];omega,by rw [jou,List.length_drop,List.length_drop];omega⟩
theorem jmw {P:List Value}{q:Bool}{u v:Value}(h:P[jn q]? =some u):(P.set (jn (!q)) v)[jn q]? =some u:=by
 rw [List.getElem?_set_ne (fun e=>by have:=jmz q;have:=jmv q;omega)]
 exact h
theorem jmA {P:List Value}{q:Bool}{v:Value}(h:P.length=2):(P.set (jn q) v)[jn q]? =some v:=by
 rw [List.getElem?_set_self (by have:=jmv q;omega)]
theorem jmm {w:World}{shared:List UInt8}(lr:shared.length=32){A:Option Addr}{n c:Nat}{zs:List Int}(hz:Is w A n c zs){tg tp:joE×Nat×Nat}(hG:Gl w tg) (hP:Gp w tp):
 Calls joz 9 #[.agg (cellsOf shared).toArray, .slice A n c] w fun e w'=>e= .returned (.bool true)∧Ext w w':=by
 have AW:Hid (∀ W,Ext w W→Calls joz 15 #[] W fun e w'=>e= .returned (.bool true)∧Ext W w'):=fun W e=>jbd (hG.kept e hG.lt) (hP.ext e)
 have TW:Hid (∀ W,Ext w W→Calls joz 17 #[.agg (cellsOf shared).toArray] W fun e w'=>∃ sp gp lp:Bool→Nat,e= .returned (.agg #[.pointer (some ⟨sp false,0,none⟩), .pointer (some ⟨sp true,0,none⟩)])∧Tk shared w' sp gp lp false 0 0 0 [] 0 0 tg tp∧Ext W w'∧∀ q,(W.heap.size≤sp q∧sp q < w'.heap.size)∧W.heap.size≤gp q∧gp q < w'.heap.size):=fun W e=>jmD lr (hG.kept e hG.lt) (hP.ext e)
 have K_:(cellsOf shared).toArray.size=32:=by rw [jpw,ja,lr]
 have O_:Hid ((cellsOf shared).toArray.all (·.oneCell')=true):=qC (fun v hv=>JT _ _ hv)
 have YK:Hid (Cb (w.alloc (.cells (cellsOf shared).toArray 23)) w.heap.size 23 (cellsOf shared)):=Cb.new _ _ _
 generalize cellsOf shared=KL at *
 have xf:=hz.len
 have xf1:=hz.le
 have xf2:=hz.cap
 replace hz:=Hj hz
 clear hG hP lr
 have hal2:=JD
 obtain ⟨T0,hT0⟩:∃ x,x=jjJ:=⟨_,rfl⟩
 rw [←hT0] at hal2
 have S_T0:T0.toArray.size=2:=by rw [hT0];rfl
 clear hT0
 have hal:=Jp
 have L_hz:(hdC (jpp 32 0) 0 0).length=34:=yz rfl _ _
 generalize hdC (jpp 32 0) 0 0=ZH at *
 have S_hz:ZH.toArray.size=34:=by rw [jpw,L_hz]
 clear L_hz
 have hal3:=jmt
 have hal4:=jmp
 have B3:=Hj jmu
 have B4:=Hj jmq
 have L_3:jms.length=2:=rfl
 have L_4:jmn.length=64:=by unfold jmn;rw [ja];rfl
 have O_3:Hid (jms.toArray.all (·.oneCell')=true):=qC (fun v hv=>by simp only [jms,joG,jpB,or_false] at hv;rcases hv with rfl | rfl <;> rfl)
 have O_4:Hid (jmn.toArray.all (·.oneCell')=true):=qC (fun v hv=>JT _ _ hv)
 have P3:Hid (∀ q,jms[jn q]? =some (.int .i64 0)):=fun q=>by cases q <;> rfl
 generalize jms=Z2 at *
 generalize jmn=Z64 at *
 have S_3:Z2.toArray.size=2:=by rw [jpw,L_3]
 have S_4:Z64.toArray.size=64:=by rw [jpw,L_4]
 go_enter Tryz.func9,Tryz.ntmps9
 go_wp2_with fail
 refine (AW.out _ ((jnQ w).alloc _)).mono ?_
 rintro e w1 ⟨rfl,e1⟩
 have kk:=Hj (YK.out.ext e1)
 have X1:Hid (Ext w w1):=((jnQ w).alloc _).trans e1
 have sz1:=X1.out.size
 clear AW YK e1
 go_wp2_with (first | ((with_reducible refine js (o:=⟨some 19,_,_,_,_,_⟩) ?_ 23 _ rfl w.heap.size ?_ 23 KL.toArray (0,0) _ ?_ jpF ?_ ?_ ?_);(·rfl);(·rfl);(·exact kk.out);(·rfl);(·rw [K_];rfl);go_frame))
 refine (TW.out w1 X1.out).mono ?_
 rintro e w2 ⟨sp,gp,lp,rfl,D1,x2,SB⟩
 have ww2:=x2.size
 have X2:Hid (Ext w w2):=X1.out.trans x2
 have SL:Hid (∀ q,(w.heap.size≤sp q∧sp q < w2.heap.size)∧w.heap.size≤gp q∧gp q < w2.heap.size):=fun q=>by
  have:=SB q
  omega
 have OO:Hid (#[jon (some ⟨sp false,0,none⟩), .pointer (some ⟨sp true,0,none⟩)].all (·.oneCell')=true):=qC (L:= [jon (some ⟨sp false,0,none⟩), .pointer (some ⟨sp true,0,none⟩)]) (fun v hv=>by
  simp only [joG,jpB,or_false] at hv
  rcases hv with rfl | rfl <;> rfl)
 have Y:Hid (Cb ((w2.alloc (.cells T0.toArray 28)).setRow w2.heap.size #[.pointer (some ⟨sp false,0,none⟩), .pointer (some ⟨sp true,0,none⟩)]) w2.heap.size 28 [.pointer (some ⟨sp false,0,none⟩), .pointer (some ⟨sp true,0,none⟩)]∧Ext w2 ((w2.alloc (.cells T0.toArray 28)).setRow w2.heap.size #[.pointer (some ⟨sp false,0,none⟩), .pointer (some ⟨sp true,0,none⟩)])):=⟨Cb.set (Cb.new _ _ _),Ext.newRow _ _ _⟩
 replace D1:=Hj D1
 replace x2:=Hj x2
 clear TW kk X1 K_ O_ SB
 have PT:Hid (∀ q,[jon (some ⟨sp false,0,none⟩), .pointer (some ⟨sp true,0,none⟩)][jn q]? =some (.pointer (some ⟨sp q,0,none⟩))):=fun q=>jmC sp q
 go_upto_region 3 with (refine ws_ rfl 28 rfl w2.heap.size #[.pointer (some ⟨sp false,0,none⟩), .pointer (some ⟨sp true,0,none⟩)] rfl rfl (jps _ _) rfl (by rw [S_T0];rfl) OO.out ?_;simp only [joT])
 obtain ⟨r1,hr1⟩:∃ x,x=w2.heap.size:=⟨_,rfl⟩
 refine jg (fun W=>Cb W w2.heap.size 28 [.pointer (some ⟨sp false,0,none⟩), .pointer (some ⟨sp true,0,none⟩)]∧Ext w2 W) Y.out ?_
 rw [←hr1]
 have wr1:w2.heap.size≤r1:=jod hr1.symm
 clear Y
 replace hr1:=Hj hr1
 rintro w3 ⟨k1,x3⟩
 have c0:=k1.cell (j:=0) rfl
 have c1:=k1.cell (j:=1) rfl
 have k1l:=k1.lt
 generalize [jon (some ⟨sp false,0,none⟩), .pointer (some ⟨sp true,0,none⟩)]=SP at *
 have D3:Hid (Tk shared w3 sp gp lp false 0 0 0 [] 0 0 tg tp):=D1.out.ext x3
 have X3:Hid (Ext w w3):=X2.out.trans x3
 have sz3:=x3.size
 replace k1:=Hj k1
 clear D1 x2 x3 X2 OO
 by_cases h5:5 < n
 ·have u1:decide ((5:Int) < (n:Int))=true:=decide_eq_true (by omega)
  go_wp2_with fail
  go_ret
  exact ⟨rfl,X3.out⟩
 have u1:decide ((5:Int) < (n:Int))=false:=decide_eq_false (by omega)
 go_upto_region 5 with fail
 clear c0 c1
 have Y7:Hid (Cb ((w3.alloc (.cells Z2.toArray 74)).setRow w3.heap.size Z2.toArray) w3.heap.size 74 Z2∧Ext w3 ((w3.alloc (.cells Z2.toArray 74)).setRow w3.heap.size Z2.toArray)):=⟨Cb.set (Cb.new _ _ _),Ext.newRow _ _ _⟩
 have A7:Hid ((w3.alloc (.cells Z2.toArray 74)).heap[w3.heap.size]? =some (.cells Z2.toArray 74 (0,0))):=jps _ _
 go_upto_region 6 with (first
  | ((with_reducible refine jm (o:=⟨some 45, .build 74 _,_,_,_,_⟩) ?_ 74 _ rfl Z2.toArray ?_ ?_);(·rfl);(·simp only [jpG,jpC,jpH];exact B3.out);go_frame)
  | ((with_reducible refine wpList_store_row (o:=⟨none, .store 74 (.tmp 7) (.tmp 45),_,_,_,_⟩) ?_ 74 _ _ rfl w3.heap.size Z2.toArray ?_ ?_ 74 Z2.toArray ?_ ?_ ?_ ?_ ?_);(·rfl);(·rfl);(·rfl);(·exact A7.out);(·rw [S_3];rfl);(·rfl);(·exact O_3.out);go_frame))
 obtain ⟨r7,hr7⟩:∃ x,x=w3.heap.size:=⟨_,rfl⟩
 refine jg (fun W=>Cb W w3.heap.size 74 Z2∧Ext w3 W) Y7.out ?_
 rw [←hr7]
 have r7g:w3.heap.size≤r7:=jod hr7.symm
 clear Y7 A7 hr7
 rintro w4 ⟨k7,x4⟩
 have k7l:=k7.lt
 have sz4:=x4.size
 have Y8:Hid (Cb ((w4.alloc (.cells Z64.toArray 75)).setRow w4.heap.size Z64.toArray) w4.heap.size 75 Z64∧Ext w4 ((w4.alloc (.cells Z64.toArray 75)).setRow w4.heap.size Z64.toArray)):=⟨Cb.set (Cb.new _ _ _),Ext.newRow _ _ _⟩
 have A8:Hid ((w4.alloc (.cells Z64.toArray 75)).heap[w4.heap.size]? =some (.cells Z64.toArray 75 (0,0))):=jps _ _
 go_upto_region 7 with (first
  | ((with_reducible refine jm (o:=⟨some 46, .build 75 _,_,_,_,_⟩) ?_ 75 _ rfl Z64.toArray ?_ ?_);(·rfl);(·simp only [jpG,jpC,jpH];exact B4.out);go_frame)
  | ((with_reducible refine wpList_store_row (o:=⟨none, .store 75 (.tmp 8) (.tmp 46),_,_,_,_⟩) ?_ 75 _ _ rfl w4.heap.size Z64.toArray ?_ ?_ 75 Z64.toArray ?_ ?_ ?_ ?_ ?_);(·rfl);(·rfl);(·rfl);(·exact A8.out);(·rw [S_4];rfl);(·rfl);(·exact O_4.out);go_frame))
 obtain ⟨r8,hr8⟩:∃ x,x=w4.heap.size:=⟨_,rfl⟩
 refine jg (fun W=>Cb W w4.heap.size 75 Z64∧Ext w4 W) Y8.out ?_
 rw [←hr8]
 have r8g:w4.heap.size≤r8:=jod hr8.symm
 clear Y8 A8 hr8
 rintro w5 ⟨k8,x5⟩
 have k8l:=k8.lt
 have r78:r7 < r8:=by omega
 have D5:Hid (Tk shared w5 sp gp lp false 0 0 0 [] 0 0 tg tp):=D3.out.ext (x4.trans x5)
 have X5:Hid (Ext w w5):=X3.out.trans (x4.trans x5)
 have k15:=k1.out.ext (x4.trans x5)
 have k75:=k7.ext x5
 have p0:=P3.out false
 have p1:=P3.out true
 clear D3 X3 k1 k7 x4 x5 P3 B3 B4 O_3 O_4 hal2 hal3 hal4 S_3 S_4 S_T0 T0
 go_wp2_with fail
 go_loopw [9,10] (fun qv iv wr=>∃ (i m:Nat) (q:Bool) (pq po:Int) (pk:List UInt8) (P L:List Value),i≤n∧iv= .int .i64 (i:Int)∧qv= .int .i64 (jn q:Int)∧m≤4*i∧Tk shared wr sp gp lp q 0 pq po pk m i tg tp∧Cb wr r1 28 SP∧Cb wr r7 74 P∧P.length=2∧P[jn q]? =some (.int .i64 pq)∧P[jn (!q)]? =some (.int .i64 po)∧Cb wr r8 75 L∧L.length=64∧Ext w wr) (fun _ v _=>n - (intOf v).toNat)
 case atStart=>exact ⟨0,0,false,0,0,[],Z2,Z64,jor _,rfl,rfl,joq 0,D5.out,k15,k75,L_3,p0,p1,k8,L_4,X5.out⟩
 case round=>
  obtain ⟨i,m,q,pq,po,pk,P,L,hi,rfl,rfl,hm,T,kb,k7,lP,pp,pn,k8,lL,X⟩:=hrel
  clear D5 X5 k15 k75 p0 p1 L_3 L_4 k7l k8l
  have jq:=jmv q
  have jq':=jmz q
  have k7l:=k7.lt
  have k8l:=k8.lt
  have kbl:=kb.lt
  by_cases hlt:i < n
  ·have v1:decide ((i:Int) < (n:Int))=true:=decide_eq_true (by omega)
   obtain ⟨b,off,rfl,hbb,hbc⟩:=(hz.out.ext X).pos (by omega)
   obtain ⟨ci,ci1,ci2⟩:=hbc i hlt
   obtain ⟨a,ha,hab⟩:=jmF (jml zs i)
   have wa:IntKind.i64.wrap (1+(a:Int))=1+(a:Int):=jp2 _ (by omega)
   obtain ⟨N,hN⟩:∃ N:Nat,N=1+a:=⟨_,rfl⟩
   have hN':(1+(a:Int))=(N:Int):=by omega
   rw [hN'] at wa
   obtain ⟨p,y,z,hL,lp_,ly,lz⟩:=jmE lL q
   rw [hL] at k8
   clear hL lL hbc
   have ca:bits .and .i64 (jml zs i) 3=(a:Int):=hab
   replace hab:=Hj hab
   replace T:=Hj T
   replace hN:=Hj hN
   have C_y:y=y:=rfl
   clear ci1 ci2
   have cs:wr.cell? ⟨r1,jn q,none⟩=some (.pointer (some ⟨sp q,0,none⟩)):=kb.cell (PT.out q)
   go_upto_region 13 with fail
   go_loopw [12] (fun kv ws=>∃ (k m':Nat) (pk:List UInt8) (y:List Value),k≤N∧kv= .int .i64 (k:Int)∧m'≤4*i+k∧Tk shared ws sp gp lp q k pq po pk m' i tg tp∧Cb ws r1 28 SP∧Cb ws r7 74 P∧Cb ws r8 75 (p++(y++z))∧y.length=32∧(1≤k→y=cellsOf pk)∧Ext w ws) (fun v _=>N - (intOf v).toNat)
   case atStart=>exact ⟨0,m,pk,y,jor _,rfl,by omega,T.out,kb,k7,k8,ly,fun z=>by omega,X⟩
   case round=>
    clear kb k7 k8 T X ly
    obtain ⟨k,m',pk',y,hk,rfl,hm',T,kb,k7,k8,ly,hy,X⟩:=hrel
    have C_y:y.length=32:=ly
    have kbl:=kb.lt
    have k7l:=k7.lt
    have k8l:=k8.lt
    have SL1:=SL.out q
    have SL2:=SL.out (!q)
    have szX:=X.size
    by_cases hlk:k < N
    ·have v2:decide ((k:Int) < (N:Int))=true:=decide_eq_true (by omega)
     have hN4:=hN.out
     have SND:=Hj (jmy T (by omega) (by omega))
     have cs:wr.cell? ⟨r1,jn q,none⟩=some (.pointer (some ⟨sp q,0,none⟩)):=kb.cell (PT.out q)
     have jq2:((jn q:Nat):Int) < 2:=by omega
     replace kb:=Hj kb
     replace k7:=Hj k7
     replace k8:=Hj k8
     replace X:=Hj X
     clear T hN4
     go_wp2_with fail
     refine SND.out.mono ?_
     rintro e w6 ⟨pk2,A6,n6,c6,rfl,lpk,hpk,t6,RC⟩
     have k16:Cb w6 r1 28 SP:=t6.block kb.out (by omega) (by omega)
     have k76:Cb w6 r7 74 P:=t6.block k7.out (by omega) (by omega)
     have k86:Cb w6 r8 75 (p++(y++z)):=t6.block k8.out (by omega) (by omega)
     have X6:Hid (Ext w w6):=Two.ext X.out t6 (by omega) (by omega)
     have sz6:=t6.2.2.2.1
     obtain ⟨hd0,hd32,hd33⟩:=jc8 lpk pq (k:Int)
     have S_H:(hdC pk2 pq (k:Int)).toArray.size=34:=by rw [jpw,yz lpk]
     have O_H:Hid ((hdC pk2 pq (k:Int)).toArray.all (·.oneCell')=true):=YZ
     replace hd0:=Hj (fun _:Unit=>hd0)
     replace hd32:=Hj hd32
     replace hd33:=Hj hd33
     replace RC:=Hj RC
     generalize hdC pk2 pq (k:Int)=H at *
     have Y:Hid (Cb ((w6.alloc (.cells ZH.toArray 47)).setRow w6.heap.size H.toArray) w6.heap.size 47 H∧Ext w6 ((w6.alloc (.cells ZH.toArray 47)).setRow w6.heap.size H.toArray)):=⟨Cb.set (Cb.new _ _ _),Ext.newRow _ _ _⟩
     replace hpk:=Hj hpk
     clear SND t6 kb k7 k8 X cs
     go_upto_region 16 with (refine ws_ rfl 47 rfl w6.heap.size H.toArray rfl rfl (jps _ _) (by rw [S_H];rfl) (by rw [S_H,S_hz]) O_H.out ?_;simp only [joT])
     obtain ⟨r5,hr5⟩:∃ x,x=w6.heap.size:=⟨_,rfl⟩
     refine jg (fun W=>Cb W w6.heap.size 47 H∧Ext w6 W) Y.out ?_
     rw [←hr5]
     have r5g:w6.heap.size≤r5:=jod hr5.symm
     clear Y hr5
     rintro w7 ⟨k57,x7⟩
     have r5l:=k57.lt
     have P7:Hid (Cb w7.drew r1 28 SP∧Cb w7.drew r5 47 H∧Cb w7.drew r7 74 P∧Cb w7.drew r8 75 (p++(y++z))∧Ext w w7.drew):=
      have e:=(jnQ w7).drew
      ⟨k16.ext (x7.trans e),k57.ext e,k76.ext (x7.trans e),k86.ext (x7.trans e),X6.out.trans (x7.trans e)⟩
     have T3:Hid (∀ s,w7.drew.grownBy s (some (sp (!q)))→s.cell? ⟨r1,jn (!q),none⟩=some (.pointer (some ⟨sp (!q),0,none⟩))∧Cb s r5 47 H):=fun s e=>
      have t:=Two.of_grown (g':=sp (!q)) e
      ⟨Cb.cell (t.block P7.out.1 (by omega) (by omega):Cb s r1 28 SP) (PT.out (!q)),t.block P7.out.2.1 (by omega) (by omega)⟩
     have A2:=Hj (RC.out w7.drew (x7.trans (jnQ w7).drew))
     have sz7:=x7.size
     clear k16 k76 k86 X6 k57 RC
     have hw:IntKind.i64.wrap (1 - (jn q:Int))=(jn (!q):Int):=by rw [show 1 - (jn q:Int)=(jn (!q):Int) by omega];exact jp2 _ (by omega)
     have jq3:((jn (!q):Nat):Int) < 2:=by omega
     refine qgW ((sp (!q))) [0,1,2,3,4,5,6,7,8,9,10,11] [6] ?_
     have szd:w7.heap.size≤w7.drew.heap.size:=(jnQ w7).drew.size
     generalize w7.drew=W at *
     iterate 1 ((first | refine qR0 ?_ | refine qS ?_);go_frame)
     refine qV rfl (fun _=>True) (fun _ _=>trivial) (.int .i64 (jn (!q):Int)) (fun w' hF=>by go_simp;try rfl) ?_
     go_frame
     repeat ((first | refine qR _ (fun w' e=>(T3.out w' e).1) ?_ | refine qS ?_);go_frame)
     refine qV rfl (fun w'=>w'.heap[r5]? =some (.cells H.toArray 47 (0,0))) (fun w' e=>(T3.out w' e).2) (.agg H.toArray) (fun w' hF=>jd rfl rfl hF rfl rfl (by rw [S_H];rfl)) ?_
     go_frame
     repeat ((first | refine qR0 ?_ | refine qS ?_);go_frame)
     refine qD fun K hK=> ?_
     go_simp
     refine A2.out.mono ?_
     rintro e w8 ⟨A8,n8,c8,rfl,T8,g8⟩
     refine hK.out _ _ g8 ?_
     clear hK K
     try go_frame
     repeat ((first | refine qR0 ?_ | refine qS ?_);go_frame)
     refine jp ?_
     have t8:=Two.of_grown (g':=sp (!q)) g8
     have k18:Cb w8 r1 28 SP:=t8.block P7.out.1 (by omega) (by omega)
     have k58:Cb w8 r5 47 H:=t8.block P7.out.2.1 (by omega) (by omega)
     have k78:Cb w8 r7 74 P:=t8.block P7.out.2.2.1 (by omega) (by omega)
     have k88:Cb w8 r8 75 (p++(y++z)):=t8.block P7.out.2.2.2.1 (by omega) (by omega)
     have X8:Hid (Ext w w8):=JQ P7.out.2.2.2.2 g8 (by omega)
     have sz8:=g8.size
     have C_pk:(cellsOf pk2).length=32:=by rw [ja,lpk]
     have M8:Hid (∀ s,Ext w8 s→(s.cell? ⟨r5,33,none⟩=some (.int .i64 (k:Int))∧s.cell? ⟨r5,32,none⟩=some (.int .i64 pq)∧s.cell? ⟨r7,jn q,none⟩=some (.int .i64 pq))∧(∀ q_ v,(cellsOf pk2)[q_]? =some v→s.cell? ⟨r5,0+q_,none⟩=some v)∧∀ q_ v,y[q_]? =some v→s.cell? ⟨r8,jn q*32+q_,none⟩=some v):=fun s e=>
      ⟨⟨(k58.ext e).cell hd33.out,(k58.ext e).cell hd32.out,(k78.ext e).cell pp⟩,(k58.ext e).mid (hd0.out ()) rfl,(k88.ext e).mid rfl lp_⟩
     clear P7 T3 A2 g8 t8
     go_upto_region 17 with fail
     have rw_:IntKind.i64.wrap ((k:Int)+1)=(k:Int)+1:=jp2 _ (by omega)
     have e8:=(jnQ w8).drew
     have Y9:Hid (Tk shared (w8.drew.setCells r8 (jn q*32) (cellsOf pk2)) sp gp lp q (k+1) pq po pk2 (m'+1) i tg tp∧Cb (w8.drew.setCells r8 (jn q*32) (cellsOf pk2)) r1 28 SP∧Cb (w8.drew.setCells r8 (jn q*32) (cellsOf pk2)) r7 74 P∧Cb (w8.drew.setCells r8 (jn q*32) (cellsOf pk2)) r8 75 (p++(cellsOf pk2++z))∧Ext w (w8.drew.setCells r8 (jn q*32) (cellsOf pk2))):=
      have t9:=Two.setCellsR w8.drew r8 (jn q*32) (cellsOf pk2)
      ⟨(T8.ext e8).cb (k88.ext e8) ⟨by decide,by decide⟩ (fun q'=>by have:=SL.out q';omega) t9,t9.block (k18.ext e8) (by omega) (by omega),t9.block (k78.ext e8) (by omega) (by omega),(k88.ext e8).put rfl lp_ (by rw [C_pk,C_y]),Two.ext (X8.out.trans e8) t9 (by omega) (by omega)⟩
     have Y5:Hid ((∀ q_ v,(cellsOf pk2)[q_]? =some v→w8.drew.cell? ⟨r5,0+q_,none⟩=some v)∧w8.drew.there r8 (jn q*32) 32):=⟨(M8.out _ e8).2.1,Cb.there (k88.ext e8) (by rw [joI,joI,C_y];omega)⟩
     have O_pk:Hid ((cellsOf pk2).toArray.all (·.oneCell')=true):=qC (fun v hv=>JT _ _ hv)
     have S_pk:(cellsOf pk2).toArray.size=32:=by rw [jpw,C_pk]
     have hyy:Hid (1≤k→y=cellsOf pk2):=fun z=>by rw [hpk.out z];exact hy z
     clear T8 k18 k58 k78 k88 X8 hpk hy e8
     by_cases hk0:k=0
     ·have u3:decide ((0:Int) < (k:Int))=false:=decide_eq_false (by omega)
      have u4:decide (0 < k)=false:=decide_eq_false (by omega)
      have u5: ¬ 0 < k:=by omega
      clear hk0
      refine qgE [0,1,2,3,4,5,6,7,8,9,10,11,12,13,14,15,16,17,18,19,20,21,22,23,24,25,26,27,28,29,30,31] [] ?_
      repeat ((first | refine qR _ (fun w' e=>(M8.out w' (Ext.trans (jnQ _).drew e)).1) ?_ | refine qS ?_);go_frame)
      refine jp ?_
      generalize w8.drew=W at *
      go_upto_region 14 with (first
       | ((with_reducible refine jI (o:=⟨some 116,_,_,_,_,_⟩) (ty:=23) (g:=r5) (off:=0) (ys:=cellsOf pk2) ?_ rfl ?_ ?_ jpF ?_ ?_ ?_);(·rfl);(·rfl);(·exact Y5.out.1);(·rfl);(·rw [C_pk];rfl);go_frame)
       | ((with_reducible refine joi (op:=⟨none, .store 23 (.tmp 117) (.tmp 116),_,_,_,_⟩) ?_ 23 _ _ rfl r8 (jn q*32) (cellsOf pk2).toArray ?_ ?_ ?_ ?_ ?_ ?_);(·rfl);(·rfl);(·rfl);(·rw [S_pk];exact Y5.out.2);(·rw [S_pk];rfl);(·exact O_pk.out);go_frame))
      go_wp2_with fail
      go_round
      case rel=>exact ⟨k+1,m'+1,pk2,cellsOf pk2,by omega,rfl,by omega,Y9.out.1,Y9.out.2.1,Y9.out.2.2.1,Y9.out.2.2.2.1,C_pk,fun _=>rfl,Y9.out.2.2.2.2⟩
      case measure=>simp [intOf];omega
     ·have u3:decide ((0:Int) < (k:Int))=true:=decide_eq_true (by omega)
      have u4:decide (0 < k)=true:=decide_eq_true (by omega)
      have u5:0 < k:=by omega
      have hy2:=hyy.out (by omega)
      clear hyy
      subst hy2
      refine qgE [0,1,2,3,4,5,6,7,8,9,10,11,12,13,14,15,16,17,18,19,20,21,22,23,24,25,26,27,28,29,30,31] [] ?_
      repeat ((first | refine qR _ (fun w' e=>(M8.out w' (Ext.trans (jnQ _).drew e)).1) ?_ | refine qS ?_);go_frame)
      refine qV rfl (fun w'=>∀ q_ v,(cellsOf pk2)[q_]? =some v→w'.cell? ⟨r5,0+q_,none⟩=some v) (fun w' e=>(M8.out w' (Ext.trans (jnQ _).drew e)).2.1) (.agg (cellsOf pk2).toArray) (fun w' hF=>jy rfl rfl hF rfl rfl (by rw [C_pk];rfl)) ?_
      go_frame
      repeat ((first | refine qR0 ?_ | refine qS ?_);go_frame)
      refine qV rfl (fun w'=>∀ q_ v,(cellsOf pk2)[q_]? =some v→w'.cell? ⟨r8,(jn q*32)+q_,none⟩=some v) (fun w' e=>(M8.out w' (Ext.trans (jnQ _).drew e)).2.2) (.agg (cellsOf pk2).toArray) (fun w' hF=>jy rfl rfl hF rfl rfl (by rw [C_pk];rfl)) ?_
      go_frame
      refine qV rfl (fun _=>True) (fun _ _=>trivial) (.bool false) (fun w' _=>J9 (xs:=pk2) (ys:=pk2) (show (!decide (pk2=pk2))=false by simp) lpk lpk rfl rfl rfl) ?_
      go_frame
      repeat ((first | refine qR0 ?_ | refine qS ?_);go_frame)
      refine jp ?_
      generalize w8.drew=W at *
      go_upto_region 14 with (first
       | ((with_reducible refine jI (o:=⟨some 116,_,_,_,_,_⟩) (ty:=23) (g:=r5) (off:=0) (ys:=cellsOf pk2) ?_ rfl ?_ ?_ jpF ?_ ?_ ?_);(·rfl);(·rfl);(·exact Y5.out.1);(·rfl);(·rw [C_pk];rfl);go_frame)
       | ((with_reducible refine joi (op:=⟨none, .store 23 (.tmp 117) (.tmp 116),_,_,_,_⟩) ?_ 23 _ _ rfl r8 (jn q*32) (cellsOf pk2).toArray ?_ ?_ ?_ ?_ ?_ ?_);(·rfl);(·rfl);(·rfl);(·rw [S_pk];exact Y5.out.2);(·rw [S_pk];rfl);(·exact O_pk.out);go_frame))
      go_wp2_with fail
      go_round
      case rel=>exact ⟨k+1,m'+1,pk2,cellsOf pk2,by omega,rfl,by omega,Y9.out.1,Y9.out.2.1,Y9.out.2.2.1,Y9.out.2.2.2.1,C_pk,fun _=>rfl,Y9.out.2.2.2.2⟩
      case measure=>simp [intOf];omega
    ·have v2:decide ((k:Int) < (N:Int))=false:=decide_eq_false (by omega)
     have cp:=k7.cell pp
     have fp:=k7.frozen (jn q)
     have hN4:=hN.out
     have t7:=Two.setCellR wr r7 (jn q) (.int .i64 (N:Int))
     have Y9:Hid (Tk shared (wr.setCell ⟨r7,jn q,none⟩ (.int .i64 (N:Int))) sp gp lp (!q) 0 po k pk' m' (i+1) tg tp∧Cb (wr.setCell ⟨r7,jn q,none⟩ (.int .i64 (N:Int))) r1 28 SP∧Cb (wr.setCell ⟨r7,jn q,none⟩ (.int .i64 (N:Int))) r7 74 (P.set (jn q) (.int .i64 (N:Int)))∧Cb (wr.setCell ⟨r7,jn q,none⟩ (.int .i64 (N:Int))) r8 75 (p++(y++z))∧Ext w (wr.setCell ⟨r7,jn q,none⟩ (.int .i64 (N:Int)))):=
      ⟨(T.cb k7 ⟨by decide,by decide⟩ (fun q'=>by have:=SL.out q';omega) t7).next (by omega),t7.block kb (by omega) (by omega),k7.setCell,t7.block k8 (by omega) (by omega),Two.ext X t7 (by omega) (by omega)⟩
     clear T kb k7 k8 X t7 hN4
     go_wp2_with fail
     obtain ⟨y1,y2,y3,y4,y5⟩:=Y9.out
     go_round
     case rel=>
      have h1:=jmw (q:= !q) (v:= .int .i64 (N:Int)) pn
      have h2:=jmA (q:=q) (v:= .int .i64 (N:Int)) lP
      rw [Bool.not_not] at h1
      refine ⟨i+1,m', !q,po,k,pk',_,_,by omega,rfl,?_,by omega,y1,y2,y3,?_,h1,?_,y4,by rw [joI,joI,C_y];omega,y5⟩
      ·rw [show (jn (!q):Int)=1 - (jn q:Int) by omega]
      ·rw [jo7];exact lP
      ·rw [Bool.not_not,show (k:Int)=(N:Int) by omega];exact h2
     case measure=>simp [intOf];omega
  ·have v1:decide ((i:Int) < (n:Int))=false:=decide_eq_false (by omega)
   replace T:=Hj T
   go_wp2_with fail
   go_ret
   exact ⟨rfl,X⟩
end Go.Proofs.YtakpgbaijkhpmaaGreatDoor
