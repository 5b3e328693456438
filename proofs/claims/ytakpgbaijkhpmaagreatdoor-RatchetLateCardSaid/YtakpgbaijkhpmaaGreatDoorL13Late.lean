/- The law RatchetLate (written by gen13late.py). -/
import Derived.Test.YtakpgbaijkhpmaaGreatDoorPkAO
open And renaming intro→jnR
open Array renaming all_eq_true_iff_forall_mem→joX
open Go renaming TypeId→joE,heap_alloc_new→jps
open Go.Act renaming put→joT
open Go.IntWalk renaming i64_in→jnZ
open Go.Obj renaming cells→jnX
open Go.Proofs.Tryz renaming prog→joz,underlying23→jpF,underlying47→jol
open Go.RowKit.Below renaming trans→jop
open Go.Value renaming agg→jpr,int→joC,ownBlock→joa,pointer→jon
open Int renaming tmod_eq_emod_of_nonneg→jn3
open List renaming getD_eq_getElem?_getD→jn9,getElem?_append_left→jpu,getElem?_append_right→jpt,getElem?_eq_getElem→jn8,getElem?_eq_some_iff→jpz,length_append→joI,map_cons→jpC,map_nil→jpH,map_toArray→jpG,mem_cons→joG,mem_map→joP,mem_singleton→joH,not_mem_nil→jpB,replicate→jpp,size_toArray→jpw
open Nat renaming le_of_eq→jod,le_refl→joq,le_trans→jo2,lt_of_lt_of_le→jos,lt_or_ge→jow,zero_le→jor
open UInt8 renaming ofNat→jov
namespace Go.Proofs.YtakpgbaijkhpmaaGreatDoor
set_option maxHeartbeats 64000000
set_option linter.unusedSimpArgs false
set_option linter.unusedVariables false
open Go.ChangeShapes Go.WideShapes Go.ChangeAt Go.RowKit Go.Deep Go.Maps
set_option maxRecDepth 100000
theorem y4 {w:World}{shared:List UInt8}(lr:shared.length=32){m:Int}(hm: -9223372036854775808≤m∧m≤9223372036854775807){A:Option Addr}{n d:Nat}{zs:List Int}(hz:Is w A n d zs){tg tp:joE×Nat×Nat}(hG:Gl w tg) (hP:Gp w tp):
 Calls joz 6 #[.agg (cellsOf shared).toArray, .int .i64 m, .slice A n d] w fun e w'=>e= .returned (.bool true)∧Ext w w':=by
 have xl:=hz.len
 have xc:=hz.le
 have xm:=hz.cap
 replace hz:=Hj hz
 have AW:Hid (∀ W,Ext w W→Calls joz 15 #[] W fun e w'=>e= .returned (.bool true)∧Ext W w'):=fun W e=>jbd (hG.kept e hG.lt) (hP.ext e)
 have TW:Hid (∀ W,Ext w W→Calls joz 17 #[.agg (cellsOf shared).toArray] W fun e w'=>∃ sa ga la sb gb lb u c pk,e= .returned (.agg #[.pointer (some ⟨sa,0,none⟩), .pointer (some ⟨sb,0,none⟩)])∧Bgn u c pk∧One c pk w' sa ga la sb gb lb 0 (fun t=>HrB u c pk t (fun _=>false) 0) tg tp∧Ext W w'∧(W.heap.size≤sa∧sa < w'.heap.size)∧(W.heap.size≤ga∧ga < w'.heap.size)∧(W.heap.size≤sb∧sb < w'.heap.size)∧(W.heap.size≤gb∧gb < w'.heap.size)):=fun W e=>jnd lr (hG.kept e hG.lt) (hP.ext e)
 have K_:(cellsOf shared).toArray.size=32:=by rw [jpw,ja,lr]
 have YK:Hid (Cb (w.alloc (.cells (cellsOf shared).toArray 23)) w.heap.size 23 (cellsOf shared)):=Cb.new _ _ _
 generalize cellsOf shared=KL at *
 clear hG hP lr
 have hal2:=JD
 obtain ⟨T0,hT0⟩:∃ x,x=jjJ:=⟨_,rfl⟩
 rw [←hT0] at hal2
 have S_T0:T0.toArray.size=2:=by rw [hT0];rfl
 clear hT0
 have hal:=Jp
 have L_hz:(hdC (jpp 32 0) 0 0).length=34:=yz rfl _ _
 generalize hdC (jpp 32 0) 0 0=ZH at *
 have S_hz:ZH.toArray.size=34:=by rw [jpw,L_hz]
 have CV:Hid (∀ (W:World) A n c (ys:List UInt8),Bs W A n c ys→(convert 33 9 (.slice A n c)).run joz W= .ok (.string (vR ys)) W):=fun W A n c ys h=>jfz h
 go_enter Tryz.func6,Tryz.ntmps6
 go_wp2_with fail
 refine (AW.out _ ((jnQ w).alloc _)).mono ?_
 rintro e w1 ⟨rfl,e1⟩
 have kk:=Hj (YK.out.ext e1)
 have X1:Hid (Ext w w1):=((jnQ w).alloc _).trans e1
 have sz1:=X1.out.size
 clear AW YK e1
 go_wp2_with (first | ((with_reducible refine js (o:=⟨some 22,_,_,_,_,_⟩) ?_ 23 _ rfl w.heap.size ?_ 23 KL.toArray (0,0) _ ?_ jpF ?_ ?_ ?_);(·rfl);(·rfl);(·exact kk.out);(·rfl);(·rw [K_];rfl);go_frame))
 refine (TW.out w1 X1.out).mono ?_
 rintro e w2 ⟨sa,ga,la,sb,gb,lb,u,c,pk,rfl,BG,D1,x2,⟨a1,a2⟩,⟨a3,a4⟩,⟨b1,b2⟩,⟨b3,b4⟩⟩
 have ww2:=x2.size
 have X2:Hid (Ext w w2):=X1.out.trans x2
 have lpk:=D1.lp
 have OO:Hid (#[jon (some ⟨sa,0,none⟩), .pointer (some ⟨sb,0,none⟩)].all (·.oneCell')=true):=qC (L:= [jon (some ⟨sa,0,none⟩), .pointer (some ⟨sb,0,none⟩)]) (fun v hv=>by
  simp only [joG,jpB,or_false] at hv
  rcases hv with rfl | rfl <;> rfl)
 have Y:Hid (Cb ((w2.alloc (.cells T0.toArray 28)).setRow w2.heap.size #[.pointer (some ⟨sa,0,none⟩), .pointer (some ⟨sb,0,none⟩)]) w2.heap.size 28 [.pointer (some ⟨sa,0,none⟩), .pointer (some ⟨sb,0,none⟩)]∧Ext w2 ((w2.alloc (.cells T0.toArray 28)).setRow w2.heap.size #[.pointer (some ⟨sa,0,none⟩), .pointer (some ⟨sb,0,none⟩)])):=⟨Cb.set (Cb.new _ _ _),Ext.newRow _ _ _⟩
 replace BG:=Hj BG
 replace D1:=Hj D1
 replace x2:=Hj x2
 clear TW kk X1
 go_upto_region 3 with (refine ws_ rfl 28 rfl w2.heap.size #[.pointer (some ⟨sa,0,none⟩), .pointer (some ⟨sb,0,none⟩)] rfl rfl (jps _ _) rfl (by rw [S_T0];rfl) OO.out ?_;simp only [joT])
 obtain ⟨r1,hr1⟩:∃ x,x=w2.heap.size:=⟨_,rfl⟩
 refine jg (fun W=>Cb W w2.heap.size 28 [.pointer (some ⟨sa,0,none⟩), .pointer (some ⟨sb,0,none⟩)]∧Ext w2 W) Y.out ?_
 rw [←hr1]
 have wr1:w2.heap.size≤r1:=jod hr1.symm
 clear Y OO hr1
 rintro w3 ⟨k1,x3⟩
 have c0:=k1.cell (j:=0) rfl
 have c1:=k1.cell (j:=1) rfl
 have k1l:=k1.lt
 have D3:Hid (One c pk w3 sa ga la sb gb lb 0 (fun t=>HrB u c pk t (fun _=>false) 0) tg tp):=D1.out.ext x3
 have X3:Hid (Ext w w3):=X2.out.trans x3
 have sz3:=x3.size
 replace k1:=Hj k1
 clear D1 x2 x3 X2 hal2 S_T0 T0
 by_cases h1:m < 1
 ·have u1:decide (m < 1)=true:=decide_eq_true h1
  go_wp2_with fail
  go_ret
  exact ⟨rfl,X3.out⟩
 have u1:decide (m < 1)=false:=decide_eq_false h1
 by_cases h8:8 < m
 ·have u2:decide (8 < m)=true:=decide_eq_true h8
  go_wp2_with fail
  go_ret
  exact ⟨rfl,X3.out⟩
 have u2:decide (8 < m)=false:=decide_eq_false h8
 by_cases h20:20 < n
 ·have u3:decide ((20:Int) < (n:Int))=true:=decide_eq_true (by omega)
  go_wp2_with fail
  go_ret
  exact ⟨rfl,X3.out⟩
 have u3:decide ((20:Int) < (n:Int))=false:=decide_eq_false (by omega)
 obtain ⟨N,rfl⟩:∃ N:Nat,m=(N:Int):=⟨m.toNat,by omega⟩
 have hN:N≤8:=by omega
 have hN1:1≤N:=by omega
 clear h1 h8 hm
 go_wp2_with fail
 go_loopw [9,10] (fun sv iv wr=>∃ (i:Nat) (A9:Option Addr) (c9:Nat) (L:List (List Value)),i≤N∧iv= .int .i64 (i:Int)∧sv= .slice A9 i c9∧OwnC w3.heap.size wr 51 37 A9 i c9 L∧(∀ j C,L[j]? =some C→MsAt c pk w3.heap.size wr j C)∧One c pk wr sa ga la sb gb lb i (fun t=>HrB u c pk t (fun _=>false) 0) tg tp∧Cb wr r1 28 [.pointer (some ⟨sa,0,none⟩), .pointer (some ⟨sb,0,none⟩)]∧Ext w wr∧w3.heap.size≤wr.heap.size) (fun _ v _=>N - (intOf v).toNat)
 case atStart=>exact ⟨0,none,0,[],jor _,rfl,rfl,OwnC.nil _ _ _ _,fun j C q=>by simp at q,D3.out,k1.out,X3.out,joq _⟩
 case round=>
  obtain ⟨i,A9,c9,L,hi,rfl,rfl,OW,hL,T,kb,X,sz⟩:=hrel
  have c0':=kb.cell (j:=0) rfl
  have c1':=kb.cell (j:=1) rfl
  have kbl:=kb.lt
  have szX:=X.size
  have lL:=OW.2.2
  clear D3 k1 c0 c1
  by_cases hlt:i < N
  ·have v1:decide ((i:Int) < (N:Int))=true:=decide_eq_true (by omega)
   obtain ⟨y,hy⟩:∃ y:UInt8,y=jov i:=⟨_,rfl⟩
   have hyi:(y.toNat:Int)=(i:Int):=by rw [hy,UInt8.toNat_ofNat'];omega
   have hyw:IntKind.u8.wrap (i:Int)=(y.toNat:Int):=by rw [hyi,IntKind.wrap_u8];omega
   have ea:Hid (Ext wr (wr.alloc (.cells #[.int .u8 (y.toNat:Int)] 5))):=(jnQ wr).alloc _
   have SND:=Hj (jmV (T.ext ea.out) (by omega) (B:=some ⟨wr.heap.size,0,none⟩) (m2:=1) (c2:=1) (text:= [y]) (by simp) (fun x e=>(Bs.one8 wr _ y _ rfl).two13 e (by omega) (by omega)))
   have sla:Hid ((wr.alloc (.cells #[.int .u8 (y.toNat:Int)] 5)).heap.size=wr.heap.size+1):=je _ _
   replace T:=Hj T
   replace kb:=Hj kb
   replace X:=Hj X
   replace OW:=Hj OW
   replace hL:=Hj hL
   replace lL:=Hj lL
   clear hyi
   replace hy:=Hj (fun _:Unit=>hy)
   go_wp2_with fail
   refine SND.out.mono ?_
   rintro e w6 ⟨A6,n6,c6,rfl,O6,D6,t6⟩
   obtain rfl:n6=33:=by rw [←O6.bs.len,jmJ];rfl
   obtain ⟨b6,C6,rfl,hb6,hg6⟩:=O6.at0 (by omega)
   rw [sla.out] at hb6
   have sa6:=t6.2.2.2.1
   rw [sla.out] at sa6
   have k16:Cb w6 r1 28 [.pointer (some ⟨sa,0,none⟩), .pointer (some ⟨sb,0,none⟩)]:=t6.block (kb.out.ext ea.out) (by omega) (by omega)
   have X6:Hid (Ext w w6):=Two.ext (X.out.trans ea.out) t6 (by omega) (by omega)
   have OW6:Hid (OwnC w3.heap.size w6 51 37 A9 i c9 L):=(OW.out.ext ea.out).keep13 fun j cs q hj=>t6.block q (by omega) (by omega)
   have hL6:Hid (∀ j C,L[j]? =some C→MsAt c pk w3.heap.size w6 j C):=fun j C q=>((hL.out j C q).ext ea.out).two t6 (by omega) (by omega)
   have M6:Hid (MsAt c pk w3.heap.size w6 i (msC (hdC pk 0 (i:Int)) (some ⟨b6,0,none⟩) 33 c6)):=⟨b6,33,c6,C6,rfl,by omega,hg6,by have:=O6.bs;rw [hy.out ()] at this;exact this⟩
   have S_H:(hdC pk 0 (i:Int)).toArray.size=34:=by rw [jpw,yz lpk]
   have O_H:Hid ((hdC pk 0 (i:Int)).toArray.all (·.oneCell')=true):=YZ
   have L_H:(hdC pk 0 (i:Int)).length=34:=yz lpk _ _
   generalize hdC pk 0 (i:Int)=H at *
   have Y:Hid (Cb ((w6.alloc (.cells ZH.toArray 47)).setRow w6.heap.size H.toArray) w6.heap.size 47 H∧Ext w6 ((w6.alloc (.cells ZH.toArray 47)).setRow w6.heap.size H.toArray)):=⟨Cb.set (Cb.new _ _ _),Ext.newRow _ _ _⟩
   replace D6:=Hj D6
   replace k16:=Hj k16
   clear SND t6 O6 T kb X OW hL ea sla hg6 c0' c1'
   go_upto_region 10 with (refine ws_ rfl 47 rfl w6.heap.size H.toArray rfl rfl (jps _ _) (by rw [S_H];rfl) (by rw [S_H,S_hz]) O_H.out ?_;simp only [joT])
   obtain ⟨r9,hr9⟩:∃ x,x=w6.heap.size:=⟨_,rfl⟩
   refine jg (fun W=>Cb W w6.heap.size 47 H∧Ext w6 W) Y.out ?_
   rw [←hr9]
   clear Y hr9
   rintro w7 ⟨k97,x7⟩
   have k17:=Hj (k16.out.ext x7)
   have D7:=Hj (D6.out.ext x7)
   have X7:=Hj (X6.out.trans x7)
   have OW7:=Hj (OW6.out.ext x7)
   have hL7:Hid (∀ j C,L[j]? =some C→MsAt c pk w3.heap.size w7 j C):=fun j C q=>(hL6.out j C q).ext x7
   have M7:=Hj (M6.out.ext x7)
   have sz7:=x7.size
   clear k16 D6 X6 OW6 hL6 M6 x7
   have ri:IntKind.i64.wrap ((i:Int)+1)=(i:Int)+1:=jnZ _ (by omega)
   have MB:=Hj (jna L_H (some ⟨b6,0,none⟩) 33 c6)
   have L_C:=jm1 L_H (some ⟨b6,0,none⟩) 33 c6
   have O_C:=Hj (jnf O_H.out (some ⟨b6,0,none⟩) 33 c6)
   generalize msC H (some ⟨b6,0,none⟩) 33 c6=C' at *
   have S_C:C'.toArray.size=37:=by rw [jpw,L_C]
   have one:∀ u∈C',u.oneCell'=true:=fun u hu=>(joX.1 O_C.out) u (by simpa using hu)
   have n1:Hid ((w7.alloc (jnX C'.toArray 51)).heap[w7.heap.size]? =some (.cells C'.toArray 51 (0,0))):=jps _ _
   have e8:Hid (Ext w7 (w7.alloc (jnX C'.toArray 51))):=(jnQ w7).alloc _
   have o2:=Hj (OW7.out.ext e8.out)
   have z2:Hid (w3.heap.size≤(w7.alloc (jnX C'.toArray 51)).heap.size):=by unfold Hid;rw [je];omega
   have hinf:=Hj jnM
   have hbM:=Hj jnI
   have hz37:Hid ((jpr (msC (hdC (jpp 32 0) 0 0) none 0 0).toArray).cells.size=37):=by
    show (msC (hdC (jpp 32 0) 0 0) none 0 0).toArray.size=37
    rw [jpw];exact jm1 (yz rfl _ _) _ _ _
   generalize msC (hdC (jpp 32 0) 0 0) none 0 0=ZMs at *
   generalize (Tryz.prog.info? 51).elim 0 (·.bytes)=byM at *
   replace one:=Hj one
   go_upto_region 8 with (first
    | ((with_reducible refine js (o:=⟨some 74,_,_,_,_,_⟩) ?_ 47 _ rfl r9 ?_ 47 H.toArray (0,0) _ ?_ jol ?_ ?_ ?_);(·rfl);(·rfl);(·exact k97);(·rfl);(·rw [S_H];rfl);go_frame)
    | ((with_reducible refine jm (o:=⟨some 76, .build 51 _,_,_,_,_⟩) ?_ 51 _ rfl C'.toArray ?_ ?_);(·rfl);(·simp only [jpG,jpC,jpH];exact MB.out);go_frame)
    | (refine qk rfl Tryz.underlying43 hinf.out hz37.out (by omega) (by omega) L_C (g:=w7.heap.size) rfl rfl rfl ?_;go_frame)
    | (at_builtin;(with_reducible refine q8 rfl Tryz.underlying43 hinf.out hz37.out (by omega) hbM.out (x:= .tmp 73) (y:= .tmp 77) rfl rfl rfl o2.out n1.out L_C one.out (by omega) z2.out ?_);intro A10 c10 w10 o10 g10 b10;replace o10:=Hj o10;replace g10:=Hj g10;replace b10:=Hj b10;go_frame))
   have R:Hid (One c pk w10 sa ga la sb gb lb (i+1) (fun t=>HrB u c pk t (fun _=>false) 0) tg tp∧(∀ j C,(L++ [C'])[j]? =some C→MsAt c pk w3.heap.size w10 j C)∧Cb w10 r1 28 [.pointer (some ⟨sa,0,none⟩), .pointer (some ⟨sb,0,none⟩)]∧Ext w w10∧w3.heap.size≤w10.heap.size):=by
    have hrow:=o2.out.blk13
    have sz8:=e8.out.size
    have sz10:=b10.out.size
    have hrow1:joa (.slice A9 i c9)=none∨∃ r D T,joa (.slice A9 i c9)=some r∧(w7.alloc (jnX C'.toArray 51)).heap[r]? =some (.cells D T (0,0))∧(116≠T∧184≠T)∧ga < r∧gb < r:=by
     rcases hrow with h | ⟨g,D,h1,h2,h3⟩
     ·exact .inl h
     ·exact .inr ⟨g,D,_,h1,h3,⟨by decide,by decide⟩,by omega,by omega⟩
    have hrow2:joa (.slice A9 i c9)=none∨∃ r D T,joa (.slice A9 i c9)=some r∧(w7.alloc (jnX C'.toArray 51)).heap[r]? =some (.cells D T (0,0))∧T≠5:=by
     rcases hrow with h | ⟨g,D,h1,h2,h3⟩
     ·exact .inl h
     ·exact .inr ⟨g,D,_,h1,h3,by decide⟩
    refine ⟨(D7.out.ext e8.out).row g10.out hrow1,fun j C q=> ?_,(k17.out.ext e8.out).kept b10.out (by omega),(X7.out.trans e8.out).trans' (b10.out.mono (by omega)),by omega⟩
    rcases jow j L.length with z | z
    ·rw [jpu z] at q
     exact ((hL7.out j C q).ext e8.out).row g10.out hrow2
    ·rw [jpt z] at q
     obtain ⟨z1,z2⟩:=jpz.1 q
     rw [List.length_singleton] at z1
     obtain rfl:j=i:=by have:=lL.out;omega
     have z3:C'=C:=by simpa using z2
     rw [←z3]
     exact (M7.out.ext e8.out).row g10.out hrow2
   clear D7 hL7 M7 k17 X7 OW7 g10 b10 n1 e8 o2 z2 MB O_C one
   go_wp2_with fail
   go_round
   case rel=>exact ⟨i+1,A10,c10,L++ [C'],by omega,by first | rfl | (rw [ri]),rfl,o10.out,R.out.2.1,R.out.1,R.out.2.2.1,R.out.2.2.2.1,R.out.2.2.2.2⟩
   case measure=>simp [intOf];omega
  ·have v1:decide ((i:Int) < (N:Int))=false:=decide_eq_false (by omega)
   obtain rfl:i=N:=by omega
   have mk:=jnL i (by omega)
   replace T:=Hj T
   replace OW:=Hj OW
   replace hL:=Hj hL
   replace kb:=Hj kb
   replace X:=Hj X
   have RB:Hid ((wr.alloc (.cells (madeCells #[.bool false] i) 4)).rowIs wr.heap.size 4 i (fun _=> .bool false)∧Ext wr (wr.alloc (.cells (madeCells #[.bool false] i) 4))):=⟨World.rowIs_made wr _ i _,(jnQ _).alloc _⟩
   go_upto_region 14 with fail
   obtain ⟨r14,hr14⟩:∃ x,x=wr.heap.size:=⟨_,rfl⟩
   refine jg (fun W=>W.rowIs wr.heap.size 4 i (fun _=> .bool false)∧Ext wr W) RB.out ?_
   rw [←hr14]
   have r14g:wr.heap.size≤r14:=jod hr14.symm
   clear RB hr14 mk
   rintro w5 ⟨rb,x5⟩
   have T5:=Hj (T.out.ext x5)
   have OW5:=Hj (OW.out.ext x5)
   have hL5:Hid (∀ j C,L[j]? =some C→MsAt c pk w3.heap.size w5 j C):=fun j C q=>(hL.out j C q).ext x5
   have kb5:=Hj (kb.out.ext x5)
   have X5:=Hj (X.out.trans x5)
   have sz5:=x5.size
   have rbl:r14 < w5.heap.size:=by obtain ⟨C,h,_⟩:=rb;exact jh h
   replace rb:=Hj rb
   clear T OW hL kb X x5 c0' c1'
   have ea:Hid (Ext w5 (w5.alloc (.cells #[.int .i64 0] 3))):=(jnQ w5).alloc _
   have a1:Hid (OwnC w5.heap.size (w5.alloc (.cells #[.int .i64 0] 3)) 3 1 (some ⟨w5.heap.size,0,none⟩) 1 1 [[.int .i64 0]]):=OwnC.lit (L:= [[.int .i64 0]]) (fun x hx=>by rw [joH.1 hx];rfl) (by decide) (by decide) (joq _) (jps _ _)
   have cz:Hid (Cs (w5.alloc (.cells #[.int .i64 0] 3)) 1 A n d (jl zs)):=(hz.out.ext (X5.out.trans ea.out)).cs
   have one1:Hid (∀ x∈jl zs,∀ u∈x,u.oneCell'=true):=fun x hx u hu=>by
    obtain ⟨z,_,rfl⟩:=joP.1 hx
    rw [joH.1 hu];rfl
   have z2:Hid (w5.heap.size≤(w5.alloc (.cells #[.int .i64 0] 3)).heap.size):=ea.out.size
   have hi13:=Hj jnK
   go_upto_region 15 with (first
    | (refine qk rfl Tryz.underlying69 hi13.out rfl (by omega) (by omega) (cs:= [.int .i64 0]) rfl (g:=w5.heap.size) rfl rfl rfl ?_;go_frame)
    | (at_builtin;(with_reducible refine Y5 rfl Tryz.underlying69 hi13.out rfl (by omega) (by omega) (x:= .tmp 81) (y:= .tmp 82) rfl rfl rfl a1.out cz.out one1.out (by omega) z2.out ?_);intro A6 c6 w6 o6 g6 b6;go_frame))
   have e6:Ext w5 w6:=jop ea.out b6
   have O6:Hid (OwnC w5.heap.size w6 3 1 A6 (1+n) c6 (jl ([0]++zs))):=o6
   replace e6:=Hj e6
   clear a1 cz one1 z2 ea o6 g6 b6 xm xc hz xl
   go_wp2_with fail
   go_loopw [15,16] (fun sv iv ws=>∃ (p:Nat) (A7:Option Addr) (c7 M:Nat) (ys:List Int),p≤i∧iv= .int .i64 (p:Int)∧M=1+n+p∧sv= .slice A7 M c7∧OwnC w5.heap.size ws 3 1 A7 M c7 (jl ys)∧(∀ j,j < p→ys[1+n+j]? =some (j:Int))∧ys.length=M∧Ext w5 ws) (fun _ v _=>i - (intOf v).toNat)
   case atStart=>exact ⟨0,A6,c6,1+n,[0]++zs,jor _,rfl,rfl,rfl,O6.out,fun j hj=>by omega,by have:=(Y9 ([0]++zs)).symm.trans O6.out.2.2;exact this,e6.out⟩
   case round=>
    obtain ⟨p,A7,c7,M,ys,hp,rfl,hM,rfl,O7,hy,lY,e7⟩:=hrel
    have hM1:1≤M:=by omega
    have hM2:M≤100:=by omega
    have szp:=e7.size
    clear O6 e6
    by_cases hlp:p < i
    ·have v2:decide ((p:Int) < (i:Int))=true:=decide_eq_true (by omega)
     have n1:Hid ((wr.alloc (jnX #[.int .i64 (p:Int)] 3)).heap[wr.heap.size]? =some (.cells [.int .i64 (p:Int)].toArray 3 (0,0))):=jps _ _
     have ea:Hid (Ext wr (wr.alloc (jnX #[.int .i64 (p:Int)] 3))):=(jnQ wr).alloc _
     have o2:=Hj (O7.ext ea.out)
     have z2:Hid (w5.heap.size≤(wr.alloc (jnX #[.int .i64 (p:Int)] 3)).heap.size):=jo2 szp ea.out.size
     have one:Hid (∀ u∈ [joC .i64 (p:Int)],u.oneCell'=true):=fun u hu=>by rw [joH.1 hu];rfl
     have rp:IntKind.i64.wrap ((p:Int)+1)=(p:Int)+1:=jnZ _ (by omega)
     replace hM:=Hj hM
     replace e7:=Hj e7
     replace hy:=Hj hy
     replace lY:=Hj lY
     clear O7
     go_upto_region 17 with (first
      | (refine qk rfl Tryz.underlying69 hi13.out rfl (by omega) (by omega) (cs:= [.int .i64 (p:Int)]) rfl (g:=wr.heap.size) rfl rfl rfl ?_;go_frame)
      | (at_builtin;(with_reducible refine q8 rfl Tryz.underlying69 hi13.out rfl (by omega) (by omega) (x:= .tmp 89) (y:= .tmp 91) rfl rfl rfl o2.out n1.out rfl one.out (by omega) z2.out ?_);intro A8 c8 w8 o8 g8 b8;go_frame))
     have e8:Hid (Ext w5 w8):=(e7.out.trans ea.out).trans' b8
     have O8:Hid (OwnC w5.heap.size w8 3 1 A8 (M+1) c8 (jl (ys++ [(p:Int)]))):=by
      have:jl (ys++ [(p:Int)])=jl ys++ [[.int .i64 (p:Int)]]:=by simp [jl]
      rw [this];exact o8
     clear o2 n1 ea z2 one o8 g8 b8 e7
     go_wp2_with fail
     go_round
     case rel=>
      refine ⟨p+1,A8,c8,M+1,ys++ [(p:Int)],by omega,by first | rfl | (rw [rp]),by have:=hM.out;omega,rfl,O8.out,fun j hj=> ?_,by rw [joI,lY.out];rfl,e8.out⟩
      have h1:=hM.out
      have h2:=lY.out
      rcases jow j p with z | z
      ·rw [jpu (by omega)];exact hy.out j z
      ·obtain rfl:j=p:=by omega
       rw [jpt (by omega),show 1+n+j - ys.length=0 by omega];rfl
     case measure=>simp [intOf];omega
    ·have v2:decide ((p:Int) < (i:Int))=false:=decide_eq_false (by omega)
     obtain rfl:p=i:=by omega
     obtain ⟨b7,rfl,hb7l,hb7,_⟩:=O7.cells (by omega)
     replace hM:=Hj hM
     obtain ⟨b9,rfl,hb9l,hb9,_⟩:=OW5.out.cells (by omega)
     have T7:One c pk wr sa ga la sb gb lb p (Lq u c pk p (fun _=>false)) tg tp:=(T5.out.ext e7).mono (fun t h=>⟨0,jor _,h⟩)
     have OW7:=OW5.out.ext e7
     have hL7:∀ j C,L[j]? =some C→MsAt c pk w3.heap.size wr j C:=fun j C q=>(hL5.out j C q).ext e7
     have kb7:=kb5.out.ext e7
     have X7:=X5.out.trans e7
     have rb7:wr.rowIs r14 4 p (fun j=> .bool ((fun _=>false) j)):=rb.out.of_block (e7.block r14 rbl)
     replace O7:=Hj O7
     clear T5 OW5 hL5 kb5 X5 rb
     go_wp2_with fail
     go_loopw [17] (fun iv ws=>∃ (x:Nat) (cm:Nat→Bool),x≤M∧iv= .int .i64 (x:Int)∧One c pk ws sa ga la sb gb lb p (Lq u c pk p cm) tg tp∧OwnC w3.heap.size ws 51 37 (some ⟨b9,0,none⟩) p c9 L∧(∀ j C,L[j]? =some C→MsAt c pk w3.heap.size ws j C)∧Cb ws r1 28 [.pointer (some ⟨sa,0,none⟩), .pointer (some ⟨sb,0,none⟩)]∧ws.rowIs r14 4 p (fun j=> .bool (cm j))∧OwnC w5.heap.size ws 3 1 (some ⟨b7,0,none⟩) M c7 (jl ys)∧(∀ (q:Nat) (z:Int),q < x→ys[q]? =some z→0≤z→cm (z % (p:Int)).toNat=true)∧Ext w ws) (fun v _=>M - (intOf v).toNat)
     case atStart=>exact ⟨0,fun _=>false,jor _,rfl,T7,OW7,hL7,kb7,rb7,O7.out,fun q z h=>by omega,X7⟩
     case round=>
      clear T7 OW7 hL7 kb7 rb7 X7 O7 e7
      obtain ⟨x,cm,hx,rfl,T,OW,hL,kb,rb,O,hq,X⟩:=hrel
      have rbl:=rb.lt
      have kbl:=kb.lt
      have c1':=kb.cell (j:=1) rfl
      by_cases hlx:x < M
      ·have v3:decide ((x:Int) < (M:Int))=true:=decide_eq_true (by omega)
       obtain ⟨z,hzx⟩:∃ z,ys[x]? =some z:=⟨ys[x]'(by omega),jn8 (by omega)⟩
       have xi:(x:Int) < (M:Int):=by omega
       have rx:IntKind.i64.wrap ((x:Int)+1)=(x:Int)+1:=jnZ _ (by omega)
       obtain ⟨_,hh,cz⟩:=O.int_at hzx (by omega)
       cases hh
       by_cases hz0:z < 0
       ·have v4:decide (z < 0)=true:=decide_eq_true hz0
        have hq':Hid (∀ (q:Nat) (z:Int),q < x+1→ys[q]? =some z→0≤z→cm (z % (p:Int)).toNat=true):=fun q z' h1 h2 h3=>by
         rcases jow q x with y | y
         ·exact hq q z' y h2 h3
         ·obtain rfl:q=x:=by omega
          rw [hzx] at h2
          injection h2 with h2
          omega
        replace T:=Hj T
        replace OW:=Hj OW
        replace hL:=Hj hL
        replace kb:=Hj kb
        replace rb:=Hj rb
        replace O:=Hj O
        replace X:=Hj X
        replace hzx:=Hj hzx
        clear hz0 hq
        go_wp2_with fail
        go_round
        case rel=>exact ⟨x+1,cm,by omega,by first | rfl | (rw [rx]),T.out,OW.out,hL.out,kb.out,rb.out,O.out,hq'.out,X.out⟩
        case measure=>simp [intOf];omega
       ·have v4:decide (z < 0)=false:=decide_eq_false hz0
        obtain ⟨k,hk,hkm,hkp⟩:∃ k:Nat,Int.tmod z (p:Int)=(k:Int)∧(z % (p:Int)).toNat=k∧k < p:=by
         have h0:=Int.emod_nonneg z (show (p:Int)≠0 by omega)
         have h1:=Int.emod_lt_of_pos z (show (0:Int) < (p:Int) by omega)
         exact ⟨(z % (p:Int)).toNat,by rw [jn3 (by omega),Int.toNat_of_nonneg h0],rfl,by omega⟩
        have p0: ¬ (p:Int)=0:=by omega
        have rk:IntKind.i64.wrap (k:Int)=(k:Int):=jnZ _ (by omega)
        have rk8:IntKind.u8.wrap (k:Int)=(k:Int):=by rw [IntKind.wrap_u8];omega
        have ki:(k:Int) < (p:Int):=by omega
        have lLp:=OW.2.2
        obtain ⟨C,hC⟩:∃ C,L[k]? =some C:=⟨L[k]'(by omega),jn8 (by omega)⟩
        obtain ⟨b,n8,d8,C8,hCe,hb,hg8,hB⟩:=hL k C hC
        obtain rfl:n8=33:=by rw [←hB.len,jmJ];rfl
        obtain ⟨_,hh,hb9w,_,cel⟩:=OW.cells (by omega)
        cases hh
        have L_H:(hdC pk 0 (k:Int)).length=34:=yz lpk _ _
        have FL:∀ q,q < 37→L.flatten[k*37+q]? =C[q]? :=fun q hq=>by
         rw [Z2 OW.2.1 (by omega) hq,jn9,hC];rfl
        have S_H:(hdC pk 0 (k:Int)).toArray.size=34:=by rw [jpw,L_H]
        have MC:Hid ((∀ q_ v,(hdC pk 0 (k:Int))[q_]? =some v→wr.cell? ⟨b9,k*37+1+q_,none⟩=some v)∧wr.cell? ⟨b9,k*37+35,none⟩=some (.slice (some ⟨b,0,none⟩) 33 d8)):=by
         refine ⟨fun q v hv=> ?_,?_⟩
         ·have hq34:q < 34:=by
           have:=(jpz.1 hv).1
           omega
          refine cel _ _ ?_
          rw [Nat.add_assoc,FL _ (by omega),hCe]
          unfold msC
          rw [jpt (by simp),jpu (by simp [L_H];omega)]
          simpa using hv
         ·refine cel _ _ ?_
          rw [FL _ (by omega),hCe]
          unfold msC
          rw [jpt (by simp),jpt (by simp [L_H])]
          simp [L_H]
        obtain ⟨E,TT,RC,hcases⟩:∃ (E:Int) (TT:List UInt8),Hid (∀ W,Ext wr W→Calls joz 23 #[.pointer (some ⟨sb,0,none⟩), .slice none 0 0, .agg (hdC pk 0 (k:Int)).toArray, .slice (some ⟨b,0,none⟩) 33 d8] W fun e w'=>∃ (A':Option Addr) (n' c':Nat),e= .returned (.tuple #[.slice A' n' c', .int .i64 E])∧Own W.heap.size w' A' n' c' TT∧One c pk w' sa ga la sb gb lb p (Lq u c pk p (fun j=>cm j||j==k)) tg tp∧W.grownBy w' (some sb))∧((cm k=true∧E=5)∨(cm k=false∧E=0∧TT= [jov k])):=by
         cases hcm:cm k
         ·exact ⟨0,[jov k],fun W e=>jmM (T.ext e) (hB.ext e) (by omega) (fun t h=>jnO BG.out h hN hkp hcm _), .inr ⟨rfl,rfl,rfl⟩⟩
         ·refine ⟨5,[],fun W e=>jmM (T.ext e) (hB.ext e) (by omega) (fun t h=> ?_), .inl ⟨rfl,rfl⟩⟩
          have:=jnP h hN hkp hcm (jnx c pk k [jov k])
          rwa [show (fun j=>cm j||j==k)=cm from funext fun j=>by
           by_cases y:j=k
           ·rw [y,hcm];rfl
           ·rw [beq_false_of_ne y,Bool.or_false]]
        have hq':Hid (∀ (q:Nat) (z:Int),q < x+1→ys[q]? =some z→0≤z→(cm (z % (p:Int)).toNat||(z % (p:Int)).toNat==k)=true):=fun q z' h1 h2 h3=>by
         rcases jow q x with y | y
         ·rw [hq q z' y h2 h3];rfl
         ·obtain rfl:q=x:=by omega
          rw [hzx] at h2
          injection h2 with h2
          rw [←h2,hkm,beq_self_eq_true,Bool.or_true]
        replace T:=Hj T
        replace OW:=Hj OW
        replace hL:=Hj hL
        replace kb:=Hj kb
        replace rb:=Hj rb
        replace O:=Hj O
        replace X:=Hj X
        replace hzx:=Hj hzx
        replace hC:=Hj hC
        replace hcases:=Hj hcases
        replace hkm:=Hj hkm
        replace lLp:=Hj lLp
        replace hg8:=Hj hg8
        replace hB:=Hj hB
        clear hq hCe cel FL hz0
        generalize hdC pk 0 (k:Int)=H at *
        go_upto_region 24 with fail
        have e0:=(jnQ wr).drew
        have R8:=Hj (RC.out wr.drew e0)
        have P8:Hid (Cb wr.drew r1 28 [.pointer (some ⟨sa,0,none⟩), .pointer (some ⟨sb,0,none⟩)]∧OwnC w3.heap.size wr.drew 51 37 (some ⟨b9,0,none⟩) p c9 L∧(∀ j C,L[j]? =some C→MsAt c pk w3.heap.size wr.drew j C)∧wr.drew.rowIs r14 4 p (fun j=> .bool (cm j))∧OwnC w5.heap.size wr.drew 3 1 (some ⟨b7,0,none⟩) M c7 (jl ys)∧Ext w wr.drew):=⟨kb.out.ext e0,OW.out.ext e0,fun j C q=>(hL.out j C q).ext e0,rb.out.drew,O.out.ext e0,X.out.trans e0⟩
        have T3:Hid (∀ s,wr.drew.grownBy s (some sb)→s.cell? ⟨r1,1,none⟩=some (.pointer (some ⟨sb,0,none⟩))∧(∀ q_ v,H[q_]? =some v→s.cell? ⟨b9,k*37+1+q_,none⟩=some v)∧s.cell? ⟨b9,k*37+35,none⟩=some (.slice (some ⟨b,0,none⟩) 33 d8)):=fun s e=>
         have t:=Two.of_grown (g':=sb) e
         have e9:=t.2.2.2.2 b9 (jos hb9w e0.size) (by omega) (by omega)
         ⟨Cb.cell (t.block P8.out.1 (by omega) (by omega):Cb s r1 28 _) (j:=1) rfl,fun q v hv=>(World.cell?_of_block e9).trans (MC.out.1 q v hv),(World.cell?_of_block e9).trans MC.out.2⟩
        clear RC kb OW hL rb O X MC T c1' cz e0
        refine qgW sb [0,1,2,3,4,5,6,7,8,9,10,11,12,13,14,15,16,17] [12] ?_
        have szd:wr.heap.size≤wr.drew.heap.size:=(jnQ wr).drew.size
        generalize wr.drew=W at *
        repeat ((first | refine qR _ (fun w' e=>jnR (T3.out w' e).1 (T3.out w' e).2.2) ?_ | refine qS ?_);go_frame)
        refine qV rfl (fun w'=>∀ q_ v,H[q_]? =some v→w'.cell? ⟨b9,(k*37+1)+q_,none⟩=some v) (fun w' e=>(T3.out w' e).2.1) (.agg H.toArray) (fun w' hF=>jy rfl rfl hF rfl rfl (by rw [L_H];rfl)) ?_
        go_frame
        repeat ((first | refine qR _ (fun w' e=>jnR (T3.out w' e).1 (T3.out w' e).2.2) ?_ | refine qS ?_);go_frame)
        refine qD fun K hK=> ?_
        go_simp
        refine R8.out.mono ?_
        rintro e w8 ⟨A8,n8,c8,rfl,O8,D8,g8⟩
        refine hK.out _ _ g8 ?_
        clear hK K
        try go_frame
        repeat ((first | refine qR0 ?_ | refine qS ?_);go_frame)
        refine jp ?_
        have t8:=Two.of_grown (g':=sb) g8
        have sz8:=g8.size
        have kb8:Cb w8 r1 28 [.pointer (some ⟨sa,0,none⟩), .pointer (some ⟨sb,0,none⟩)]:=t8.block P8.out.1 (by omega) (by omega)
        have OW8:OwnC w3.heap.size w8 51 37 (some ⟨b9,0,none⟩) p c9 L:=P8.out.2.1.keep13 fun j cs q hj=>t8.block q (by omega) (by omega)
        have hL8:∀ j C,L[j]? =some C→MsAt c pk w3.heap.size w8 j C:=fun j C q=>(P8.out.2.2.1 j C q).two t8 (by omega) (by omega)
        have rb8:w8.rowIs r14 4 p (fun j=> .bool (cm j)):=P8.out.2.2.2.1.of_block (t8.2.2.2.2 r14 P8.out.2.2.2.1.lt (by omega) (by omega))
        have OI8:OwnC w5.heap.size w8 3 1 (some ⟨b7,0,none⟩) M c7 (jl ys):=P8.out.2.2.2.2.1.keep13 fun j cs q hj=>t8.block q (by omega) (by omega)
        have X8:Ext w w8:=JQ P8.out.2.2.2.2.2 g8 (by omega)
        have t9:=Two.setCellR w8 r14 k (.bool true)
        have R9:Hid (One c pk (w8.setCell ⟨r14,k,none⟩ (.bool true)) sa ga la sb gb lb p (Lq u c pk p (fun j=>cm j||j==k)) tg tp∧OwnC w3.heap.size (w8.setCell ⟨r14,k,none⟩ (.bool true)) 51 37 (some ⟨b9,0,none⟩) p c9 L∧(∀ j C,L[j]? =some C→MsAt c pk w3.heap.size (w8.setCell ⟨r14,k,none⟩ (.bool true)) j C)∧Cb (w8.setCell ⟨r14,k,none⟩ (.bool true)) r1 28 [.pointer (some ⟨sa,0,none⟩), .pointer (some ⟨sb,0,none⟩)]∧(w8.setCell ⟨r14,k,none⟩ (.bool true)).rowIs r14 4 p (fun j=> .bool (cm j||j==k))∧OwnC w5.heap.size (w8.setCell ⟨r14,k,none⟩ (.bool true)) 3 1 (some ⟨b7,0,none⟩) M c7 (jl ys)∧Ext w (w8.setCell ⟨r14,k,none⟩ (.bool true))):=by
         obtain ⟨Cc,hc,_⟩:=id rb8
         have ne:∀ {j:Nat} {cs:Array Value} {T:joE},w8.heap[j]? =some (.cells cs T (0,0))→T≠4→j≠r14:=fun q hT z=>by
          rw [z,hc] at q
          injection q with q
          injection q with _ q _
          exact hT q.symm
         refine ⟨D8.cb (r:=r14) (T:=4) (L:=Cc.toList) (by unfold Cb;rw [hc]) ⟨by decide,by decide⟩ (by omega) (by omega) t9,OW8.keep13 fun j cs q hj=>t9.block q (ne q (by decide)) (ne q (by decide)),fun j C q=>(hL8 j C q).same fun j C q hj=>t9.2.2.2.2 j (jh q) (ne q (by decide)) (ne q (by decide)),t9.block kb8 (by omega) (by omega),(rb8.set k (.bool true)).congr fun j hj=> ?_,OI8.keep13 fun j cs q hj=>t9.block q (ne q (by decide)) (ne q (by decide)),Two.ext X8 t9 (by omega) (by omega)⟩
         by_cases y:j=k
         ·rw [if_pos y,y,beq_self_eq_true,Bool.or_true]
         ·rw [if_neg y,beq_false_of_ne y,Bool.or_false]
        have ck:=rb8.cell hkp
        have fk:=rb8.frozen k
        clear R8 T3 P8 t8 g8 D8 kb8 OW8 hL8 rb8 OI8 X8 t9
        replace R9:=Hj R9
        rcases hcases.out with ⟨hcm,rfl⟩ | ⟨hcm,rfl,rfl⟩
        ·rw [hcm] at ck
         replace hcm:=Hj hcm
         clear O8 BG
         go_wp2_with fail
         go_round
         case rel=>exact ⟨x+1,fun j=>cm j||j==k,by omega,by first | rfl | (rw [rx]),R9.out.1,R9.out.2.1,R9.out.2.2.1,R9.out.2.2.2.1,R9.out.2.2.2.2.1,R9.out.2.2.2.2.2.1,hq'.out,R9.out.2.2.2.2.2.2⟩
         case measure=>simp [intOf];omega
        ·rw [hcm] at ck
         replace hcm:=Hj hcm
         obtain rfl:n8=1:=O8.bs.len.symm
         obtain ⟨g0,_,rfl,_,_⟩:=O8.at0 (by omega)
         have cx:w8.cell? ⟨g0,0,none⟩=some (.int .u8 (k:Int)):=by
          obtain ⟨b',o',q,_,h⟩:=O8.bs.2.2.2 (by omega)
          cases q
          have:=h 0 (by omega)
          rw [this]
          simp [bt]
          omega
         clear O8 BG
         go_wp2_with fail
         go_round
         case rel=>exact ⟨x+1,fun j=>cm j||j==k,by omega,by first | rfl | (rw [rx]),R9.out.1,R9.out.2.1,R9.out.2.2.1,R9.out.2.2.2.1,R9.out.2.2.2.2.1,R9.out.2.2.2.2.2.1,hq'.out,R9.out.2.2.2.2.2.2⟩
         case measure=>simp [intOf];omega
      ·have v3:decide ((x:Int) < (M:Int))=false:=decide_eq_false (by omega)
       have hall:∀ j,j < p→cm j=true:=fun j hj=>by
        have:=hq (1+n+j) (j:Int) (by have:=hM.out;omega) (hy j hj) (by omega)
        rwa [Int.emod_eq_of_lt (by omega) (by omega),Int.toNat_natCast] at this
       have KP:=Hj (jmL (N:=0) T (fun t h=>jnN h hall))
       replace T:=Hj T
       clear OW hL rb O hq hall
       go_wp2_with fail
       refine KP.out.mono ?_
       rintro e w9 ⟨rfl,x9⟩
       have F:=Hj (X.trans x9)
       clear KP x9 X
       go_wp2_with fail
       go_ret
       exact ⟨rfl,F.out⟩
end Go.Proofs.YtakpgbaijkhpmaaGreatDoor
