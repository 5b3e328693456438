/- The law RatchetSkips (written by gen13skips.py). -/
import Derived.Test.YtakpgbaijkhpmaaGreatDoorPkAO
import Derived.Deep.DeepCutAuto
open Array renaming all_eq_true_iff_forall_mem→joP
open Go renaming TypeId→jow,heap_alloc_new→jpk,splice→jo3,zeroValue→joC
open Go.Act renaming put→joL
open Go.Instr renaming fill→jpi
open Go.IntWalk renaming i64_in→jnZ
open Go.Proofs.Tryz renaming prog→jor,underlying23→jpx,underlying47→jol
open Go.Value renaming agg→jpj,int→jou,pointer→jon
open List renaming append_assoc→jo7,getElem?_append_right→jpl,map_cons→jpu,map_nil→jpz,map_toArray→jpy,mem_append→joB,mem_cons→joy,mem_singleton→joz,not_mem_nil→jpt,replicate→jph,size_toArray→jpo
open Nat renaming le_of_eq→jod,le_refl→q8,zero_le→y4
namespace Go.Proofs.YtakpgbaijkhpmaaGreatDoor
set_option maxHeartbeats 64000000
set_option linter.unusedSimpArgs false
set_option linter.unusedVariables false
open Go.ChangeShapes Go.WideShapes Go.ChangeAt Go.RowKit Go.Deep Go.Maps
set_option maxRecDepth 100000
def msC (H:List Value) (A:Option Addr) (n c:Nat):List Value:= [.int .i64 0]++(H++([.slice A n c]++ [.slice none 0 0]))
theorem jm1 {H:List Value}(h:H.length=34) (A:Option Addr) (n c:Nat):(msC H A n c).length=37:=by simp [msC,h]
theorem jm9 (w:World):(joC 51).run jor w= .ok (.agg (msC (hdC (jph 32 0) 0 0) none 0 0).toArray) w:=by kernel_rfl
theorem jna {H:List Value}(h:H.length=34) (A:Option Addr) (n c:Nat):Tryz.prog.built 51 [(1, .agg H.toArray),(2, .slice A n c)]=some (msC H A n c).toArray:=by
 have h':∃ pl:Nat→Option (Nat×Nat),(pl 1=some (1,34)∧pl 2=some (35,1))∧∀ ps,Tryz.prog.built 51 ps=jpi pl ([jou .i64 0]++(hdC (jph 32 0) 0 0++([Value.slice none 0 0]++ [Value.slice none 0 0]))).toArray ps:=⟨(#[(0,1),(1,34),(35,1),(36,1)][·]?),⟨rfl,rfl⟩,fun ps=>by kernel_rfl⟩
 obtain ⟨pl,⟨h1,h2⟩,hp⟩:=h'
 have lz:(hdC (jph 32 0) 0 0).length=34:=yz rfl _ _
 rw [hp]
 generalize hdC (jph 32 0) 0 0=Z at *
 rw [qK h1 (by simp [qo,h]) (by simp [lz])]
 have e1:jo3 ([jou .i64 0]++(Z++([Value.slice none 0 0]++ [.slice none 0 0]))) 1 (jpj H.toArray).cells.toList= [jou .i64 0]++(H++([Value.slice none 0 0]++ [.slice none 0 0])):=qB (p:= [jou .i64 0]) rfl (by rw [lz];simp [qo,h])
 rw [e1,qK h2 rfl (by simp [h])]
 have e2:jo3 ([jou .i64 0]++(H++([Value.slice none 0 0]++ [.slice none 0 0]))) 35 (Value.slice A n c).cells.toList=msC H A n c:=by
  rw [←jo7]
  refine (qB (p:= [jou .i64 0]++H) (y:= [Value.slice none 0 0]) (z:= [Value.slice A n c]) (q:= [Value.slice none 0 0]) (by simp [h]) rfl).trans ?_
  rw [jo7]
  rfl
 rw [e2]
 rfl
theorem jnf {H:List Value}(h:H.toArray.all (·.oneCell')=true) (A:Option Addr) (n c:Nat):(msC H A n c).toArray.all (·.oneCell')=true:=qC fun v hv=>by
 simp only [msC,joB,joz] at hv
 rcases hv with rfl | hv | rfl | rfl
 ·rfl
 ·exact (joP.1 h) v (by simpa using hv)
 ·rfl
 ·rfl
theorem jmH {w:World}{shared:List UInt8}(lr:shared.length=32){m:Int}(hm: -9223372036854775808≤m∧m≤9223372036854775807){tg tp:jow×Nat×Nat}(hG:Gl w tg) (hP:Gp w tp):
 Calls jor 8 #[.agg (cellsOf shared).toArray, .int .i64 m] w fun e w'=>e= .returned (.bool true)∧Ext w w':=by
 have AW:Hid (∀ W,Ext w W→Calls jor 15 #[] W fun e w'=>e= .returned (.bool true)∧Ext W w'):=fun W e=>jbd (hG.kept e hG.lt) (hP.ext e)
 have TW:Hid (∀ W,Ext w W→Calls jor 17 #[.agg (cellsOf shared).toArray] W fun e w'=>∃ sa ga la sb gb lb u c pk,e= .returned (.agg #[.pointer (some ⟨sa,0,none⟩), .pointer (some ⟨sb,0,none⟩)])∧Bgn u c pk∧One c pk w' sa ga la sb gb lb 0 (fun t=>HrB u c pk t (fun _=>false) 0) tg tp∧Ext W w'∧(W.heap.size≤sa∧sa < w'.heap.size)∧(W.heap.size≤ga∧ga < w'.heap.size)∧(W.heap.size≤sb∧sb < w'.heap.size)∧(W.heap.size≤gb∧gb < w'.heap.size)):=fun W e=>jnd lr (hG.kept e hG.lt) (hP.ext e)
 have K_:(cellsOf shared).toArray.size=32:=by rw [jpo,ja,lr]
 have YK:Hid (Cb (w.alloc (.cells (cellsOf shared).toArray 23)) w.heap.size 23 (cellsOf shared)):=Cb.new _ _ _
 generalize cellsOf shared=KL at *
 clear hG hP lr
 have hal2:=JD
 obtain ⟨T0,hT0⟩:∃ x,x=jjJ:=⟨_,rfl⟩
 rw [←hT0] at hal2
 have S_T0:T0.toArray.size=2:=by rw [hT0];rfl
 clear hT0
 have hal:=Jp
 have hal3:=jm9
 obtain ⟨ZM,hZM⟩:∃ x,x=msC (hdC (jph 32 0) 0 0) none 0 0:=⟨_,rfl⟩
 rw [←hZM] at hal3
 have L_ZM:ZM.length=37:=by rw [hZM];exact jm1 (yz rfl _ _) _ _ _
 clear hZM
 have L_hz:(hdC (jph 32 0) 0 0).length=34:=yz rfl _ _
 generalize hdC (jph 32 0) 0 0=ZH at *
 have S_hz:ZH.toArray.size=34:=by rw [jpo,L_hz]
 have CV:Hid (∀ (W:World) A n c (ys:List UInt8),Bs W A n c ys→(convert 33 9 (.slice A n c)).run jor W= .ok (.string (vR ys)) W):=fun W A n c ys h=>jfz h
 go_enter Tryz.func8,Tryz.ntmps8
 go_wp2_with fail
 refine (AW.out _ ((Ext.refl w).alloc _)).mono ?_
 rintro e w1 ⟨rfl,e1⟩
 have kk:=Hj (YK.out.ext e1)
 have X1:Hid (Ext w w1):=((Ext.refl w).alloc _).trans e1
 have sz1:=X1.out.size
 clear AW YK e1
 go_wp2_with (first | ((with_reducible refine js (o:=⟨some 20,_,_,_,_,_⟩) ?_ 23 _ rfl w.heap.size ?_ 23 KL.toArray (0,0) _ ?_ jpx ?_ ?_ ?_);(·rfl);(·rfl);(·exact kk.out);(·rfl);(·rw [K_];rfl);go_frame))
 refine (TW.out w1 X1.out).mono ?_
 rintro e w2 ⟨sa,ga,la,sb,gb,lb,u,c,pk,rfl,BG,D1,x2,⟨a1,a2⟩,⟨a3,a4⟩,⟨b1,b2⟩,⟨b3,b4⟩⟩
 have ww2:=x2.size
 have X2:Hid (Ext w w2):=X1.out.trans x2
 have lpk:=D1.lp
 have OO:Hid (#[jon (some ⟨sa,0,none⟩), .pointer (some ⟨sb,0,none⟩)].all (·.oneCell')=true):=qC (L:= [jon (some ⟨sa,0,none⟩), .pointer (some ⟨sb,0,none⟩)]) (fun v hv=>by
  simp only [joy,jpt,or_false] at hv
  rcases hv with rfl | rfl <;> rfl)
 have Y:Hid (Cb ((w2.alloc (.cells T0.toArray 28)).setRow w2.heap.size #[.pointer (some ⟨sa,0,none⟩), .pointer (some ⟨sb,0,none⟩)]) w2.heap.size 28 [.pointer (some ⟨sa,0,none⟩), .pointer (some ⟨sb,0,none⟩)]∧Ext w2 ((w2.alloc (.cells T0.toArray 28)).setRow w2.heap.size #[.pointer (some ⟨sa,0,none⟩), .pointer (some ⟨sb,0,none⟩)])):=⟨Cb.set (Cb.new _ _ _),Ext.newRow _ _ _⟩
 replace BG:=Hj BG
 replace D1:=Hj D1
 replace x2:=Hj x2
 clear TW kk X1
 go_upto_region 3 with (refine ws_ rfl 28 rfl w2.heap.size #[.pointer (some ⟨sa,0,none⟩), .pointer (some ⟨sb,0,none⟩)] rfl rfl (jpk _ _) rfl (by rw [S_T0];rfl) OO.out ?_;simp only [joL])
 obtain ⟨r1,hr1⟩:∃ x,x=w2.heap.size:=⟨_,rfl⟩
 refine jg (fun W=>Cb W w2.heap.size 28 [.pointer (some ⟨sa,0,none⟩), .pointer (some ⟨sb,0,none⟩)]∧Ext w2 W) Y.out ?_
 rw [←hr1]
 have wr1:w2.heap.size≤r1:=jod hr1.symm
 clear Y OO hr1
 rintro w3 ⟨k1,x3⟩
 have c0:=k1.cell (j:=0) rfl
 have c1:=k1.cell (j:=1) rfl
 have k1l:=k1.lt
 have D3:Hid (One c pk w3 sa ga la sb gb lb 0 (fun t=>HrB u c pk t (fun _=>false) 0) tg tp):=D1.out.ext x3
 have X3:Hid (Ext w w3):=X2.out.trans x3
 have sz3:=x3.size
 replace k1:=Hj k1
 clear D1 x2 x3 X2 hal2 S_T0 T0
 by_cases h0:m < 0
 ·have u1:decide (m < 0)=true:=decide_eq_true h0
  go_wp2_with fail
  go_ret
  exact ⟨rfl,X3.out⟩
 have u1:decide (m < 0)=false:=decide_eq_false h0
 by_cases h12:12 < m
 ·have u2:decide (12 < m)=true:=decide_eq_true h12
  go_wp2_with fail
  go_ret
  exact ⟨rfl,X3.out⟩
 have u2:decide (12 < m)=false:=decide_eq_false h12
 obtain ⟨N,rfl⟩:∃ N:Nat,m=(N:Int):=⟨m.toNat,by omega⟩
 have hN:N≤12:=by omega
 clear h0 h12 hm
 have Y7:Hid (Cb (w3.alloc (.cells ZM.toArray 51)) w3.heap.size 51 ZM∧Ext w3 (w3.alloc (.cells ZM.toArray 51))):=⟨Cb.new _ _ _,(Ext.refl _).alloc _⟩
 go_upto_region 6 with fail
 obtain ⟨r7,hr7⟩:∃ x,x=w3.heap.size:=⟨_,rfl⟩
 refine jg (fun W=>Cb W w3.heap.size 51 ZM∧Ext w3 W) Y7.out ?_
 rw [←hr7]
 have r7g:w3.heap.size≤r7:=jod hr7.symm
 clear Y7 hr7 c0 c1
 rintro w4 ⟨k7,x4⟩
 have D4:Hid (One c pk w4 sa ga la sb gb lb 0 (fun t=>HrB u c pk t (fun _=>false) 0) tg tp):=D3.out.ext x4
 have X4:Hid (Ext w w4):=X3.out.trans x4
 have k14:=k1.out.ext x4
 have sz4:=x4.size
 clear D3 X3 k1 x4
 go_wp2_with fail
 go_loopw [8] (fun iv wr=>∃ (i:Nat) (C:List Value),i≤N∧iv= .int .i64 (i:Int)∧One c pk wr sa ga la sb gb lb i (fun t=>HrB u c pk t (fun _=>false) 0) tg tp∧Cb wr r1 28 [.pointer (some ⟨sa,0,none⟩), .pointer (some ⟨sb,0,none⟩)]∧Cb wr r7 51 C∧C.length=37∧(0 < i→∃ b off n d y,C=msC (hdC pk 0 0) (some ⟨b,off,none⟩) n d∧w4.heap.size≤b∧b < wr.heap.size∧Bs wr (some ⟨b,off,none⟩) n d (jnx c pk 0 [y]))∧Ext w wr∧w4.heap.size≤wr.heap.size) (fun v _=>N - (intOf v).toNat)
 case atStart=>exact ⟨0,ZM,y4 _,rfl,D4.out,k14,k7,L_ZM,fun z=>by omega,X4.out,q8 _⟩
 case round=>
  obtain ⟨i,C,hi,rfl,T,kb,k7,lC,hC,X,sz⟩:=hrel
  have c0:=kb.cell (j:=0) rfl
  have c1:=kb.cell (j:=1) rfl
  have kbl:=kb.lt
  have k7l:=k7.lt
  have szX:=X.size
  clear D4 X4 k14 L_ZM
  by_cases hlt:i < N
  ·have v1:decide ((i:Int) < (N:Int))=true:=decide_eq_true (by omega)
   obtain ⟨y,hy⟩:=jjL (i:Int)
   have SND:=Hj (jmV (T.ext ((Ext.refl wr).alloc (.cells #[.int .u8 (y.toNat:Int)] 5))) (by omega) (B:=some ⟨wr.heap.size,0,none⟩) (m2:=1) (c2:=1) (text:= [y]) (by simp) (fun x e=>(Bs.one8 wr _ y _ rfl).two13 e (by omega) (by omega)))
   replace T:=Hj T
   replace kb:=Hj kb
   replace k7:=Hj k7
   replace X:=Hj X
   replace hC:=Hj hC
   go_wp2_with fail
   refine SND.out.mono ?_
   rintro e w6 ⟨A6,n6,c6,rfl,O6,D6,t6⟩
   obtain rfl:n6=33:=by rw [←O6.bs.len,jmJ];rfl
   obtain ⟨b6,off6,rfl,hb6⟩:=O6.at13 (by omega)
   have bl6:b6 < w6.heap.size:=by obtain ⟨b',o',q,h,_⟩:=O6.bs.2.2.2 (by omega);cases q;exact h
   rw [je] at hb6
   have ea:Ext wr (wr.alloc (.cells #[.int .u8 (y.toNat:Int)] 5)):=(Ext.refl wr).alloc _
   have sa6:=t6.2.2.2.1
   rw [je] at sa6
   have k16:Cb w6 r1 28 [.pointer (some ⟨sa,0,none⟩), .pointer (some ⟨sb,0,none⟩)]:=t6.block (kb.out.ext ea) (by omega) (by omega)
   have k76:Cb w6 r7 51 C:=t6.block (k7.out.ext ea) (by omega) (by omega)
   have X6:Hid (Ext w w6):=Two.ext (X.out.trans ea) t6 (by omega) (by omega)
   have hC6:Hid (0 < i→∃ b off n d y,C=msC (hdC pk 0 0) (some ⟨b,off,none⟩) n d∧w4.heap.size≤b∧b < w6.heap.size∧Bs w6 (some ⟨b,off,none⟩) n d (jnx c pk 0 [y])):=fun z=>by
    obtain ⟨b,off,n,d,y',q1,q2,q3,q4⟩:=hC.out z
    exact ⟨b,off,n,d,y',q1,q2,by omega,(q4.ext ea).two13 t6 (by omega) (by omega)⟩
   have b6s:=O6.bs
   have S_H:(hdC pk 0 (i:Int)).toArray.size=34:=by rw [jpo,yz lpk]
   have O_H:Hid ((hdC pk 0 (i:Int)).toArray.all (·.oneCell')=true):=YZ
   have L_H:(hdC pk 0 (i:Int)).length=34:=yz lpk _ _
   obtain ⟨H,hH⟩:∃ x,x=hdC pk 0 (i:Int):=⟨_,rfl⟩
   rw [←hH] at S_H O_H L_H ⊢
   replace hH:=Hj (fun _:Unit=>hH)
   have Y:Hid (Cb ((w6.alloc (.cells ZH.toArray 47)).setRow w6.heap.size H.toArray) w6.heap.size 47 H∧Ext w6 ((w6.alloc (.cells ZH.toArray 47)).setRow w6.heap.size H.toArray)):=⟨Cb.set (Cb.new _ _ _),Ext.newRow _ _ _⟩
   replace D6:=Hj D6
   replace b6s:=Hj b6s
   replace k16:=Hj k16
   replace k76:=Hj k76
   clear SND t6 O6 T kb k7 X hC ea c0 c1
   go_upto_region 10 with (refine ws_ rfl 47 rfl w6.heap.size H.toArray rfl rfl (jpk _ _) (by rw [S_H];rfl) (by rw [S_H,S_hz]) O_H.out ?_;simp only [joL])
   obtain ⟨r9,hr9⟩:∃ x,x=w6.heap.size:=⟨_,rfl⟩
   refine jg (fun W=>Cb W w6.heap.size 47 H∧Ext w6 W) Y.out ?_
   rw [←hr9]
   clear Y hr9
   rintro w7 ⟨k97,x7⟩
   have k17:=Hj (k16.out.ext x7)
   have k77:=Hj (k76.out.ext x7)
   have D7:=Hj (D6.out.ext x7)
   have X7:=Hj (X6.out.trans x7)
   have b7s:=Hj (b6s.out.ext x7)
   have sz7:=x7.size
   have kl7:=k77.out.lt
   have hC7:Hid (0 < i→∃ b off n d y,C=msC (hdC pk 0 0) (some ⟨b,off,none⟩) n d∧w4.heap.size≤b∧b < w7.heap.size∧Bs w7 (some ⟨b,off,none⟩) n d (jnx c pk 0 [y])):=fun z=>by
    obtain ⟨b,off,n,d,y',q1,q2,q3,q4⟩:=hC6.out z
    exact ⟨b,off,n,d,y',q1,q2,by omega,q4.ext x7⟩
   clear k16 k76 D6 X6 b6s hC6 x7
   have ri:IntKind.i64.wrap ((i:Int)+1)=(i:Int)+1:=jnZ _ (by omega)
   rcases Nat.eq_zero_or_pos i with rfl | hp
   ·have MB:=Hj (jna L_H (some ⟨b6,off6,none⟩) 33 c6)
    have L_C:=jm1 L_H (some ⟨b6,off6,none⟩) 33 c6
    have O_C:=Hj (jnf O_H.out (some ⟨b6,off6,none⟩) 33 c6)
    have hCC:Hid (∀ _:Unit,msC H (some ⟨b6,off6,none⟩) 33 c6=msC (hdC pk 0 0) (some ⟨b6,off6,none⟩) 33 c6):=fun _=>by rw [hH.out ()];rfl
    generalize msC H (some ⟨b6,off6,none⟩) 33 c6=C' at *
    have S_C:C'.toArray.size=37:=by rw [jpo,L_C]
    have SS:C'.toArray.size=C.toArray.size:=by rw [S_C,jpo,lC]
    have t8:=Two.row (g:=r7) (g':=r7) w7 C'.toArray
    have R:Hid (One c pk (w7.setRow r7 C'.toArray) sa ga la sb gb lb (0+1) (fun t=>HrB u c pk t (fun _=>false) 0) tg tp∧Cb (w7.setRow r7 C'.toArray) r1 28 [.pointer (some ⟨sa,0,none⟩), .pointer (some ⟨sb,0,none⟩)]∧Cb (w7.setRow r7 C'.toArray) r7 51 C'∧Bs (w7.setRow r7 C'.toArray) (some ⟨b6,off6,none⟩) 33 c6 (jnx c pk 0 [y])∧Ext w (w7.setRow r7 C'.toArray)):=
     ⟨D7.out.cb k77.out ⟨by decide,by decide⟩ (by omega) (by omega) t8,t8.block k17.out (by omega) (by omega),k77.out.set,b7s.out.two13 t8 (by omega) (by omega),Two.ext X7.out t8 (by omega) (by omega)⟩
    have sz8:=t8.2.2.2.1
    clear D7 k17 X7 b7s hC7 t8 hH
    go_wp2_with (first
     | ((with_reducible refine js (o:=⟨some 68,_,_,_,_,_⟩) ?_ 47 _ rfl r9 ?_ 47 H.toArray (0,0) _ ?_ jol ?_ ?_ ?_);(·rfl);(·rfl);(·exact k97);(·rfl);(·rw [S_H];rfl);go_frame)
     | ((with_reducible refine jm (o:=⟨some 70, .build 51 _,_,_,_,_⟩) ?_ 51 _ rfl C'.toArray ?_ ?_);(·rfl);(·simp only [jpy,jpu,jpz];exact MB.out);go_frame)
     | ((with_reducible refine wpList_store_row (o:=⟨none, .store 51 (.tmp 7) (.tmp 70),_,_,_,_⟩) ?_ 51 _ _ rfl r7 C'.toArray ?_ ?_ 51 C.toArray ?_ ?_ ?_ ?_ ?_);(·rfl);(·rfl);(·rfl);(·exact k77.out);(·rw [S_C];rfl);(·(rw [SS]));(·exact O_C.out);go_frame))
    go_round
    case rel=>exact ⟨0+1,C',by omega,by first | rfl | (rw [ri]),R.out.1,R.out.2.1,R.out.2.2.1,L_C,fun _=>⟨b6,off6,33,c6,y,hCC.out (),by omega,by omega,R.out.2.2.2.1⟩,R.out.2.2.2.2,by omega⟩
    case measure=>simp [intOf];omega
   ·have v3:((i:Int)==0)=false:=beq_false_of_ne (by omega)
    have v4: ¬ (i:Int)=0:=by omega
    have v5: ¬ i=0:=by omega
    go_wp2_with fail
    go_round
    case rel=>exact ⟨i+1,C,by omega,by first | rfl | (rw [ri]),D7.out,k17.out,k77.out,lC,fun _=>hC7.out hp,X7.out,by omega⟩
    case measure=>simp [intOf];omega
  ·have v1:decide ((i:Int) < (N:Int))=false:=decide_eq_false (by omega)
   obtain rfl:i=N:=by omega
   have hcv:=Qn
   have ea:Hid (Ext wr (wr.alloc (.cells #[.int .u8 108, .int .u8 97, .int .u8 115, .int .u8 116] 5 (4,5)))):=(Ext.refl wr).alloc _
   have bl:Hid (Bs (wr.alloc (.cells #[.int .u8 108, .int .u8 97, .int .u8 115, .int .u8 116] 5 (4,5))) (some ⟨wr.heap.size,0,none⟩) 4 4 [108,97,115,116]):=Bs.lit13 wr _ (4,5) [108,97,115,116] _ rfl 4 rfl (by omega)
   obtain ⟨LT,hLT⟩:∃ x:List UInt8,x= [108,97,115,116]:=⟨_,rfl⟩
   have L_T:LT.length=4:=by rw [hLT];rfl
   rw [←hLT] at bl
   have SND:=Hj (jmV (T.ext ea.out) (by omega) (B:=some ⟨wr.heap.size,0,none⟩) (m2:=4) (c2:=4) (text:=LT) (by omega) (fun x e=>bl.out.two13 e (by omega) (by omega)))
   have wl:=ea.out.size
   have sla:(wr.alloc (.cells #[.int .u8 108, .int .u8 97, .int .u8 115, .int .u8 116] 5 (4,5))).heap.size=wr.heap.size+1:=je _ _
   replace hLT:=Hj (fun _:Unit=>hLT)
   replace sla:=Hj sla
   replace T:=Hj T
   replace kb:=Hj kb
   replace k7:=Hj k7
   replace X:=Hj X
   replace hC:=Hj hC
   go_wp2_with fail
   refine SND.out.mono ?_
   rintro e w6 ⟨A6,n6,c6,rfl,O6,D6,t6⟩
   obtain rfl:n6=36:=by rw [←O6.bs.len,jmJ,L_T]
   obtain ⟨b6,off6,rfl,hb6⟩:=O6.at13 (by omega)
   have bl6:b6 < w6.heap.size:=by obtain ⟨b',o',q,h,_⟩:=O6.bs.2.2.2 (by omega);cases q;exact h
   rw [sla.out] at hb6
   have sa6:=t6.2.2.2.1
   rw [sla.out] at sa6
   have k16:Cb w6 r1 28 [.pointer (some ⟨sa,0,none⟩), .pointer (some ⟨sb,0,none⟩)]:=t6.block (kb.out.ext ea.out) (by omega) (by omega)
   have k76:Cb w6 r7 51 C:=t6.block (k7.out.ext ea.out) (by omega) (by omega)
   have X6:Hid (Ext w w6):=Two.ext (X.out.trans ea.out) t6 (by omega) (by omega)
   have hC6:Hid (0 < i→∃ b off n d y,C=msC (hdC pk 0 0) (some ⟨b,off,none⟩) n d∧w4.heap.size≤b∧b < w6.heap.size∧Bs w6 (some ⟨b,off,none⟩) n d (jnx c pk 0 [y])):=fun z=>by
    obtain ⟨b,off,n,d,y',q1,q2,q3,q4⟩:=hC.out z
    exact ⟨b,off,n,d,y',q1,q2,by omega,(q4.ext ea.out).two13 t6 (by omega) (by omega)⟩
   have b6s:=O6.bs
   have S_H:(hdC pk 0 (i:Int)).toArray.size=34:=by rw [jpo,yz lpk]
   have O_H:Hid ((hdC pk 0 (i:Int)).toArray.all (·.oneCell')=true):=YZ
   have Y:Hid (Cb ((w6.alloc (.cells ZH.toArray 47)).setRow w6.heap.size (hdC pk 0 (i:Int)).toArray) w6.heap.size 47 (hdC pk 0 (i:Int))∧Ext w6 ((w6.alloc (.cells ZH.toArray 47)).setRow w6.heap.size (hdC pk 0 (i:Int)).toArray)):=⟨Cb.set (Cb.new _ _ _),Ext.newRow _ _ _⟩
   replace D6:=Hj D6
   replace b6s:=Hj b6s
   replace k16:=Hj k16
   replace k76:=Hj k76
   clear SND t6 O6 T kb k7 X hC ea bl sla c0 c1
   go_upto_region 15 with (refine ws_ rfl 47 rfl w6.heap.size (hdC pk 0 (i:Int)).toArray rfl rfl (jpk _ _) (by rw [S_H];rfl) (by rw [S_H,S_hz]) O_H.out ?_;simp only [joL])
   obtain ⟨r9,hr9⟩:∃ x,x=w6.heap.size:=⟨_,rfl⟩
   refine jg (fun W=>Cb W w6.heap.size 47 (hdC pk 0 (i:Int))∧Ext w6 W) Y.out ?_
   rw [←hr9]
   clear Y hr9
   rintro w7 ⟨k97,x7⟩
   have k17:=k16.out.ext x7
   have k77:=k76.out.ext x7
   have D7:=D6.out.ext x7
   have X7:=Hj (X6.out.trans x7)
   have b7s:=b6s.out.ext x7
   have sz7:=x7.size
   have kl7:=k77.lt
   have hC7:Hid (0 < i→∃ b off n d y,C=msC (hdC pk 0 0) (some ⟨b,off,none⟩) n d∧w4.heap.size≤b∧b < w7.heap.size∧Bs w7 (some ⟨b,off,none⟩) n d (jnx c pk 0 [y])):=fun z=>by
    obtain ⟨b,off,n,d,y',q1,q2,q3,q4⟩:=hC6.out z
    exact ⟨b,off,n,d,y',q1,q2,by omega,q4.ext x7⟩
   have c1:=k17.cell (j:=1) rfl
   by_cases h8:8 < i
   ·have v3:decide ((8:Int) < (i:Int))=true:=decide_eq_true (by omega)
    have RCV:=Hj (jmM (j:=i) (Q':=fun t=>HrB u c pk t (fun _=>false) 0) (E:=6) (T:= []) D7 b7s (by omega) (fun t h=>by
     obtain ⟨q1,q2,q3,q4⟩:=jmS BG.out h h8 (by omega) (jnx c pk i LT)
     exact ⟨q1,q2,q3,by rw [q4];exact h⟩))
    replace k17:=Hj k17
    replace k97:=Hj k97
    clear D7 b7s k77 hC7 k16 k76 D6 X6 b6s hC6 x7 BG
    go_wp2_with (first | ((with_reducible refine js (o:=⟨some 85,_,_,_,_,_⟩) ?_ 47 _ rfl r9 ?_ 47 (hdC pk 0 (i:Int)).toArray (0,0) _ ?_ jol ?_ ?_ ?_);(·rfl);(·rfl);(·exact k97.out);(·rfl);(·rw [S_H];rfl);go_frame))
    refine RCV.out.mono ?_
    rintro e w8 ⟨A8,n8,c8,rfl,O8,D8,g8⟩
    have t8:=Two.of_grown (g':=sb) g8
    have k18:Cb w8 r1 28 [.pointer (some ⟨sa,0,none⟩), .pointer (some ⟨sb,0,none⟩)]:=t8.block k17.out (by omega) (by omega)
    have X8:Hid (Ext w w8):=JQ X7.out g8 (by omega)
    have KP:=Hj (jmL (N:=0) D8 (fun t h=>by rw [jmR h (fun j hj=>absurd hj (Nat.not_lt_zero j))];rfl))
    have c1':=k18.cell (j:=1) rfl
    clear RCV t8 g8 O8 D8 k17 X7 c1 k18
    go_wp2_with fail
    refine KP.out.mono ?_
    rintro e w9 ⟨rfl,x9⟩
    have F:=Hj (X8.out.trans x9)
    clear KP X8 x9
    go_wp2_with fail
    go_ret
    exact ⟨rfl,F.out⟩
   ·have v3:decide ((8:Int) < (i:Int))=false:=decide_eq_false (by omega)
    have RCV:=Hj (jmM (j:=i) (Q':=fun t=>HrB u c pk t (fun j=>false||j==i) (i+1)∧∃ p ks,t.L=jmG pk p 0 ks∧ks.length=i) (E:=0) (T:=LT) D7 b7s (by omega) (fun t h=>jm4 BG.out h (by omega) LT))
    replace k17:=Hj k17
    replace k77:=Hj k77
    replace k97:=Hj k97
    clear D7 b7s k16 k76 D6 X6 b6s hC6 x7 BG
    go_wp2_with (first | ((with_reducible refine js (o:=⟨some 85,_,_,_,_,_⟩) ?_ 47 _ rfl r9 ?_ 47 (hdC pk 0 (i:Int)).toArray (0,0) _ ?_ jol ?_ ?_ ?_);(·rfl);(·rfl);(·exact k97.out);(·rfl);(·rw [S_H];rfl);go_frame))
    refine RCV.out.mono ?_
    rintro e w8 ⟨A8,n8,c8,rfl,O8,D8,g8⟩
    have t8:=Two.of_grown (g':=sb) g8
    have k18:Cb w8 r1 28 [.pointer (some ⟨sa,0,none⟩), .pointer (some ⟨sb,0,none⟩)]:=t8.block k17.out (by omega) (by omega)
    have k78:Cb w8 r7 51 C:=t8.block k77.out (by omega) (by omega)
    have X8:Hid (Ext w w8):=JQ X7.out g8 (by omega)
    have sz8:=g8.size
    have hC8:Hid (0 < i→∃ b off n d y,C=msC (hdC pk 0 0) (some ⟨b,off,none⟩) n d∧Bs w8 (some ⟨b,off,none⟩) n d (jnx c pk 0 [y])):=fun z=>by
     obtain ⟨b,off,n,d,y',q1,q2,q3,q4⟩:=hC7.out z
     exact ⟨b,off,n,d,y',q1,q4.two13 t8 (by omega) (by omega)⟩
    have KP:=Hj (jmL (N:=i) D8 (fun t h=>by obtain ⟨_,p,ks,q1,q2⟩:=h;rw [q1,jny,q2]))
    have c1':=k18.cell (j:=1) rfl
    have cv:=CV.out _ _ _ _ _ O8.bs
    have u7:((vR LT).toList== [108,97,115,116])=true:=by rw [hLT.out ()];simp [vR]
    generalize vR LT=HS at *
    replace D8:=Hj D8
    replace k18:=Hj k18
    replace k78:=Hj k78
    clear RCV t8 g8 O8 k17 X7 c1 hC7 CV k77
    go_wp2_with fail
    refine KP.out.mono ?_
    rintro e w9 ⟨rfl,x9⟩
    have k19:=k18.out.ext x9
    have k79:=k78.out.ext x9
    have X9:=Hj (X8.out.trans x9)
    have D9:=Hj (D8.out.ext x9)
    have hC9:Hid (0 < i→∃ b off n d y,C=msC (hdC pk 0 0) (some ⟨b,off,none⟩) n d∧Bs w9 (some ⟨b,off,none⟩) n d (jnx c pk 0 [y])):=fun z=>by
     obtain ⟨b,off,n,d,y',q1,q4⟩:=hC8.out z
     exact ⟨b,off,n,d,y',q1,q4.ext x9⟩
    have sz9:=x9.size
    have c19:=k19.cell (j:=1) rfl
    replace k19:=Hj k19
    replace k79:=Hj k79
    clear KP X8 x9 D8 k18 k78 hC8 c1'
    rcases Nat.eq_zero_or_pos i with h0 | h0
    ·have y1:((i:Int)==0)=true:=by rw [h0];rfl
     have y2:(i:Int)=0:=by omega
     clear h0
     go_wp2_with fail
     go_ret
     exact ⟨rfl,X9.out⟩
    ·have y1:((i:Int)==0)=false:=beq_false_of_ne (by omega)
     have y2: ¬ (i:Int)=0:=by omega
     have y3: ¬ i=0:=by omega
     obtain ⟨b,off,n,d,y,hC,hB⟩:=hC9.out h0
     obtain rfl:n=33:=by rw [←hB.len,jmJ];rfl
     have RC2:=Hj (jmM (j:=0) (Q':=fun t=>t.L.length=i - 1) (E:=0) (T:= [y]) D9.out hB (by omega) (fun t h=>by
      obtain ⟨h1,p,ks,h2,h3⟩:=h
      exact jm5 h1 ⟨h2,h3⟩ h0 (by omega) [y]))
     obtain ⟨K,wK,hK⟩:∃ K:Nat,IntKind.i64.wrap ((i:Int) - 1)=(K:Int)∧i - 1=K:=⟨i - 1,by rw [show (i:Int) - 1=((i - 1:Nat):Int) by omega];exact jnZ _ (by omega),rfl⟩
     rw [hK] at RC2
     rw [show hdC pk 0 0=hdC pk 0 ((0:Nat):Int) from rfl] at hC
     have L_0:(hdC pk 0 ((0:Nat):Int)).length=34:=yz lpk _ _
     generalize hdC pk 0 ((0:Nat):Int)=H0 at *
     rw [hC] at k79
     have M9:Hid ((∀ q_ v,H0[q_]? =some v→w9.cell? ⟨r7,1+q_,none⟩=some v)∧w9.cell? ⟨r7,35,none⟩=some (.slice (some ⟨b,off,none⟩) 33 d)):=by
      refine ⟨k79.out.mid rfl rfl,k79.out.cell ?_⟩
      unfold msC
      rw [jpl (by simp),jpl (by simp [L_0])]
      simp [L_0]
     have c35:=M9.out.2
     clear hC hC9 D9 hB k79 hK y2
     go_wp2_with (first | ((with_reducible refine jI (o:=⟨some 124,_,_,_,_,_⟩) (ty:=47) (g:=r7) (off:=1) (ys:=H0) ?_ rfl ?_ ?_ jol ?_ ?_ ?_);(·rfl);(·rfl);(·exact M9.out.1);(·rfl);(·rw [L_0];rfl);go_frame))
     refine RC2.out.mono ?_
     rintro e w10 ⟨A10,n10,c10,rfl,O10,D10,g10⟩
     obtain rfl:n10=1:=O10.bs.len.symm
     have t10:=Two.of_grown (g':=sb) g10
     have k110:Cb w10 r1 28 [.pointer (some ⟨sa,0,none⟩), .pointer (some ⟨sb,0,none⟩)]:=t10.block k19.out (by omega) (by omega)
     have X10:Hid (Ext w w10):=JQ X9.out g10 (by omega)
     have KP2:=Hj (jmL (N:=K) D10 (fun t h=>h))
     have c1':=k110.cell (j:=1) rfl
     clear RC2 t10 g10 O10 D10 k19 X9 c19 M9 c35 k110
     go_wp2_with fail
     refine KP2.out.mono ?_
     rintro e w11 ⟨rfl,x11⟩
     have F:=Hj (X10.out.trans x11)
     clear KP2 X10 x11
     go_wp2_with fail
     go_ret
     exact ⟨rfl,F.out⟩
end Go.Proofs.YtakpgbaijkhpmaaGreatDoor
