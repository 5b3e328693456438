/- The law FrameWays. -/
import Derived.Test.YtakpgbaijkhpmaaGreatDoorPkAO
open Go renaming TypeId→jpz,heap_alloc_new→jqn
open Go.Act renaming put→jpO
open Go.Obj renaming cells→jqV
open Go.Proofs.Tryz renaming prog→jpu,underlying23→jqA
open Go.RowKit.Below renaming heap_setCell→jp4
open List renaming replicate→jqk,size_toArray→jqr
open Nat renaming le_of_eq→jrb,le_refl→jpl,le_trans→jpX
open Option.some renaming inj→jpA
namespace Go.Proofs.YtakpgbaijkhpmaaGreatDoor
set_option maxHeartbeats 64000000
set_option linter.unusedSimpArgs false
set_option linter.unusedVariables false
open Go.ChangeShapes Go.WideShapes Go.ChangeAt Go.RowKit Go.Deep Go.Maps
set_option maxRecDepth 100000
theorem jpd {w W:World}{r o:Nat}{v:Value}(x:Ext w W) (h:w.heap.size<=r):Ext w (W.setCell ⟨r,o,none⟩ v):=⟨x.os,x.tape,x.output,by simpa [World.setCell] using x.size,fun i hi=>(jp4 W ⟨r,o,none⟩ v i (by show i≠r;omega)).trans (x.block i hi)⟩
theorem jpf {w:World}{shared op:List UInt8}(lr:shared.length=32) (lop:op.length=32){y z:Int}{tg tp:jpz×Nat×Nat}(hG:Gl w tg) (hP:Gp w tp):
 Calls jpu 14 #[.agg (cellsOf shared).toArray, .agg (cellsOf op).toArray, .agg #[.int .i64 y, .int .i64 z]] w fun e w'=>e= .returned (.bool true)/\Ext w w':=by
 have AW:Hid (∀ W,Ext w W->Calls jpu 28 #[] W fun e w'=>e= .returned (.bool true)/\Ext W w'):=fun W x=>job (hG.kept x hG.lt) (hP.ext x)
 have TW:Hid (∀ W,Ext w W->Calls jpu 29 #[.agg (cellsOf shared).toArray] W fun e w'=>∃ l0 l1 sa ga la sb gb lb,e= .returned (.agg #[.pointer (some ⟨l0,0,none⟩), .pointer (some ⟨l1,0,none⟩)])/\LBeg shared w' l0 l1 sa ga la sb gb lb tg tp/\Ext W w'/\LLay W w' l0 l1 sa ga la sb gb lb):=fun W x=>jpa lr (hG.kept x hG.lt) (hP.ext x)
 have LA:Hid (∀ (W:World) (l0 l1 sa ga la sb gb lb b:Nat),LBeg shared W l0 l1 sa ga la sb gb lb tg tp->Bs W (some ⟨b,0,none⟩) 5 5 Y8->(b≠sa/\b≠ga)->Calls jpu 31 #[.pointer (some ⟨l0,0,none⟩), .agg (cellsOf op).toArray, .slice (some ⟨b,0,none⟩) 5 5] W fun e w'=>(jot W.heap.size l1 sb 2 5 op Y8 (fun x=>jpb x l0 l1 sa ga la sb gb lb tg tp) w' e/\Two sa ga W w')/\Cb w' l0 150 (lnC 2 5 sa)/\Cb w' l1 150 (lnC 5 2 sb)):=fun W l0 l1 sa ga la sb gb lb b h hb n=>by
  obtain ⟨⟨ka,ma,kb,mb,D⟩,k0,k1⟩:=id h;refine (jo9 h lop (by decide) (fun u x=>hb.two13 x n.1 n.2)).mono fun e w' q=>⟨q,?_⟩
  have hL:∀ i (C:List Value),Cb W i 150 C->Cb w' i 150 C:=fun i C hi=>by
   obtain ⟨L',hL'⟩:=D.pa.src.cb;exact q.2.block hi (fun z=>zt D.pa.ss.sq hi (by decide) z.symm) (fun z=>zt hL' hi (by decide) z.symm)
  exact ⟨hL _ _ k0,hL _ _ k1⟩
 have S_sh:(cellsOf shared).toArray.size=32:=by simp [ja,lr]
 have S_o:(cellsOf op).toArray.size=32:=by simp [ja,lop]
 have halk:=j2;have S_Z:=j7;have hzc:=jU;have ZL:(jqk 32 (0:UInt8)).length=32:=rfl;have hzo:=JI;generalize jr=Z at *;replace hzc:=Hj (fun _:Unit=>hzc)
 have hal2:=jn6;obtain ⟨T0,hT0⟩:∃ x,x=jjJ:=⟨_,rfl⟩;rw [<-hT0] at hal2;have S_T0:T0.toArray.size=2:=by rw [hT0];rfl
 clear hT0;have hale:=jn3;have L_z:=joH;generalize evZ=ZE at *;have S_ZE:ZE.toArray.size=69:=by rw [jqr,L_z]
 have CV:Hid (∀ (W:World) A n c (ys:List UInt8),Bs W A n c ys->(convert 33 9 (.slice A n c)).run jpu W= .ok (.string (vR ys)) W):=fun W A n c ys h=>jfz h
 obtain ⟨r,hr⟩:=ex_ w.heap.size;have B0:Hid (Cb (((w.alloc (.cells (cellsOf shared).toArray 23)).alloc (.cells (cellsOf op).toArray 23)).alloc (.cells #[.int .i64 y, .int .i64 z] 74)) r 23 (cellsOf shared)/\Cb (((w.alloc (.cells (cellsOf shared).toArray 23)).alloc (.cells (cellsOf op).toArray 23)).alloc (.cells #[.int .i64 y, .int .i64 z] 74)) (r+1) 23 (cellsOf op)/\Cb (((w.alloc (.cells (cellsOf shared).toArray 23)).alloc (.cells (cellsOf op).toArray 23)).alloc (.cells #[.int .i64 y, .int .i64 z] 74)) (r+1+1) 74 [.int .i64 y, .int .i64 z]/\Ext w (((w.alloc (.cells (cellsOf shared).toArray 23)).alloc (.cells (cellsOf op).toArray 23)).alloc (.cells #[.int .i64 y, .int .i64 z] 74))):=by
  rw [hr];exact ⟨jF _ _ _ _,jH _ _ _ _,jB _ _ _ _,(((jnQ w).alloc _).alloc _).alloc _⟩
 clear hG hP;go_enter Tryz.func14,Tryz.ntmps14
 go_upto_region 1 with fail
 refine jg (fun W=>Cb W r 23 (cellsOf shared)/\Cb W (r+1) 23 (cellsOf op)/\Cb W (r+1+1) 74 [.int .i64 y, .int .i64 z]/\Ext w W) B0.out ?_
 rw [<-hr];have wr:w.heap.size<=r:=jrb hr.symm;clear B0;replace hr:=Hj hr;rintro w0 ⟨ks,ko,ky,x0⟩;have AW0:=Hj (AW.out w0 x0);have P0:Hid (∀ W,Ext w0 W->Cb W r 23 (cellsOf shared)/\Cb W (r+1) 23 (cellsOf op)/\Cb W (r+1+1) 74 [.int .i64 y, .int .i64 z]/\Ext w W):=fun W x=>⟨ks.ext x,ko.ext x,ky.ext x,x0.trans x⟩
 have s0:=ky.lt;clear AW ks ko ky x0;go_wp2_with fail
 refine AW0.out.mono ?_;rintro e w1 ⟨rfl,x1⟩;obtain ⟨ks,_,_,xw⟩:=P0.out w1 x1;have T1:=Hj (TW.out w1 xw);replace x1:=Hj x1;clear AW0 TW xw;go_wp2_with (first | ((with_reducible refine js (o:=⟨some 22,_,_,_,_,_⟩) ?_ 23 _ rfl r ?_ 23 (cellsOf shared).toArray (0,0) _ ?_ jqA ?_ ?_ ?_);(·rfl);(·rfl);(·exact ks);(·rfl);(·rw [S_sh];rfl);go_frame))
 refine T1.out.mono ?_;rintro e w2 ⟨l0,l1,sa,ga,la,sb,gb,lb,rfl,D2,x2,ly⟩;have OO:=joW l0 l1;have ⟨⟨⟨a1,a2⟩,a3,a4⟩,⟨⟨b1,b2⟩,b3,b4⟩,_⟩:=ly;have s1:=x1.out.size;have Y:Hid (Cb ((w2.alloc (.cells T0.toArray 79)).setRow w2.heap.size (lnA l0 l1).toArray) w2.heap.size 79 (lnA l0 l1)/\Ext w2 ((w2.alloc (.cells T0.toArray 79)).setRow w2.heap.size (lnA l0 l1).toArray)):=⟨Cb.set (Cb.new _ _ _),Ext.newRow _ _ _⟩;have X2:=Hj (x1.out.trans x2);replace D2:=Hj D2;clear T1 ly ks x1 x2;go_upto_region 3 with (refine ws_ rfl 79 rfl w2.heap.size (lnA l0 l1).toArray rfl rfl (jqn _ _) rfl (by rw [S_T0];rfl) OO ?_;simp only [jpO])
 refine jg (fun W=>Cb W w2.heap.size 79 (lnA l0 l1)/\Ext w2 W) Y.out ?_
 obtain ⟨r8,hr8⟩:∃ x,x=w2.heap.size:=⟨_,rfl⟩;rw [<-hr8];have wr8:w2.heap.size<=r8:=jrb hr8.symm;clear Y;replace hr8:=Hj hr8;rintro w3 ⟨k8,x3⟩;have D3:=Hj (D2.out.ext x3);have X3:=Hj (X2.out.trans x3);have c0:=k8.cell (j:=0) (v:= .pointer (some ⟨l0,0,none⟩)) rfl;have c1:=k8.cell (j:=1) (v:= .pointer (some ⟨l1,0,none⟩)) rfl;have r8l:=k8.lt;have ko:=(P0.out _ X3.out).2.1;replace k8:=Hj k8;have hcv:=Qn;have v2:Hid (Bs (w3.alloc (jqV #[.int .u8 104, .int .u8 101, .int .u8 108, .int .u8 108, .int .u8 111] 5 (5,6))) (some ⟨w3.heap.size,0,none⟩) 5 5 Y8):=Bs.lit13 w3 5 (5,6) [104,101,108,108,111] _ rfl 5 rfl (by omega)
 have x5:Hid (Ext w3 (w3.alloc (jqV #[.int .u8 104, .int .u8 101, .int .u8 108, .int .u8 108, .int .u8 111] 5 (5,6)))):=(jnQ w3).alloc _;have S4:=Hj (LA.out _ _ _ _ _ _ _ _ _ _ (D3.out.ext x5.out) v2.out ⟨by omega,by omega⟩)
 clear D2 X2 x3 LA D3;go_wp2_with (first | ((with_reducible refine js (o:=⟨some 35,_,_,_,_,_⟩) ?_ 23 _ rfl (r+1) ?_ 23 (cellsOf op).toArray (0,0) _ ?_ jqA ?_ ?_ ?_);(·rfl);(·rfl);(·exact ko);(·rfl);(·rw [S_o];rfl);go_frame))
 refine S4.out.mono ?_;rintro e w4 ⟨⟨⟨pk,bf,sm,A6,n6,c6,SB,rfl,lpk,lSB,o6,UW⟩,t4⟩,kl0,kl1⟩;have sx:w0.heap.size<=w3.heap.size:=X3.out.size;have X4:Ext w0 w4:=Two.ext (X3.out.trans x5.out) t4 (by omega) (by omega)
 have k84:Cb w4 r8 79 (lnA l0 l1):=t4.block (k8.out.ext x5.out) (by omega) (by omega)
 have EVd:Hid (∀ y z:Int,((evC 2 5 (wrC 2 5 op Y8) pk bf sm A6 n6 c6).set 0 (.int .i64 y)).set 1 (.int .i64 z)=evC y z (wrC 2 5 op Y8) pk bf sm A6 n6 c6):=fun _ _=>rfl
 have BD0:Hid (∀ W,Ext w4 W->Calls jpu 34 #[.pointer (some ⟨l0,0,none⟩), .agg (evC 2 5 (wrC 2 5 op Y8) pk bf sm A6 n6 c6).toArray] W fun e w'=>e= .returned (.tuple #[.slice none 0 0, .agg Z, .int .i64 1])/\Ext W w'):=fun W x=>by
  rw [<-hzc.out ()];exact jpi (kl0.ext x) (joj _ _ _ _) lpk (.inl (by decide))
 have BD1:Hid (∀ W,Ext w4 W->(y≠2\/z≠5)->Calls jpu 34 #[.pointer (some ⟨l1,0,none⟩), .agg (evC y z (wrC 2 5 op Y8) pk bf sm A6 n6 c6).toArray] W fun e w'=>e= .returned (.tuple #[.slice none 0 0, .agg Z, .int .i64 1])/\Ext W w'):=fun W x q=>by
  rw [<-hzc.out ()];exact jpi (kl1.ext x) (joj _ _ _ _) lpk q
 have L_E:=Z2 (joj 2 5 op Y8) lpk 2 5 bf sm A6 n6 c6;have O_E:(evC 2 5 (wrC 2 5 op Y8) pk bf sm A6 n6 c6).toArray.all (·.oneCell')=true:=qC fun v hv=>joF v hv
 have e0:(evC 2 5 (wrC 2 5 op Y8) pk bf sm A6 n6 c6)[0]? =some (.int .i64 2):=rfl;have e1:(evC 2 5 (wrC 2 5 op Y8) pk bf sm A6 n6 c6)[1]? =some (.int .i64 5):=rfl;have L_Ey:=Z2 (joj 2 5 op Y8) lpk y z bf sm A6 n6 c6;replace EVd:=Hj (EVd.out y z);generalize evC y z (wrC 2 5 op Y8) pk bf sm A6 n6 c6=EY at *;replace EVd:Hid ((((evC 2 5 (wrC 2 5 op Y8) pk bf sm A6 n6 c6).set 0 (.int .i64 y)).set 1 (.int .i64 z))=EY):=EVd;generalize evC 2 5 (wrC 2 5 op Y8) pk bf sm A6 n6 c6=EV at *;have S_E:EV.toArray.size=69:=by rw [jqr,L_E]
 have S_Ey:EY.toArray.size=69:=by rw [jqr,L_Ey]
 replace e0:=Hj e0;replace e1:=Hj e1;have P4:Hid (∀ W,Ext w4 W->(Cb W r8 79 (lnA l0 l1)/\Cb W (r+1) 23 (cellsOf op)/\Cb W (r+1+1) 74 [.int .i64 y, .int .i64 z])/\Ext w W):=fun W x=>by
  obtain ⟨_,q1,q2,q3⟩:=P0.out W (X4.trans x);exact ⟨⟨k84.ext x,q1,q2⟩,q3⟩
 have Y:Hid (Cb ((w4.alloc (.cells ZE.toArray 89)).setRow w4.heap.size EV.toArray) w4.heap.size 89 EV/\Ext w4 ((w4.alloc (.cells ZE.toArray 89)).setRow w4.heap.size EV.toArray)):=⟨Cb.set (Cb.new _ _ _),Ext.newRow _ _ _⟩;have s40:=X4.size;have s43:w3.heap.size<=w4.heap.size:=jpX x5.out.size t4.2.2.2.1;replace UW:=Hj UW;clear S4 k8 X3 x5 t4 c0 c1 v2 o6 kl0 kl1 k84 X4 P0 ko lpk;go_upto_region 6 with (refine ws_ rfl 89 rfl w4.heap.size EV.toArray rfl rfl (jqn _ _) (by rw [S_E];rfl) (by rw [S_E,S_ZE]) O_E ?_;simp only [jpO])
 refine jg (fun W=>Cb W w4.heap.size 89 EV/\Ext w4 W) Y.out ?_
 have s9:w4.heap.size<=w4.heap.size:=jpl _;obtain ⟨r9,hr9⟩:∃ x,x=w4.heap.size:=⟨_,rfl⟩;rw [<-hr9];replace hr9:=Hj (fun _:Unit=>hr9)
 clear Y s9;rintro w5 ⟨k9,x5⟩;have c0:=(P4.out w5 x5).1.1.cell (j:=0) (v:= .pointer (some ⟨l0,0,none⟩)) rfl;have B5:=Hj (BD0.out w5 x5);have X5:=Hj x5;clear x5 BD0;go_wp2_with (first | ((with_reducible refine js (o:=⟨some 44,_,_,_,_,_⟩) ?_ 89 _ rfl r9 ?_ 89 EV.toArray (0,0) _ ?_ Tryz.underlying89 ?_ ?_ ?_);(·rfl);(·rfl);(·exact k9);(·rfl);(·rw [S_E];rfl);go_frame))
 refine B5.out.mono ?_;rintro e w6 ⟨rfl,x6⟩;have K96:Hid (Cb w6 r9 89 EV):=k9.ext x6;have X6:=Hj (X5.out.trans x6);have kz:(w6.alloc (.cells Z 23)).heap[w6.heap.size]? =some (.cells Z 23 (0,0)):=jqn _ _;have Y:Hid (Ext w6 ((w6.alloc (.cells Z 23)).setRow w6.heap.size Z)):=Ext.newRow _ _ _;clear B5 X5 x6 c0 k9;go_upto_region 7 with (refine ws_ rfl 23 rfl w6.heap.size Z rfl rfl kz (by rw [S_Z];rfl) rfl hzo ?_;simp only [jpO])
 refine jg (fun W=>Ext w6 W) Y.out ?_
 clear Y kz;rintro w7 x7;have k97:=K96.out.ext x7;have X7:=Hj (X6.out.trans x7);have kE:(w7.alloc (.cells ZE.toArray 89)).heap[w7.heap.size]? =some (.cells ZE.toArray 89 (0,0)):=jqn _ _;have Y:Hid (Cb ((w7.alloc (.cells ZE.toArray 89)).setRow w7.heap.size EV.toArray) w7.heap.size 89 EV/\Ext w7 ((w7.alloc (.cells ZE.toArray 89)).setRow w7.heap.size EV.toArray)):=⟨Cb.set (Cb.new _ _ _),Ext.newRow _ _ _⟩;have s7:=X7.out.size;clear x7 K96 X6;replace k97:=k97;go_upto_region 8 with (first
  | ((with_reducible refine js (o:=⟨some 49,_,_,_,_,_⟩) ?_ 89 _ rfl r9 ?_ 89 EV.toArray (0,0) _ ?_ Tryz.underlying89 ?_ ?_ ?_);(·rfl);(·rfl);(·exact k97);(·rfl);(·rw [S_E];rfl);go_frame)
  | (refine ws_ rfl 89 rfl w7.heap.size EV.toArray rfl rfl kE (by rw [S_E];rfl) (by rw [S_E,S_ZE]) O_E ?_;simp only [jpO]))
 refine jg (fun W=>Cb W w7.heap.size 89 EV/\Ext w7 W) Y.out ?_
 obtain ⟨r14,hr14⟩:∃ x,x=w7.heap.size:=⟨_,rfl⟩;rw [<-hr14];have r14w:w4.heap.size<=r14:=by omega
 have r914:r9≠r14:=by have:=k97.lt;omega
 have X7':=X7;have K97:=Hj k97;replace hr14:=Hj (fun _:Unit=>hr14)
 clear Y kE k97;rintro w8 ⟨k14,x8⟩;have X8:=Hj (X7.out.trans x8);have K98:=Hj (K97.out.ext x8);clear X7 X7' K97 x8 s7;have cy:=(P4.out w8 X8.out).1.2.2.cell (j:=0) (v:= .int .i64 y) rfl;have d0:=k14.cell e0.out;have f0:=k14.frozen 0;have k14a:=k14.setCell (o:=0) (v:= .int .i64 y);have XA:Hid (Ext w4 (w8.setCell ⟨r14,0,none⟩ (.int .i64 y))):=jpd X8.out r14w;have KA:Hid (Cb (w8.setCell ⟨r14,0,none⟩ (.int .i64 y)) r9 89 EV):=(jp4 w8 ⟨r14,0,none⟩ _ _ r914).trans K98.out;have K14a:=Hj k14a;clear k14a;go_upto_region 9 with fail
 refine jg (fun W=>Cb W r14 89 (EV.set 0 (.int .i64 y))/\Cb W r9 89 EV/\Ext w4 W) ⟨K14a.out,KA.out,XA.out⟩ ?_
 clear K14a KA XA k14 X8 K98 cy d0 f0;rintro w9 ⟨k14,k99,x9⟩;have cz:=(P4.out w9 x9).1.2.2.cell (j:=1) (v:= .int .i64 z) rfl;have d1:=k14.cell (j:=1) (v:= .int .i64 5) (by rw [List.getElem?_set_ne (by decide)];exact e1.out)
 have f1:=k14.frozen 1;have k14a:=k14.setCell (o:=1) (v:= .int .i64 z);rw [EVd.out] at k14a;have XA:Hid (Ext w4 (w9.setCell ⟨r14,1,none⟩ (.int .i64 z))):=jpd x9 r14w;have KA:Hid (Cb (w9.setCell ⟨r14,1,none⟩ (.int .i64 z)) r9 89 EV):=(jp4 w9 ⟨r14,1,none⟩ _ _ r914).trans k99;have K14a:=Hj k14a;clear k14a;go_upto_region 10 with fail
 refine jg (fun W=>Cb W r14 89 EY/\Cb W r9 89 EV/\Ext w4 W) ⟨K14a.out,KA.out,XA.out⟩ ?_
 clear K14a KA XA k14 x9 k99 cz d1 f1 EVd e0 e1;rintro wA ⟨k14,k9,xA⟩;obtain ⟨⟨_,_,kyA⟩,_⟩:=P4.out wA xA;have cy:=kyA.cell (j:=0) (v:= .int .i64 y) rfl;have cz:=kyA.cell (j:=1) (v:= .int .i64 z) rfl;clear kyA;by_cases hb:y=2/\z=5
 case neg=>
  have BA:=Hj (BD1.out wA xA (by omega))
  have hc:((y==2)=false/\(y !=2)=true/\True/\True)\/((y==2)=true/\(y !=2)=false/\(z==5)=false/\(z !=5)=true):=by
   by_cases hy:y=2
   ·exact .inr ⟨by simpa using hy,by simpa using hy,by simp;omega,by simp;omega⟩
   ·exact .inl ⟨by simpa using hy,by simpa using hy,trivial,trivial⟩
  clear hb;rcases hc with ⟨v1,v2,v3,v4⟩ | ⟨v1,v2,v3,v4⟩
  all_goals (
   have c1:=(P4.out wA xA).1.1.cell (j:=1) (v:= .pointer (some ⟨l1,0,none⟩)) rfl;have XA:=Hj xA;have K9:=Hj k9;clear xA k9 BD1;go_wp2_with (first | ((with_reducible refine js (o:=⟨some 67,_,_,_,_,_⟩) ?_ 89 _ rfl r14 ?_ 89 EY.toArray (0,0) _ ?_ Tryz.underlying89 ?_ ?_ ?_);(·rfl);(·rfl);(·exact k14);(·rfl);(·rw [S_Ey];rfl);go_frame))
   refine BA.out.mono ?_;rintro e wE ⟨rfl,xE⟩;have kz:(wE.alloc (.cells Z 23)).heap[wE.heap.size]? =some (.cells Z 23 (0,0)):=jqn _ _;have Y:Hid (Cb ((wE.alloc (.cells Z 23)).setRow wE.heap.size Z) r9 89 EV/\Ext w4 ((wE.alloc (.cells Z 23)).setRow wE.heap.size Z)):=⟨(K9.out.ext xE).ext (Ext.newRow _ _ _),(XA.out.trans xE).trans (Ext.newRow _ _ _)⟩;clear BA XA K9 xE c1 k14 cy cz;go_upto_region 12 with (refine ws_ rfl 23 rfl wE.heap.size Z rfl rfl kz (by rw [S_Z];rfl) rfl hzo ?_;simp only [jpO])
   refine jg (fun W=>Cb W r9 89 EV/\Ext w4 W) Y.out ?_
   clear Y kz;rintro wB ⟨k9,xB⟩;have c1:=(P4.out wB xB).1.1.cell (j:=1) (v:= .pointer (some ⟨l1,0,none⟩)) rfl;have UB:=Hj (UW.out wB xB);have XB:=Hj xB;clear xB UW;go_wp2_with (first | ((with_reducible refine js (o:=⟨some 77,_,_,_,_,_⟩) ?_ 89 _ rfl r9 ?_ 89 EV.toArray (0,0) _ ?_ Tryz.underlying89 ?_ ?_ ?_);(·rfl);(·rfl);(·exact k9);(·rfl);(·rw [S_E];rfl);go_frame))
   refine UB.out.mono ?_;rintro e wC ⟨A9,n9,d9,rfl,o9,DC,gC⟩;have koC:Hid (Cb wC (r+1) 23 (cellsOf op)):=(gC.block _ (P4.out wB XB.out).1.2.1.lt (fun q=>by have:=jpA q;omega)).trans (P4.out wB XB.out).1.2.1
   have XC:Hid (Ext w wC):=JQ (P4.out wB XB.out).2 gC (by omega)
   have b9:=Hj o9.bs;have O_o:=ji op;have kz:(wC.alloc (.cells Z 23)).heap[wC.heap.size]? =some (.cells Z 23 (0,0)):=jqn _ _;have Y:Hid (Ky ((wC.alloc (.cells Z 23)).setRow wC.heap.size (cellsOf op).toArray) wC.heap.size op/\Ext wC ((wC.alloc (.cells Z 23)).setRow wC.heap.size (cellsOf op).toArray)):=⟨Ky.new _ lop,Ext.newRow _ _ _⟩;clear UB XB o9 DC gC k9 c1 P4;go_upto_region 15 with (refine ws_ rfl 23 rfl wC.heap.size (cellsOf op).toArray rfl rfl kz (by rw [S_o];rfl) (by rw [S_o];exact S_Z) O_o ?_;simp only [jpO])
   refine jg (fun W=>Ky W wC.heap.size op/\Ext wC W) Y.out ?_
   generalize wC.heap.size=r19 at *;clear Y kz;rintro wD ⟨k19,xD⟩;have koD:=(koC.out.ext xD);have k19':=k19.1;have F:=Hj (XC.out.trans xD);have cv:=CV.out _ _ _ _ _ (b9.out.ext xD);have u7:((vR Y8).toList== [104,101,108,108,111])=true:=by simp [vR,Y8]
   generalize vR Y8=HS at *;clear b9 xD CV XC koC k19;go_wp2_with (first
    | ((with_reducible refine js (o:=⟨some 101,_,_,_,_,_⟩) ?_ 23 _ rfl r19 ?_ 23 (cellsOf op).toArray (0,0) _ ?_ jqA ?_ ?_ ?_);(·rfl);(·rfl);(·exact k19');(·rfl);(·rw [S_o];rfl);go_frame)
    | ((with_reducible refine js (o:=⟨some 102,_,_,_,_,_⟩) ?_ 23 _ rfl (r+1) ?_ 23 (cellsOf op).toArray (0,0) _ ?_ jqA ?_ ?_ ?_);(·rfl);(·rfl);(·exact koD);(·rfl);(·rw [S_o];rfl);go_frame)
    | ((with_reducible refine jn4 (o:=⟨some 103,_,_,_,_,_⟩) ?_ _ _ _ rfl op op true ?_ ?_ ?_ lop lop ?_);(·rfl);(·exact (by simp));(·rfl);(·rfl);go_frame))
   all_goals (go_ret;exact ⟨rfl,F.out⟩))
 obtain ⟨rfl,rfl⟩:=hb;clear BD1;refine jg (fun W=>(W.cell? ⟨r+1+1,0,none⟩=some (.int .i64 2)/\W.cell? ⟨r+1+1,1,none⟩=some (.int .i64 5))/\Cb W r9 89 EV/\Ext w4 W) ⟨⟨cy,cz⟩,k9,xA⟩ ?_
 clear cy cz k9 xA k14;rintro wB ⟨⟨cy,cz⟩,k9,xB⟩;have c1:=(P4.out wB xB).1.1.cell (j:=1) (v:= .pointer (some ⟨l1,0,none⟩)) rfl;have UB:=Hj (UW.out wB xB);have XB:=Hj xB;clear xB UW;go_wp2_with (first | ((with_reducible refine js (o:=⟨some 77,_,_,_,_,_⟩) ?_ 89 _ rfl r9 ?_ 89 EV.toArray (0,0) _ ?_ Tryz.underlying89 ?_ ?_ ?_);(·rfl);(·rfl);(·exact k9);(·rfl);(·rw [S_E];rfl);go_frame))
 refine UB.out.mono ?_;rintro e wC ⟨A9,n9,d9,rfl,o9,DC,gC⟩;have koC:Hid (Cb wC (r+1) 23 (cellsOf op)):=(gC.block _ (P4.out wB XB.out).1.2.1.lt (fun q=>by have:=jpA q;omega)).trans (P4.out wB XB.out).1.2.1
 have XC:Hid (Ext w wC):=JQ (P4.out wB XB.out).2 gC (by omega)
 have b9:=Hj o9.bs;have O_o:=ji op;have kz:(wC.alloc (.cells Z 23)).heap[wC.heap.size]? =some (.cells Z 23 (0,0)):=jqn _ _;have Y:Hid (Ky ((wC.alloc (.cells Z 23)).setRow wC.heap.size (cellsOf op).toArray) wC.heap.size op/\Ext wC ((wC.alloc (.cells Z 23)).setRow wC.heap.size (cellsOf op).toArray)):=⟨Ky.new _ lop,Ext.newRow _ _ _⟩;clear UB XB o9 DC gC k9 c1 P4;go_upto_region 15 with (refine ws_ rfl 23 rfl wC.heap.size (cellsOf op).toArray rfl rfl kz (by rw [S_o];rfl) (by rw [S_o];exact S_Z) O_o ?_;simp only [jpO])
 refine jg (fun W=>Ky W wC.heap.size op/\Ext wC W) Y.out ?_
 generalize wC.heap.size=r19 at *;clear Y kz;rintro wD ⟨k19,xD⟩;have koD:=(koC.out.ext xD);have k19':=k19.1;have F:=Hj (XC.out.trans xD);have cv:=CV.out _ _ _ _ _ (b9.out.ext xD);have u7:((vR Y8).toList== [104,101,108,108,111])=true:=by simp [vR,Y8]
 generalize vR Y8=HS at *;clear b9 xD CV XC koC k19;go_wp2_with (first
  | ((with_reducible refine js (o:=⟨some 101,_,_,_,_,_⟩) ?_ 23 _ rfl r19 ?_ 23 (cellsOf op).toArray (0,0) _ ?_ jqA ?_ ?_ ?_);(·rfl);(·rfl);(·exact k19');(·rfl);(·rw [S_o];rfl);go_frame)
  | ((with_reducible refine js (o:=⟨some 102,_,_,_,_,_⟩) ?_ 23 _ rfl (r+1) ?_ 23 (cellsOf op).toArray (0,0) _ ?_ jqA ?_ ?_ ?_);(·rfl);(·rfl);(·exact koD);(·rfl);(·rw [S_o];rfl);go_frame)
  | ((with_reducible refine jn4 (o:=⟨some 103,_,_,_,_,_⟩) ?_ _ _ _ rfl op op true ?_ ?_ ?_ lop lop ?_);(·rfl);(·exact (by simp));(·rfl);(·rfl);go_frame))
 all_goals (go_ret;exact ⟨rfl,F.out⟩)
end Go.Proofs.YtakpgbaijkhpmaaGreatDoor
