import Derived.Test.YtakpgbaijkhpmaaGreatDoorPkAA
import Derived.Deep.DeepCutAuto
import Derived.RegionTactic
import Derived.Great.FillDense
import Derived.Deep.MidRow
import Derived.Deep.Upon
import Derived.Maps.RangeWalk
import Derived.Maps.Ext
import Derived.DeepKeys4
import Derived.Laws.StructEq
open Array renaming all_eq_true_iff_forall_mem→jpV,getElem?_toList→jpU,replicate→jpW
open Bool renaming and_eq_true→jpK,not_eq_true'→jpL
open Go renaming Program→jpB,TypeId→jpC,below_setRow→jqb,bodyPost_ret→jqW,cell_of_row→jqe,execOp→jpY,heap_alloc_new→jqq,results_cell_row→jqX,setRow_heap→jqc,setRow_other→jqy,splice→jp9,u32_xor_nat→jq7,wp_store_row→jrf,zeroValue→jpI
open Go.Act renaming put→jpR
open Go.Exit renaming inBlock→jqV
open Go.Instr renaming fill→jqo
open Go.IntKind renaming wrap_u32→jp6
open Go.IntWalk renaming i64_in→jq0
open Go.Obj renaming cells→jqY
open Go.Proofs.Tryz renaming prog→jpx,underlying182→jqG,underlying23→jqD
open Go.Region renaming noSelect→jpQ,ready→jpS,wanted→jpX
open Go.Result renaming andThen_ok→jqk
open Go.RowKit.Below renaming heap_alloc→jqg,refl→jpm,trans→jpn
open Go.Sem renaming run_bind→jqi,run_pure→jqj
open Go.Value renaming agg→jqp,int→jpA
open List renaming all_eq_true→jp2,append_assoc→jqd,drop_of_length_le→jrg,ext_getElem→jp8,getD→jpr,getD_eq_getElem?_getD→jra,getElem?_append_left→jqs,getElem?_append_right→jqr,getElem?_cons_zero→jpO,getElem?_eq_none→jqa,getElem?_eq_some_iff→jqx,getElem?_map→jpT,getElem?_take→jqf,getElem?_toArray→jqt,length_append→jpG,length_map→jqH,length_set→jp5,length_take→jps,map_append→jqw,map_cons→jqA,map_nil→jqF,map_toArray→jqE,mem_append→jpH,mem_cons→jpE,mem_cons_of_mem→jqC,mem_cons_self→jqB,mem_map→jpN,mem_singleton→jpF,not_mem_nil→jqz,range→jp1,replicate→jqn,size_toArray→jqu,take_left'→jqv,take_of_length_le→jqm,take_succ_eq_append_getElem→jq6
open List.Nodup renaming length_le_of_subset→jpJ
open Nat renaming add_zero→jpP,le_of_lt→jqU,le_refl→jpo,le_trans→jp0,lt_of_lt_of_le→jpq,mod_eq_of_lt→jqM,mod_lt→jp3,zero_add→jpz,zero_le→jpp
open Option.some renaming inj→jpD
open UInt8 renaming ofNat→jpt
namespace Go.Proofs.YtakpgbaijkhpmaaGreatDoor
set_option maxHeartbeats 64000000
set_option linter.unusedSimpArgs false
set_option linter.unusedVariables false
set_option maxRecDepth 100000
section
open Go.ChangeShapes Go.WideShapes Go.ChangeAt Go.RowKit Go.Deep
def Jg:List UInt8:= [116,117,114,110]
def Z0:List UInt8:= [116,97,103]
def Qv (ks:List UInt8):List UInt8:=jM ks Jg++jM ks Z0++ks
theorem y7 (xs ys:List UInt8):cellsOf (xs++ys)=cellsOf xs++cellsOf ys:=by rw [qp,qp,qp,jqw]
theorem jaP {ks:List UInt8}(hk:ks.length=32):(Qv ks).length=96:=by unfold Qv;simp [jR,hk]
def Z96:Array Value:=(cellsOf (jqn 96 0)).toArray
theorem Qx:Z96.size=96:=by simp [Z96,ja]
def Z64:Array Value:=(cellsOf (jqn 64 0)).toArray
theorem jg3:Z64.size=64:=by simp [Z64,ja]
theorem jnC (w:World):(jpI 174).run jpx w= .ok (.agg Z96) w:=by kernel_rfl
theorem jgR {K L:Array Value}(hK:K.size=32) (hL:L.size=32):Tryz.prog.built 172 [(0, .agg K),(1, .agg L)]=some (K++L):=by
 have h:∃ pl:Nat->Option (Nat×Nat),pl 0=some (0,32)/\pl 1=some (32,32)/\∀ ps,Tryz.prog.built 172 ps=jqo pl Z64 ps:=⟨(#[(0,32),(32,32)][·]?),rfl,rfl,fun ps=>by kernel_rfl⟩;obtain ⟨pl,h0,h1,h2⟩:=h;rw [h2,jag pl h0 h1 hK hL jg3]
theorem jcF {K L:Array Value}(hK:K.size=64) (hL:L.size=32):Tryz.prog.built 174 [(0, .agg K),(1, .agg L)]=some (K++L):=by
 have h:∃ pl:Nat->Option (Nat×Nat),pl 0=some (0,64)/\pl 1=some (64,32)/\∀ ps,Tryz.prog.built 174 ps=jqo pl Z96 ps:=⟨(#[(0,64),(64,32)][·]?),rfl,rfl,fun ps=>by kernel_rfl⟩;obtain ⟨pl,h0,h1,h2⟩:=h;rw [h2,jag pl h0 h1 hK hL Qx]
theorem JA {ks:List UInt8}{w:World}(hk:ks.length=32){tg:jpC×Nat×Nat}(hG:Gl w tg):
 Calls jpx 81 #[.agg (cellsOf ks).toArray] w fun e w'=>e= .returned (.agg (cellsOf (Qv ks)).toArray)/\Ext w w':=by
 have KEYS:Hid (∀ (W:World) t,Ext w W->Calls jpx 113 #[.agg (cellsOf ks).toArray, .slice (some ⟨W.heap.size,0,none⟩) 2 2] (W.alloc (.cells #[.string (vR Jg), .string (vR Z0)] t)) (jfp [jM ks Jg,jM ks Z0] (W.alloc (.cells #[.string (vR Jg), .string (vR Z0)] t)))):=fun W t e=>
  Qt (ks:=ks) (l:= [Jg,Z0]) hk (jcH rfl) (by omega) (fun j=>by
   match j with
   | 0=>show Jg.length<=_;decide
   | 1=>show Z0.length<=_;decide
   | j+2=>simp [jpr]) (hG.kept (e.alloc _) hG.lt)
 have hA:Hid ((⟨#[116,117,114,110]⟩:ByteArray)=vR Jg):=rfl;have hB:Hid ((⟨#[116,97,103]⟩:ByteArray)=vR Z0):=rfl;generalize vR Jg=sA at *;generalize vR Z0=sB at *;clear hG;have SL:=jaP hk;have hS:Hid (Qv ks=jM ks Jg++jM ks Z0++ks):=rfl;generalize Qv ks=S at *;have K0:=jR ks Jg;have K1:=jR ks Z0;generalize jM ks Jg=k0 at *;generalize jM ks Z0=k1 at *;have KS:(cellsOf ks).toArray.size=32:=by simp [ja,hk]
 have SS:(cellsOf S).toArray.size=96:=by simp [ja,SL]
 have OS:=ji S;have C0:(cellsOf k0).length=32:=by rw [ja,K0]
 have C1:(cellsOf k1).length=32:=by rw [ja,K1]
 have b1:Hid (Tryz.prog.built 172 [(0, .agg (cellsOf k0).toArray),(1, .agg (cellsOf k1).toArray)]=some (cellsOf (k0++k1)).toArray):=by
  rw [y7,<-List.append_toArray];exact jgR C0 C1
 have C01:(cellsOf (k0++k1)).length=64:=by rw [ja,jpG,K0,K1]
 have b2:Hid (Tryz.prog.built 174 [(0, .agg (cellsOf (k0++k1)).toArray),(1, .agg (cellsOf ks).toArray)]=some (cellsOf S).toArray):=by
  unfold Hid;rw [hS.out,y7 (k0++k1),<-List.append_toArray];exact jcF C01 KS
 generalize k0++k1=k01 at *;clear hS C01;have hal:=jnC;have hz0:=Qx;generalize Z96=Z at *;have B0:Hid (∀ s,Ext ((w.alloc (jqY (cellsOf ks).toArray 23)).alloc (jqY Z 174)) s->Ky s w.heap.size ks/\s.heap[w.heap.size+1]? =some (.cells Z 174 (0,0))/\Ext w s):=fun s e=>⟨⟨(e.block _ (by rw [je,je];omega)).trans (jQ _ _ _),hk⟩,(e.block _ (by rw [je,je];omega)).trans (jK _ _ _),(((jnQ w).alloc _).alloc _).trans e⟩
 go_enter Tryz.func81,Tryz.ntmps81
 go_upto_region 1 with fail;refine jg (fun W=>∀ s,Ext W s->Ky s w.heap.size ks/\s.heap[w.heap.size+1]? =some (.cells Z 174 (0,0))/\Ext w s) B0.out ?_;clear B0;rintro w0 B0;replace B0:=Hj B0;have y0:=Hj (B0.out _ (jnQ _)).1;go_wp2_with (refine wl_ rfl 23 rfl w.heap.size rfl y0.out.1 rfl rfl (by rw [KS];rfl) ?_;go_frame)
 rw [hA.out,hB.out];refine (KEYS.out _ _ (B0.out _ (jnQ _)).2.2).mono ?_;rintro e w1 ⟨g,rfl,hg,kr,e1⟩;have B1:Hid (∀ s,Ext w1 s->Ky s w.heap.size ks/\s.heap[w.heap.size+1]? =some (.cells Z 174 (0,0))/\Ext w s):=fun s e=>B0.out s (((jnQ _).alloc _).trans (e1.trans e))
 clear B0 KEYS e1 hg y0;have R0:Hid (∀ w',Ext w1 w'->∀ i v,(cellsOf k0)[i]? =some v->w'.cell? ⟨g,0+i,none⟩=some v):=fun w' e=>Kr.row (l:= [k0,k1]) (j:=0) (kr.ext e) (by simp)
 have R1:Hid (∀ w',Ext w1 w'->∀ i v,(cellsOf k1)[i]? =some v->w'.cell? ⟨g,32+i,none⟩=some v):=fun w' e=>Kr.row (l:= [k0,k1]) (j:=1) (kr.ext e) (by simp)
 clear kr;go_wp2_with fail;refine ym 9 [0,1,2,3,4,5,6,7,8,9] [9] ?_;repeat (refine jio ?_;go_frame)
 refine qzV rfl (fun w'=>∀ q_ v,(cellsOf k0)[q_]? =some v->w'.cell? ⟨g,0+q_,none⟩=some v) (fun w' e=>R0.out w' ((jnQ _).drew.trans e)) (.agg (cellsOf k0).toArray) (fun w' hF=>jy rfl rfl hF rfl rfl (by rw [C0];rfl)) ?_;go_frame
 repeat (refine jio ?_;go_frame)
 refine qzV rfl (fun w'=>∀ q_ v,(cellsOf k1)[q_]? =some v->w'.cell? ⟨g,32+q_,none⟩=some v) (fun w' e=>R1.out w' ((jnQ _).drew.trans e)) (.agg (cellsOf k1).toArray) (fun w' hF=>jy rfl rfl hF rfl rfl (by rw [C1];rfl)) ?_;go_frame
 refine qzV rfl (fun _=>True) (fun _ _=>trivial) (.agg (cellsOf k01).toArray) (fun w' _=>qe rfl (by simp only [jqE,jqA,jqF];exact b1.out)) ?_;go_frame
 refine qzV rfl (fun w'=>w'.heap[w.heap.size]? =some (.cells (cellsOf ks).toArray 23 (0,0))) (fun w' e=>(B1.out w' ((jnQ _).drew.trans e)).1.1) (.agg (cellsOf ks).toArray) (fun w' hF=>jd rfl rfl hF rfl rfl (by rw [KS];rfl)) ?_;go_frame
 refine qzV rfl (fun _=>True) (fun _ _=>trivial) (.agg (cellsOf S).toArray) (fun w' _=>qe rfl (by simp only [jqE,jqA,jqF];exact b2.out)) ?_;go_frame
 have r2:=Hj (B1.out _ (jnQ _).drew).2.1;have E2:=Hj (B1.out _ (jnQ _).drew).2.2;clear B1 R0 R1 b1 b2;generalize w1.drew=W at *;refine qzD fun K hK=> ?_
 refine jrf _ _ _ rfl (w.heap.size+1) (cellsOf S).toArray rfl rfl 174 Z r2.out (by rw [SS];rfl) (by rw [SS];exact hz0) OS ?_;refine hK.out _ _ (.inl rfl) ?_;clear hK K;(try go_frame);refine jN ?_;go_wp2_with fail;(try simp only [jqV,Exit.then]);refine jqW (jqX rfl _ _ (w.heap.size+1) 174 (cellsOf S).toArray (0,0) _ rfl (jqc _ _ _ _ _ _ r2.out) rfl rfl (by rw [SS];rfl)) rfl ?_;exact ⟨rfl,jqb E2.out (Nat.le_succ _) _⟩
def YA (xs:List UInt8) (w:World) (e:Ending) (w':World):Prop:=∃ A n c,e= .returned (.slice A n c)/\Own w.heap.size w' A n c xs/\Ext w w'
def quL (vs:List Nat) (a b c d:Nat):List Nat:=
 qa 25 (qu (qa 24 (qu (qa 20 (qu (qa 16 (qu vs a b) d a) c d) b c) a b) d a) c d) b c
theorem Yb (vs:List Nat) (a b c d:Nat):(quL vs a b c d).length=vs.length:=by simp [quL,qa,qu]
set_option maxRecDepth 100000 in
theorem zN {g a b c d:Nat}{vs:List Nat}{w:World}(h:Arr w g vs) (hl:vs.length=16) (ha:a < 16) (hb:b < 16) (hc:c < 16) (hd:d < 16):
 Calls jpx 180 #[.pointer (some ⟨g,0,none⟩), .int .i64 (a:Int), .int .i64 (b:Int), .int .i64 (c:Int), .int .i64 (d:Int)] w
  fun e w'=>e= .returned (.tuple #[])/\Arr w' g (quL vs a b c d)/\w.grownBy w' (some g):=by
 have ha':(a:Int) < 16:=by omega
 have hb':(b:Int) < 16:=by omega
 have hc':(c:Int) < 16:=by omega
 have hd':(d:Int) < 16:=by omega
 go_enter Tryz.func180,Tryz.ntmps180
 go_wp2_with fail;refine jg (fun w1=>Arr w1 g vs/\w.grownBy w1 (some g)) ⟨h,jV (jnQ _) _⟩ ?_;rintro w0 ⟨A0,G0⟩;have L0:=hl;clear h;obtain ⟨cp,fp,lp⟩:=A0.fct (i:=a) (by omega);obtain ⟨cq,fq,lq⟩:=A0.fct (i:=b) (by omega);have KEEP:Hid (∀ w',Ext w0 w'->w'.cell? ⟨g,a,none⟩=some (.int .u32 (wd vs a:Int))/\w'.cell? ⟨g,b,none⟩=some (.int .u32 (wd vs b:Int))):=fun w' e=>⟨((A0.ext e).fct (by omega)).1,((A0.ext e).fct (by omega)).1⟩
 have u1:IntKind.u32.wrap ((wd vs a:Int)+(wd vs b:Int))=(qF (wd vs a) (wd vs b):Int):=vP;refine ym 13 [0,1,2,3,4,5,6,7,8,9,10,11,12,13] [13] ?_;repeat (refine qzR _ (fun w' e=>KEEP.out w' ((jnQ _).drew.trans e)) ?_;go_frame)
 refine qzD fun K1 hK1=> ?_
 go_simp;refine hK1.out _ _ (.inl rfl) ?_;clear hK1 K1;refine jN ?_;go_wp2_with fail;refine jg (fun w1=>Arr w1 g (qu vs a b)/\w.grownBy w1 (some g)) ⟨(A0.set (by omega) (ve _ _)).ext (jnQ _).drew,qt G0⟩ ?_;rintro w1 ⟨A1,G1⟩;have L1:(qu vs a b).length=16:=(yq ..).trans L0;clear A0 G0 L0 cp fp lp cq fq lq KEEP u1;generalize HV0:qu vs a b=v1 at A1 L1;replace HV0:=Hj HV0;obtain ⟨cp,fp,lp⟩:=A1.fct (i:=d) (by omega);obtain ⟨cq,fq,lq⟩:=A1.fct (i:=a) (by omega);have KEEP:Hid (∀ w',Ext w1 w'->w'.cell? ⟨g,d,none⟩=some (.int .u32 (wd v1 d:Int))/\w'.cell? ⟨g,a,none⟩=some (.int .u32 (wd v1 a:Int))):=fun w' e=>⟨((A1.ext e).fct (by omega)).1,((A1.ext e).fct (by omega)).1⟩
 have u1:bits .xor .u32 (wd v1 d:Int) (wd v1 a:Int)=((wd v1 d^^^wd v1 a:Nat):Int):=jq7 _ _ lp lq;have HR:=Hj (fun w0:World=> @jkD (wd v1 d^^^wd v1 a) w0 (jL lp lq));refine ym 16 [0,1,2,3,4,5,6,7,8,9,10,11,12,14,13,15,16] [13,16] ?_;repeat (refine qzR _ (fun w' e=>KEEP.out w' ((jnQ _).drew.trans e)) ?_;go_frame)
 refine qzD fun K1 hK1=> ?_
 go_simp;refine (HR.out _).mono ?_;rintro e w1 ⟨rfl,rfl⟩;refine hK1.out _ _ (.inr (jnQ _)) ?_;clear hK1 K1;try go_frame
 repeat (refine qzR _ (fun w' e=>KEEP.out w' ((jnQ _).drew.trans e)) ?_;go_frame)
 refine qzD fun K1 hK1=> ?_
 go_simp;refine hK1.out _ _ (.inl rfl) ?_;clear hK1 K1;refine jN ?_;go_wp2_with fail;refine jg (fun w1=>Arr w1 g (qa 16 v1 d a)/\w.grownBy w1 (some g)) ⟨(A1.set (by omega) (yB (jL lp lq))).ext (jnQ _).drew,qt G1⟩ ?_;rintro w2 ⟨A2,G2⟩;have L2:(qa 16 v1 d a).length=16:=(yd ..).trans L1;clear A1 G1 L1 cp fp lp cq fq lq KEEP u1 HR;generalize HV1:qa 16 v1 d a=v2 at A2 L2;replace HV1:=Hj HV1;obtain ⟨cp,fp,lp⟩:=A2.fct (i:=c) (by omega);obtain ⟨cq,fq,lq⟩:=A2.fct (i:=d) (by omega);have KEEP:Hid (∀ w',Ext w2 w'->w'.cell? ⟨g,c,none⟩=some (.int .u32 (wd v2 c:Int))/\w'.cell? ⟨g,d,none⟩=some (.int .u32 (wd v2 d:Int))):=fun w' e=>⟨((A2.ext e).fct (by omega)).1,((A2.ext e).fct (by omega)).1⟩
 have u1:IntKind.u32.wrap ((wd v2 c:Int)+(wd v2 d:Int))=(qF (wd v2 c) (wd v2 d):Int):=vP;refine ym 13 [0,1,2,3,4,5,6,7,8,9,10,11,12,13] [13] ?_;repeat (refine qzR _ (fun w' e=>KEEP.out w' ((jnQ _).drew.trans e)) ?_;go_frame)
 refine qzD fun K1 hK1=> ?_
 go_simp;refine hK1.out _ _ (.inl rfl) ?_;clear hK1 K1;refine jN ?_;go_wp2_with fail;refine jg (fun w1=>Arr w1 g (qu v2 c d)/\w.grownBy w1 (some g)) ⟨(A2.set (by omega) (ve _ _)).ext (jnQ _).drew,qt G2⟩ ?_;rintro w3 ⟨A3,G3⟩;have L3:(qu v2 c d).length=16:=(yq ..).trans L2;clear A2 G2 L2 cp fp lp cq fq lq KEEP u1;generalize HV2:qu v2 c d=v3 at A3 L3;replace HV2:=Hj HV2;obtain ⟨cp,fp,lp⟩:=A3.fct (i:=b) (by omega);obtain ⟨cq,fq,lq⟩:=A3.fct (i:=c) (by omega);have KEEP:Hid (∀ w',Ext w3 w'->w'.cell? ⟨g,b,none⟩=some (.int .u32 (wd v3 b:Int))/\w'.cell? ⟨g,c,none⟩=some (.int .u32 (wd v3 c:Int))):=fun w' e=>⟨((A3.ext e).fct (by omega)).1,((A3.ext e).fct (by omega)).1⟩
 have u1:bits .xor .u32 (wd v3 b:Int) (wd v3 c:Int)=((wd v3 b^^^wd v3 c:Nat):Int):=jq7 _ _ lp lq;have HR:=Hj (fun w0:World=> @jkC (wd v3 b^^^wd v3 c) w0 (jL lp lq));refine ym 16 [0,1,2,3,4,5,6,7,8,9,10,11,12,14,13,15,16] [13,16] ?_;repeat (refine qzR _ (fun w' e=>KEEP.out w' ((jnQ _).drew.trans e)) ?_;go_frame)
 refine qzD fun K1 hK1=> ?_
 go_simp;refine (HR.out _).mono ?_;rintro e w1 ⟨rfl,rfl⟩;refine hK1.out _ _ (.inr (jnQ _)) ?_;clear hK1 K1;try go_frame
 repeat (refine qzR _ (fun w' e=>KEEP.out w' ((jnQ _).drew.trans e)) ?_;go_frame)
 refine qzD fun K1 hK1=> ?_
 go_simp;refine hK1.out _ _ (.inl rfl) ?_;clear hK1 K1;refine jN ?_;go_wp2_with fail;refine jg (fun w1=>Arr w1 g (qa 20 v3 b c)/\w.grownBy w1 (some g)) ⟨(A3.set (by omega) (yB (jL lp lq))).ext (jnQ _).drew,qt G3⟩ ?_;rintro w4 ⟨A4,G4⟩;have L4:(qa 20 v3 b c).length=16:=(yd ..).trans L3;clear A3 G3 L3 cp fp lp cq fq lq KEEP u1 HR;generalize HV3:qa 20 v3 b c=v4 at A4 L4;replace HV3:=Hj HV3;obtain ⟨cp,fp,lp⟩:=A4.fct (i:=a) (by omega);obtain ⟨cq,fq,lq⟩:=A4.fct (i:=b) (by omega);have KEEP:Hid (∀ w',Ext w4 w'->w'.cell? ⟨g,a,none⟩=some (.int .u32 (wd v4 a:Int))/\w'.cell? ⟨g,b,none⟩=some (.int .u32 (wd v4 b:Int))):=fun w' e=>⟨((A4.ext e).fct (by omega)).1,((A4.ext e).fct (by omega)).1⟩
 have u1:IntKind.u32.wrap ((wd v4 a:Int)+(wd v4 b:Int))=(qF (wd v4 a) (wd v4 b):Int):=vP;refine ym 13 [0,1,2,3,4,5,6,7,8,9,10,11,12,13] [13] ?_;repeat (refine qzR _ (fun w' e=>KEEP.out w' ((jnQ _).drew.trans e)) ?_;go_frame)
 refine qzD fun K1 hK1=> ?_
 go_simp;refine hK1.out _ _ (.inl rfl) ?_;clear hK1 K1;refine jN ?_;go_wp2_with fail;refine jg (fun w1=>Arr w1 g (qu v4 a b)/\w.grownBy w1 (some g)) ⟨(A4.set (by omega) (ve _ _)).ext (jnQ _).drew,qt G4⟩ ?_;rintro w5 ⟨A5,G5⟩;have L5:(qu v4 a b).length=16:=(yq ..).trans L4;clear A4 G4 L4 cp fp lp cq fq lq KEEP u1;generalize HV4:qu v4 a b=v5 at A5 L5;replace HV4:=Hj HV4;obtain ⟨cp,fp,lp⟩:=A5.fct (i:=d) (by omega);obtain ⟨cq,fq,lq⟩:=A5.fct (i:=a) (by omega);have KEEP:Hid (∀ w',Ext w5 w'->w'.cell? ⟨g,d,none⟩=some (.int .u32 (wd v5 d:Int))/\w'.cell? ⟨g,a,none⟩=some (.int .u32 (wd v5 a:Int))):=fun w' e=>⟨((A5.ext e).fct (by omega)).1,((A5.ext e).fct (by omega)).1⟩
 have u1:bits .xor .u32 (wd v5 d:Int) (wd v5 a:Int)=((wd v5 d^^^wd v5 a:Nat):Int):=jq7 _ _ lp lq;have HR:=Hj (fun w0:World=> @jk9 (wd v5 d^^^wd v5 a) w0 (jL lp lq));refine ym 16 [0,1,2,3,4,5,6,7,8,9,10,11,12,14,13,15,16] [13,16] ?_;repeat (refine qzR _ (fun w' e=>KEEP.out w' ((jnQ _).drew.trans e)) ?_;go_frame)
 refine qzD fun K1 hK1=> ?_
 go_simp;refine (HR.out _).mono ?_;rintro e w1 ⟨rfl,rfl⟩;refine hK1.out _ _ (.inr (jnQ _)) ?_;clear hK1 K1;try go_frame
 repeat (refine qzR _ (fun w' e=>KEEP.out w' ((jnQ _).drew.trans e)) ?_;go_frame)
 refine qzD fun K1 hK1=> ?_
 go_simp;refine hK1.out _ _ (.inl rfl) ?_;clear hK1 K1;refine jN ?_;go_wp2_with fail;refine jg (fun w1=>Arr w1 g (qa 24 v5 d a)/\w.grownBy w1 (some g)) ⟨(A5.set (by omega) (yB (jL lp lq))).ext (jnQ _).drew,qt G5⟩ ?_;rintro w6 ⟨A6,G6⟩;have L6:(qa 24 v5 d a).length=16:=(yd ..).trans L5;clear A5 G5 L5 cp fp lp cq fq lq KEEP u1 HR;generalize HV5:qa 24 v5 d a=v6 at A6 L6;replace HV5:=Hj HV5;obtain ⟨cp,fp,lp⟩:=A6.fct (i:=c) (by omega);obtain ⟨cq,fq,lq⟩:=A6.fct (i:=d) (by omega);have KEEP:Hid (∀ w',Ext w6 w'->w'.cell? ⟨g,c,none⟩=some (.int .u32 (wd v6 c:Int))/\w'.cell? ⟨g,d,none⟩=some (.int .u32 (wd v6 d:Int))):=fun w' e=>⟨((A6.ext e).fct (by omega)).1,((A6.ext e).fct (by omega)).1⟩
 have u1:IntKind.u32.wrap ((wd v6 c:Int)+(wd v6 d:Int))=(qF (wd v6 c) (wd v6 d):Int):=vP;refine ym 13 [0,1,2,3,4,5,6,7,8,9,10,11,12,13] [13] ?_;repeat (refine qzR _ (fun w' e=>KEEP.out w' ((jnQ _).drew.trans e)) ?_;go_frame)
 refine qzD fun K1 hK1=> ?_
 go_simp;refine hK1.out _ _ (.inl rfl) ?_;clear hK1 K1;refine jN ?_;go_wp2_with fail;refine jg (fun w1=>Arr w1 g (qu v6 c d)/\w.grownBy w1 (some g)) ⟨(A6.set (by omega) (ve _ _)).ext (jnQ _).drew,qt G6⟩ ?_;rintro w7 ⟨A7,G7⟩;have L7:(qu v6 c d).length=16:=(yq ..).trans L6;clear A6 G6 L6 cp fp lp cq fq lq KEEP u1;generalize HV6:qu v6 c d=v7 at A7 L7;replace HV6:=Hj HV6;obtain ⟨cp,fp,lp⟩:=A7.fct (i:=b) (by omega);obtain ⟨cq,fq,lq⟩:=A7.fct (i:=c) (by omega);have KEEP:Hid (∀ w',Ext w7 w'->w'.cell? ⟨g,b,none⟩=some (.int .u32 (wd v7 b:Int))/\w'.cell? ⟨g,c,none⟩=some (.int .u32 (wd v7 c:Int))):=fun w' e=>⟨((A7.ext e).fct (by omega)).1,((A7.ext e).fct (by omega)).1⟩
 have u1:bits .xor .u32 (wd v7 b:Int) (wd v7 c:Int)=((wd v7 b^^^wd v7 c:Nat):Int):=jq7 _ _ lp lq;have HR:=Hj (fun w0:World=> @jk8 (wd v7 b^^^wd v7 c) w0 (jL lp lq));refine ym 16 [0,1,2,3,4,5,6,7,8,9,10,11,12,14,13,15,16] [13,16] ?_;repeat (refine qzR _ (fun w' e=>KEEP.out w' ((jnQ _).drew.trans e)) ?_;go_frame)
 refine qzD fun K1 hK1=> ?_
 go_simp;refine (HR.out _).mono ?_;rintro e w1 ⟨rfl,rfl⟩;refine hK1.out _ _ (.inr (jnQ _)) ?_;clear hK1 K1;try go_frame
 repeat (refine qzR _ (fun w' e=>KEEP.out w' ((jnQ _).drew.trans e)) ?_;go_frame)
 refine qzD fun K1 hK1=> ?_
 go_simp;refine hK1.out _ _ (.inl rfl) ?_;clear hK1 K1;refine jN ?_;go_wp2_with fail;have HM:quL vs a b c d=qa 25 v7 b c:=by
  unfold quL;rw [HV0.out,HV1.out,HV2.out,HV3.out,HV4.out,HV5.out,HV6.out]
 rw [HM];go_end0
 exact ⟨rfl,(A7.set (by omega) (yB (jL lp lq))).ext (jnQ _).drew,qt G7⟩
def drL (vs:List Nat):List Nat:=quL (quL (quL (quL (quL (quL (quL (quL vs 0 4 8 12) 1 5 9 13) 2 6 10 14) 3 7 11 15) 0 5 10 15) 1 6 11 12) 2 7 8 13) 3 4 9 14
theorem jiZ (vs:List Nat):(drL vs).length=vs.length:=by simp [drL,Yb]
theorem jhj {g:Nat}{vs:List Nat}{w:World}(h:Arr w g vs) (hl:vs.length=16):
 Calls jpx 168 #[.pointer (some ⟨g,0,none⟩)] w fun e w'=>e= .returned (.tuple #[])/\Arr w' g (drL vs)/\w.grownBy w' (some g):=by
 have A0:=Hj h;have L0:=hl;have G0:Hid (w.grownBy w (some g)):=jV (jnQ _) _;clear h;go_enter Tryz.func168,Tryz.ntmps168
 go_wp2_with fail;refine (zN A0.out L0 (a:=0) (b:=4) (c:=8) (d:=12) (by omega) (by omega) (by omega) (by omega)).mono ?_;rintro e w1 ⟨rfl,A1,G1⟩;replace A1:=Hj A1;replace G1:=Hj (jj G0.out G1);have L1:=(Yb vs 0 4 8 12).trans L0;generalize HV1:quL vs 0 4 8 12=v1 at A1 L1;replace HV1:=Hj HV1;go_wp2_with fail;refine (zN A1.out L1 (a:=1) (b:=5) (c:=9) (d:=13) (by omega) (by omega) (by omega) (by omega)).mono ?_;rintro e w2 ⟨rfl,A2,G2⟩;replace A2:=Hj A2;replace G2:=Hj (jj G1.out G2);have L2:=(Yb v1 1 5 9 13).trans L1;generalize HV2:quL v1 1 5 9 13=v2 at A2 L2;replace HV2:=Hj HV2;go_wp2_with fail;refine (zN A2.out L2 (a:=2) (b:=6) (c:=10) (d:=14) (by omega) (by omega) (by omega) (by omega)).mono ?_;rintro e w3 ⟨rfl,A3,G3⟩;replace A3:=Hj A3;replace G3:=Hj (jj G2.out G3);have L3:=(Yb v2 2 6 10 14).trans L2;generalize HV3:quL v2 2 6 10 14=v3 at A3 L3;replace HV3:=Hj HV3;go_wp2_with fail;refine (zN A3.out L3 (a:=3) (b:=7) (c:=11) (d:=15) (by omega) (by omega) (by omega) (by omega)).mono ?_;rintro e w4 ⟨rfl,A4,G4⟩;replace A4:=Hj A4;replace G4:=Hj (jj G3.out G4);have L4:=(Yb v3 3 7 11 15).trans L3;generalize HV4:quL v3 3 7 11 15=v4 at A4 L4;replace HV4:=Hj HV4;go_wp2_with fail;refine (zN A4.out L4 (a:=0) (b:=5) (c:=10) (d:=15) (by omega) (by omega) (by omega) (by omega)).mono ?_;rintro e w5 ⟨rfl,A5,G5⟩;replace A5:=Hj A5;replace G5:=Hj (jj G4.out G5);have L5:=(Yb v4 0 5 10 15).trans L4;generalize HV5:quL v4 0 5 10 15=v5 at A5 L5;replace HV5:=Hj HV5;go_wp2_with fail;refine (zN A5.out L5 (a:=1) (b:=6) (c:=11) (d:=12) (by omega) (by omega) (by omega) (by omega)).mono ?_;rintro e w6 ⟨rfl,A6,G6⟩;replace A6:=Hj A6;replace G6:=Hj (jj G5.out G6);have L6:=(Yb v5 1 6 11 12).trans L5;generalize HV6:quL v5 1 6 11 12=v6 at A6 L6;replace HV6:=Hj HV6;go_wp2_with fail;refine (zN A6.out L6 (a:=2) (b:=7) (c:=8) (d:=13) (by omega) (by omega) (by omega) (by omega)).mono ?_;rintro e w7 ⟨rfl,A7,G7⟩;replace A7:=Hj A7;replace G7:=Hj (jj G6.out G7);have L7:=(Yb v6 2 7 8 13).trans L6;generalize HV7:quL v6 2 7 8 13=v7 at A7 L7;replace HV7:=Hj HV7;go_wp2_with fail;refine (zN A7.out L7 (a:=3) (b:=4) (c:=9) (d:=14) (by omega) (by omega) (by omega) (by omega)).mono ?_;rintro e w8 ⟨rfl,A8,G8⟩;replace A8:=Hj A8;replace G8:=Hj (jj G7.out G8);have L8:=(Yb v7 3 4 9 14).trans L7;generalize HV8:quL v7 3 4 9 14=v8 at A8 L8;replace HV8:=Hj HV8;go_wp2_with fail;go_end0
 refine ⟨rfl,?_,G8.out⟩;have:drL vs=v8:=by unfold drL;rw [HV1.out,HV2.out,HV3.out,HV4.out,HV5.out,HV6.out,HV7.out,HV8.out]
 rw [this];exact A8.out
theorem jgv {xs:List UInt8}(h:xs.length=4):vF xs < 4294967296:=by
 have:=Yd xs;rw [h] at this;exact this
theorem ja4 {A:Option Addr}{c:Nat}{xs:List UInt8}{w:World}(h:Bs w A 4 c xs):
 Calls jpx 179 #[.slice A 4 c] w fun e w'=>e= .returned (.int .u32 (vF xs:Int))/\w'=w:=by
 have hl:=h.len;have HC:=Hj (ZF (m:=4) h (by omega) (by omega) (by decide));have hx:xs.take 4=xs:=jqm (by omega);rw [hx] at HC;have hb:=jgv hl;have hcv:IntKind.u32.wrap (vF xs:Int)=(vF xs:Int):=by rw [jp6];omega
 go_enter Tryz.func179,Tryz.ntmps179
 go_wp2_with fail;refine HC.out.mono ?_;rintro e w1 ⟨rfl,rfl⟩;go_wp2_with fail;go_ret;exact ⟨rfl,rfl⟩
def jht:List Nat:= [1634760805,857760878,2036477234,1797285236]
def Jw (xs:List UInt8) (i:Nat):Nat:=vF ((xs.drop (4*i)).take 4)
def Yo (ks ns:List UInt8) (n:Nat):List Nat:=jht++(jp1 8).map (Jw ks)++ [n]++(jp1 3).map (Jw ns)
def Jc:List Nat:=jht++jqn 12 0
theorem jaS (ks ns:List UInt8) (n:Nat):(Yo ks ns n).length=16:=by simp [Yo,jht]
theorem jkP {xs ys:List Nat}(h:xs.length=ys.length) (hb:∀ j,j < xs.length->wd xs j=wd ys j):xs=ys:=by
 refine jp8 h fun j h1 h2=> ?_
 have:=hb j h1
 simpa [wd,jpr,h1,h2] using this
theorem jgL {vs:List Nat}{ks ns:List UInt8}{n:Nat}(hl:vs.length=16) (F0:∀ j,j < 4->wd vs j=wd Jc j) (F1:∀ j,j < 8->wd vs (4+j)=Jw ks j) (F2:wd vs 12=n) (F3:∀ j,j < 3->wd vs (13+j)=Jw ns j):vs=Yo ks ns n:=by
 refine jkP (hl.trans (jaS _ _ _).symm) fun j hj=> ?_
 have h:j=0\/j=1\/j=2\/j=3\/j=4\/j=5\/j=6\/j=7\/j=8\/j=9\/j=10\/j=11\/j=12\/j=13\/j=14\/j=15:=by omega
 rcases h with rfl | rfl | rfl | rfl | rfl | rfl | rfl | rfl | rfl | rfl | rfl | rfl | rfl | rfl | rfl | rfl
 ·exact (F0 0 (by omega)).trans rfl
 ·exact (F0 1 (by omega)).trans rfl
 ·exact (F0 2 (by omega)).trans rfl
 ·exact (F0 3 (by omega)).trans rfl
 ·exact (F1 0 (by omega)).trans rfl
 ·exact (F1 1 (by omega)).trans rfl
 ·exact (F1 2 (by omega)).trans rfl
 ·exact (F1 3 (by omega)).trans rfl
 ·exact (F1 4 (by omega)).trans rfl
 ·exact (F1 5 (by omega)).trans rfl
 ·exact (F1 6 (by omega)).trans rfl
 ·exact (F1 7 (by omega)).trans rfl
 ·exact F2.trans rfl
 ·exact (F3 0 (by omega)).trans rfl
 ·exact (F3 1 (by omega)).trans rfl
 ·exact (F3 2 (by omega)).trans rfl
theorem jdt (xs:List UInt8) (i:Nat):Jw xs i < 4294967296:=by
 have h:=Yd ((xs.drop (4*i)).take 4);have hl:((xs.drop (4*i)).take 4).length<=4:=by simp;omega
 exact jpq h (jp0 (Nat.pow_le_pow_right (by omega) hl) (by decide))
theorem jfW {w:World}{g k n:Nat}{t:jpC}(ht:Tryz.prog.underlying t=some (.array (Tryz.prog.arrayLen t) (Tryz.prog.elem t))) (hs:∀ w,(sizeOf (Tryz.prog.elem t)).run jpx w= .ok 1 w) (hn:Tryz.prog.arrayLen t=n) (hk:4*k+4<=n):
 (Instr.sliceAt t (.pointer (some ⟨g,0,none⟩)) (some (.int .i64 (4*(k:Int)))) (some (.int .i64 (4*(k:Int)+4))) (some (.int .i64 (4*(k:Int)+4)))).run jpx w= .ok (.slice (some ⟨g,4*k,none⟩) 4 4) w:=by
 rw [run_sliceAt_array_lhm w t _ ht .i64 .i64 .i64 _ _ _ (by omega) (by omega) (by omega) (by rw [hn];omega)];rw [hs];have h1:(4*(k:Int)).toNat=4*k:=by omega
 have h2:(4*(k:Int)+4).toNat=4*k+4:=by omega
 have h3:(⟨g,0,none⟩:Addr).add (4*k*1)=⟨g,4*k,none⟩:=by unfold Addr.add;split <;> simp_all
 show Result.ok (slicedAt _ _ _ _ _) w=_
 rw [h1,h2];unfold slicedAt;rw [if_neg (by omega),h3,show 4*k+4 - 4*k=4 by omega]
def Sw (w wr:World) (ks ns:List UInt8) (vs:List Nat):Prop:=
 Ext w wr/\wr.heap[w.heap.size]? =some (.cells (cellsOf ks).toArray 23 (0,0))/\wr.heap[w.heap.size+1]? =some (.cells (cellsOf ns).toArray 212 (0,0))/\Wr wr (w.heap.size+1+1) 246 (jqn 16 0)/\Wr wr (w.heap.size+1+1+1) 246 vs
theorem Sw.setV {w wr:World}{ks ns:List UInt8}{vs:List Nat}(h:Sw w wr ks ns vs) (k x:Nat):Sw w (wr.setCell ⟨w.heap.size+1+1+1,k,none⟩ (.int .u32 (x:Int))) ks ns (vs.set k x):=by
 obtain ⟨e,a,b,c,d⟩:=h;have hb:Below (w.heap.size+1+1+1) wr (wr.setCell ⟨w.heap.size+1+1+1,k,none⟩ (.int .u32 (x:Int))):=Below.setCell (p:=⟨w.heap.size+1+1+1,k,none⟩) (jpm (w.heap.size+1+1+1) wr) (jpo _) _;exact ⟨jpn e (hb.mono (by omega)),(hb.block _ (by omega)).trans a,(hb.block _ (by omega)).trans b,c.kept hb (by omega),d.set⟩
theorem jhy (w:World) (o1 o2 o3 o4:Obj):((((w.alloc o1).alloc o2).alloc o3).alloc o4).heap[w.heap.size]? =some o1:=by
 rw [jqg _ _ _ (by rw [je,je,je];omega)];exact jF w o1 o2 o3
theorem jhz (w:World) (o1 o2 o3 o4:Obj):((((w.alloc o1).alloc o2).alloc o3).alloc o4).heap[w.heap.size+1]? =some o2:=by
 rw [jqg _ _ _ (by rw [je,je,je];omega)];exact jH w o1 o2 o3
theorem jhA (w:World) (o1 o2 o3 o4:Obj):((((w.alloc o1).alloc o2).alloc o3).alloc o4).heap[w.heap.size+1+1]? =some o3:=by
 rw [jqg _ _ _ (by rw [je,je,je];omega)];exact jB w o1 o2 o3
theorem jc9 (w:World) (o1 o2 o3 o4:Obj):((((w.alloc o1).alloc o2).alloc o3).alloc o4).heap[w.heap.size+1+1+1]? =some o4:=by
 have:=jB (w.alloc o1) o2 o3 o4
 rwa [je] at this
set_option maxRecDepth 100000 in
theorem jdZ {ks ns:List UInt8}{n:Nat}{w:World}(hk:ks.length=32) (hn:ns.length=12) (hN:n < 4294967296):
 Calls jpx 167 #[.agg (cellsOf ks).toArray, .agg (cellsOf ns).toArray, .int .u32 (n:Int)] w fun e w'=>e= .returned (.agg (jb (Yo ks ns n)).toArray)/\Ext w w':=by
 have BL:=jf (show Jc.length=16 from rfl);have B1:=jo Jc;have hal:∀ w,(jpI 246).run jpx w= .ok (.agg (jb (jqn 16 0)).toArray) w:=fun _=>by kernel_rfl
 have ZL:=jf (show (jqn 16 0).length=16 from rfl);have SW0:Hid (Sw w (((((w.alloc (jqY (cellsOf ks).toArray 23)).alloc (jqY (cellsOf ns).toArray 212)).alloc (jqY (jb (jqn 16 0)).toArray 246)).alloc (jqY (jb (jqn 16 0)).toArray 246)).setRow (w.heap.size+1+1+1) (jb Jc).toArray) ks ns Jc):=
  ⟨jqb (((((jnQ w).alloc _).alloc _).alloc _).alloc _) (by omega) _,(jqy _ _ _ _ (by omega)).trans (jhy _ _ _ _ _),(jqy _ _ _ _ (by omega)).trans (jhz _ _ _ _ _),(jqy _ _ _ _ (by omega)).trans (jhA _ _ _ _ _),jqc _ _ _ _ _ _ (jc9 _ _ _ _ _)⟩
 have h3:Hid (∀ o1 o2 o3,((((w.alloc o1).alloc o2).alloc o3).alloc (jqY (jb (jqn 16 0)).toArray 246)).heap[w.heap.size+1+1+1]? =some (jqY (jb (jqn 16 0)).toArray 246)):=fun o1 o2 o3=>jc9 _ _ _ _ _
 generalize hZ:(jb (jqn 16 0)).toArray=Z at *;replace hZ:=Hj hZ;go_enter Tryz.func167,Tryz.ntmps167
 go_upto_region 2 with (first
  | (refine jm rfl _ _ rfl (jb Jc).toArray (by kernel_rfl) ?_;go_frame)
  | (refine ws_ rfl 246 rfl (w.heap.size+1+1+1) (jb Jc).toArray rfl rfl (by with_reducible exact h3.out _ _ _) (by rw [BL];rfl) (by rw [BL];exact ZL) B1 ?_;go_frame))
 refine jg (fun W=>Sw w W ks ns Jc) SW0.out ?_;clear SW0 h3 hal B1 BL ZL;rintro w0 S0;go_wp2_with fail;go_loopw [11] (fun i wr=>∃ (k:Nat) (vs:List Nat),k<=8/\i= .int .i64 k/\vs.length=16/\(∀ j,j < 4->wd vs j=wd Jc j)/\(∀ j,j < k->wd vs (4+j)=Jw ks j)/\Sw w wr ks ns vs) (fun i _=>8 - (intOf i).toNat)
 case atStart=>exact ⟨0,Jc,jpp _,rfl,rfl,fun _ _=>rfl,fun j hj=>absurd hj (by omega),S0⟩
 case round=>
  obtain ⟨k,vs,hk8,rfl,hl,F0,F1,SK⟩:=hrel;clear S0;by_cases hlt:k < 8
  ·have hK:=SK.2.1;have g3:=SK.2.2.2.2.cell (i:=4+k) (by omega);have g4:=SK.2.2.2.2.frozen (4+k);have ik:(k:Int) < 8:=by omega
   have jk:(4:Int)+(k:Int) < 16:=by omega
   have hsl:=fun w':World=>jfW (w:=w') (g:=w.heap.size) (k:=k) (t:=23) rfl (fun _=>rfl) rfl (show 4*k+4<=32 by omega)
   have HC:=Hj (ja4 (Bs.part hK (o:=4*k) (n:=4) (c:=4) (by omega) (by omega) (by omega)));replace SK:=Hj SK;replace F0:=Hj F0;replace F1:=Hj F1;clear hK;go_wp2_with fail;refine HC.out.mono ?_;rintro e w1 ⟨rfl,rfl⟩;go_wp2_with fail;refine ⟨⟨k+1,vs.set (4+k) (Jw ks k),by omega,by go_num,by rw [jp5];exact hl,fun j hj=> ?_,fun j hj=> ?_,SK.out.setV _ _⟩,by simp [intOf];omega⟩
   ·rw [j8 (by omega),if_neg (by omega)];exact F0.out j hj
   ·rw [j8 (by omega)];by_cases q:j=k
    ·rw [if_pos (by omega),q]
    ·rw [if_neg (by omega)];exact F1.out j (by omega)
  ·obtain rfl:k=8:=by omega
   rw [show ((8:Nat):Int)=8 from rfl];have g3:=SK.2.2.2.2.cell (i:=12) (by omega);have g4:=SK.2.2.2.2.frozen 12;go_upto_region 8 with (fail)
   refine jg (fun W=>∃ vs:List Nat,vs.length=16/\(∀ j,j < 4->wd vs j=wd Jc j)/\(∀ j,j < 8->wd vs (4+j)=Jw ks j)/\wd vs 12=n/\Sw w W ks ns vs) ⟨vs.set 12 n,by rw [jp5];exact hl,fun j hj=>by rw [j8 (by omega),if_neg (by omega)];exact F0 j hj,fun j hj=>by rw [j8 (by omega),if_neg (by omega)];exact F1 j hj,by rw [j8 (by omega),if_pos rfl],SK.setV _ _⟩ ?_;clear g3 g4 SK F0 F1 hl;clear vs;rintro w2 ⟨vs0,hl0,F00,F10,F20,S2⟩;go_wp2_with fail;go_loopw [30] (fun i wr=>∃ (k:Nat) (vs:List Nat),k<=3/\i= .int .i64 k/\vs.length=16/\(∀ j,j < 4->wd vs j=wd Jc j)/\(∀ j,j < 8->wd vs (4+j)=Jw ks j)/\wd vs 12=n/\(∀ j,j < k->wd vs (13+j)=Jw ns j)/\Sw w wr ks ns vs) (fun i _=>3 - (intOf i).toNat)
   case atStart=>exact ⟨0,vs0,jpp _,rfl,hl0,F00,F10,F20,fun j hj=>absurd hj (by omega),S2⟩
   case round=>
    obtain ⟨k,vs,hk3,rfl,hl,F0,F1,F2,F3,SK⟩:=hrel;clear S2 hl0 F00 F10 F20;by_cases hlt:k < 3
    ·have hK:=SK.2.2.1;have g3:=SK.2.2.2.2.cell (i:=13+k) (by omega);have g4:=SK.2.2.2.2.frozen (13+k);have ik:(k:Int) < 3:=by omega
     have jk:(13:Int)+(k:Int) < 16:=by omega
     have hsl:=fun w':World=>jfW (w:=w') (g:=(w.heap.size+1)) (k:=k) (t:=212) rfl (fun _=>rfl) rfl (show 4*k+4<=12 by omega)
     have HC:=Hj (ja4 (Bs.part hK (o:=4*k) (n:=4) (c:=4) (by omega) (by omega) (by omega)));replace SK:=Hj SK;replace F0:=Hj F0;replace F1:=Hj F1;replace F2:=Hj F2;replace F3:=Hj F3;clear hK;go_wp2_with fail;refine HC.out.mono ?_;rintro e w1 ⟨rfl,rfl⟩;go_wp2_with fail;refine ⟨⟨k+1,vs.set (13+k) (Jw ns k),by omega,by go_num,by rw [jp5];exact hl,fun j hj=> ?_,fun j hj=> ?_,?_,fun j hj=> ?_,SK.out.setV _ _⟩,by simp [intOf];omega⟩
     ·rw [j8 (by omega),if_neg (by omega)];exact F0.out j hj
     ·rw [j8 (by omega),if_neg (by omega)];exact F1.out j hj
     ·rw [j8 (by omega),if_neg (by omega)];exact F2.out
     ·rw [j8 (by omega)];by_cases q:j=k
      ·rw [if_pos (by omega),q]
      ·rw [if_neg (by omega)];exact F3.out j (by omega)
    ·obtain rfl:k=3:=by omega
     have hvs:=Hj (jgL hl F0 F1 F2 F3);have HL:=jf hl;have hone:=jo vs;obtain ⟨he,_,_,h1,h2⟩:=SK;unfold Wr at h1 h2;generalize hC:(jb vs).toArray=C at h2 HL hone;clear F0 F1 F2 F3;replace hC:=Hj hC;replace h1:=Hj h1;replace h2:=Hj h2;go_wp2_with (first
      | refine wl_ rfl 246 rfl (w.heap.size+1+1+1) rfl h2.out rfl rfl (by rw [HL];rfl) ?_
      | refine ws_ rfl 246 rfl (w.heap.size+1+1) C rfl rfl h1.out (by rw [HL];rfl) (by rw [HL];rfl) hone ?_)
     (try simp only [jqV,Exit.then]);refine jqW (jqX rfl _ _ (w.heap.size+1+1) 246 C (0,0) _ rfl (jqc _ _ _ _ _ _ h1.out) rfl rfl (by rw [HL];rfl)) rfl ?_;exact ⟨by rw [<-hvs.out,hC.out],jqb he (by omega) _⟩
def drN (vs:List Nat):Nat->List Nat
 | 0=>vs
 | k+1=>drL (drN vs k)
theorem jb9 {vs:List Nat}(h:vs.length=16):∀ k,(drN vs k).length=16
 | 0=>h
 | k+1=>by rw [drN,jiZ];exact jb9 h k
def jd3 (us vs:List Nat):List Nat:=(jp1 16).map fun j=>qF (wd us j) (wd vs j)
theorem jaW (us vs:List Nat):(jd3 us vs).length=16:=by simp [jd3]
theorem jjO {us vs:List Nat}{j:Nat}(h:j < 16):wd (jd3 us vs) j=qF (wd us j) (wd vs j):=by simp [wd,jd3,jpr,h]
def YT (ks ns:List UInt8) (n:Nat):List UInt8:=qX (jd3 (drN (Yo ks ns n) 10) (Yo ks ns n))
theorem jac (ks ns:List UInt8) (n:Nat):(YT ks ns n).length=64:=by unfold YT;rw [ya,jaW]
theorem jiB {ks ns:List UInt8}{n:Nat}(hn:n < 4294967296):∀ i,i < 16->wd (Yo ks ns n) i < 4294967296:=fun j hj=>by
 have h:j=0\/j=1\/j=2\/j=3\/j=4\/j=5\/j=6\/j=7\/j=8\/j=9\/j=10\/j=11\/j=12\/j=13\/j=14\/j=15:=by omega
 rcases h with rfl | rfl | rfl | rfl | rfl | rfl | rfl | rfl | rfl | rfl | rfl | rfl | rfl | rfl | rfl | rfl
 ·exact (by decide:(1634760805:Nat) < 4294967296)
 ·exact (by decide:(857760878:Nat) < 4294967296)
 ·exact (by decide:(2036477234:Nat) < 4294967296)
 ·exact (by decide:(1797285236:Nat) < 4294967296)
 iterate 8 (·exact jdt _ _)
 ·exact hn
 iterate 3 (·exact jdt _ _)
def Bw (w wr:World) (f g:Nat) (S V:List Nat):Prop:=
 Ext w wr/\wr.heap[w.heap.size+1+1]? =some (.cells (cellsOf (jqn 64 0)).toArray 221 (0,0))/\Wr wr f 246 S/\Arr wr g V/\w.heap.size+1+1 < f/\f < g
section
variable {w wr wr':World}{f g:Nat}{S V V':List Nat}
theorem Bw.ext (h:Bw w wr f g S V) (e:Ext wr wr'):Bw w wr' f g S V:=by
 obtain ⟨e0,a,b,c,d⟩:=h;exact ⟨e0.trans e,(e.block _ (jh a)).trans a,b.kept e b.lt,c.ext e,d⟩
theorem Bw.grow (h:Bw w wr f g S V) (e:wr.grownBy wr' (some g)) (a:Arr wr' g V'):Bw w wr' f g S V':=by
 obtain ⟨e0,h1,h2,h3,h4,h5⟩:=h;have bl:∀ i o,wr.heap[i]? =some o->i≠g->wr'.heap[i]? =some o:=fun i o hi hne=>(e.block i (jh hi) (fun q=>by injection q with q;exact hne q)).trans hi
 exact ⟨jpn e0 ⟨e.os,e.tape,e.output,e.size,fun i hi=>e.block i (jpq hi e0.size) (fun q=>by injection q with q;omega)⟩,bl _ _ h1 (by omega),bl _ _ h2 (by omega),a,h4,h5⟩
end
set_option maxRecDepth 100000 in
theorem jcZ {ks ns:List UInt8}{n:Nat}{w:World}(hk:ks.length=32) (hn:ns.length=12) (hN:n < 4294967296):
 Calls jpx 148 #[.agg (cellsOf ks).toArray, .agg (cellsOf ns).toArray, .int .u32 (n:Int)] w fun e w'=>e= .returned (.agg (cellsOf (YT ks ns n)).toArray)/\Ext w w':=by
 have KS:(cellsOf ks).toArray.size=32:=by simp [ja,hk]
 have NS:(cellsOf ns).toArray.size=12:=by simp [ja,hn]
 have hal:∀ w,(jpI 221).run jpx w= .ok (.agg (cellsOf (jqn 64 0)).toArray) w:=fun _=>by kernel_rfl
 have hal2:∀ w,(jpI 246).run jpx w= .ok (.agg (jb (jqn 16 0)).toArray) w:=fun _=>by kernel_rfl
 have ZL:=jf (show (jqn 16 0).length=16 from rfl);have START:Hid (∀ W,Calls jpx 167 #[.agg (cellsOf ks).toArray, .agg (cellsOf ns).toArray, .int .u32 (n:Int)] W fun e w'=>e= .returned (.agg (jb (Yo ks ns n)).toArray)/\Ext W w'):=fun W=>jdZ hk hn hN
 have SL:=jaS ks ns n;have SLT:=Hj (jiB (ks:=ks) (ns:=ns) hN);have hBL:Hid (YT ks ns n=qX (jd3 (drN (Yo ks ns n) 10) (Yo ks ns n))):=rfl;generalize Yo ks ns n=S at *;have SS:=jf SL;have S1:=jo S;have q0:Hid (∀ o2 o3,(((w.alloc (jqY (cellsOf ks).toArray 23)).alloc o2).alloc o3).heap[w.heap.size]? =some (jqY (cellsOf ks).toArray 23)):=fun o2 o3=>jF _ _ _ _
 have q1:Hid (∀ o1 o3,(((w.alloc o1).alloc (jqY (cellsOf ns).toArray 212)).alloc o3).heap[w.heap.size+1]? =some (jqY (cellsOf ns).toArray 212)):=fun o1 o3=>jH _ _ _ _
 have q2:Hid (∀ o1 o2,(((w.alloc o1).alloc o2).alloc (jqY (cellsOf (jqn 64 0)).toArray 221)).heap[w.heap.size+1+1]? =some (jqY (cellsOf (jqn 64 0)).toArray 221)):=fun o1 o2=>jB _ _ _ _
 generalize hZ:(jb (jqn 16 0)).toArray=Z at *;replace hZ:=Hj hZ;generalize hO:jqn 64 (0:UInt8)=O at *;replace hO:=Hj hO;go_enter Tryz.func148,Tryz.ntmps148
 go_wp2_with (first
  | (refine wl_ rfl 23 rfl w.heap.size rfl (by with_reducible exact q0.out _ _) rfl rfl (by rw [KS];rfl) ?_;go_frame)
  | (refine wl_ rfl 212 rfl (w.heap.size+1) rfl (by with_reducible exact q1.out _ _) rfl rfl (by rw [NS];rfl) ?_;go_frame))
 refine (START.out _).mono ?_;rintro e w1 ⟨rfl,e1⟩;have E1:Hid (Ext w w1):=(((((jnQ w).alloc _).alloc _).alloc _).trans e1);have R1:=Hj ((e1.block (w.heap.size+1+1) (by rw [je,je,je];omega)).trans (q2.out _ _));clear q0 q1 q2 e1 START;go_upto_region 2 with (refine ws_ rfl 246 rfl w1.heap.size (jb S).toArray rfl rfl (by with_reducible exact jqq _ _) (by rw [SS];rfl) (by rw [SS];exact ZL) S1 ?_;go_frame)
 refine jg (fun W=>Ext w W/\W.heap[w.heap.size+1+1]? =some (jqY (cellsOf O).toArray 221 (0,0))/\Wr W w1.heap.size 246 S/\w.heap.size+1+1 < w1.heap.size) ⟨E1.out.trans (jqb ((jnQ w1).alloc _) (jpo _) _),((jqb ((jnQ w1).alloc _) (jpo _) _:Ext w1 _).block _ (jh R1.out)).trans R1.out,jqc _ _ _ _ _ _ (jqq _ _),jh R1.out⟩ ?_;rintro w2 ⟨E2,R2,F2,hf⟩;replace E2:=Hj E2;replace R2:=Hj R2;unfold Wr at F2;replace F2:=Hj F2;clear E1 R1;obtain ⟨f,hf0⟩:=ex_ w1.heap.size;rw [<-hf0] at F2 hf ⊢;clear hf0;go_upto_region 3 with (first
  | (refine wl_ rfl 246 rfl f rfl F2.out rfl rfl (by rw [SS];rfl) ?_;go_frame)
  | (refine ws_ rfl 246 rfl w2.heap.size (jb S).toArray rfl rfl (by with_reducible exact jqq _ _) (by rw [SS];rfl) (by rw [SS];exact ZL) S1 ?_;go_frame))
 refine jg (fun W=>Bw w W f w2.heap.size S S) ⟨E2.out.trans (jqb ((jnQ w2).alloc _) (jpo _) _),?_,?_,Wr.arr (t:=246) (jqc _ _ _ _ _ _ (jqq _ _)) (fun i hi=>SLT.out i (by omega)),hf,jh F2.out⟩ ?_
 ·rw [hO.out];exact ((jqb ((jnQ w2).alloc _) (jpo _) _:Ext w2 _).block _ (jh R2.out)).trans R2.out
 ·exact ((jqb ((jnQ w2).alloc _) (jpo _) _:Ext w2 _).block _ (jh F2.out)).trans F2.out
 clear R2 F2;rintro w3 B3;obtain ⟨g,hg0⟩:=ex_ w2.heap.size;rw [<-hg0] at B3 ⊢;clear hg0 E2;go_wp2_with fail;go_loopw [16] (fun i wr=>∃ k:Nat,k<=10/\i= .int .i64 k/\Bw w wr f g S (drN S k)) (fun i _=>10 - (intOf i).toNat)
 case atStart=>exact ⟨0,jpp _,rfl,B3⟩
 case round=>
  obtain ⟨k,hk10,rfl,BK⟩:=hrel;clear B3;by_cases hlt:k < 10
  ·have DR:=Hj (jhj BK.2.2.2.1 (jb9 SL k));replace BK:=Hj BK;go_wp2_with fail;refine DR.out.mono ?_;rintro e w4 ⟨rfl,A4,G4⟩;go_wp2_with fail;exact ⟨⟨k+1,by omega,by go_num,BK.out.grow G4 A4⟩,by simp [intOf];omega⟩
  ·obtain rfl:k=10:=by omega
   rw [show ((10:Nat):Int)=10 from rfl];generalize hV:drN S 10=V at *;have VL:V.length=16:=by rw [<-hV];exact jb9 SL 10
   replace hV:=Hj hV;have VLT:Hid (∀ j,j < 16->wd V j < 4294967296):=fun j hj=>(BK.2.2.2.1.2 j (by omega)).2.2
   replace BK:=Hj BK;go_upto_region 8 with (fail)
   refine jg (fun W=>Bw w W f g S V/\W.heap[wr.heap.size]? =some (.cells (cellsOf O).toArray 221 (0,0))/\g < wr.heap.size) ⟨BK.out.ext ((jnQ _).alloc _),jqq _ _,BK.out.2.2.2.1.1⟩ ?_;obtain ⟨o,ho0⟩:=ex_ wr.heap.size;rw [<-ho0];clear ho0 BK;rintro w5 ⟨B5,O5,hgo⟩;have OL:O.length=64:=by rw [<-hO.out];simp
   go_wp2_with fail;go_loopw [20] (fun i wr=>∃ (k:Nat) (xs:List UInt8),k<=16/\i= .int .i64 k/\xs.length=64/\(∀ j,j < 4*k->bt xs j=bt (qX (jd3 V S)) j)/\Bw w wr f g S V/\wr.heap[o]? =some (.cells (cellsOf xs).toArray 221 (0,0))) (fun i _=>16 - (intOf i).toNat)
   case atStart=>exact ⟨0,O,jpp _,rfl,OL,fun j hj=>absurd hj (by omega),B5,O5⟩
   case round=>
    obtain ⟨k,xs,hk16,rfl,hl,hv,BK,h2⟩:=hrel;clear B5 O5;by_cases hlt:k < 16
    ·have hsl:=fun w':World=>je3 (w:=w') (g:=o) (k:=k) (t:=221) rfl (fun _=>rfl) rfl (show 4*k < 64 by omega)
     have a1:=VLT.out k hlt;have a2:=SLT.out k hlt;have m0:(k:Int) < 16:=by omega
     have m1:IntKind.i64.wrap (4*(k:Int))=4*(k:Int):=jq0 _ (by omega);have m2:IntKind.u32.wrap ((wd V k:Int)+(wd S k:Int))=(qF (wd V k) (wd S k):Int):=vP;have al:=ve (wd V k) (wd S k);have m3:IntKind.u64.wrap (qF (wd V k) (wd S k):Int)=(qF (wd V k) (wd S k):Int):=IntWalk.u64_in _ (by omega);have LOW:=Hj (fun w0:World=>Zh (n:=qF (wd V k) (wd S k)) (m:=4) (many:=4) (w:=w0) (by omega) (by omega) (by omega) (by omega) (by decide));have KEEP:Hid (∀ w',Below o wr w'->w'.cell? ⟨g,k,none⟩=some (.int .u32 (wd V k:Int))/\w'.cell? ⟨f,k,none⟩=some (.int .u32 (wd S k:Int))):=fun w' e=>⟨(e.cell (p:=⟨g,k,none⟩) (by show g < o;omega)).trans (BK.2.2.2.1.fct (by omega)).1,(e.cell (p:=⟨f,k,none⟩) (by show f < o;have:=BK.2.2.2.2.2;omega)).trans (BK.2.2.1.cell (by omega))⟩
     have osz:o < wr.heap.size:=jh h2;replace h2:=Hj h2;replace hv:=Hj hv;replace BK:=Hj BK;go_wp2_with fail;refine qgB o [0,1,2,3,4,5,6,7,8,9,10,11,12] [11,12] ?_;repeat ((first | refine qR _ (fun w' e=>KEEP.out w' (jpn (jpm _ _).drew e)) ?_ | refine qS ?_);go_frame)
     refine qD fun K hK=> ?_
     go_simp;refine (LOW.out _).mono ?_;rintro e w1 ⟨A1,n1,c1,rfl,b1,e1⟩;refine hK.out _ _ (e1.mono (jqU osz)) ?_;clear hK K;try go_frame
     repeat ((first | refine qR0 ?_ | refine qS ?_);go_frame)
     refine qD fun K hK=> ?_
     go_simp;have hn1:n1=4:=by have:=b1.len;rw [vM] at this;omega
     subst hn1;refine JZ (cur:=cellsOf xs) rfl ((e1.block o osz).trans h2.out) b1 (by omega) (by rw [ja];omega) ?_;intro W' h3 h4;rw [Yf] at h3;go_simp;refine hK.out _ _ (h4.out o (jpo _)) ?_;clear hK K;refine jp ?_;have e2:Below o wr W':=jpn ((jpm o wr).drew) (jpn (e1.mono (jqU osz)) (h4.out o (jpo _)));have B6:Bw w W' f g S V:=by
      obtain ⟨x1,x2,x3,x4,x5,x6⟩:=BK.out;refine ⟨jpn x1 (e2.mono (by omega)),(e2.block _ (by omega)).trans x2,(e2.block _ (by omega)).trans x3,⟨jpq x4.1 e2.size,fun i hi=> ?_⟩,x5,x6⟩;obtain ⟨y1,y2,y3⟩:=x4.2 i hi;exact ⟨(e2.cell (p:=⟨g,i,none⟩) hgo).trans y1,(e2.frozen (p:=⟨g,i,none⟩) hgo).trans y2,y3⟩
     clear h4 m0 m1 m2 m3 hsl KEEP;go_wp2_with fail;refine ⟨⟨k+1,jp9 xs (4*k) (J3 (qF (wd V k) (wd S k)) 4),by omega,by go_num,(jaR (by rw [vM];omega)).trans hl,fun j hj=> ?_,B6,h3.out⟩,by simp [intOf];omega⟩;rw [jbs (by rw [vM];omega) (by rw [vM];omega)];by_cases q:j < 4*k
     ·rw [if_pos q];exact hv.out j q
     ·rw [if_neg q,jb1 (by omega),JK (by rw [jaW];omega),show j / 4=k by omega,show j % 4=j - 4*k by omega,jjO hlt]
    ·obtain rfl:k=16:=by omega
     have hvs:=Hj (Y0 (xs:=xs) (ys:=qX (jd3 V S)) (by rw [ya,jaW];omega) (fun j hj=>hv j (by omega)));have HS:(cellsOf xs).toArray.size=64:=by simp [ja,hl]
     have OS:(cellsOf O).toArray.size=64:=by simp [ja,OL]
     have hone:=ji xs;have h1:=BK.2.1;rw [hO.out] at h1;have he:=BK.1;generalize hD:(cellsOf xs).toArray=D at h2 HS hone;replace hD:=Hj hD;replace h1:=Hj h1;replace h2:=Hj h2;clear hv BK;go_wp2_with (first
      | (refine wl_ rfl 221 rfl o rfl h2.out rfl rfl (by rw [HS];rfl) ?_;go_frame)
      | (refine ws_ rfl 221 rfl (w.heap.size+1+1) D rfl rfl h1.out (by rw [HS];rfl) (by rw [HS];exact OS) hone ?_;go_frame))
     (try simp only [jqV,Exit.then]);refine jqW (jqX rfl _ _ (w.heap.size+1+1) 221 D (0,0) _ rfl (jqc _ _ _ _ _ _ h1.out) rfl rfl (by rw [HS];rfl)) rfl ?_;exact ⟨by rw [hBL.out,<-hvs.out,hD.out],jqb he (by omega) _⟩
def jd7 (xs ys:List UInt8):List UInt8:=List.zipWith (· ^^^ ·) xs ys
theorem jbc {xs ys:List UInt8}(h:xs.length=ys.length):(jd7 xs ys).length=xs.length:=by simp [jd7,h]
theorem jfv {xs ys:List UInt8}(h:xs.length=ys.length){k:Nat}(hk:k < xs.length):bt (jd7 xs ys) k=bt xs k^^^bt ys k:=by
 unfold bt jd7;simp [jpr,List.getElem?_zipWith,hk,show k < ys.length by omega]
theorem jjM (xs ys:List UInt8) (k:Nat):bits .xor .u8 (bt xs k:Int) (bt ys k:Int)=((bt xs k^^^bt ys k:Nat):Int):=u8_xor_nat _ _ (vL _ _) (vL _ _)
theorem jgW {A A':Option Addr}{n c c':Nat}{xs ys:List UInt8}{w:World}(h:Bs w A n c xs) (h':Bs w A' n c' ys) (hm:n<=281474976710656):
 Calls jpx 149 #[.slice A n c, .slice A' n c'] w (YP (jd7 xs ys) 0 w):=by
 have h1:=h.le;have h2:=h.cap;have h3:=h'.le;have h4:=h'.cap;have hl:=Hj (h.len.trans h'.len.symm);have hmk:=jhQ n hm;go_enter Tryz.func149,Tryz.ntmps149
 go_wp2
 clear hmk;go_loopw [18] (fun i wr=>∃ k:Nat,k<=n/\i= .int .i64 k/\Fill w wr n k (fun j=>bt xs j^^^bt ys j)) (fun i _=>n - (intOf i).toNat)
 case atStart=>exact ⟨0,jpp _,rfl,Fill.start _ _ _⟩
 case round=>
  obtain ⟨k,hk,rfl,hf⟩:=hrel;by_cases hlt:k < n
  ·obtain ⟨b,off,rfl,hb,hc⟩:=h.pos (by omega);obtain ⟨b',off',rfl,hb',hc'⟩:=h'.pos (by omega);have g1:=(hf.1.cell (p:=⟨b,off+k,none⟩) hb).trans (hc k hlt);have g2:=(hf.1.cell (p:=⟨b',off'+k,none⟩) hb').trans (hc' k hlt);have g3:=hf.cell hlt;have g4:=hf.frozen k;have hu:=Hj (jjM xs ys k);clear hc hc';go_wp2
   go_region
   go_wp2
   go_roundw
   case rel=>exact ⟨k+1,by omega,by go_num,(hf.step hu.out).drew⟩
   case measure=>simp [intOf];omega
  ·obtain rfl:k=n:=by omega
   go_wp2
   go_ret2;exact ⟨_,_,_,rfl,hf.done ((jbc hl.out).trans h.len) hm (fun j hj=>(jfv hl.out (by rw [h.len];exact hj)).symm),hf.1⟩
def jhE (ks ns:List UInt8) (n j:Nat):Nat:=bt (YT ks ns ((n+j / 64) % 4294967296)) (j % 64)
theorem ji7 (ks ns:List UInt8) (n j:Nat):jhE ks ns n j < 256:=vL _ _
def yY (ks ns:List UInt8) (n:Nat) (bs:List UInt8):List UInt8:=(jp1 bs.length).map fun j=>jpt (bt bs j^^^jhE ks ns n j)
theorem yE (ks ns:List UInt8) (n:Nat) (bs:List UInt8):(yY ks ns n bs).length=bs.length:=by simp [yY]
theorem jgX {a b:Nat}(ha:a < 256) (hb:b < 256):a^^^b < 256:=Nat.xor_lt_two_pow (n:=8) ha hb
theorem jad {ks ns:List UInt8}{n j:Nat}{bs:List UInt8}(h:j < bs.length):bt (yY ks ns n bs) j=bt bs j^^^jhE ks ns n j:=by
 have:=jgX (vL bs j) (ji7 ks ns n j);have e:(yY ks ns n bs).getD j 0=jpt (bt bs j^^^jhE ks ns n j):=by
  unfold yY;rw [jra,jpT,List.getElem?_range h]
  rfl
 show ((yY ks ns n bs).getD j 0).toNat=_
 rw [e,UInt8.toNat_ofNat'];exact jqM this
theorem jgP {ks ns:List UInt8}{n i m:Nat}{bs ys:List UInt8}(hm:m=min (bs.length - 64*i) 64) (hi:64*i < bs.length) (hy:ys=jd7 ((bs.drop (64*i)).take m) ((YT ks ns ((n+i) % 4294967296)).take m)):
 (yY ks ns n bs).take (64*i)++ys=(yY ks ns n bs).take (64*(i+1)):=by
 have lb:=jac ks ns ((n+i) % 4294967296);have l1:((bs.drop (64*i)).take m).length=m:=by simp;omega
 have l2:((YT ks ns ((n+i) % 4294967296)).take m).length=m:=by simp [lb];omega
 have ly:ys.length=m:=by rw [hy,jbc (by omega),l1]
 have tl:=yE ks ns n bs;refine Y0 (by simp [tl,ly];omega) fun j hj=> ?_
 have hj':j < 64*i+m:=by simp [tl,ly] at hj;omega
 rw [YU (by omega)];by_cases q:j < 64*i
 ·have:bt ((yY ks ns n bs).take (64*i)++ys) j=bt ((yY ks ns n bs).take (64*i)) j:=by
   unfold bt;simp only [jpr];rw [jqs (by simp [tl];omega)]
  rw [this,YU q]
 ·have:bt ((yY ks ns n bs).take (64*i)++ys) j=bt ys (j - 64*i):=by
   unfold bt;simp only [jpr];rw [jqr (by simp [tl];omega)];simp [tl,show min (64*i) bs.length=64*i by omega]
  rw [this,jad (by omega),hy,jfv (by omega) (by omega),YU (by omega),YU (by omega),jfu];unfold jhE;rw [show 64*i+(j - 64*i)=j by omega,show j / 64=i by omega,show j % 64=j - 64*i by omega]
def jj3:Value->Nat
 | .slice _ n _=>n
 | _=>0
def Tw (w wr:World) (ks ns:List UInt8):Prop:=
 Ext w wr/\wr.heap[w.heap.size]? =some (.cells (cellsOf ks).toArray 23 (0,0))/\wr.heap[w.heap.size+1]? =some (.cells (cellsOf ns).toArray 212 (0,0))
theorem Tw.below {w wr wr':World}{ks ns:List UInt8}(h:Tw w wr ks ns) (e:Below (w.heap.size+1+1) wr wr'):Tw w wr' ks ns:=
 ⟨jpn h.1 (e.mono (by omega)),(e.block _ (by omega)).trans h.2.1,(e.block _ (by omega)).trans h.2.2⟩
theorem Tw.size {w wr:World}{ks ns:List UInt8}(h:Tw w wr ks ns):w.heap.size+1+1<=wr.heap.size:=jh h.2.2
theorem Own.lower {B B':Nat}{w:World}{A:Option Addr}{n c:Nat}{xs:List UInt8}(h:Own B w A n c xs) (hB:B'<=B):Own B' w A n c xs:=by
 refine ⟨h.1,?_⟩;rcases h.2 with h | ⟨g,cap,cur,hv,hb,r⟩
 ·exact .inl h
 ·exact .inr ⟨g,cap,cur,hv,jp0 hB hb,r⟩
set_option maxRecDepth 100000 in
theorem jiG {ks ns bs:List UInt8}{n:Nat}{A:Option Addr}{L c:Nat}{w:World}(hk:ks.length=32) (hn:ns.length=12) (hN:n < 4294967296) (h:Bs w A L c bs) (hL:L<=140737488355328):
 Calls jpx 117 #[.agg (cellsOf ks).toArray, .agg (cellsOf ns).toArray, .int .u32 (n:Int), .slice A L c] w (YA (yY ks ns n bs) w):=by
 have h1:=h.le;have h2:=h.cap;have hbl:=h.len;have KS:(cellsOf ks).toArray.size=32:=by simp [ja,hk]
 have NS:(cellsOf ns).toArray.size=12:=by simp [ja,hn]
 have hal:∀ w,(jpI 221).run jpx w= .ok (.agg (cellsOf (jqn 64 0)).toArray) w:=fun _=>by kernel_rfl
 have hmk:=jhP L (by omega);have hB:=Hj h;clear h;have TW0:Hid (∀ o,Tw w (((w.alloc (jqY (cellsOf ks).toArray 23)).alloc (jqY (cellsOf ns).toArray 212)).alloc o) ks ns):=fun o=>⟨(((jnQ w).alloc _).alloc _).alloc _,jF _ _ _ _,jH _ _ _ _⟩
 have OS:(cellsOf (jqn 64 (0:UInt8))).toArray.size=64:=by simp [ja]
 generalize (cellsOf (jqn 64 (0:UInt8))).toArray=O at *;have OW0:Hid (∀ w:World,Own w.heap.size (w.alloc (.cells (madeCells #[.int .u8 0] L) 5)) (some ⟨w.heap.size,0,none⟩) 0 L []):=fun w=>Own.made w _ _ (jpo _) (by omega)
 generalize hMC:madeCells #[.int .u8 0] L=MC at *;clear hMC;go_enter Tryz.func117,Tryz.ntmps117
 go_wp2_with fail;have E2:(((w.alloc (jqY (cellsOf ks).toArray 23)).alloc (jqY (cellsOf ns).toArray 212)).heap.size)=w.heap.size+1+1:=by rw [je,je]
 have OW1:=Hj (OW0.out ((w.alloc (jqY (cellsOf ks).toArray 23)).alloc (jqY (cellsOf ns).toArray 212)));rw [E2] at OW1;go_loopw [2,3,9] (fun x y v wr=>∃ (i:Nat) (A' D:Option Addr) (q c' m cc:Nat),64*i < L+64/\x= .int .u32 (((n+i) % 4294967296:Nat):Int)/\y= .slice A' q c'/\v= .slice D m cc/\q=L - 64*i/\Bs w A' q c' (bs.drop (64*i))/\Own (w.heap.size+1+1) wr D m cc ((yY ks ns n bs).take (64*i))/\Tw w wr ks ns) (fun _ y _ _=>jj3 y)
 case atStart=>
  refine ⟨0,A,_,L,c,0,L,by omega,?_,rfl,rfl,by omega,hB.out,OW1.out,TW0.out _⟩;rw [jpP,jqM hN]
 case round=>
  obtain ⟨i,A',D,q,c',m,cc,hi,rfl,rfl,rfl,hq,hb,ho,tw⟩:=hrel;clear TW0 OW0 OW1 hmk E2;have q1:=hb.le;have q2:=hb.cap;have hn64:(n+i) % 4294967296 < 4294967296:=jp3 _ (by decide);have hml:=ho.len;have tl:=yE ks ns n bs;by_cases hq0:0 < q
  ·obtain ⟨b,off,rfl,hbb,hbc⟩:=hb.pos hq0;clear hbc;obtain ⟨k,hk0⟩:=ex_ (min q 64);have hM:(if (64:Int) < (q:Int) then 64 else (q:Int))=(k:Int):=by split <;> omega
   have hM':(if (q:Int) < 64 then (q:Int) else 64)=(k:Int):=by split <;> omega
   have k1:k<=q:=by omega
   have k2:k<=64:=by omega
   have k3:0 < k:=by omega
   have BLK:Hid (∀ W,Calls jpx 148 #[.agg (cellsOf ks).toArray, .agg (cellsOf ns).toArray, .int .u32 (((n+i) % 4294967296:Nat):Int)] W fun e w'=>e= .returned (.agg (cellsOf (YT ks ns ((n+i) % 4294967296))).toArray)/\Ext W w'):=fun W=>jcZ hk hn hn64
   have BLL:=jac ks ns ((n+i) % 4294967296);have STEP:=Hj (fun ys=>jgP (ks:=ks) (ns:=ns) (n:=n) (i:=i) (m:=k) (bs:=bs) (ys:=ys) (by omega) (by omega));generalize YT ks ns ((n+i) % 4294967296)=BK at *;generalize hx:(n+i) % 4294967296=x at *;have hx1:IntKind.u32.wrap ((x:Int)+1)=(((n+(i+1)) % 4294967296:Nat):Int):=by rw [jp6];omega
   replace hx:=Hj hx;have BKS:(cellsOf BK).toArray.size=64:=by simp [ja,BLL]
   have BK1:=ji BK;replace hb:=Hj hb;replace ho:=Hj ho;replace tw:=Hj tw;replace hq:=Hj hq;replace hk0:=Hj hk0;replace hml:=Hj hml;clear tl hbl;go_wp2_with (first
    | (refine wl_ rfl 23 rfl w.heap.size rfl tw.out.2.1 rfl rfl (by rw [KS];rfl) ?_;go_frame)
    | (refine wl_ rfl 212 rfl (w.heap.size+1) rfl tw.out.2.2 rfl rfl (by rw [NS];rfl) ?_;go_frame))
   refine (BLK.out _).mono ?_;rintro e w1 ⟨rfl,e1⟩;go_upto_region 5 with (refine ws_ rfl 221 rfl w1.heap.size (cellsOf BK).toArray rfl rfl (by with_reducible exact jqq _ _) (by rw [BKS];rfl) (by rw [BKS];exact OS) BK1 ?_;go_frame)
   refine jg (fun W=>Ext wr W/\W.heap[w1.heap.size]? =some (.cells (cellsOf BK).toArray 221 (0,0))) ⟨e1.trans (jqb ((jnQ w1).alloc _) (jpo _) _),jqc _ _ _ _ _ _ (jqq _ _)⟩ ?_;rintro w2 ⟨e2,kb⟩;obtain ⟨g,hg0⟩:=ex_ w1.heap.size;rw [<-hg0] at kb ⊢;clear hg0 e1;have X1:=Hj (((hb.out.take k1).recap (c2:=k) (jpo _)).ext (tw.out.1.trans e2));have X2:Hid (Bs w2 (some ⟨g,0,none⟩) k k (BK.take k)):=by
    have h9:=Bs.part kb (o:=0) (n:=k) (c:=k) (by omega) (by omega) (by omega);rw [List.drop_zero] at h9;exact h9
   have XOR:Hid (∀ W,Ext w2 W->Calls jpx 149 #[.slice (some ⟨b,off,none⟩) k k, .slice (some ⟨g,0,none⟩) k k] W (YP (jd7 ((bs.drop (64*i)).take k) (BK.take k)) 0 W)):=fun W e=>jgW (X1.out.ext e) (X2.out.ext e) (by omega)
   have kn: ¬ k=0:=by omega
   have kc:(k:Int)<=(c':Int):=by omega
   have k64:(k:Int)<=64:=by omega
   replace e2:=Hj e2;clear kb hM hM';refine qgE [0,1,2,3,4,5,6,7,8,9,10,11,12] [7] ?_;repeat ((first | refine qR0 ?_ | refine qS ?_);go_frame)
   refine qD fun K hK=> ?_
   go_simp;refine (XOR.out _ (jnQ _).drew).mono ?_;rintro e w3 ⟨A3,n3,c3,rfl,b3,e3⟩;refine hK.out _ _ e3 ?_;clear hK K;try go_frame
   repeat ((first | refine qR0 ?_ | refine qS ?_);go_frame)
   refine jp ?_;have E3:Ext wr w3:=e2.out.trans ((jnQ _).drew.trans e3);have hs3:(jd7 ((bs.drop (64*i)).take k) (BK.take k)).length=k:=by rw [jbc (by rw [X1.out.len,X2.out.len]),X1.out.len]
   have n3k:n3=k:=by rw [<-b3.len,hs3]
   subst n3k;have O3:=Hj (ho.out.ext E3);have T3:=Hj (tw.out.below (E3.mono tw.out.size));have mL:m+n3<=140737488355328:=by
    have:=hml.out;have:=hq.out;have:=yE ks ns n bs;have:=hB.out.len;simp only [jps] at *;omega
   replace b3:=Hj b3;clear XOR X1 X2 e2 e3 E3 hs3;go_wp2_with (first
    | (at_builtin;(with_reducible refine jJ rfl (B:=w.heap.size+1+1) (s:= .tmp 38) (x:= .tmp 39) rfl rfl rfl O3.out b3.out mL T3.out.size ?_);intro A4 c4 w4 o4 g4 b4;replace o4:=Hj o4;replace b4:=Hj b4;clear g4;go_frame)
    | ((with_reducible refine ja7 rfl (x:= .tmp 41) (lo:= .tmp 42) (k:=n3) rfl rfl rfl rfl k1 q1 ?_);intro A5 hc5;have b5:=Hj (hc5 _ _ hb.out);clear hc5;go_frame))
   have hq':=hq.out;have hk':=hk0.out;have hbl:=hB.out.len;refine ⟨⟨i+1,A5,A4,q - n3,c' - n3,m+n3,c4,by omega,congrArg (jpA .u32) (show ((n:Int)+((i:Int)+1)) % 4294967296=(((n+(i+1)) % 4294967296:Nat):Int) by omega),rfl,rfl,by omega,?_,?_,T3.out.below b4.out⟩,by simp only [jj3];omega⟩
   ·have h9:=b5.out;rw [List.drop_drop] at h9;have h8:bs.drop (64*i+n3)=bs.drop (64*(i+1)):=by
     by_cases q64:64<=q
     ·rw [show 64*i+n3=64*(i+1) by omega]
     ·rw [jrg (by omega),jrg (by omega)]
    rwa [h8] at h9
   ·have h9:=o4.out
    rwa [STEP.out _ rfl] at h9
  ·have hq':64*i≥L:=by omega
   have hT:Hid ((yY ks ns n bs).take (64*i)=yY ks ns n bs):=jqm (by omega);have HO:=Hj (ho.lower (B':=w.heap.size) (by omega));rw [hT.out] at HO;have ht:=tw.1;clear ho tw hb hml tl;go_wp2_with fail;go_ret;exact ⟨_,_,_,rfl,HO.out,ht⟩
theorem jaB {w:World}{g o:Nat}{t:jpC}{p x q S:List UInt8}(h:w.heap[g]? =some (.cells (cellsOf S).toArray t (0,0))) (hS:S=p++x++q) (ho:p.length=o):∀ j v,(cellsOf x)[j]? =some v->w.cell? ⟨g,o+j,none⟩=some v:=fun j v hv=>by
 have hj:=(jqx.1 hv).1;rw [jqe w g _ _ _ (0,0) h,jqt,hS,y7,y7];rw [jqs (by rw [jpG,ja,ho];omega),jqr (by rw [ja,ho];omega),ja,ho,Nat.add_sub_cancel_left];exact hv
theorem jcw {w:World}{g o n:Nat}{t:jpC}{p x q S:List UInt8}(h:w.heap[g]? =some (.cells (cellsOf S).toArray t (0,0))) (hS:S=p++x++q) (ho:p.length=o) (hx:x.length=n) (hn:n<=1000000):Bs w (some ⟨g,o,none⟩) n n x:=
 ⟨hx,jpo _,by unfold maxLen;omega,fun _=>⟨g,o,rfl,jh h,fun j hj=>jaB h hS ho j _ (jZ (by omega))⟩⟩
def jgu:List UInt8:=jqn 12 0
theorem jeE:Tryz.prog.built 212 []=some (cellsOf jgu).toArray:=by kernel_rfl
theorem jd1 {A:Option Addr}{n c:Nat}{a t k S bs:List UInt8}{w:World}(ha:a.length=32) (hS:S=a++t++k) (h:Bs w A n c bs) (hn:n<=100000000):
 Calls jpx 82 #[.agg (cellsOf S).toArray, .slice A n c] w (YA (yY a jgu 0 bs) w):=by
 have TURN:Hid (∀ W,Ext w W->Calls jpx 117 #[.agg (cellsOf a).toArray, .agg (cellsOf jgu).toArray, .int .u32 0, .slice A n c] W (YA (yY a jgu 0 bs) W)):=fun W e=>jiG (n:=0) ha rfl (by omega) (h.ext e) (by omega)
 have hb:=jeE;generalize jgu=nn at *;have KA:(cellsOf a).length=32:=by rw [ja,ha]
 have R0:Hid (∀ j v,(cellsOf a)[j]? =some v->(w.alloc (jqY (cellsOf S).toArray 174)).cell? ⟨w.heap.size,0+j,none⟩=some v):=jaB (p:= []) (q:=t++k) (jqq _ _) (by rw [hS];simp) rfl;have h1:=h.le;have h2:=h.cap;clear h hS;go_enter Tryz.func82,Tryz.ntmps82
 go_wp2_with (first
  | (refine vQ rfl (jy (ys:=cellsOf a) (g:=w.heap.size) (off:=0) rfl rfl R0.out rfl rfl (by rw [KA];rfl)) ?_;go_frame)
  | (refine jm rfl _ _ rfl (cellsOf nn).toArray (by simp only [jqE,jqF];exact hb) ?_;go_frame))
 refine (TURN.out _ ((jnQ w).alloc _)).mono ?_;rintro e w1 ⟨A1,n1,c1,rfl,b1,e1⟩;go_wp2_with fail;go_ret;exact ⟨_,_,_,rfl,b1.lower (by rw [je];omega),((jnQ w).alloc _).trans e1⟩
theorem jeg {xs:List UInt8}{k:Nat}(hk:k < xs.length):bt xs.reverse k=bt xs (xs.length - 1 - k):=by
 unfold bt;simp [jpr,hk,List.getElem?_reverse,show xs.length - 1 - k < xs.length by omega]
def FillBack (w wr:World) (n k:Nat) (f:Nat->Nat):Prop:=Ext w wr/\wr.rowIs w.heap.size 5 n (fun i=>if n<=i+k then .int .u8 (f i:Int) else .int .u8 0)
theorem FillBack.step {w wr:World}{n k:Nat}{f:Nat->Nat}(h:FillBack w wr n k f){j:Nat}(hj:j+k+1=n){u:Int}(hu:u=(f j:Int)):
 FillBack w (wr.setCell ⟨w.heap.size,j,none⟩ (.int .u8 u)) n (k+1) f:=by
 subst hu;refine ⟨h.1.setCell (jpo _) _,(h.2.set j _).congr fun i _=> ?_⟩;by_cases e:i=j
 ·subst e;simp only [if_true];rw [if_pos (by omega)]
 ·simp only [if_neg e];by_cases hi:n<=i+k
  ·rw [if_pos hi,if_pos (by omega)]
  ·rw [if_neg hi,if_neg (by omega)]
theorem jaK {A:Option Addr}{n c:Nat}{xs:List UInt8}{w:World}(h:Bs w A n c xs) (hm:n<=281474976710656):
 Calls jpx 146 #[.slice A n c] w (Qw xs.reverse w):=by
 have h1:=h.le;have h2:=h.cap;have hmk:=jhQ n hm;go_enter Tryz.func146,Tryz.ntmps146
 go_wp2
 clear hmk;go_loopw [10] (fun i wr=>∃ k:Nat,k<=n/\i= .int .i64 k/\FillBack w wr n k (fun j=>bt xs (n - 1 - j))) (fun i _=>n - (intOf i).toNat)
 case atStart=>exact ⟨0,jpp _,rfl,(jnQ w).alloc _,(World.rowIs_made w _ n _).congr fun i hi=>by rw [if_neg (by omega)]⟩
 case round=>
  obtain ⟨k,hk,rfl,hf⟩:=hrel;by_cases hlt:k < n
  ·obtain ⟨b,off,rfl,hb,hc⟩:=h.pos (by omega);have g1:=(hf.1.cell (p:=⟨b,off+k,none⟩) hb).trans (hc k hlt);have g3:=hf.2.cell (i:=n - 1 - k) (by omega);rw [if_neg (by omega)] at g3;have g4:=hf.2.frozen (n - 1 - k);clear hc;go_wp2
   go_roundw
   case rel=>
    exact ⟨k+1,by omega,by go_num,hf.step (by omega) (by rw [show n - 1 - (n - 1 - k)=k by omega])⟩
   case measure=>simp [intOf];omega
  ·obtain rfl:k=n:=by omega
   go_wp2
   go_ret;refine ⟨_,_,_,rfl,?_,hf.1⟩;refine ⟨by rw [List.length_reverse,h.len],jpo _,by unfold maxLen;omega,fun _=>⟨w.heap.size,0,rfl,hf.2.lt,fun j hj=> ?_⟩⟩;rw [jpz,hf.2.cell hj,if_pos (by omega),jeg (by rw [h.len];exact hj),h.len]
theorem Yj {n m:Nat}{many:Int}{w:World}(hn:n < 18446744073709551616) (h1:0<=many) (h2:many<=9223372036854775807) (hm8:m<=8) (hM:(if (8:Int) < many then 8 else many)=(m:Int)):
 Calls jpx 116 #[.int .u64 (n:Int), .int .i64 many] w (Qw (J3 n m).reverse w):=by
 have hM':=Hj hM;clear hM;go_enter Tryz.func116,Tryz.ntmps116
 go_wp2_with fail;refine (Zh hn h1 h2 hm8 hM'.out).mono ?_;rintro e w1 ⟨A,k,c,rfl,hb,he⟩;go_wp2_with fail;have hk:k<=8:=by have:=hb.len;rw [vM] at this;omega
 refine (jaK hb (by omega)).mono ?_;rintro e w2 ⟨A,k,c,rfl,hb2,he2⟩;go_wp2_with fail;go_ret;exact ⟨_,_,_,rfl,hb2,he.trans he2⟩
def jgD (x:List UInt8):List UInt8:=(J3 x.length 4).reverse++x
def qz (l:List (List UInt8)):List UInt8:=l.flatMap jgD
theorem jaM (x:List UInt8):(jgD x).length=4+x.length:=by simp [jgD,vM]
theorem Qs {l:List (List UInt8)}{k:Nat}(h:k < l.length):qz (l.take (k+1))=qz (l.take k)++jgD (l.getD k []):=by
 unfold qz;rw [jq6 h,List.flatMap_append];simp [jpr,h]
theorem zb {l:List (List UInt8)}{k:Nat}(h:k < l.length):(qz (l.take (k+1))).length=(qz (l.take k)).length+(4+(l.getD k []).length):=by
 rw [Qs h,jpG,jaM]
theorem QG (l:List (List UInt8)) (k:Nat):(qz (l.take k)).length<=(qz l).length:=by
 have:qz l=qz (l.take k)++qz (l.drop k):=by unfold qz;rw [<-List.flatMap_append,List.take_append_drop]
 rw [this,jpG];omega
def qw (l:List (List UInt8)) (k:Nat):Nat:=(qz (l.take k)).length
theorem jam {A:Option Addr}{n c:Nat}{l:List (List UInt8)}{w:World}(h:Rw w A n c l) (hm:(qz l).length<=100000000):
 Calls jpx 79 #[.slice A n c] w (Qw (qz l) w):=by
 have h1:=h.le;have h2:=h.cap;have hsz:Hid (qw l n=(qz l).length):=by unfold Hid qw;rw [jqm (by rw [h.len];omega)]
 have hszn:qw l n<=100000000:=by rw [hsz.out];exact hm
 have hmk:=jhP (qw l n) (by omega);go_enter Tryz.func79,Tryz.ntmps79
 go_wp2
 go_loop [3,11] (fun x i=>∃ k:Nat,k<=n/\i= .int .i64 k/\x= .int .i64 (qw l k:Int)) (fun _ i=>n - (intOf i).toNat)
 case atStart=>exact ⟨0,jpp _,rfl,rfl⟩
 case round=>
  obtain ⟨k,hk,rfl,rfl⟩:=hrel;by_cases hlt:k < n
  ·obtain ⟨b,off,rfl,hb,hc⟩:=h.pos (by omega);obtain ⟨A',n',c',g1,g2⟩:=hc k (by omega);have hs:Hid ((qw l k:Int)+(4+(n':Int))=(qw l (k+1):Int)):=by
    unfold Hid qw;rw [zb (by rw [h.len];omega),g2.len];omega
   have hb1:qw l (k+1)<=100000000:=jp0 (QG l (k+1)) hm;have hb2:n'+qw l k<=100000000:=by have:=hs.out;omega
   clear hc hmk;go_wp2
   go_round
   case rel=>exact ⟨k+1,by omega,by go_num,congrArg (jpA .i64) hs.out⟩
   case measure=>simp [intOf];omega
  ·obtain rfl:k=n:=by omega
   go_wp2
   clear hmk;go_loopw [6,25] (fun v i wr=>∃ (j cc:Nat) (D:Option Addr),j<=k/\i= .int .i64 j/\v= .slice D (qw l j) cc/\Own w.heap.size wr D (qw l j) cc (qz (l.take j))/\Ext w wr) (fun _ i _=>k - (intOf i).toNat)
   case atStart=>exact ⟨0,_,_,jpp _,rfl,rfl,Own.made w _ _ (jpo _) (by omega),(jnQ w).alloc _⟩
   case round=>
    obtain ⟨j,cc,D,hj,rfl,rfl,ho,hE⟩:=hrel;by_cases hlj:j < k
    ·obtain ⟨b,off,rfl,hb,hc⟩:=h.pos (by omega);obtain ⟨A',n',c',g1',g2⟩:=hc j (by omega);have g1:=(hE.cell (p:=⟨b,off+j,none⟩) hb).trans g1';have t3:=g2.le;have t4:=g2.cap;have hszj:=hE.size;have hb1:qw l (j+1)<=100000000:=jp0 (QG l (j+1)) hm;have hs:Hid (qw l (j+1)=qw l j+4+n'):=by
      unfold Hid qw;rw [zb (by rw [h.len];omega),g2.len];omega
     have hb2:n'+4+qw l j<=100000000:=by have:=hs.out;omega
     have hjn:Hid (qz (l.take (j+1))=qz (l.take j)++(J3 n' 4).reverse++l.getD j []):=by
      unfold Hid;rw [Qs (by rw [h.len];omega),jgD,g2.len,jqd]
     clear hc g1';go_wp2_with fail;refine (Yj (m:=4) (by omega) (by omega) (by omega) (by omega) (by omega)).mono ?_;rintro e w1 ⟨A1,n1,c1,rfl,b1,e1⟩;obtain rfl:n1=4:=by rw [<-b1.len,List.length_reverse,vM]
     have hE1:=hE.trans e1;have z1:=e1.size;go_wp2_with (first
      | (at_builtin;refine jJ rfl (B:=w.heap.size) (s:= .tmp 29) (x:= .tmp 33) rfl rfl rfl (ho.ext e1) b1 (by omega) (by omega) ?_;intro D' cc' w2 ho2 hg2 hbl)
      | (at_builtin;refine jJ rfl (B:=w.heap.size) (s:= .tmp 35) (x:= .tmp 36) rfl rfl rfl ho2 (g2.ext (hE1.trans' hbl)) (by omega) (by have:=hbl.size;omega) ?_;intro D3 cc3 w3 ho3 hg3 hbl3))
     go_roundw
     case rel=>exact ⟨j+1,cc3,D3,by omega,by go_num,by rw [hs.out],by rw [hs.out,hjn.out];exact ho3,(hE1.trans' hbl).trans' hbl3⟩
     case measure=>simp [intOf];omega
    ·obtain rfl:j=k:=by omega
     go_wp2
     go_ret;exact ⟨_,_,_,rfl,by have:=ho.bs;rwa [jqm (by rw [h.len];omega)] at this,hE⟩
end
section
inductive Pl where
 | nil
 | rd (i:Nat) (p:Pl)
 | alt (i:Nat) (p q:Pl)
 | stop
def Jl (m done:Nat):List (Nat×Nat×Nat)->Nat->Bool
 | [],_=>true
 | y::r,j=>(m.testBit j||done.testBit j|| !(y.1&&&done==y.1))&&Jl m done r (j+1)
theorem J7 {m done:Nat}:∀ {D:List (Nat×Nat×Nat)}{k:Nat},Jl m done D k=true->∀ j y,D[j]? =some y->m.testBit (k+j)=false->done.testBit (k+j)=false->y.1&&&done≠y.1
 | [],_,_,j,y,hy=>by simp at hy
 | z::r,k,h,0,y,hy=>by
   rw [Jl,jpK] at h;simp only [jpO,Option.some.injEq] at hy;subst hy;intro h1 h2;rw [jpP] at h1 h2
   simpa [h1,h2] using h.1
 | z::r,k,h,j+1,y,hy=>by
   rw [Jl,jpK] at h;intro h1 h2;exact J7 h.2 j y (by simpa using hy) (by rw [show k+1+j=k+(j+1) by omega];exact h1) (by rw [show k+1+j=k+(j+1) by omega];exact h2)
def jcB (D:List (Nat×Nat×Nat)) (i done:Nat):Bool:=match jat D i with
 | none=>false
 | some x=> !done.testBit i&&x.1&&&done==x.1
def Qg (D:List (Nat×Nat×Nat)):Pl->Nat->Nat->Bool->Nat->Bool
 | .nil,done,_,inC,fuel=> !inC&&fuel==0&&done+1==1 <<< D.length
 | .rd i p,done,_,inC,fuel=> !inC&&jcB D i done&&(match jat D i with
     | none=>false
     | some x=>YF i done x D 0)&&(match fuel with
     | 0=>false
     | f+1=>Qg D p (done|||(1 <<< i)) 0 false f)
 | .alt i p q,done,m,_,fuel=>jcB D i done&&(match fuel with
     | 0=>false
     | f+1=>Qg D p (done|||(1 <<< i)) 0 false f)&&Qg D q done (m|||(1 <<< i)) true fuel
 | .stop,done,m,inC,fuel=>inC&& !(fuel==0)&&Jl m done D 0
section
variable {P:jpB}{ops:Array Oper}{Q:Exit->Act->World->Prop}
def Yn (P:jpB) (ops:Array Oper) (Q:Exit->Act->World->Prop) (R:World->World->Prop):Pl->Act->World->Prop
 | .nil,a,w=>Q .normal a w
 | .rd i p,a,w=>∃ o,ops[i]? =some o/\∃ v,YieldsIf P ops (R w) o v a/\Yn P ops Q R p (a.put o.dst v) w
 | .alt i p q,a,w=>(∃ o,ops[i]? =some o/\wpOp P ops Q i (fun a' w'=>R w w'/\Yn P ops Q R p a' w') a w)/\Yn P ops Q R q a w
 | .stop,_,_=>True
theorem ZN {D:List (Nat×Nat×Nat)}{i done:Nat}(h:jcB D i done=true):∃ x,D[i]? =some x/\done.testBit i=false/\x.1&&&done=x.1:=by
 unfold jcB at h;rw [Yu] at h
 cases hx:D[i]? with
 | none=>rw [hx] at h;cases h
 | some x=>
   rw [hx] at h;simp only [jpK,jpL,beq_iff_eq] at h;exact ⟨x,rfl,h.1,h.2⟩
def jfx:Pl->List Nat
 | .alt i _ q=>i::jfx q
 | _=> []
theorem zX {R:World->World->Prop}(hrf:∀ w,R w w) (htr:∀ a b c,R a b->R b c->R a c){D:List (Nat×Nat×Nat)}(hs:jpQ ops=true) (hQ:∀ c a d v w,Q (.panic c) (jpR a d v) w->Q (.panic c) a w) (hD:ops.toList.map (vA ops)=D)
 (hsub:∀ (j:Nat) o,ops[j]? =some o->∀ e∈o.after,e.on < ops.size):
 ∀ (p:Pl) (listed:Array Bool) (done m:Nat) (inC:Bool) (fuel:Nat) (a:Act) (w:World),Listed ops.size done listed->Qg D p done m inC fuel=true->Yn P ops Q R p a w->
   (inC=false->m=0->wpAnyH P .any ops Q (R w) fuel listed a w)/\
   (∀ f,fuel=f+1->∀ j,j∈jpS .any ops listed->m.testBit j=true\/wpOp P ops Q j (fun a' w'=>R w w'/\wpAnyH P .any ops Q (R w) f (listed.setIfInBounds j true) a' w') a w)
 | .nil,listed,done,m,inC,fuel,a,w,hL,hp,h=>by
   simp only [Qg,jpK,jpL,beq_iff_eq] at hp;obtain ⟨⟨_,rfl⟩,hd⟩:=hp;refine ⟨fun _ _=>⟨?_,h⟩,fun f hf=>absurd hf (by omega)⟩;have hlen:D.length=ops.size:=by rw [<-hD];simp
   rw [hlen,Nat.one_shiftLeft] at hd
   cases hr:jpS .any ops listed with
   | nil=>rfl
   | cons j r=>
     have hj:j∈jpS .any ops listed:=by rw [hr];simp
     obtain ⟨h0,_⟩:=mem_ready.1 hj;have hlt:=hL.lt h0;rw [hL.2 j hlt] at h0;have:done=2 ^ ops.size - 1:=by omega
     rw [this,Nat.testBit_two_pow_sub_one] at h0;simp [hlt] at h0
 | .rd i p,listed,done,m,inC,fuel,a,w,hL,hp,h=>by
   obtain ⟨o,ho,v,hy,hh⟩:=h;have hi:i < ops.size:=(Array.getElem?_eq_some_iff.1 ho).1;have hDi:∀ (j:Nat) oj,ops[j]? =some oj->D[j]? =some (vA ops oj):=fun j oj hj=>by
    rw [<-hD,jpT,jpU,hj];rfl
   simp only [Qg,jpK,jpL] at hp;obtain ⟨⟨⟨hc,hr⟩,hp1⟩,hp2⟩:=hp;obtain ⟨x,hx,hnd,hdep⟩:=ZN hr;rw [hDi i o ho] at hx;obtain rfl:=jpD hx;rw [Yu,hDi i o ho] at hp1;have hri:i∈jpS .any ops listed:=mem_ready.2 ⟨(hL.2 i hi).trans hnd,o,ho,fun e he hb=>
    hL.on (QN hdep ((yc o e.on).2 ⟨e,he,hb,rfl⟩)) (hsub i o ho e he)⟩
   have hL':=hL.set hi
   cases fuel with
   | zero=>simp at hp2
   | succ f=>
     have main:wpAnyH P .any ops Q (R w) (f+1) listed a w:=by
      refine wpAnyH_first ho (Region.noSelect_spec hs) (fun c a w=>hQ c a _ _ w) _ listed a w (fun j oj hoj hji hun hno=> ?_) hri hy (hrf w) ((zX hrf htr hs hQ hD hsub p _ _ 0 false f _ w hL' hp2 hh).1 rfl rfl);have hjl:=hL.lt hun;rw [hL.2 j hjl] at hun;refine jaa (zD hp1 j _ (hDi j oj hoj) (by omega) (by rw [jpz];exact hun) ?_)
      cases hb:(vA ops oj).1.testBit i with
      | false=>rfl
      | true=>
        obtain ⟨e,he,hb',he'⟩:=(yc oj i).1 hb;exact absurd he' (hno e he hb')
     refine ⟨fun _ _=>main,fun f' hf j hj=> ?_⟩;obtain rfl:f=f':=by omega
     exact .inr (wpOp_mono (fun a' w' ⟨he,hh⟩=>⟨he,hh⟩) (main.2 j hj))
 | .alt i p q,listed,done,m,inC,fuel,a,w,hL,hp,h=>by
   obtain ⟨⟨o,ho,hop⟩,hq⟩:=h;have hi:i < ops.size:=(Array.getElem?_eq_some_iff.1 ho).1;have hDi:∀ (j:Nat) oj,ops[j]? =some oj->D[j]? =some (vA ops oj):=fun j oj hj=>by
    rw [<-hD,jpT,jpU,hj];rfl
   simp only [Qg,jpK] at hp;obtain ⟨⟨hr,hp1⟩,hp2⟩:=hp;obtain ⟨x,hx,hnd,hdep⟩:=ZN hr;rw [hDi i o ho] at hx;obtain rfl:=jpD hx;have hri:i∈jpS .any ops listed:=mem_ready.2 ⟨(hL.2 i hi).trans hnd,o,ho,fun e he hb=>
    hL.on (QN hdep ((yc o e.on).2 ⟨e,he,hb,rfl⟩)) (hsub i o ho e he)⟩
   have hL':=hL.set hi
   cases fuel with
   | zero=>simp at hp1
   | succ f=>
     have IQ:=(zX hrf htr hs hQ hD hsub q listed done (m|||(1 <<< i)) true (f+1) a w hL hp2 hq).2 f rfl;have HI:wpOp P ops Q i (fun a' w'=>R w w'/\wpAnyH P .any ops Q (R w) f (listed.setIfInBounds i true) a' w') a w:=
      wpOp_mono (fun a' w' ⟨he,hh⟩=>⟨he,Js (fun _ e=>htr _ _ _ he e) _ _ _ _ ((zX hrf htr hs hQ hD hsub p _ _ 0 false f a' w' hL' hp1 hh).1 rfl rfl)⟩) hop
     have all:∀ j,j∈jpS .any ops listed->m.testBit j=true\/wpOp P ops Q j (fun a' w'=>R w w'/\wpAnyH P .any ops Q (R w) f (listed.setIfInBounds j true) a' w') a w:=fun j hj=>by
      by_cases hji:j=i
      ·subst hji;exact .inr HI
      ·rcases IQ j hj with hm | hw
       ·rw [Nat.testBit_or,Nat.one_shiftLeft,Nat.testBit_two_pow] at hm;simp only [show ¬ i=j from fun e=>hji e.symm,decide_false,Bool.or_false] at hm;exact .inl hm
       ·exact .inr hw
     refine ⟨fun _ hm=> ?_,fun f' hf j hj=> ?_⟩
     ·subst hm;refine ⟨fun h0=>(by rw [h0] at hri;cases hri),fun j hj=> ?_⟩;rcases all j hj with h9 | h9
      ·simp at h9
      ·exact h9
     ·obtain rfl:f=f':=by omega
      exact all j hj
 | .stop,listed,done,m,inC,fuel,a,w,hL,hp,_=>by
   simp only [Qg,jpK,jpL,beq_eq_false_iff_ne] at hp;obtain ⟨⟨hc,hf⟩,hw⟩:=hp;refine ⟨fun h _=>(by rw [hc] at h;cases h),fun f hf j hj=> ?_⟩;have hDi:∀ (j:Nat) oj,ops[j]? =some oj->D[j]? =some (vA ops oj):=fun j oj hj=>by
    rw [<-hD,jpT,jpU,hj];rfl
   obtain ⟨h0,oj,hoj,hall⟩:=mem_ready.1 hj;have hjl:=hL.lt h0;rw [hL.2 j hjl] at h0
   cases hm:m.testBit j with
   | true=>exact .inl rfl
   | false=>
     have hne:=J7 hw j _ (hDi j oj hoj) (by rw [jpz];exact hm) (by rw [jpz];exact h0);obtain ⟨k,hk1,hk2⟩:=Y3 hne;obtain ⟨e,he,hb,rfl⟩:=(yc oj k).1 hk1;rw [hL.off (hall e he hb)] at hk2
     cases hk2
theorem jbb {R:World->World->Prop}(hrf:∀ w,R w w) (htr:∀ a b c,R a b->R b c->R a c){id:Nat}{a:Act}{w:World}(p:Pl) (D:List (Nat×Nat×Nat)) (n:Nat) (hm:P.follows .mixedOrders=true) (hs:jpQ ops=true) (hin:y9 ops=true) (hl:ops.size=n)
 (hD:ops.toList.map (vA ops)=D) (hp:Qg D p 0 0 false n=true)
 (hQ:∀ c a d v w,Q (.panic c) (jpR a d v) w->Q (.panic c) a w) (h:Yn P ops Q R p a w.drew):(Code.region id ops true).wp P Q a w:=by
 refine wp_region_held (S:=R w.drew) hm ?_;have:=(zX hrf htr hs hQ hD (fun j o ho e he=>by
  have h1:=jpV.1 hin o (Array.mem_of_getElem? ho)
  simpa using jpV.1 h1 e he) p (jpW ops.size false) 0 0 false n a w.drew ⟨by simp,fun j hj=>by simp [Array.getD,hj]⟩ hp h).1 rfl rfl
 rw [<-hl] at this;exact this
theorem yC {R:World->World->Prop}{a:Act}{w:World}(h:Q .normal a w):Yn P ops Q R .nil a w:=h
theorem JX {R:World->World->Prop}{i:Nat}{p:Pl}{a:Act}{w:World}(F:World->Prop) (hF:∀ w',R w w'->F w') (o:Oper){v:Value}(ho':yO ops.toList i=some o)
 (hw:jpX o (yielded ops a.tmps)=true) (hrun:∀ w',F w'->(jpY a.eval o).run P w'= .ok (.value v) w') (h:Yn P ops Q R p (a.put o.dst v) w):Yn P ops Q R (.rd i p) a w:=
 ⟨o,vV ho',v, .inl ⟨hw,fun w' e=>hrun w' (hF w' e)⟩,h⟩
theorem jgF {R:World->World->Prop}{i:Nat}{p:Pl}{a:Act}{w:World}(o:Oper) (ho':yO ops.toList i=some o)
 (hw:jpX o (yielded ops a.tmps)=false) (h:Yn P ops Q R p (a.put o.dst undef) w):Yn P ops Q R (.rd i p) a w:=
 ⟨o,vV ho',_, .inr ⟨hw,rfl⟩,h⟩
theorem qc {R:World->World->Prop}{i:Nat}{p q:Pl}{a:Act}{w:World}(o:Oper) (ho':yO ops.toList i=some o) (hw:jpX o (yielded ops a.tmps)=true) (hq:Yn P ops Q R q a w)
 (h:∀ K':Act->World->Prop,Shut (∀ a' w',R w w'->Yn P ops Q R p a' w'->K' a' w')->Oper.wp P o a w K' Q):Yn P ops Q R (.alt i p q) a w:=
 ⟨⟨o,vV ho',by
   refine wpOp_step (vV ho') fun K' hK=> ?_
   rw [if_pos hw];exact h K' fun a' w' he hh=>hK a' w' ⟨he,hh⟩⟩,hq⟩
theorem yD {R:World->World->Prop}{a:Act}{w:World}:Yn P ops Q R .stop a w:=trivial
end
section
open Go.ChangeShapes Go.WideShapes Go.ChangeAt Go.RowKit Go.Deep
variable {P:jpB}{ops:Array Oper}{Q:Exit->Act->World->Prop}{R:World->World->Prop}{id i:Nat}{p q:Pl}{a:Act}{w:World}
theorem qgT (hrf:∀ w,R w w) (htr:∀ a b c,R a b->R b c->R a c) (p:Pl) (n:Nat) (h:Yn P ops Q R p a w.drew) (hm:P.follows .mixedOrders=true:=by kernel_rfl) (hs:jpQ ops=true:=by kernel_rfl) (hin:y9 ops=true:=by kernel_rfl) (hl:ops.size=n:=by exact rfl)
 (hp:Qg (ops.toList.map (vA ops)) p 0 0 false n=true:=by kernel_rfl) (hQ:∀ c a d v w,Q (.panic c) (jpR a d v) w->Q (.panic c) a w:=by exact fun _ _ d _ _ h=>by first | (cases d <;> exact h) | exact absurd h.1 (fun q=>by cases q)):(Code.region id ops true).wp P Q a w:=
 jbb hrf htr p _ n hm hs hin hl rfl hp hQ h
theorem qtR (F:World->Prop) (h:∀ w',R w w'->F w'){o:Oper}{v:Value}(hn:Yn P ops Q R p (a.put o.dst v) w) (ho':yO ops.toList i=some o:=by exact rfl)
 (hw:jpX o (yielded ops a.tmps)=true:=by rfl) (hrun:∀ w',F w'->(jpY a.eval o).run P w'= .ok (.value v) w':=by intro w' hF;go_simp;(try with_reducible rfl)):Yn P ops Q R (.rd i p) a w:=
 JX F h o ho' hw hrun hn
theorem vN {o:Oper}{v:Value}(hn:Yn P ops Q R p (a.put o.dst v) w) (ho':yO ops.toList i=some o:=by exact rfl)
 (hw:jpX o (yielded ops a.tmps)=true:=by rfl) (hrun:∀ w',(jpY a.eval o).run P w'= .ok (.value v) w':=by intro w';go_simp;(try with_reducible rfl)):Yn P ops Q R (.rd i p) a w:=
 JX (fun _=>True) (fun _ _=>trivial) o ho' hw (fun w' _=>hrun w') hn
theorem qtV {o:Oper}(ho':yO ops.toList i=some o) (F:World->Prop) (h:∀ w',R w w'->F w') (v:Value) (hrun:∀ w',F w'->(jpY a.eval o).run P w'= .ok (.value v) w') (hn:Yn P ops Q R p (a.put o.dst v) w)
 (hw:jpX o (yielded ops a.tmps)=true:=by rfl):Yn P ops Q R (.rd i p) a w:=
 JX F h o ho' hw hrun hn
theorem qtS {o:Oper}(hn:Yn P ops Q R p (a.put o.dst undef) w) (ho':yO ops.toList i=some o:=by exact rfl) (hw:jpX o (yielded ops a.tmps)=false:=by rfl):Yn P ops Q R (.rd i p) a w:=
 jgF o ho' hw hn
end
end
section
open Go.ChangeShapes Go.WideShapes Go.ChangeAt Go.RowKit Go.Deep
theorem jhr {K Z:Array Value}(pl:Nat->Option (Nat×Nat)) (hp:pl 0=some (0,32)) (hK:K.size=32) (hZ:Z.size=32):jqo pl Z [(0, .agg K)]=some K:=by
 have hc:(jqp K).cells=K:=rfl;simp only [jqo,hp,hc,hK,hZ];simp only [ne_eq,not_true_eq_false,decide_false,Bool.false_or,jpz,Nat.lt_irrefl,decide_false,Bool.false_eq_true,if_false];have:=Great.fill_whole (s:=32) (by omega) [jqp K] Z (fun v hv=>by
  simp only [jpF] at hv;subst hv;exact hK) (by simp [hZ])
 simp only [List.zipIdx_cons,List.zipIdx_nil,jqA,jqF,List.flatMap_cons,List.flatMap_nil,List.append_nil,jqo,hc,hK,hZ,Nat.zero_mul] at this
 simpa using this
theorem joA (w:World):(jpI 160).run jpx w= .ok (.agg jr) w:=by kernel_rfl
theorem jn7 {K:Array Value}(hK:K.size=32):Tryz.prog.built 160 [(0, .agg K)]=some K:=by
 have h:∃ pl:Nat->Option (Nat×Nat),pl 0=some (0,32)/\∀ ps,Tryz.prog.built 160 ps=jqo pl jr ps:=⟨(#[(0,32)][·]?),rfl,fun ps=>by kernel_rfl⟩;obtain ⟨pl,h0,h1⟩:=h;rw [h1,jhr pl h0 hK j7]
set_option maxRecDepth 100000 in
theorem jn8 {A:Option Addr}{n c:Nat}{l:List (List UInt8)}{ks:List UInt8}{w:World}(hk:ks.length=32) (h:Rw w A n c l) (hm:(qz l).length<=100000000){tg:jpC×Nat×Nat}(hG:Gl w tg):
 Calls jpx 69 #[.agg (cellsOf ks).toArray, .slice A n c] w fun e w'=>e= .returned (.agg (cellsOf (jC ks (qz l))).toArray)/\Ext w w':=by
 have JOIN:Hid (∀ (W:World),Ext w W->Calls jpx 79 #[.slice A n c] W (Qw (qz l) W)):=fun W e=>jam (h.ext e) hm
 have MAC:Hid (∀ (W:World) (g:Nat) (A':Option Addr) (m d:Nat),Ext w W->Ky W g ks->Bs W A' m d (qz l)->Calls jpx 95 #[.slice (some ⟨g,0,none⟩) 32 32, .slice A' m d] W fun e w'=>e= .returned (.tuple #[.agg (cellsOf (jC ks (qz l))).toArray, .int .i64 0])/\Ext W w'):=fun W g A' m d e k b=>Zi k.bs b (by decide) (hG.kept e hG.lt)
 clear hG h;have ML:=qr ks (qz l);generalize jC ks (qz l)=D at *;have DS:(cellsOf D).toArray.size=32:=by simp [ja,ML]
 have D1:=ji D;have hbd:Hid (Tryz.prog.built 160 [(0, .agg (cellsOf D).toArray)]=some (cellsOf D).toArray):=jn7 DS;have hal:=j2;have hal2:=joA;have hz0:=j7;generalize jr=Z at *;have B0:Hid (∀ w',Ext ((w.alloc (jqY (cellsOf ks).toArray 23)).alloc (jqY Z 160)) w'->Ky w' w.heap.size ks/\w'.heap[w.heap.size+1]? =some (.cells Z 160 (0,0))/\Ext w w'):=fun w' e=>⟨⟨(e.block _ (by rw [je,je];omega)).trans (jQ _ _ _),hk⟩,(e.block _ (by rw [je,je];omega)).trans (jK _ _ _),(((jnQ w).alloc _).alloc _).trans e⟩
 go_enter Tryz.func69,Tryz.ntmps69
 go_upto_region 1 with fail;refine jg (fun W=>∀ w',Ext W w'->Ky w' w.heap.size ks/\w'.heap[w.heap.size+1]? =some (.cells Z 160 (0,0))/\Ext w w') B0.out ?_;clear B0;rintro w0 b0;have z0:=jh (b0 _ (jnQ _)).2.1;have B0:=Hj b0;clear b0;go_cut [5,6] (fun s5 s6 wx=>∃ g:Nat,s5= .pointer (some ⟨g,0,none⟩)/\s6= .int .i64 0/\Below w0.heap.size w0 wx/\wx.heap[g]? =some (.cells (cellsOf D).toArray 23 (0,0))/\w0.heap.size<=g)
 case first=>
  refine qgT (R:=Below w0.heap.size) (jpm _) (fun _ _ _=>jpn) (.rd 0 (.rd 1 (.alt 2 (.alt 3 (.rd 4 (.rd 5 (.rd 6 (.alt 7 (.alt 8 (.rd 9 .nil) .stop) .stop)))) (.alt 7 (.alt 3 (.rd 4 (.rd 5 (.rd 6 (.alt 8 (.rd 9 .nil) .stop)))) .stop) .stop)) (.alt 7 (.alt 2 (.alt 3 (.rd 4 (.rd 5 (.rd 6 (.alt 8 (.rd 9 .nil) .stop)))) .stop) .stop) .stop)))) 10 ?_;repeat ((first | refine vN ?_ | refine qtS ?_);go_frame)
  have SE:Hid (Ext w0 w0.drew):=(jnQ w0).drew;generalize w0.drew=WC at *;repeat' (first
   | exact yD
   | (refine qc (i:=2) _ rfl ?_ ?_ (fun K1 hK1=> ?_)
      (·rfl)
      rotate_left;go_simp;refine (JOIN.out _ (B0.out _ SE.out).2.2).mono ?_;rintro e0 WC ⟨A2,n2,c2,rfl,b2,e⟩;refine hK1.out _ _ (e.mono SE.out.size) ?_;clear hK1 K1;(try replace hL:=Hj ((e.block _ (jh hL.out)).trans hL.out));replace SE:=Hj (SE.out.trans e);have hJ:=Hj b2;clear e b2;(try go_frame);repeat ((first | refine vN ?_ | refine qtS ?_);go_frame)
      skip)
   | (refine qc (i:=3) _ rfl ?_ ?_ (fun K1 hK1=> ?_)
      (·rfl)
      rotate_left;go_simp;refine (MAC.out _ _ _ _ _ (B0.out _ SE.out).2.2 (B0.out _ SE.out).1 hJ.out).mono ?_;rintro e0 WC ⟨rfl,e⟩;refine hK1.out _ _ (e.mono SE.out.size) ?_;clear hK1 K1 hJ;(try replace hL:=Hj ((e.block _ (jh hL.out)).trans hL.out));replace SE:=Hj (SE.out.trans e);clear e;(try go_frame);repeat ((first | refine vN ?_ | refine qtS ?_);go_frame)
      skip)
   | (refine qc (i:=7) _ rfl ?_ ?_ (fun K1 hK1=> ?_)
      (·rfl)
      rotate_left;go_simp;have e:Ext WC (WC.alloc (jqY Z 23)):=(jnQ WC).alloc _;obtain ⟨gL,hgL⟩:∃ g,g=WC.heap.size:=⟨_,rfl⟩;have hL:=Hj (jqq WC (jqY Z 23));rw [<-hgL] at hL ⊢;have zl:w0.heap.size<=gL:=by rw [hgL];exact SE.out.size
      refine hK1.out _ _ (e.mono SE.out.size) ?_;clear hK1 K1;replace hgL:=Hj hgL;(try replace hJ:=Hj (hJ.out.ext e));replace SE:=Hj (SE.out.trans e);clear e;generalize WC.alloc (jqY Z 23)=WC at *;(try go_frame);repeat ((first | refine vN ?_ | refine qtS ?_);go_frame)
      skip)
   | (refine qc (i:=8) _ rfl ?_ ?_ (fun K1 hK1=> ?_)
      (·rfl)
      rotate_left;refine jrf _ _ _ rfl gL (cellsOf D).toArray rfl rfl 23 Z hL.out (by rw [DS];rfl) (by rw [DS];exact hz0) D1 ?_;refine hK1.out _ _ (jqb (jpm _ _) zl _) ?_;clear hK1 K1;have S1:Hid (Below w0.heap.size w0 (WC.setRow gL (cellsOf D).toArray)):=jqb SE.out zl _;have kx:Hid ((WC.setRow gL (cellsOf D).toArray).heap[gL]? =some (.cells (cellsOf D).toArray 23 (0,0))):=jqc _ _ _ _ _ _ hL.out;(try go_frame);repeat ((first | refine vN ?_ | refine qtS ?_);go_frame)
      refine yC ?_;go_wp2_with fail;go_meet
      exact ⟨gL,rfl,rfl,S1.out,kx.out,zl⟩)
   )
 case rest=>
  obtain ⟨g,rfl,rfl,E1,kr,hg⟩:=hcut;have b1:=B0.out _ E1;have r1:=Hj b1.2.1;have x1:=Hj b1.2.2;replace kr:=Hj kr;clear b1 B0 JOIN MAC E1;go_wp2_with (first
   | (refine wl_ rfl 23 rfl g rfl kr.out rfl rfl (by rw [DS];rfl) ?_;go_frame)
   | (refine jm rfl _ _ rfl (cellsOf D).toArray (by simp only [jqE,jqA,jqF];exact hbd.out) ?_;go_frame)
   | (refine ws_ rfl 160 rfl (w.heap.size+1) (cellsOf D).toArray rfl rfl r1.out (by rw [DS];rfl) (by rw [DS];exact hz0) D1 ?_;go_frame))
  (try simp only [jqV,Exit.then]);refine jqW (jqX rfl _ _ (w.heap.size+1) 160 (cellsOf D).toArray (0,0) _ rfl (jqc _ _ _ _ _ _ r1.out) rfl rfl (by rw [DS];rfl)) rfl ?_;exact ⟨rfl,jqb x1.out (Nat.le_succ _) _⟩
theorem jbN (w:World):(jpI 178).run jpx w= .ok (.agg jr) w:=by kernel_rfl
theorem jbO {K:Array Value}(hK:K.size=32):Tryz.prog.built 178 [(0, .agg K)]=some K:=by
 have h:∃ pl:Nat->Option (Nat×Nat),pl 0=some (0,32)/\∀ ps,Tryz.prog.built 178 ps=jqo pl jr ps:=⟨(#[(0,32)][·]?),rfl,fun ps=>by kernel_rfl⟩;obtain ⟨pl,h0,h1⟩:=h;rw [h1,jhr pl h0 hK j7]
theorem jgl (xs ys zs:List UInt8):(qz [xs,ys,zs]).length=12+xs.length+ys.length+zs.length:=by
 simp [qz,jaM];omega
theorem jd4 {A B:Option Addr}{n c m d:Nat}{a t k S bs ts:List UInt8}{w:World}(ha:a.length=32) (ht:t.length=32) (hk:k.length=32) (hS:S=a++t++k) (h:Bs w A n c bs) (h':Bs w B m d ts) (hn:n<=1000000) (hm:m<=1000000){tg:jpC×Nat×Nat}(hG:Gl w tg):
 Calls jpx 83 #[.agg (cellsOf S).toArray, .slice A n c, .slice B m d] w fun e w'=>e= .returned (.agg (cellsOf (jC t (qz [k,bs,ts]))).toArray)/\Ext w w':=by
 have JL:(qz [k,bs,ts]).length<=100000000:=by rw [jgl,hk,h.len,h'.len];omega
 have JOIN:Hid (∀ (W:World) (C:Option Addr),Rw W C 3 3 [k,bs,ts]->Calls jpx 79 #[.slice C 3 3] W (Qw (qz [k,bs,ts]) W)):=fun W C r=>jam r JL
 have MAC:Hid (∀ (W:World) (C:Option Addr) (A':Option Addr) (m d:Nat),Ext w W->Bs W C 32 32 t->Bs W A' m d (qz [k,bs,ts])->Calls jpx 95 #[.slice C 32 32, .slice A' m d] W fun e w'=>e= .returned (.tuple #[.agg (cellsOf (jC t (qz [k,bs,ts]))).toArray, .int .i64 0])/\Ext W w'):=fun W C A' m d e k b=>Zi k b (by decide) (hG.kept e hG.lt)
 clear hG JL;have ML:=qr t (qz [k,bs,ts]);generalize jC t (qz [k,bs,ts])=D at *;have DS:(cellsOf D).toArray.size=32:=by simp [ja,ML]
 have D1:=ji D;have hbd:Hid (Tryz.prog.built 178 [(0, .agg (cellsOf D).toArray)]=some (cellsOf D).toArray):=jbO DS;have hal:=j2;have hal2:=jbN;have hz0:=j7;generalize jr=Z at *;have z1:=h.le;have z2:=h.cap;have z3:=h'.le;have z4:=h'.cap;have B0:Hid (∀ w',Ext ((w.alloc (jqY (cellsOf S).toArray 174)).alloc (jqY Z 178)) w'->Bs w' (some ⟨w.heap.size,32,none⟩) 32 32 t/\Bs w' (some ⟨w.heap.size,64,none⟩) 32 32 k/\w'.heap[w.heap.size+1]? =some (.cells Z 178 (0,0))/\Ext w w'/\Bs w' A n c bs/\Bs w' B m d ts):=fun w' e=>by
  have x:Ext w w':=(((jnQ w).alloc _).alloc _).trans e;have y:=(e.block _ (by rw [je,je];omega)).trans (jQ w (jqY (cellsOf S).toArray 174) (jqY Z 178));exact ⟨jcw (p:=a) (q:=k) y hS ha ht (by omega),jcw (p:=a++t) (q:= []) y (by rw [hS];simp) (by rw [jpG];omega) hk (by omega),(e.block _ (by rw [je,je];omega)).trans (jK _ _ _),x,h.ext x,h'.ext x⟩
 clear h h' hS;go_enter Tryz.func83,Tryz.ntmps83
 go_upto_region 1 with fail;refine jg (fun W=>∀ w',Ext W w'->Bs w' (some ⟨w.heap.size,32,none⟩) 32 32 t/\Bs w' (some ⟨w.heap.size,64,none⟩) 32 32 k/\w'.heap[w.heap.size+1]? =some (.cells Z 178 (0,0))/\Ext w w'/\Bs w' A n c bs/\Bs w' B m d ts) B0.out ?_;clear B0;rintro w0 b0;have z0:=jh (b0 _ (jnQ _)).2.2.1;have B0:=Hj b0;clear b0;go_cut [7,8] (fun s5 s6 wx=>∃ g:Nat,s5= .pointer (some ⟨g,0,none⟩)/\s6= .int .i64 0/\Below w0.heap.size w0 wx/\wx.heap[g]? =some (.cells (cellsOf D).toArray 23 (0,0))/\w0.heap.size<=g)
 case first=>
  refine qgT (R:=Below w0.heap.size) (jpm _) (fun _ _ _=>jpn) (.rd 0 (.rd 1 (.rd 2 (.rd 3 (.rd 4 (.rd 5 (.rd 6 (.alt 7 (.alt 8 (.alt 9 (.rd 10 (.rd 11 (.rd 12 (.alt 13 (.alt 14 (.rd 15 .nil) .stop) .stop)))) (.alt 13 (.alt 9 (.rd 10 (.rd 11 (.rd 12 (.alt 14 (.rd 15 .nil) .stop)))) .stop) .stop)) (.alt 13 (.alt 8 (.alt 9 (.rd 10 (.rd 11 (.rd 12 (.alt 14 (.rd 15 .nil) .stop)))) .stop) .stop) .stop)) (.alt 13 (.alt 7 (.alt 8 (.alt 9 (.rd 10 (.rd 11 (.rd 12 (.alt 14 (.rd 15 .nil) .stop)))) .stop) .stop) .stop) .stop))))))))) 16 ?_;repeat ((first | refine vN ?_ | refine qtS ?_);go_frame)
  have SE:Hid (Ext w0 w0.drew):=(jnQ w0).drew;generalize w0.drew=WC at *;repeat' (first
   | exact yD
   | (refine qc (i:=7) _ rfl ?_ ?_ (fun K1 hK1=> ?_)
      (·rfl)
      rotate_left;go_simp;have bb:=B0.out _ SE.out;have e:Ext WC (WC.alloc (jqY #[.slice (some ⟨w.heap.size,64,none⟩) 32 32, .slice A n c, .slice B m d] 33)):=(jnQ WC).alloc _;have hR:=Hj (jjC (t:=33) bb.2.1 bb.2.2.2.2.1 bb.2.2.2.2.2);clear bb;obtain ⟨gR,hgR⟩:∃ g,g=WC.heap.size:=⟨_,rfl⟩;rw [<-hgR] at hR ⊢;refine hK1.out _ _ (e.mono SE.out.size) ?_;clear hK1 K1 hgR;(try replace hL:=Hj ((e.block _ (jh hL.out)).trans hL.out));replace SE:=Hj (SE.out.trans e);clear e;generalize WC.alloc (jqY #[.slice (some ⟨w.heap.size,64,none⟩) 32 32, .slice A n c, .slice B m d] 33)=WC at *;(try go_frame);repeat ((first | refine vN ?_ | refine qtS ?_);go_frame)
      skip)
   | (refine qc (i:=8) _ rfl ?_ ?_ (fun K1 hK1=> ?_)
      (·rfl)
      rotate_left;go_simp;refine (JOIN.out _ _ hR.out).mono ?_;rintro e0 WC ⟨A2,n2,c2,rfl,b2,e⟩;refine hK1.out _ _ (e.mono SE.out.size) ?_;clear hK1 K1 hR;(try replace hL:=Hj ((e.block _ (jh hL.out)).trans hL.out));replace SE:=Hj (SE.out.trans e);have hJ:=Hj b2;clear e b2;(try go_frame);repeat ((first | refine vN ?_ | refine qtS ?_);go_frame)
      skip)
   | (refine qc (i:=9) _ rfl ?_ ?_ (fun K1 hK1=> ?_)
      (·rfl)
      rotate_left;go_simp;refine (MAC.out _ _ _ _ _ (B0.out _ SE.out).2.2.2.1 (B0.out _ SE.out).1 hJ.out).mono ?_;rintro e0 WC ⟨rfl,e⟩;refine hK1.out _ _ (e.mono SE.out.size) ?_;clear hK1 K1 hJ;(try replace hL:=Hj ((e.block _ (jh hL.out)).trans hL.out));replace SE:=Hj (SE.out.trans e);clear e;(try go_frame);repeat ((first | refine vN ?_ | refine qtS ?_);go_frame)
      skip)
   | (refine qc (i:=13) _ rfl ?_ ?_ (fun K1 hK1=> ?_)
      (·rfl)
      rotate_left;go_simp;have e:Ext WC (WC.alloc (jqY Z 23)):=(jnQ WC).alloc _;obtain ⟨gL,hgL⟩:∃ g,g=WC.heap.size:=⟨_,rfl⟩;have hL:=Hj (jqq WC (jqY Z 23));rw [<-hgL] at hL ⊢;have zl:w0.heap.size<=gL:=by rw [hgL];exact SE.out.size
      refine hK1.out _ _ (e.mono SE.out.size) ?_;clear hK1 K1;replace hgL:=Hj hgL;(try replace hJ:=Hj (hJ.out.ext e));(try replace hR:=Hj (hR.out.ext e));replace SE:=Hj (SE.out.trans e);clear e;generalize WC.alloc (jqY Z 23)=WC at *;(try go_frame);repeat ((first | refine vN ?_ | refine qtS ?_);go_frame)
      skip)
   | (refine qc (i:=14) _ rfl ?_ ?_ (fun K1 hK1=> ?_)
      (·rfl)
      rotate_left;refine jrf _ _ _ rfl gL (cellsOf D).toArray rfl rfl 23 Z hL.out (by rw [DS];rfl) (by rw [DS];exact hz0) D1 ?_;refine hK1.out _ _ (jqb (jpm _ _) zl _) ?_;clear hK1 K1;have S1:Hid (Below w0.heap.size w0 (WC.setRow gL (cellsOf D).toArray)):=jqb SE.out zl _;have kx:Hid ((WC.setRow gL (cellsOf D).toArray).heap[gL]? =some (.cells (cellsOf D).toArray 23 (0,0))):=jqc _ _ _ _ _ _ hL.out;(try go_frame);repeat ((first | refine vN ?_ | refine qtS ?_);go_frame)
      refine yC ?_;go_wp2_with fail;go_meet
      exact ⟨gL,rfl,rfl,S1.out,kx.out,zl⟩)
   )
 case rest=>
  obtain ⟨g,rfl,rfl,E1,kr,hg⟩:=hcut;have b1:=B0.out _ E1;have r1:=Hj b1.2.2.1;have x1:=Hj b1.2.2.2.1;replace kr:=Hj kr;clear b1 B0 JOIN MAC E1;go_wp2_with (first
   | (refine wl_ rfl 23 rfl g rfl kr.out rfl rfl (by rw [DS];rfl) ?_;go_frame)
   | (refine jm rfl _ _ rfl (cellsOf D).toArray (by simp only [jqE,jqA,jqF];exact hbd.out) ?_;go_frame)
   | (refine ws_ rfl 178 rfl (w.heap.size+1) (cellsOf D).toArray rfl rfl r1.out (by rw [DS];rfl) (by rw [DS];exact hz0) D1 ?_;go_frame))
  (try simp only [jqV,Exit.then]);refine jqW (jqX rfl _ _ (w.heap.size+1) 178 (cellsOf D).toArray (0,0) _ rfl (jqc _ _ _ _ _ _ r1.out) rfl rfl (by rw [DS];rfl)) rfl ?_;exact ⟨rfl,jqb x1.out (Nat.le_succ _) _⟩
theorem jdS {α:Type}(L:List α) (o:Nat) (v:α) (r:List α) (h:o < L.length):jp9 (L.set o v) (o+1) r=jp9 L o (v::r):=by
 unfold jp9;rw [List.take_set,List.drop_set,if_pos (by omega)];have e:(L.take (o+1)).set o v=L.take o++ [v]:=by
  apply List.ext_getElem?
  intro i;rw [List.getElem?_set];by_cases hi:o=i
  ·subst hi;rw [if_pos rfl,if_pos (by simp;omega),jqr (by rw [jps];omega),jps];simp [show min o L.length=o by omega]
  ·rw [if_neg hi];by_cases h2:i < o
   ·rw [jqs (by simp;omega),jqf,jqf,if_pos (by omega),if_pos h2]
   ·rw [jqf,if_neg (by omega),jqa (by simp;omega)]
 rw [e,jqd,show o+1+r.length=o+(v::r).length by simp;omega]
 rfl
theorem qI {g:Nat}{t:jpC}{fr:Nat×Nat}:∀ (vs:List Value) (o:Nat) (w:World) (A:List Value),w.heap[g]? =some (.cells A.toArray t fr)->o+vs.length<=A.length->(w.setCells g o vs).heap[g]? =some (.cells (jp9 A o vs).toArray t fr)
 | [],o,w,A,h,hl=>by
   have:jp9 A o []=A:=by simp [jp9]
   rw [this];exact h
 | v::r,o,w,A,h,hl=>by
   have h1:(w.setCell ⟨g,o,none⟩ v).heap[g]? =some (.cells (A.set o v).toArray t fr):=by
    simp [World.setCell,Array.getElem?_modify,h]
   have:=qI r (o+1) _ (A.set o v) h1 (by simp at hl ⊢;omega);rw [jdS A o v r (by simp at hl;omega)] at this;exact this
theorem Ja {w:World}{g o n:Nat}{A:List Value}{t:jpC}(h:w.heap[g]? =some (.cells A.toArray t (0,0))) (hl:o+n<=A.length):w.there g o n:=fun j hj=>by
 refine ⟨?_,frozen_of_row w g _ _ _ h⟩;rw [jqe w g _ _ _ _ h];simp
 omega
theorem ju {w:World}{g o:Nat}{vs:List Value}:w.grownBy (w.setCells g o vs) (some g):=by
 have hk:=World.keptBut_setCells g (may:=fun _=>True) vs o w (fun _ _=>trivial);refine ⟨hk.1,?_,hk.2.1,?_,fun i hi hne=>World.heap_setCells_other w g o vs hi (fun e=>hne (by rw [e]))⟩
 ·clear hk
  induction vs generalizing o w with
  | nil=>rfl
  | cons v r ih=>exact (ih (o:=o+1) (w:=w.setCell ⟨g,o,none⟩ v)).trans rfl
 ·clear hk
  induction vs generalizing o w with
  | nil=>exact jpo _
  | cons v r ih=>exact jp0 (by simp [World.setCell]) (ih (o:=o+1) (w:=w.setCell ⟨g,o,none⟩ v))
theorem jt {a b c:World}{r:Option Nat}(h:a.grownBy b r) (k:b.grownBy c r):a.grownBy c r:=
 ⟨k.os.trans h.os,k.tape.trans h.tape,k.output.trans h.output,jp0 h.size k.size,fun i hi hne=>(k.block i (jpq hi h.size) hne).trans (h.block i hi hne)⟩
theorem Zx {a b:World}{g:Nat}(hg:g < a.heap.size) (h:a.grownBy b (some g)):Below g a b:=
 ⟨h.os,h.tape,h.output,h.size,fun i hi=>h.block i (Nat.lt_trans hi hg) (fun q=>by cases q;exact Nat.lt_irrefl _ hi)⟩
theorem jgJ {α:Type}{L cs:List α}{off:Nat}(h:off+cs.length<=L.length) (k:Nat):(jp9 L off cs)[k]? =if off<=k/\k < off+cs.length then cs[k - off]? else L[k]? :=by
 unfold jp9;by_cases h1:k < off
 ·rw [jqs (by simp;omega),jqf,if_pos h1,if_neg (by omega)]
 ·rw [jqr (by simp;omega),jps,Nat.min_eq_left (by omega)];by_cases h2:k < off+cs.length
  ·rw [jqs (by omega),if_pos (by omega)]
  ·rw [jqr (by omega),List.getElem?_drop,if_neg (by omega)]
   congr 1
   omega
theorem qK {pl:Nat->Option (Nat×Nat)}{i off n:Nat}{v:Value}{ps:List (Nat×Value)}{Z:List Value}(h:pl i=some (off,n)) (hv:v.cells.size=n) (hz:off+n<=Z.length):
 jqo pl Z.toArray ((i,v)::ps)=jqo pl (jp9 Z off v.cells.toList).toArray ps:=by
 conv=>lhs;unfold jqo
 simp only [h,hv];rw [if_neg (by simp;omega),jo5]
 congr 1
 obtain ⟨_,g2⟩:=Great.foldl_set off v.cells.toList 0 Z.toArray
 apply Array.ext_getElem?
 intro k;rw [g2];simp only [jqt];rw [jgJ (by simp [hv];omega)];simp only [jpP,Array.length_toList,hv,jqu,jqt,jpU];by_cases hk:off<=k/\k < off+n
 ·rw [if_pos ⟨hk.1,hk.2,by omega⟩,if_pos hk]
 ·rw [if_neg (fun q=>hk ⟨q.1,q.2.1⟩),if_neg hk]
theorem qB {α:Type}{p y q z:List α}{off:Nat}(hp:p.length=off) (hl:y.length=z.length):jp9 (p++(y++q)) off z=p++(z++q):=by
 unfold jp9;rw [jqv hp]
 congr 2
 rw [<-hl,<-jqd,List.drop_left' (by rw [jpG,hp])]
theorem jdV {α:Type}{y q z:List α}(hl:y.length=z.length):jp9 (y++q) 0 z=z++q:=qB (p:= []) rfl hl
theorem qo (K:Array Value):(jqp K).cells=K:=rfl
theorem Yr (xs ys:List UInt8):cellsOf (xs++ys)=cellsOf xs++cellsOf ys:=by rw [qp,qp,qp,jqw]
def Cb (w:World) (g:Nat) (T:jpC) (L:List Value):Prop:=w.heap[g]? =some (.cells L.toArray T (0,0))
section
variable {w w':World}{g:Nat}{T:jpC}{L:List Value}
theorem Cb.lt (h:Cb w g T L):g < w.heap.size:=jh h
theorem Cb.ext (h:Cb w g T L) (e:Ext w w'):Cb w' g T L:=(e.block g (jh h)).trans h
theorem Cb.kept {B:Nat}(h:Cb w g T L) (e:Below B w w') (hB:g < B):Cb w' g T L:=(e.block g hB).trans h
theorem Cb.frozen (h:Cb w g T L) (j:Nat):w.frozen? ⟨g,j,none⟩=false:=frozen_of_row w g j _ _ h
theorem Cb.cell (h:Cb w g T L){j:Nat}{v:Value}(hv:L[j]? =some v):w.cell? ⟨g,j,none⟩=some v:=by rw [jqe w g _ _ _ _ h,jqt,hv]
theorem Cb.mid (h:Cb w g T L){p y q:List Value}{off:Nat}(hL:L=p++(y++q)) (hp:p.length=off):∀ j v,y[j]? =some v->w.cell? ⟨g,off+j,none⟩=some v:=fun j v hv=>h.cell (by
 rw [hL,jqr (by omega),hp,Nat.add_sub_cancel_left,jqs (jqx.1 hv).1,hv])
theorem Cb.put (h:Cb w g T L){p y q z:List Value}{off:Nat}(hL:L=p++(y++q)) (hp:p.length=off) (hl:y.length=z.length):Cb (w.setCells g off z) g T (p++(z++q)):=by
 have:=qI z off w L h (by rw [hL];simp;omega)
 rwa [hL,qB hp hl] at this
theorem Cb.there (h:Cb w g T L){o n:Nat}(hl:o+n<=L.length):w.there g o n:=Ja h hl
theorem Cb.row (h:Cb w g T L){r:Nat}{C:Array Value}(hne:g≠r):Cb (w.setRow r C) g T L:=(jqy _ _ _ _ hne).trans h
theorem Cb.new (w:World) (T:jpC) (L:List Value):Cb (w.alloc (.cells L.toArray T)) w.heap.size T L:=jqq _ _
theorem Cb.set {L':List Value}(h:Cb w g T L):Cb (w.setRow g L'.toArray) g T L':=jqc _ _ _ _ _ _ h
theorem Cb.setCell (h:Cb w g T L){o:Nat}{v:Value}:Cb (w.setCell ⟨g,o,none⟩ v) g T (L.set o v):=by
 unfold Cb at *;simp [World.setCell,Array.getElem?_modify,h]
end
theorem qC {L:List Value}(h:∀ v∈L,v.oneCell'=true):L.toArray.all (·.oneCell')=true:=by
 simp only [List.all_toArray,jp2];exact h
theorem JT (xs:List UInt8):∀ v∈cellsOf xs,v.oneCell'=true:=fun v hv=>by
 simp only [cellsOf,jpN] at hv;obtain ⟨j,_,rfl⟩:=hv
 rfl
theorem Cb.bs {w:World}{g:Nat}{T:jpC}{L:List Value}(h:Cb w g T L){p q:List Value}{xs:List UInt8}{off n:Nat}(hL:L=p++(cellsOf xs++q)) (hp:p.length=off) (hn:xs.length=n) (hm:n<=1000000):Bs w (some ⟨g,off,none⟩) n n xs:=
 ⟨hn,jpo _,by unfold maxLen;omega,fun _=>⟨g,off,rfl,h.lt,fun j hj=>h.mid hL hp j _ (jZ (by omega))⟩⟩
def upB (z m:Int):Bool:=decide (0<=z)&&decide (z<=m)
def hdC (pk:List UInt8) (p n:Int):List Value:=cellsOf pk++ [.int .i64 p, .int .i64 n]
theorem yz {pk:List UInt8}(h:pk.length=32) (p n:Int):(hdC pk p n).length=34:=by simp [hdC,ja,h]
def evC (f t:Int) (cm pk:List UInt8) (p n:Int) (A:Option Addr) (m c:Nat):List Value:= [.int .i64 f, .int .i64 t]++(cellsOf cm++(hdC pk p n++ [.slice A m c]))
theorem Z2 {cm pk:List UInt8}(hc:cm.length=32) (hk:pk.length=32) (f t p n:Int) (A:Option Addr) (m c:Nat):(evC f t cm pk p n A m c).length=69:=by simp [evC,yz hk,ja,hc]
theorem joN {cm pk:List UInt8}(hc:cm.length=32) (hk:pk.length=32) (f t p n:Int) (A:Option Addr) (m c:Nat):
 (evC f t cm pk p n A m c)[0]? =some (.int .i64 f)/\(evC f t cm pk p n A m c)[1]? =some (.int .i64 t)/\(evC f t cm pk p n A m c)[68]? =some (.slice A m c)/\
 evC f t cm pk p n A m c=([.int .i64 f, .int .i64 t]++cellsOf cm)++(hdC pk p n++ [.slice A m c])/\evC f t cm pk p n A m c= [.int .i64 f, .int .i64 t]++(cellsOf cm++(hdC pk p n++ [.slice A m c])):=by
 refine ⟨rfl,rfl,?_,by simp [evC],rfl⟩;unfold evC;rw [jqr (by simp),jqr (by simp [ja,hc]),jqr (by simp [ja,hc,yz hk])];simp [ja,hc,yz hk]
theorem jo0 {pk:List UInt8}{p n:Int}:∀ v∈hdC pk p n,v.oneCell'=true:=fun v hv=>by
 simp only [hdC,jpH,jpE,jqz,or_false] at hv;rcases hv with h | rfl | rfl
 ·exact JT _ v h
 ·rfl
 ·rfl
theorem joF {f t p n:Int}{cm pk:List UInt8}{A:Option Addr}{m c:Nat}:∀ v∈evC f t cm pk p n A m c,v.oneCell'=true:=fun v hv=>by
 simp only [evC,jpH,jpE,jqz,or_false] at hv;rcases hv with (rfl | rfl) | h | h | rfl
 ·rfl
 ·rfl
 ·exact JT _ v h
 ·exact jo0 v h
 ·rfl
theorem jdc {A:Option Addr}{n c:Nat}{l:List (List UInt8)}{w:World}(h:Rw w A n c l) (hm:(qz l).length<=100000000):
 Calls jpx 79 #[.slice A n c] w (YA (qz l) w):=by
 have h1:=h.le;have h2:=h.cap;have hsz:Hid (qw l n=(qz l).length):=by unfold Hid qw;rw [jqm (by rw [h.len];omega)]
 have hszn:qw l n<=100000000:=by rw [hsz.out];exact hm
 have hmk:=jhP (qw l n) (by omega);go_enter Tryz.func79,Tryz.ntmps79
 go_wp2
 go_loop [3,11] (fun x i=>∃ k:Nat,k<=n/\i= .int .i64 k/\x= .int .i64 (qw l k:Int)) (fun _ i=>n - (intOf i).toNat)
 case atStart=>exact ⟨0,jpp _,rfl,rfl⟩
 case round=>
  obtain ⟨k,hk,rfl,rfl⟩:=hrel;by_cases hlt:k < n
  ·obtain ⟨b,off,rfl,hb,hc⟩:=h.pos (by omega);obtain ⟨A',n',c',g1,g2⟩:=hc k (by omega);have hs:Hid ((qw l k:Int)+(4+(n':Int))=(qw l (k+1):Int)):=by
    unfold Hid qw;rw [zb (by rw [h.len];omega),g2.len];omega
   have hb1:qw l (k+1)<=100000000:=jp0 (QG l (k+1)) hm;have hb2:n'+qw l k<=100000000:=by have:=hs.out;omega
   clear hc hmk;go_wp2
   go_round
   case rel=>exact ⟨k+1,by omega,by go_num,congrArg (jpA .i64) hs.out⟩
   case measure=>simp [intOf];omega
  ·obtain rfl:k=n:=by omega
   go_wp2
   clear hmk;go_loopw [6,25] (fun v i wr=>∃ (j cc:Nat) (D:Option Addr),j<=k/\i= .int .i64 j/\v= .slice D (qw l j) cc/\Own w.heap.size wr D (qw l j) cc (qz (l.take j))/\Ext w wr) (fun _ i _=>k - (intOf i).toNat)
   case atStart=>exact ⟨0,_,_,jpp _,rfl,rfl,Own.made w _ _ (jpo _) (by omega),(jnQ w).alloc _⟩
   case round=>
    obtain ⟨j,cc,D,hj,rfl,rfl,ho,hE⟩:=hrel;by_cases hlj:j < k
    ·obtain ⟨b,off,rfl,hb,hc⟩:=h.pos (by omega);obtain ⟨A',n',c',g1',g2⟩:=hc j (by omega);have g1:=(hE.cell (p:=⟨b,off+j,none⟩) hb).trans g1';have t3:=g2.le;have t4:=g2.cap;have hszj:=hE.size;have hb1:qw l (j+1)<=100000000:=jp0 (QG l (j+1)) hm;have hs:Hid (qw l (j+1)=qw l j+4+n'):=by
      unfold Hid qw;rw [zb (by rw [h.len];omega),g2.len];omega
     have hb2:n'+4+qw l j<=100000000:=by have:=hs.out;omega
     have hjn:Hid (qz (l.take (j+1))=qz (l.take j)++(J3 n' 4).reverse++l.getD j []):=by
      unfold Hid;rw [Qs (by rw [h.len];omega),jgD,g2.len,jqd]
     clear hc g1';go_wp2_with fail;refine (Yj (m:=4) (by omega) (by omega) (by omega) (by omega) (by omega)).mono ?_;rintro e w1 ⟨A1,n1,c1,rfl,b1,e1⟩;obtain rfl:n1=4:=by rw [<-b1.len,List.length_reverse,vM]
     have hE1:=hE.trans e1;have z1:=e1.size;go_wp2_with (first
      | (at_builtin;refine jJ rfl (B:=w.heap.size) (s:= .tmp 29) (x:= .tmp 33) rfl rfl rfl (ho.ext e1) b1 (by omega) (by omega) ?_;intro D' cc' w2 ho2 hg2 hbl)
      | (at_builtin;refine jJ rfl (B:=w.heap.size) (s:= .tmp 35) (x:= .tmp 36) rfl rfl rfl ho2 (g2.ext (hE1.trans' hbl)) (by omega) (by have:=hbl.size;omega) ?_;intro D3 cc3 w3 ho3 hg3 hbl3))
     go_roundw
     case rel=>exact ⟨j+1,cc3,D3,by omega,by go_num,by rw [hs.out],by rw [hs.out,hjn.out];exact ho3,(hE1.trans' hbl).trans' hbl3⟩
     case measure=>simp [intOf];omega
    ·obtain rfl:j=k:=by omega
     go_wp2
     go_ret;refine ⟨_,_,_,rfl,by have:=ho;rwa [jqm (by rw [h.len];omega)] at this,hE⟩
theorem Bs.lit8 (w:World) (t:jpC) (xs:List UInt8) (cs:Array Value) (hcs:cs=(xs.map fun x=>jpA .u8 (x.toNat:Int)).toArray) (n:Nat) (hn:xs.length=n) (hm:n<=1000000):
 Bs (w.alloc (.cells cs t)) (some ⟨w.heap.size,0,none⟩) n n xs:=by
 subst hcs;have hr:=World.rowIs_alloc w (xs.map fun x=>jpA .u8 (x.toNat:Int)).toArray t (fun i=> .int .u8 (bt xs i:Int)) (fun i hi=>by
  have hi':i < xs.length:=by simpa using hi
  simp [bt,jpr,hi'])
 refine ⟨hn,jpo _,by unfold maxLen;omega,fun _=>⟨w.heap.size,0,rfl,by simp,fun j hj=> ?_⟩⟩;rw [jpz];exact hr.cell (by simp;omega)
theorem Bs.one8 (w:World) (t:jpC) (x:UInt8) (v:Int) (hv:v=(x.toNat:Int)):Bs (w.alloc (.cells #[.int .u8 v] t)) (some ⟨w.heap.size,0,none⟩) 1 1 [x]:=
 Bs.lit8 w t [x] _ (by rw [hv];rfl) 1 rfl (by omega)
def u8I (z:Int):UInt8:=jpt (z % 256).toNat
theorem joS (z:Int):IntKind.u8.wrap z=((u8I z).toNat:Int):=by
 unfold u8I;rw [IntKind.wrap_u8,UInt8.toNat_ofNat'];omega
end
section
open Go.ChangeShapes Go.WideShapes Go.ChangeAt Go.RowKit Go.Deep Go.Maps
def joa (n:Int):Bool:=decide (0<=n)&&decide (n < 8)
theorem jn2 {w:World}{n:Int}:Calls jpx 67 #[.int .i64 n] w fun e w'=>e= .returned (.bool (joa n))/\Ext w w':=by
 unfold joa;go_enter Tryz.func67,Tryz.ntmps67
 by_cases h0:0<=n
 ·have h0':decide (0<=n)=true:=decide_eq_true h0;by_cases h8:n < 8
  ·have h8':decide (n < 8)=true:=decide_eq_true h8;rw [h0',h8'];go_wp2_with fail;go_ret;exact ⟨rfl,jnQ w⟩
  ·have h8':decide (n < 8)=false:=decide_eq_false h8;rw [h0',h8'];go_wp2_with fail;go_ret;exact ⟨rfl,jnQ w⟩
 ·have h0':decide (0<=n)=false:=decide_eq_false h0;rw [h0'];go_wp2_with fail;go_ret;exact ⟨rfl,jnQ w⟩
theorem Y7 {w:World}{z:Int}:Calls jpx 61 #[.int .i64 z] w (Qw [u8I z] w):=by
 have hz:=joS z;generalize u8I z=y at *;have F:Hid (Bs (w.alloc (.cells #[.int .u8 (y.toNat:Int)] 5)) (some ⟨w.heap.size,0,none⟩) 1 1 [y]/\Ext w (w.alloc (.cells #[.int .u8 (y.toNat:Int)] 5))):=⟨Bs.one8 w _ y _ rfl,(jnQ w).alloc _⟩;go_enter Tryz.func61,Tryz.ntmps61
 go_wp2_with fail;go_ret;exact ⟨_,_,_,rfl,F.out.1,F.out.2⟩
def jn (f t:Int) (cm:List UInt8):List UInt8:=qz [[u8I f],[u8I t],cm]
theorem jn1 {f t:Int}{cm:List UInt8}(lc:cm.length=32):(jn f t cm).length=46:=by
 simp [jn,qz,jaM,lc]
theorem Y9 {w:World}{f t p n:Int}{cm pk:List UInt8}{A:Option Addr}{m c:Nat}(lc:cm.length=32) (lp:pk.length=32):
 Calls jpx 68 #[.agg (evC f t cm pk p n A m c).toArray] w (YA (jn f t cm) w):=by
 have OB:Hid (∀ (W:World) (z:Int),Calls jpx 61 #[.int .i64 z] W (Qw [u8I z] W)):=fun W z=>Y7
 have JO:Hid (∀ (W:World) (C:Option Addr),Rw W C 3 3 [[u8I f],[u8I t],cm]->Calls jpx 79 #[.slice C 3 3] W (YA (jn f t cm) W)):=fun W C r=>jdc r (by have:=jn1 (f:=f) (t:=t) lc;unfold jn at this;omega)
 have hE:evC f t cm pk p n A m c= [.int .i64 f, .int .i64 t]++(cellsOf cm++(hdC pk p n++ [.slice A m c])):=rfl;have L_E:=Z2 lc lp f t p n A m c;have B0:Hid (Cb (w.alloc (.cells (evC f t cm pk p n A m c).toArray 89)) w.heap.size 89 (evC f t cm pk p n A m c)/\Ext w (w.alloc (.cells (evC f t cm pk p n A m c).toArray 89))):=⟨Cb.new _ _ _,(jnQ w).alloc _⟩;have cf:(evC f t cm pk p n A m c)[0]? =some (.int .i64 f):=rfl;have ct:(evC f t cm pk p n A m c)[1]? =some (.int .i64 t):=rfl;replace hE:=Hj (fun _:Unit=>hE);replace cf:=Hj cf;replace ct:=Hj ct;generalize evC f t cm pk p n A m c=E at *;generalize jn f t cm=R at *;have S_E:E.toArray.size=69:=by rw [jqu,L_E]
 go_enter Tryz.func68,Tryz.ntmps68
 go_upto_region 1 with fail;obtain ⟨r,hr⟩:∃ x,x=w.heap.size:=⟨_,rfl⟩;refine jg (fun W=>Cb W w.heap.size 89 E/\Ext w W) B0.out ?_;rw [<-hr];clear B0 hr;rintro w0 ⟨k0,x0⟩;have F0:Hid (∀ s,Ext w0 s->s.cell? ⟨r,0,none⟩=some (.int .i64 f)/\s.cell? ⟨r,1,none⟩=some (.int .i64 t)):=fun s e=>⟨(k0.ext e).cell cf.out,(k0.ext e).cell ct.out⟩
 have F1:Hid (∀ s,Ext w0 s->Bs s (some ⟨r,2,none⟩) 32 32 cm/\Ext w s):=fun s e=>⟨(k0.ext e).bs (hE.out ()) rfl lc (by omega),x0.trans e⟩
 have rl:=k0.lt;clear k0 x0;refine qgE [0,1,3,4,6,7,2,5,8,9,10] [2,5,8,9] ?_;have e0:Hid (Ext w0 w0.drew):=(jnQ w0).drew;generalize w0.drew=W at *;repeat ((first | refine qR _ (fun w' e=>F0.out w' (e0.out.trans e)) ?_ | refine qS ?_);go_frame)
 refine qD fun K1 hK1=> ?_
 go_simp;refine (OB.out _ _).mono ?_;rintro e w1 ⟨A1,n1,c1,rfl,b1,x1⟩;obtain rfl:n1=1:=b1.len.symm;refine hK1.out _ _ x1 ?_;clear hK1 K1;try go_frame
 refine qD fun K2 hK2=> ?_
 go_simp;refine (OB.out _ _).mono ?_;rintro e w2 ⟨A2,n2,c2,rfl,b2,x2⟩;obtain rfl:n2=1:=b2.len.symm;refine hK2.out _ _ x2 ?_;clear hK2 K2;try go_frame
 have hR:=Hj (jjC (t:=33) (b1.ext x2) b2 (F1.out w2 (e0.out.trans (x1.trans x2))).1);have e2:=Hj (e0.out.trans (x1.trans x2));clear b1 b2 x1 x2;refine qD fun K3 hK3=> ?_
 go_simp;refine hK3.out _ _ ((jnQ w2).alloc _) ?_;clear hK3 K3;try go_frame
 refine qD fun K4 hK4=> ?_
 go_simp;refine (JO.out _ _ hR.out).mono ?_;rintro e w4 ⟨A4,n4,c4,rfl,b4,x4⟩;refine hK4.out _ _ x4 ?_;clear hK4 K4;try go_frame
 repeat ((first | refine qR0 ?_ | refine qS ?_);go_frame)
 refine jp ?_;have F:=Hj ((F1.out _ e2.out).2.trans (((jnQ w2).alloc _).trans x4));have w04:w.heap.size<=(w2.alloc (.cells #[.slice A1 1 c1, .slice A2 1 c2, .slice (some ⟨r,2,none⟩) 32 32] 33)).heap.size:=((F1.out _ e2.out).2.trans ((jnQ w2).alloc _)).size;replace b4:=Hj (b4.mono w04);clear x4 hR e2 e0 F0 F1;go_wp2_with fail;go_ret;exact ⟨A4,n4,c4,rfl,b4.out,F.out⟩
def lnC (f t:Int) (sg:Nat):List Value:= [.int .i64 f, .int .i64 t, .pointer (some ⟨sg,0,none⟩), .func (.func 68) #[] #[]]
def joE (f t:Int):Bool:=joa f&&joa t&& !decide (f=t)
theorem jq {w:World}{n:Int}{b:Bool}(h:joa n=b):Calls jpx 67 #[.int .i64 n] w fun e w'=>e= .returned (.bool b)/\Ext w w':=h ▸ jn2
theorem joi {w:World}{sg:Nat}{f t:Int}(h:joE f t=true):Calls jpx 37 #[.pointer (some ⟨sg,0,none⟩), .int .i64 f, .int .i64 t] w fun e w'=>∃ l,e= .returned (.tuple #[.pointer (some ⟨l,0,none⟩), .int .i64 0])/\w.heap.size<=l/\Cb w' l 150 (lnC f t sg)/\Ext w w':=by
 unfold joE at h;obtain ⟨hf,ht,hd0⟩:joa f=true/\joa t=true/\decide (f=t)=false:=by
  simp only [jpK,jpL] at h;exact ⟨h.1.1,h.1.2,h.2⟩
 have hd: ¬ f=t:=of_decide_eq_false hd0;have IF:Hid (∀ (W:World),Calls jpx 67 #[.int .i64 f] W fun e w'=>e= .returned (.bool true)/\Ext W w'):=fun W=>jq hf
 have IT:Hid (∀ (W:World),Calls jpx 67 #[.int .i64 t] W fun e w'=>e= .returned (.bool true)/\Ext W w'):=fun W=>jq ht
 clear h hf ht hd0;go_enter Tryz.func37,Tryz.ntmps37
 go_wp2_with fail;refine (IF.out _).mono ?_;rintro e w1 ⟨rfl,x1⟩;go_wp2_with fail;refine (IT.out _).mono ?_;rintro e w2 ⟨rfl,x2⟩;go_wp2_with fail;go_ret2;exact ⟨_,rfl,by have:=x1.size;have:=x2.size;omega,Cb.new _ _ (lnC f t sg),(x1.trans x2).alloc _⟩
theorem jn9 {P:jpB}{fn:Func}{p v:Tmp}{ty:jpC}(h:fn.results= #[.cell p ty, .tmp v]) (tmps:Array Value) (w:World) (g:Nat) (t:jpC) (cs:Array Value) (fr:Nat×Nat) (d:TypeDesc) (y:Value)
 (hp:tmps.getD p undef= .pointer (some ⟨g,0,none⟩)) (hy:tmps.getD v undef=y) (hg:w.heap[g]? =some (.cells cs t fr))
 (hu:P.underlying ty=some d) (hd:(match d with | .struct _ | .array _ _=>true | _=>false)=true) (hi:(P.info? ty).map (·.size)=some cs.size):
 (results fn tmps).run P w= .ok (.tuple #[.agg cs,y]) w:=by
 have hp':tmps[p]?.getD undef= .pointer (some ⟨g,0,none⟩):=by simpa using hp
 have hy':tmps[v]?.getD undef=y:=by simpa using hy
 simp [results,h,hp',hy',asAddr,run_loadVar_row w g t ty cs fr d hg hu hd hi,jqi,Result.andThen]
def evZ:List Value:=evC 0 0 (jqn 32 0) (jqn 32 0) 0 0 none 0 0
theorem jn3 (w:World):(jpI 89).run jpx w= .ok (.agg evZ.toArray) w:=by kernel_rfl
theorem jow:Tryz.prog.built 89 []=some evZ.toArray:=by kernel_rfl
theorem joM (f t:Int):Tryz.prog.built 89 [(0, .int .i64 f),(1, .int .i64 t)]=some (evC f t (jqn 32 0) (jqn 32 0) 0 0 none 0 0).toArray:=by kernel_rfl
theorem joH:evZ.length=69:=Z2 rfl rfl _ _ _ _ _ _ _
theorem joV:evZ.toArray.all (·.oneCell')=true:=qC fun v hv=>joF v hv
def wrC (f t:Int) (op text:List UInt8):List UInt8:=jC op (qz [[u8I f],[u8I t],text])
theorem joj (f t:Int) (op text:List UInt8):(wrC f t op text).length=32:=qr _ _
end
section
open Go.ChangeShapes Go.WideShapes Go.ChangeAt Go.RowKit Go.Deep Go.Maps
open Go.WideElems (Fit rd rg pl rd_key rd_val rg_of)
def jgB (v:Value):Option (DataW Value×List MemPlace):=some (.held v,[])
structure Vw (P:jpB) (k:jpC) (D:DataW Value) (E:List (Value×Value)):Prop where
 apart:E.Pairwise (fun p q=>p.1≠q.1)
 size:Maps.size D=E.length
 into:∀ p∈E,∃ kl,keyOf P k p.1=some kl/\Maps.has D kl=true/\∀ z,D.atKey kl z= .held p.2
 back:∀ kl,Maps.has D kl=true->∃ p∈E,keyOf P k p.1=some kl
section
variable {P:jpB}{k t e:jpC}{w w':World}{b:Nat}{E:List (Value×Value)}{D:DataW Value}
theorem Vw.hit (h:Vw P k D E) (K:Keyed P k){key:Value}{kl:Lit}(hk:keyOf P k key=some kl) (hh:Maps.has D kl=true):∃ v,(key,v)∈E/\∀ z,D.atKey kl z= .held v:=by
 obtain ⟨p,hp,q⟩:=h.back kl hh;obtain ⟨kl',h1,_,h3⟩:=h.into p hp;obtain rfl:kl'=kl:=by rw [q] at h1;exact (jpD h1).symm
 obtain rfl:p.1=key:=K.inj q hk;exact ⟨p.2,hp,h3⟩
theorem Vw.miss (h:Vw P k D E){key:Value}{kl:Lit}(hk:keyOf P k key=some kl) (hh:Maps.has D kl=false):∀ p∈E,p.1≠key:=fun p hp e=>by
 obtain ⟨kl',h1,h2,_⟩:=h.into p hp;rw [e,hk] at h1;obtain rfl:=jpD h1;rw [hh] at h2;cases h2
theorem Vw.has_false (h:Vw P k D E) (K:Keyed P k){key:Value}{kl:Lit}(hk:keyOf P k key=some kl) (hm:∀ p∈E,p.1≠key):Maps.has D kl=false:=by
 cases hh:Maps.has D kl
 ·rfl
 ·obtain ⟨p,hp,q⟩:=h.back kl hh;exact absurd (K.inj q hk) (hm p hp)
theorem jf5 {E:List (Value×Value)}(h:E.Pairwise (fun p q=>p.1≠q.1)){key v v':Value}(h1:(key,v)∈E) (h2:(key,v')∈E):v=v':=by
 induction E with
 | nil=>cases h1
 | cons x r ih=>
   obtain ⟨a,b⟩:=List.pairwise_cons.1 h;rcases jpE.1 h1 with q1 | q1 <;> rcases jpE.1 h2 with q2 | q2
   ·rw [<-q1] at q2;exact (congrArg Prod.snd q2).symm
   ·exact ((a _ q2) (by rw [<-q1])).elim
   ·exact ((a _ q1) (by rw [<-q2])).elim
   ·exact ih b q1 q2
theorem Vw.nil (P:jpB) (k:jpC):Vw P k (.map []) []:=⟨List.Pairwise.nil,rfl,(fun p hp=>by cases hp),(fun kl h=>by cases h)⟩
theorem Vw.add (h:Vw P k D E) (K:Keyed P k) (T:Tidy D){key v:Value}{kl:Lit}(hk:keyOf P k key=some kl) (hm:∀ p∈E,p.1≠key):Vw P k (D.put kl (.held v)) (E++ [(key,v)]):=by
 have hf:=h.has_false K hk hm;have IK:=K.key hk;refine ⟨?_,?_,fun p hp=> ?_,fun kl' hh=> ?_⟩
 ·rw [List.pairwise_append];exact ⟨h.apart,List.pairwise_singleton _ _,fun a ha b hb=>by rw [jpF.1 hb];exact hm a ha⟩
 ·rw [size_put T,hf,h.size,jpG];rfl
 ·rcases jpH.1 hp with q | q
  ·obtain ⟨kl',h1,h2,h3⟩:=h.into p q;have hne:kl'≠kl:=fun e=>by rw [e,hf] at h2;cases h2
   exact ⟨kl',h1,by rw [has_put_other hne];exact h2,fun z=>by rw [atKey_put_other hne];exact h3 z⟩
  ·rw [jpF.1 q];exact ⟨kl,hk,has_put_same T.isMap IK _,fun z=>atKey_put_same T.isMap IK _ z⟩
 ·by_cases e:kl'=kl
  ·subst e;exact ⟨(key,v),by simp,hk⟩
  ·rw [has_put_other e] at hh;obtain ⟨p,hp,q⟩:=h.back kl' hh;exact ⟨p,List.mem_append_left _ hp,q⟩
theorem Vw.del (h:Vw P k D E) (K:Keyed P k) (T:Tidy D){E':List (Value×Value)}{key:Value}{kl:Lit}(hk:keyOf P k key=some kl) (hs:E'.Sublist E) (hm:∀ p∈E,p∈E'↔p.1≠key) (hl:E'.length+(if Maps.has D kl then 1 else 0)=E.length):Vw P k (D.del kl) E':=by
 refine ⟨h.apart.sublist hs,?_,fun p hp=> ?_,fun kl' hh=> ?_⟩
 ·have:=size_del (k:=kl) T;rw [h.size] at this;omega
 ·have hp':=hs.subset hp;obtain ⟨kl',h1,h2,h3⟩:=h.into p hp';have hne:kl'≠kl:=fun e=>(hm p hp').1 hp (K.inj (e ▸ h1) hk)
  exact ⟨kl',h1,by rw [has_del_other hne];exact h2,fun z=>by rw [atKey_del_other hne];exact h3 z⟩
 ·by_cases e:kl'=kl
  ·subst e;rw [has_del_same] at hh;cases hh
  ·rw [has_del_other e] at hh;obtain ⟨p,hp,q⟩:=h.back kl' hh;refine ⟨p,(hm p hp).2 fun r=>e ?_,q⟩;rw [r,hk] at q;exact (jpD q).symm
def Mp (P:jpB) (k:jpC) (w:World) (b:Nat) (E:List (Value×Value)):Prop:=∃ D,w.ownsMap P k jgB b E.length D/\Vw P k D E
theorem jgx {n:Nat}(h:w.ownsMap P k jgB b n D):w.ownsMap P k jgB b (Maps.size D) D:=by
 obtain ⟨es,clock,hb,F,hs,rfl⟩:=h;exact ⟨es,clock,hb,F,by simp [Maps.size,length_sorted],rfl⟩
theorem Mp.of {n:Nat}(h:w.ownsMap P k jgB b n D) (v:Vw P k D E):Mp P k w b E:=⟨D,by have:=jgx h;rwa [v.size] at this,v⟩
theorem Mp.lt (h:Mp P k w b E):b < w.heap.size:=by obtain ⟨D,h,_⟩:=h;exact h.lt
theorem Mp.stay (h:Mp P k w b E) (hb:w'.heap[b]? =w.heap[b]?):Mp P k w' b E:=by
 obtain ⟨D,⟨es,clock,h1,h2⟩,v⟩:=h;exact ⟨D,⟨es,clock,hb.trans h1,h2⟩,v⟩
theorem Mp.ext (h:Mp P k w b E) (x:Ext w w'):Mp P k w' b E:=h.stay (x.block _ h.lt)
theorem Mp.obj (h:Mp P k w b E):∃ es c,w.heap[b]? =some (.map es c):=by
 obtain ⟨D,⟨es,clock,h1,_⟩,v⟩:=h;exact ⟨es,clock,h1⟩
theorem Mp.apart (h:Mp P k w b E):E.Pairwise (fun p q=>p.1≠q.1):=by obtain ⟨D,_,v⟩:=h;exact v.apart
theorem Mp.made (w:World) (P:jpB) (k:jpC):Mp P k (w.alloc (.map #[] 0)) w.heap.size []:=⟨_,World.ownsMap_made w P k jgB,Vw.nil P k⟩
theorem Mp.look (h:Mp P k w b E) (K:Keyed P k) (ht:P.underlying t=some (.map k e)){z:Value}(hz:(jpI e).run P w= .ok z w){key:Value}{kl:Lit}(hkey:keyOf P k key=some kl):
 (∃ v,(key,v)∈E/\(Instr.lookup t (.map (some b)) key true).run P w= .ok (.tuple #[v, .bool true]) w/\(Instr.lookup t (.map (some b)) key false).run P w= .ok v w)\/
 ((∀ p∈E,p.1≠key)/\(Instr.lookup t (.map (some b)) key true).run P w= .ok (.tuple #[z, .bool false]) w/\(Instr.lookup t (.map (some b)) key false).run P w= .ok z w):=by
 obtain ⟨D,h,v⟩:=h;obtain ⟨x,ps,r1,r2⟩:=h.look_ok K ht hz (zd:= .held z) (zp:= []) rfl hkey;obtain ⟨x',ps',r1',r2'⟩:=h.lookup K ht hz (zd:= .held z) (zp:= []) rfl hkey
 injection r2 with r2
 injection r2' with r2'
 have e1:=congrArg Prod.fst r2;have e2:=congrArg Prod.fst r2'
 cases hh:Maps.has D kl
 ·right
  rw [atKey_of_not_has hh] at e1 e2
  injection e1 with e1
  injection e2 with e2
  subst e1;subst e2;rw [hh] at r1;exact ⟨v.miss hkey hh,r1,r1'⟩
 ·left
  obtain ⟨y,h1,h2⟩:=v.hit K hkey hh;rw [h2] at e1 e2
  injection e1 with e1
  injection e2 with e2
  subst e1;subst e2;rw [hh] at r1;exact ⟨_,h1,r1,r1'⟩
theorem Mp.add (h:Mp P k w b E) (K:Keyed P k) (ht:P.underlying t=some (.map k e)) (hn:E.length < maxLen){key:Value}{kl:Lit}(hkey:keyOf P k key=some kl) (hm:∀ p∈E,p.1≠key) (v:Value):
 ∃ w',(Instr.mapUpdate t (.map (some b)) key v).run P w= .ok () w'/\Mp P k w' b (E++ [(key,v)])/\w.grownBy w' (some b)/\∃ es c,w'.heap[b]? =some (.map es c):=by
 obtain ⟨D,h,vw⟩:=h;obtain ⟨w1,r1,r2,r3⟩:=h.update K ht hn hkey (d:= .held v) (ps:= []) rfl;have m:Mp P k w1 b (E++ [(key,v)]):=Mp.of r2 (vw.add K (h.tidy K) hkey hm);exact ⟨w1,r1,m,r3,m.obj⟩
theorem Mp.drop (h:Mp P k w b E) (K:Keyed P k) (ht:P.underlying t=some (.map k e)){key:Value}{kl:Lit}(hkey:keyOf P k key=some kl){E':List (Value×Value)}(hs:E'.Sublist E) (hm:∀ p∈E,p∈E'↔p.1≠key) (hl:(∀ p∈E,p.1≠key)\/E'.length+1=E.length) (ty:jpC):
 ∃ w',(Builtin.delete_ #[t,k] ty #[.map (some b),key]).run P w= .ok (.tuple #[]) w'/\Mp P k w' b E'/\w.mapTurned w' b:=by
 obtain ⟨D,h,vw⟩:=h;obtain ⟨w1,r1,r2,r3⟩:=h.drop K ht hkey ty;refine ⟨w1,r1,Mp.of r2 (vw.del K (h.tidy K) hkey hs hm ?_),r3⟩;rcases hl with hl | hl
 ·rw [vw.has_false K hkey hl];have:E'=E:=hs.eq_of_length_le (jpJ (vw.apart.imp fun h e=>h (congrArg Prod.fst e)) fun p hp=>(hm p hp).2 (hl p hp));rw [this];rfl
 ·rcases hh:Maps.has D kl with _ | _
  ·exfalso
   have hmiss:=vw.miss hkey hh;have:E.length<=E'.length:=jpJ (vw.apart.imp fun h e=>h (congrArg Prod.fst e)) fun p hp=>(hm p hp).2 (hmiss p hp)
   omega
  ·simpa using hl
theorem Mp.len (h:Mp P k w b E) (ht:P.underlying t=some (.map k e)) (ty:jpC):(Builtin.len_ #[t] ty #[.map (some b)]).run P w= .ok (.int .i64 (E.length:Int)) w:=by
 obtain ⟨D,h,vw⟩:=h;rw [h.len ht ty,vw.size]
def Mr (P:jpB) (k:jpC) (w:World) (b r:Nat) (E:List (Value×Value)) (lf:Value->Prop) (cnt:Nat):Prop:=
 ∃ D left,w.ranges P k jgB b r E.length D left cnt/\Vw P k D E/\∀ p∈E,(lf p.1↔∃ kl,keyOf P k p.1=some kl/\left kl=true)
theorem Mr.kept {r cnt:Nat}{lf:Value->Prop}{row:Option Nat}(h:Mr P k w b r E lf cnt) (hg:w.grownBy w' row) (hb:some b≠row) (hr:some r≠row):Mr P k w' b r E lf cnt:=by
 obtain ⟨D,left,h,v⟩:=h;exact ⟨D,left,h.kept hg hb hr,v⟩
theorem Mr.ext {r cnt:Nat}{lf:Value->Prop}(h:Mr P k w b r E lf cnt) (x:Ext w w'):Mr P k w' b r E lf cnt:=h.kept (row:=none) ⟨x.os,x.tape,x.output,x.size,fun i hi _=>x.block i hi⟩ (by simp) (by simp)
theorem Mr.lt {r cnt:Nat}{lf:Value->Prop}(h:Mr P k w b r E lf cnt):r < w.heap.size:=by obtain ⟨D,left,h,_⟩:=h;exact h.lt
theorem Mr.left_eq {r cnt:Nat}{lf:Value->Prop}(h:Mr P k w b r E lf cnt):w.rangeLeft b r=cnt:=by obtain ⟨D,left,h,_⟩:=h;exact h.left_eq
theorem Mp.range (h:Mp P k w b E) (K:Keyed P k) (ht:P.underlying t=some (.map k e)):
 ∃ w',(Instr.range t (.map (some b))).run P w= .ok (.pointer (some ⟨w.heap.size,0,none⟩)) w'/\Mr P k w' b w.heap.size E (fun _=>True) E.length/\Ext w w':=by
 obtain ⟨D,h,vw⟩:=h;obtain ⟨w1,r1,r2,r3,r4⟩:=h.range K ht;rw [vw.size] at r2;exact ⟨w1,r1,⟨D,_,r2,vw,fun p hp=>⟨fun _=>by obtain ⟨kl,h1,h2,_⟩:=vw.into p hp;exact ⟨kl,h1,h2⟩,fun _=>trivial⟩⟩,⟨r3.os,r3.tape,r3.output,r3.size,fun i hi=>r3.block i hi (by simp)⟩⟩
theorem Mr.next {r cnt:Nat}{lf:Value->Prop}(h:Mr P k w b r E lf cnt) (K:Keyed P k) (ty:jpC):
 ((∀ p∈E, ¬ lf p.1)/\(Instr.next (.pointer (some ⟨r,0,none⟩)) false ty).run P w= .ok (.tuple #[.bool false]) w)\/
 ∃ p∈E,lf p.1/\∃ w' cnt',(Instr.next (.pointer (some ⟨r,0,none⟩)) false ty).run P w= .ok (.tuple #[.bool true,p.1,p.2]) w'/\Mr P k w' b r E (fun key=>lf key/\key≠p.1) cnt'/\cnt' < cnt/\
   w.grownBy w' (some r)/\w'.heap.size=w.heap.size/\(Instr.entry (.pointer (some ⟨r,0,none⟩))).run P w'= .ok (.tuple #[p.1,p.2]) w':=by
 obtain ⟨D,left,h,vw,hl⟩:=h;rcases h.next K ty with ⟨h0,hn,hrun⟩ | ⟨key,v,kl,y,w1,cnt',hkey,hlk,hv,hat,hrun,hrg,hlt,hgr,hsz,hen⟩
 ·refine .inl ⟨fun p hp q=> ?_,hrun⟩;obtain ⟨kl,_,h2⟩:=(hl p hp).1 q;rw [hn kl] at h2;cases h2
 ·right
  have hh:Maps.has D kl=true:=has_true_of_atKey hat;obtain ⟨v',h1,h2⟩:=vw.hit K hkey hh;have:v=v':=by
   have q:=(hat (.held v)).symm.trans (h2 (.held v))
   injection hv with hv
   rw [<-hv] at q
   injection q
  subst this;refine ⟨(key,v),h1,(hl _ h1).2 ⟨kl,hkey,hlk⟩,w1,cnt',hrun,⟨D,_,hrg,vw,fun p hp=> ?_⟩,hlt,hgr,hsz,hen⟩
  show (lf p.1/\p.1≠key)↔_
  rw [hl p hp];constructor
  ·rintro ⟨⟨kl',q1,q2⟩,q3⟩;refine ⟨kl',q1,?_⟩
   show (left kl'&& !kl'.sameKey kl)=true
   rw [q2,sameKey_ne (fun e=>q3 (K.inj (q1.trans (congrArg some e)) hkey))]
   rfl
  ·rintro ⟨kl',q1,q2⟩;have q2:(left kl'&& !kl'.sameKey kl)=true:=q2;simp only [jpK,jpL] at q2;refine ⟨⟨kl',q1,q2.1⟩,fun e=> ?_⟩;rw [show p.1=key from e,hkey] at q1;obtain rfl:=jpD q1;rw [WideAt.sameKey_self (K.key hkey)] at q2
   cases q2.2
end
end
section
open Go.ChangeShapes Go.WideShapes Go.ChangeAt Go.RowKit Go.Deep Go.Maps
def knC (pk:List UInt8) (n:Int):List Value:=cellsOf pk++ [.int .i64 n]
theorem yA {pk:List UInt8}(h:pk.length=32) (n:Int):(knC pk n).length=33:=by simp [knC,ja,h]
theorem Y4 {pk:List UInt8}{n:Int}:∀ v∈knC pk n,v.oneCell'=true:=fun v hv=>by
 simp only [knC,jpH,jpE,jqz,or_false] at hv;rcases hv with h | rfl
 ·exact JT _ v h
 ·rfl
theorem jhJ {pk:List UInt8}(h:pk.length=32) (n:Int):(knC pk n)[32]? =some (.int .i64 n):=by
 unfold knC;rw [jqr (by rw [ja,h];omega),ja,h]
 rfl
theorem jkm {pk:List UInt8}(n:Int) (j:Nat) (v:Value) (hv:(cellsOf pk)[j]? =some v):(knC pk n)[j]? =some v:=by
 unfold knC;rw [jqs (jqx.1 hv).1,hv]
theorem jao:∀ {a b:List UInt8},(a.map fun x=>jpA .u8 (x.toNat:Int))=(b.map fun x=>jpA .u8 (x.toNat:Int))->a=b
 | [],[],_=>rfl
 | [],_::_,h=>by cases h
 | _::_,[],h=>by cases h
 | x::a,y::b,h=>by
   rw [jqA,jqA] at h
   injection h with h1 h2
   injection h1 with _ h1
   rw [UInt8.toNat_inj.1 (show x.toNat=y.toNat by omega),jao h2]
theorem jbC {α β:Type}{f:α->Option β}{g:α->β}:∀ {l:List α},(∀ i∈l,f i=some (g i))->l.mapM f=some (l.map g)
 | [],_=>rfl
 | x::r,h=>by
   rw [List.mapM_cons,h x (jqB ..),jbC fun i hi=>h i (jqC _ hi)]
   rfl
theorem jch {pk pk':List UInt8}{n n':Int}(h:pk.length=32) (h':pk'.length=32) (e:(jqp (knC pk n).toArray)= .agg (knC pk' n').toArray):pk=pk'/\n=n':=by
 injection e with e
 have e:=congrArg Array.toList e;have e:cellsOf pk++ [jpA .i64 n]=cellsOf pk'++ [jpA .i64 n']:=e;obtain ⟨e1,e2⟩:=List.append_inj e (by rw [ja,ja,h,h']);refine ⟨?_,by injection e2 with e2;injection e2⟩;rw [qp,qp] at e1;exact jao e1
theorem jjK {P:jpB}{e:jpC}(he:P.underlying e=some (.int .u8)) (d:Nat) (x:UInt8):P.keyLits (d+1) e [.int .u8 (x.toNat:Int)]=some [.int .u8 (x.toNat:Int)]:=by
 unfold Program.keyLits;have:=x.toNat_lt;simp [he,Lit.wf,IntKind.min,IntKind.max,IntKind.signed,IntKind.bits]
 omega
theorem jeh {P:jpB}{t e:jpC}(ht:P.underlying t=some (.array 32 e)) (he:P.underlying e=some (.int .u8)) (ce:P.cellsOf e=1) (ct:P.cellsOf t=32) (d:Nat){pk:List UInt8}(h:pk.length=32):∃ l,P.keyLits (d+2) t (cellsOf pk)=some l:=by
 unfold Program.keyLits;simp only [ht];rw [if_pos (by rw [ja,h,ct])];have:((jp1 32).mapM fun i=>P.keyLits (d+1) e (((cellsOf pk).drop (i*P.cellsOf e)).take (P.cellsOf e)))=some ((jp1 32).map fun i=> [Lit.int .u8 ((pk.getD i 0).toNat:Int)]):=by
  refine jbC fun i hi=> ?_
  have hi:i < 32:=List.mem_range.1 hi;have e1:((cellsOf pk).drop (i*P.cellsOf e)).take (P.cellsOf e)= [.int .u8 ((pk.getD i 0).toNat:Int)]:=by
   rw [ce,Nat.mul_one,qp,<-List.map_drop,<-List.map_take];rw [List.drop_eq_getElem_cons (by omega),List.take_succ_cons,List.take_zero];simp [jpr,show i < pk.length by omega]
  rw [e1];exact jjK he d _
 rw [this];exact ⟨_,rfl⟩
end
section
open Go.ChangeShapes Go.WideShapes Go.ChangeAt Go.RowKit Go.Deep
theorem jaJ {P:jpB}{fn:Func}{p q:Tmp}{ty:jpC}(h:fn.results= #[.cell p ty, .cell q ty]) (tmps:Array Value) (w:World) (g g':Nat) (t t':jpC) (cs cs':Array Value) (fr fr':Nat×Nat) (d:TypeDesc)
 (hp:tmps.getD p undef= .pointer (some ⟨g,0,none⟩)) (hq:tmps.getD q undef= .pointer (some ⟨g',0,none⟩)) (hg:w.heap[g]? =some (.cells cs t fr)) (hg':w.heap[g']? =some (.cells cs' t' fr'))
 (hu:P.underlying ty=some d) (hd:(match d with | .struct _ | .array _ _=>true | _=>false)=true) (hi:(P.info? ty).map (·.size)=some cs.size) (hi':(P.info? ty).map (·.size)=some cs'.size):
 (results fn tmps).run P w= .ok (.tuple #[.agg cs, .agg cs']) w:=by
 have hp':tmps[p]?.getD undef= .pointer (some ⟨g,0,none⟩):=by simpa using hp
 have hq':tmps[q]?.getD undef= .pointer (some ⟨g',0,none⟩):=by simpa using hq
 simp [results,h,hp',hq',asAddr,run_loadVar_row w g t ty cs fr d hg hu hd hi,run_loadVar_row w g' t' ty cs' fr' d hg' hu hd hi',jqi,Result.andThen]
theorem Yx {P:jpB}{fn:Func}{u p v:Tmp}{ty:jpC}(h:fn.results= #[.tmp u, .cell p ty, .tmp v]) (tmps:Array Value) (w:World) (g:Nat) (t:jpC) (cs:Array Value) (fr:Nat×Nat) (d:TypeDesc) (x y:Value)
 (hx:tmps.getD u undef=x) (hp:tmps.getD p undef= .pointer (some ⟨g,0,none⟩)) (hy:tmps.getD v undef=y) (hg:w.heap[g]? =some (.cells cs t fr))
 (hu:P.underlying ty=some d) (hd:(match d with | .struct _ | .array _ _=>true | _=>false)=true) (hi:(P.info? ty).map (·.size)=some cs.size):
 (results fn tmps).run P w= .ok (.tuple #[x, .agg cs,y]) w:=by
 have hp':tmps[p]?.getD undef= .pointer (some ⟨g,0,none⟩):=by simpa using hp
 have hx':tmps[u]?.getD undef=x:=by simpa using hx
 have hy':tmps[v]?.getD undef=y:=by simpa using hy
 simp [results,h,hp',hx',hy',asAddr,run_loadVar_row w g t ty cs fr d hg hu hd hi,jqi,Result.andThen]
def Two (g g':Nat) (a b:World):Prop:=b.os=a.os/\b.tape=a.tape/\b.output=a.output/\a.heap.size<=b.heap.size/\∀ i,i < a.heap.size->i≠g->i≠g'->b.heap[i]? =a.heap[i]?
theorem Two.refl (g g':Nat) (w:World):Two g g' w w:=⟨rfl,rfl,rfl,jpo _,fun _ _ _ _=>rfl⟩
theorem Two.trans {g g':Nat}{a b c:World}(h:Two g g' a b) (k:Two g g' b c):Two g g' a c:=
 ⟨k.1.trans h.1,k.2.1.trans h.2.1,k.2.2.1.trans h.2.2.1,jp0 h.2.2.2.1 k.2.2.2.1,fun i hi h1 h2=>(k.2.2.2.2 i (jpq hi h.2.2.2.1) h1 h2).trans (h.2.2.2.2 i hi h1 h2)⟩
theorem Two.of_ext {g g':Nat}{a b:World}(h:Ext a b):Two g g' a b:=⟨h.os,h.tape,h.output,h.size,fun i hi _ _=>h.block i hi⟩
theorem Two.row {g g':Nat}(w:World) (C:Array Value):Two g g' w (w.setRow g C):=⟨rfl,rfl,rfl,by simp,fun i _ h1 _=>jqy _ _ _ _ h1⟩
theorem Two.row' {g g':Nat}(w:World) (C:Array Value):Two g g' w (w.setRow g' C):=⟨rfl,rfl,rfl,by simp,fun i _ _ h1=>jqy _ _ _ _ h1⟩
theorem Two.ext {g g':Nat}{w0 a b:World}(h:Ext w0 a) (k:Two g g' a b) (h1:w0.heap.size<=g) (h2:w0.heap.size<=g'):Ext w0 b:=
 jpn h ⟨k.1,k.2.1,k.2.2.1,k.2.2.2.1,fun i hi=>k.2.2.2.2 i (jpq hi h.size) (by omega) (by omega)⟩
theorem Two.block {g g' i:Nat}{a b:World}(k:Two g g' a b){o:Obj}(h:a.heap[i]? =some o) (h1:i≠g) (h2:i≠g'):b.heap[i]? =some o:=(k.2.2.2.2 i (jh h) h1 h2).trans h
end
section
open Go.ChangeShapes Go.WideShapes Go.ChangeAt Go.RowKit Go.Deep Go.Maps
theorem yV:Keyed jpx 186:=Keyed.of_law (deep_law_laid (by kernel_rfl) (m:=3) (by omega) (of_decide_eq_true (by kernel_rfl)) (by kernel_rfl) (by kernel_rfl))
theorem JU {pk:List UInt8}(h:pk.length=32){n:Int}(hn: -9223372036854775808<=n/\n<=9223372036854775807):∃ kl,keyOf jpx 186 (.agg (knC pk n).toArray)=some kl:=by
 have hk:Tryz.prog.keyType 186=true:=by kernel_rfl
 have hc:Tryz.prog.cellsOf 186=33:=by kernel_rfl
 have c0:Tryz.prog.cellsOf 23=32:=by kernel_rfl
 have ce:Tryz.prog.cellsOf 5=1:=by kernel_rfl
 have ci:Tryz.prog.cellsOf 3=1:=by kernel_rfl
 have h2:2<=Tryz.prog.types.size:=of_decide_eq_true (by kernel_rfl);obtain ⟨m,hm⟩:∃ m,Tryz.prog.types.size+1=m+3:=⟨Tryz.prog.types.size - 2,by omega⟩;obtain ⟨l,hl⟩:=jeh jqD Tryz.underlying5 ce c0 m h;have hi:Tryz.prog.keyLits (m+2) 3 [.int .i64 n]=some [.int .i64 n]:=by
  unfold Program.keyLits;simp [Tryz.underlying3,Lit.wf,IntKind.min,IntKind.max,IntKind.signed,IntKind.bits]
  omega
 have t0:((knC pk n).drop 0).take 32=cellsOf pk:=by unfold knC;rw [List.drop_zero,jqv (by rw [ja,h])]
 have t1:((knC pk n).drop 32).take 1= [.int .i64 n]:=by unfold knC;rw [List.drop_left' (by rw [ja,h])];rfl
 have hL:Tryz.prog.keyLits (m+3) 186 (knC pk n)=some ([l,[.int .i64 n]].flatten):=by
  unfold Program.keyLits;simp only [Tryz.underlying186];rw [if_pos ⟨by rw [yA h,hc],by kernel_rfl⟩];simp only [List.mapM_cons,List.mapM_nil,c0,ci,t0,t1,hl,hi]
  rfl
 have hf:(jqp (knC pk n).toArray).formed jpx 186=true:=by
  unfold Value.formed;simp [Tryz.underlying186,hc,yA h]
 unfold keyOf;simp only [Tryz.underlying186,hk,hf,hm];rw [show (jqp (knC pk n).toArray).cells.toList=knC pk n from rfl,hL];exact ⟨_,rfl⟩
section
variable {P:jpB}{ops:Array Oper}{rest:List Oper}{o:Oper}{a:Act}{w w':World}{K:Act->World->Prop}{Q:Exit->Act->World->Prop}{t k:jpC}{m x y:Operand}{mv xv yv:Value}
theorem QU (ho:o.op= .mapUpdate t m x y) (hm:a.eval m=mv) (hx:a.eval x=xv) (hy:a.eval y=yv) (hr:(Instr.mapUpdate t mv xv yv).run P w= .ok () w') (h:K (a.put o.dst undef) w'):o.wp P a w K Q:=by
 subst hm;subst hx;subst hy;unfold Oper.wp jpY;simp only [ho,jqi,hr,jqk,jqj];exact h
theorem jbU (ho:o.op= .call {callee:= .builtin .delete,args:= #[m,x],argTypes:= #[t,k]}) (hm:a.eval m=mv) (hx:a.eval x=xv) (hr:(Builtin.delete_ #[t,k] 0 #[mv,xv]).run P w= .ok (.tuple #[]) w') (h:K (a.put o.dst (.tuple #[])) w'):o.wp P a w K Q:=by
 subst hm;subst hx;replace hr:(Builtin.delete_ #[t,k] o.type #[a.eval m,a.eval x]).run P w= .ok (.tuple #[]) w':=hr;unfold Oper.wp jpY;simp only [ho,resolve,invoke,builtin,jqi,jqj,jqk,jqE,jqA,jqF,hr];exact h
theorem JH (ho:o.op= .call {callee:= .builtin .len,args:= #[m],argTypes:= #[t]}){v:Value}(hm:a.eval m=mv) (hr:(Builtin.len_ #[t] o.type #[mv]).run P w= .ok v w') (h:K (a.put o.dst v) w'):o.wp P a w K Q:=by
 subst hm;replace hr:(Builtin.len_ #[t] o.type #[a.eval m]).run P w= .ok v w':=hr;unfold Oper.wp jpY;simp only [ho,resolve,invoke,builtin,jqi,jqj,jqk,jqE,jqA,jqF,hr];exact h
theorem Jb (hg:o.guard=none) (h:∀ K:Act->World->Prop,(∀ a w,wpList P ops Q rest a w->K a w)->o.wp P a w K Q):wpList P ops Q (o::rest) a w:=wpList_plain hg fun K hK=>h K hK
theorem ZA {c:Bool}{v:Value}(ho:o.op= .lookup t m x c) (hm:a.eval m=mv) (hx:a.eval x=xv) (hr:(Instr.lookup t mv xv c).run P w= .ok v w):(jpY a.eval o).run P w= .ok (.value v) w:=by
 subst hm;subst hx;unfold jpY;simp only [ho,jqi,hr,jqk,jqj]
theorem Ji {e:jpC}{b r:Nat}{E:List (Value×Value)}(hg:o.guard=none) (m:Operand) (hop:o.op=Op.range t m) (Kk:Keyed P k) (ht:P.underlying t=some (.map k e)) (hm:a.eval m= .map (some b)) (h:Mp P k w b E) (hr:w.heap.size=r)
 (hK:∀ w',Mr P k w' b r E (fun _=>True) E.length->Ext w w'->wpList P ops Q rest (a.put o.dst (.pointer (some ⟨r,0,none⟩))) w'):wpList P ops Q (o::rest) a w:=by
 subst hr;refine wpList_plain hg fun K' hK'=> ?_
 obtain ⟨w1,r1,r2,r3⟩:=h.range Kk ht;unfold Oper.wp;simp [jpY,hop,hm,r1,Result.andThen]
 exact hK' _ _ (hK w1 r2 r3)
theorem JG {α:Type}{L:List α}(kv vv:α->Value){b r cnt:Nat}{lf:Value->Prop}(hg:o.guard=none) (it:Operand) (hop:o.op=Op.next it false) (Kk:Keyed P k) (hit:a.eval it= .pointer (some ⟨r,0,none⟩)) (h:Mr P k w b r (L.map fun x=>(kv x,vv x)) lf cnt)
 (hDone:(∀ x∈L, ¬ lf (kv x))->wpList P ops Q rest (a.put o.dst (.tuple #[.bool false])) w)
 (hMore:∀ x∈L,lf (kv x)->∀ w' cnt',Mr P k w' b r (L.map fun x=>(kv x,vv x)) (fun key=>lf key/\key≠kv x) cnt'->cnt' < cnt->w.grownBy w' (some r)->w'.heap.size=w.heap.size->
   (Instr.entry (.pointer (some ⟨r,0,none⟩))).run P w'= .ok (.tuple #[kv x,vv x]) w'->wpList P ops Q rest (a.put o.dst (.tuple #[.bool true,kv x,vv x])) w'):
 wpList P ops Q (o::rest) a w:=by
 refine wpList_plain hg fun K' hK'=> ?_
 unfold Oper.wp;rcases h.next Kk o.type with ⟨h0,hrun⟩ | ⟨p,hp,hlf,w1,cnt1,hrun,hmr,hlt,hgr,hsz,hen⟩
 ·simp [jpY,hop,hit,hrun,Result.andThen]
  exact hK' _ _ (hDone fun x hx=>h0 _ (jpN.2 ⟨x,hx,rfl⟩))
 ·obtain ⟨x,hx,rfl⟩:=jpN.1 hp;simp [jpY,hop,hit,hrun,Result.andThen]
  exact hK' _ _ (hMore x hx hlf w1 cnt1 hmr hlt hgr hsz hen)
end
structure Ke where
 pk:List UInt8
 n:Int
 k:List UInt8
 wh:Int
def Ke.ok (x:Ke):Prop:=x.pk.length=32/\x.k.length=32/\ -9223372036854775808<=x.n/\x.n<=9223372036854775807
def Ke.ent (x:Ke):Value×Value:=(.agg (knC x.pk x.n).toArray, .agg (knC x.k x.wh).toArray)
def Ke.at (pk:List UInt8) (n:Int) (x:Ke):Bool:=x.pk==pk&&x.n==n
theorem Ke.at_iff {pk:List UInt8}{n:Int}{x:Ke}:x.at pk n=true↔x.pk=pk/\x.n=n:=by simp [Ke.at]
def yZ (L:List Ke) (pk:List UInt8) (n:Int):Bool:=L.any (Ke.at pk n)
def ye (L:List Ke) (pk:List UInt8) (n:Int):Ke:=(L.find? (Ke.at pk n)).getD ⟨[],0,jqn 32 0,0⟩
def yN (L:List Ke) (pk:List UInt8) (n:Int):List Ke:=L.filter fun x=> !x.at pk n
def jeS (L:List Ke) (x:Ke):List Ke:=if L.length < 8 then L++ [x] else L.drop 1++ [x]
def Jt (L:List Ke) (pk:List UInt8) (n:Int):Int:=if n < 0 then 1 else if yZ L pk n then 9 else 0
def jcz (L:List Ke) (x:Ke):List Ke:=if Jt L x.pk x.n=0 then jeS L x else L
structure SK (w:World) (g b:Nat) (L:List Ke) (puts:Int):Prop where
 cb:Cb w g 184 [.map (some b), .int .i64 puts]
 mp:Mp jpx 186 w b (L.map Ke.ent)
 ok:∀ x∈L,x.ok
 inc:L.Pairwise fun x y=>x.wh < y.wh
 lt:∀ x∈L,x.wh < puts
 low:0<=puts
section
variable {w w':World}{g b:Nat}{L:List Ke}{puts:Int}
theorem SK.stay (h:SK w g b L puts) (hg:w'.heap[g]? =w.heap[g]?) (hb:w'.heap[b]? =w.heap[b]?):SK w' g b L puts:=⟨hg.trans h.cb,h.mp.stay hb,h.ok,h.inc,h.lt,h.low⟩
theorem SK.ext (h:SK w g b L puts) (x:Ext w w'):SK w' g b L puts:=h.stay (x.block _ h.cb.lt) (x.block _ h.mp.lt)
theorem SK.ne (h:SK w g b L puts):g≠b:=fun e=>by
 obtain ⟨es,c,q⟩:=h.mp.obj;have:=h.cb;unfold Cb at this;rw [e,q] at this
 cases this
theorem jho {x y:Ke}(hx:x.ok) (hy:y.pk.length=32) (h:x.at y.pk y.n=false):x.ent.1≠y.ent.1:=fun e=>by
 obtain ⟨h1,h2⟩:=jch hx.1 hy e;rw [Ke.at_iff.2 ⟨h1,h2⟩] at h;cases h
theorem SK.apart (h:SK w g b L puts):L.Pairwise fun x y=> ¬(x.pk=y.pk/\x.n=y.n):=by
 have:=h.mp.apart;rw [List.pairwise_map] at this;exact this.imp fun h e=>h (by unfold Ke.ent;rw [e.1,e.2])
theorem ja0 {pk:List UInt8}{n:Int}(h:yZ L pk n=true):ye L pk n∈L/\(ye L pk n).pk=pk/\(ye L pk n).n=n:=by
 obtain ⟨x,hx,hat⟩:=List.any_eq_true.1 h;unfold ye
 cases hf:L.find? (Ke.at pk n) with
 | none=>rw [List.find?_eq_none] at hf;exact absurd hat (hf x hx)
 | some y=>exact ⟨List.mem_of_find?_eq_some hf,Ke.at_iff.1 (List.find?_some hf)⟩
theorem Zs {pk:List UInt8}{n:Int}(h:yZ L pk n=false):ye L pk n=⟨[],0,jqn 32 0,0⟩:=by
 unfold ye;rw [List.find?_eq_none.2 fun x hx q=>by rw [yZ,List.any_eq_false] at h;exact h x hx q]
 rfl
theorem jfe {pk:List UInt8}{n:Int}(hok:∀ x∈L,x.ok):(ye L pk n).k.length=32:=by
 cases h:yZ L pk n
 ·rw [Zs h];rfl
 ·exact (hok _ (ja0 h).1).2.1
theorem SK.look (h:SK w g b L puts){pk:List UInt8}(hp:pk.length=32){n:Int}(hn: -9223372036854775808<=n/\n<=9223372036854775807):
 (Instr.lookup 182 (.map (some b)) (.agg (knC pk n).toArray) true).run jpx w= .ok (.tuple #[.agg (knC (ye L pk n).k (ye L pk n).wh).toArray, .bool (yZ L pk n)]) w:=by
 obtain ⟨kl,hkl⟩:=JU hp hn;have hz:(jpI 188).run jpx w= .ok (.agg (knC (jqn 32 0) 0).toArray) w:=by kernel_rfl
 rcases h.mp.look yV jqG hz hkl with ⟨v,h1,h2,_⟩ | ⟨h1,h2,_⟩
 ·obtain ⟨x,hx,he⟩:=jpN.1 h1;obtain ⟨e1,e2⟩:=Prod.mk.injEq .. ▸ he;obtain ⟨q1,q2⟩:=jch (h.ok x hx).1 hp e1;have hh:yZ L pk n=true:=List.any_eq_true.2 ⟨x,hx,Ke.at_iff.2 ⟨q1,q2⟩⟩;obtain ⟨t1,t2,t3⟩:=ja0 hh;have:v= .agg (knC (ye L pk n).k (ye L pk n).wh).toArray:=jf5 h.mp.apart h1 (jpN.2 ⟨_,t1,by unfold Ke.ent;rw [t2,t3]⟩);rw [h2,hh,this]
 ·have hh:yZ L pk n=false:=by
   cases q:yZ L pk n
   ·rfl
   ·obtain ⟨t1,t2,t3⟩:=ja0 q;exact absurd (by unfold Ke.ent;rw [t2,t3]) (h1 _ (jpN.2 ⟨_,t1,rfl⟩))
  rw [h2,hh,Zs hh]
theorem SK.drop (h:SK w g b L puts){pk:List UInt8}(hp:pk.length=32){n:Int}(hn: -9223372036854775808<=n/\n<=9223372036854775807) (ty:jpC):
 ∃ w',(Builtin.delete_ #[182,186] ty #[.map (some b), .agg (knC pk n).toArray]).run jpx w= .ok (.tuple #[]) w'/\SK w' g b (yN L pk n) puts/\w.grownBy w' (some b):=by
 obtain ⟨kl,hkl⟩:=JU hp hn;have hmem:∀ p∈L.map Ke.ent,p∈(yN L pk n).map Ke.ent↔p.1≠ .agg (knC pk n).toArray:=fun p hq=>by
  obtain ⟨x,hx,rfl⟩:=jpN.1 hq;constructor
  ·intro hm;obtain ⟨y,hy,he⟩:=jpN.1 hm;obtain ⟨hy1,hy2⟩:=List.mem_filter.1 hy;rw [<-he];exact jho (y:=⟨pk,n,[],0⟩) (h.ok y hy1) hp (by simpa using hy2)
  ·intro hne;refine jpN.2 ⟨x,List.mem_filter.2 ⟨hx,?_⟩,rfl⟩
   cases q:x.at pk n
   ·rfl
   ·obtain ⟨e1,e2⟩:=Ke.at_iff.1 q;exact absurd (by unfold Ke.ent;rw [e1,e2]) hne
 have hl:(∀ p∈L.map Ke.ent,p.1≠ .agg (knC pk n).toArray)\/((yN L pk n).map Ke.ent).length+1=(L.map Ke.ent).length:=by
  rw [jqH,jqH];have ap:=h.apart;have hok:=fun x hx=>(h.ok x hx).1
  clear hmem h
  induction L with
  | nil=>left;simp
  | cons x r ih=>
    obtain ⟨a1,a2⟩:=List.pairwise_cons.1 ap;by_cases q:x.at pk n=true
    ·right
     obtain ⟨e1,e2⟩:=Ke.at_iff.1 q;have:yN (x::r) pk n=r:=by
      unfold yN;rw [List.filter_cons_of_neg (by simp [q]),List.filter_eq_self.2 fun y hy=> ?_]
      cases qy:y.at pk n
      ·rfl
      ·obtain ⟨f1,f2⟩:=Ke.at_iff.1 qy;exact absurd ⟨e1.trans f1.symm,e2.trans f2.symm⟩ (a1 y hy)
     rw [this];rfl
    ·have qf:x.at pk n=false:=by simpa using q
     have e:yN (x::r) pk n=x::yN r pk n:=by unfold yN;rw [List.filter_cons_of_pos (by simp [qf])]
     rcases ih a2 (fun y hy=>hok y (jqC _ hy)) with hi | hi
     ·by_cases hx:x.ent.1= .agg (knC pk n).toArray
      ·exfalso
       exact q (Ke.at_iff.2 (jch (hok x (jqB ..)) hp hx))
      ·left
       intro p hp';rcases jpE.1 hp' with rfl | hp'
       ·exact hx
       ·exact hi p hp'
     ·right;rw [e,List.length_cons,List.length_cons,hi]
 obtain ⟨w1,r1,r2,r3⟩:=h.mp.drop yV jqG hkl (List.Sublist.map _ (List.filter_sublist)) hmem hl ty;have hgb:=h.ne;exact ⟨w1,r1,⟨(r3.grown.block g h.cb.lt (fun q=>hgb (jpD q))).trans h.cb,r2,fun x hx=>h.ok x (List.mem_filter.1 hx).1,h.inc.sublist (List.filter_sublist),fun x hx=>h.lt x (List.mem_filter.1 hx).1,h.low⟩,r3.grown⟩
end
end
section
open Go.ChangeShapes Go.WideShapes Go.ChangeAt Go.RowKit Go.Deep
def jj6:Array Value:=(cellsOf (jqn 64 0)).toArray
theorem jf4:jj6.size=64:=by simp [jj6,ja]
theorem yS (w:World):(jpI 31).run jpx w= .ok (.agg (cellsOf (jqn 64 0)).toArray) w:=by kernel_rfl
theorem Zv {xs ys:List UInt8}(hx:xs.length=32) (hy:ys.length=32):Tryz.prog.built 31 [(0, .agg (cellsOf xs).toArray),(1, .agg (cellsOf ys).toArray)]=some (cellsOf (xs++ys)).toArray:=by
 have h:∃ pl:Nat->Option (Nat×Nat),pl 0=some (0,32)/\pl 1=some (32,32)/\∀ ps,Tryz.prog.built 31 ps=jqo pl jj6 ps:=⟨(#[(0,32),(32,32)][·]?),rfl,rfl,fun ps=>by kernel_rfl⟩;obtain ⟨pl,h0,h1,h2⟩:=h;rw [h2,jag pl h0 h1 (by simp [ja,hx]) (by simp [ja,hy]) jf4,Yr,List.append_toArray]
theorem jfX {xs:List UInt8}(h:xs.length=64):∃ a b,xs=a++b/\a.length=32/\b.length=32:=⟨xs.take 32,xs.drop 32,(List.take_append_drop 32 xs).symm,by simp [h],by simp [h]⟩
def Kp (w:World) (g:Nat) (xs:List UInt8):Prop:=w.heap[g]? =some (.cells (cellsOf xs).toArray 31 (0,0))/\xs.length=64
section
variable {w w':World}{g:Nat}{xs ys:List UInt8}
theorem Kp.lt (h:Kp w g xs):g < w.heap.size:=jh h.1
theorem Kp.ext (h:Kp w g xs) (e:Ext w w'):Kp w' g xs:=⟨(e.block g h.lt).trans h.1,h.2⟩
theorem Kp.at0 (h:Kp w g (xs++ys)):∀ j v,(cellsOf xs)[j]? =some v->w.cell? ⟨g,0+j,none⟩=some v:=fun j v hv=>by
 rw [jqe w g _ _ _ _ h.1,jqt,Yr,jpz,jqs (jqx.1 hv).1,hv]
end
end
end Go.Proofs.YtakpgbaijkhpmaaGreatDoor
