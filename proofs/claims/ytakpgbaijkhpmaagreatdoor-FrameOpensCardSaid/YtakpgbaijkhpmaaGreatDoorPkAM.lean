import Derived.Test.YtakpgbaijkhpmaaGreatDoorPkAL
import Derived.Test.YtakpgbaijkhpmaaGreatDoorPkAA
import Derived.Lib.AppendZerosOnto
import Derived.Test.YtakpgbaijkhpmaaGreatDoorPkAH
import Derived.Test.YtakpgbaijkhpmaaGreatDoorPkAI
open And renaming intro→jqS
open Array renaming all_eq_true_iff_forall_mem→jpV,getElem?_toList→jpU
open Go renaming Program→jpB,TypeId→jpC,below_setRow→jqb,bodyPost_ret→jqW,cell_of_row→jqe,execOp→jpY,heap_alloc_new→jqq,results_cell_row→jqX,run_underlying→jql,setRow_heap→jqc,setRow_other→jqy,u32_xor_nat→jq7,zeroValue→jpI
open Go.Builtin renaming append_→jrd
open Go.Exit renaming inBlock→jqV
open Go.IntKind renaming wrap_u32→jp6,wrap_u64→jqT
open Go.IntWalk renaming i64_in→jq0
open Go.Obj renaming cells→jqY
open Go.Proofs.Tryz renaming prog→jpx,underlying33→jpy
open Go.Result renaming andThen_ok→jqk
open Go.RowKit.Below renaming heap_setCell→jp7,refl→jpm,trans→jpn
open Go.Sem renaming run_bind→jqi,run_pure→jqj
open Go.Value renaming int→jpA,ownBlock→jrb
open Go.World.ownsRow renaming lt→jrc
open Int renaming tdiv_eq_ediv_of_nonneg→jq3,tmod_eq_emod_of_nonneg→jq4
open List renaming append_assoc→jqd,drop_of_length_le→jrg,eq_nil_of_length_eq_zero→jpw,ext_getElem→jp8,getD→jpr,getElem?_eq_getElem→jq9,getElem?_eq_none→jqa,getElem?_eq_some_iff→jqx,getElem?_replicate→jq5,getElem?_take→jqf,length_append→jpG,length_map→jqH,length_replicate→jrh,length_set→jp5,length_take→jps,map_append→jqw,map_cons→jqA,map_nil→jqF,map_toArray→jqE,mem_map→jpN,nil_append→jq8,range→jp1,replicate→jqn,size_toArray→jqu,take_left'→jqv,take_of_length_le→jqm,take_succ_eq_append_getElem→jq6
open Nat renaming add_mul→jqZ,add_mul_mod_self_left→jq1,add_zero→jpP,div_div_eq_div_mul→jqQ,div_eq_of_lt→jqR,div_lt_of_lt_mul→jq2,le_of_lt→jqU,le_refl→jpo,le_trans→jp0,lt_of_le_of_lt→jp4,lt_of_lt_of_le→jpq,lt_or_ge→jpu,mod_eq_of_lt→jqM,mod_lt→jp3,mul_assoc→jqJ,mul_comm→jqI,mul_mod→jqL,pow_add→jqK,pow_succ→jqN,zero_add→jpz,zero_le→jpp
open UInt8 renaming ofNat→jpt
namespace Go.Proofs.YtakpgbaijkhpmaaGreatDoor
set_option maxHeartbeats 64000000
set_option linter.unusedSimpArgs false
set_option linter.unusedVariables false
set_option maxRecDepth 100000
section
open Go.ChangeShapes Go.WideShapes Go.ChangeAt Go.RowKit Go.Deep
theorem ZJ (vs:List Nat) (a b x:Nat):vX vs a b x=vs.set a (qF (qF (wd vs a) (wd vs b)) x):=by
 unfold vX qF
 congr 1
 omega
set_option maxRecDepth 100000 in
theorem vO {cap g a b c d x y:Nat}{vs:List Nat}{w:World}(h:Arr w g vs) (hl:vs.length=16) (ha:a < 16) (hb:b < 16) (hc:c < 16) (hd:d < 16) (hx:x < 4294967296) (hy:y < 4294967296):
 Calls jpx 129 #[.slice (some ⟨g,0,none⟩) 16 cap, .int .i64 (a:Int), .int .i64 (b:Int), .int .i64 (c:Int), .int .i64 (d:Int), .int .u32 (x:Int), .int .u32 (y:Int)] w
  fun e w'=>e= .returned (.tuple #[])/\Arr w' g (q9 vs a b c d x y)/\w.grownBy w' (some g):=by
 have ha':(a:Int) < 16:=by omega
 have hb':(b:Int) < 16:=by omega
 have hc':(c:Int) < 16:=by omega
 have hd':(d:Int) < 16:=by omega
 go_enter Tryz.func129,Tryz.ntmps129
 go_wp2_with fail;refine jg (fun w1=>Arr w1 g vs/\w.grownBy w1 (some g)) ⟨h,jV (jnQ _) _⟩ ?_;rintro w0 ⟨A0,G0⟩;have L0:=hl;clear h;obtain ⟨cp,fp,lp⟩:=A0.fct (i:=a) (by omega);obtain ⟨cq,fq,lq⟩:=A0.fct (i:=b) (by omega);have KEEP:Hid (∀ w',Ext w0 w'->w'.cell? ⟨g,a,none⟩=some (.int .u32 (wd vs a:Int))/\w'.cell? ⟨g,b,none⟩=some (.int .u32 (wd vs b:Int))):=fun w' e=>⟨((A0.ext e).fct (by omega)).1,((A0.ext e).fct (by omega)).1⟩
 have u1:IntKind.u32.wrap ((wd vs a:Int)+(wd vs b:Int))=(qF (wd vs a) (wd vs b):Int):=vP;have u2:IntKind.u32.wrap ((qF (wd vs a) (wd vs b):Int)+(x:Int))=(qF (qF (wd vs a) (wd vs b)) x:Int):=vP;refine ym 14 [0,1,2,3,4,5,6,7,8,9,10,11,12,13,14] [14] ?_;repeat (refine qzR _ (fun w' e=>KEEP.out w' ((jnQ _).drew.trans e)) ?_;go_frame)
 refine qzD fun K1 hK1=> ?_
 go_simp;refine hK1.out _ _ (.inl rfl) ?_;clear hK1 K1;refine jN ?_;go_wp2_with fail;refine jg (fun w1=>Arr w1 g (vX vs a b x)/\w.grownBy w1 (some g)) ⟨ZJ vs a b x ▸ (A0.set (by omega) (ve _ _)).ext (jnQ _).drew,qt G0⟩ ?_;rintro w1 ⟨A1,G1⟩;have L1:(vX vs a b x).length=16:=(jnB ..).trans L0;clear A0 G0 L0 cp fp lp cq fq lq KEEP u1 u2;generalize HV0:vX vs a b x=v1 at A1 L1;replace HV0:=Hj HV0;obtain ⟨cp,fp,lp⟩:=A1.fct (i:=d) (by omega);obtain ⟨cq,fq,lq⟩:=A1.fct (i:=a) (by omega);have KEEP:Hid (∀ w',Ext w1 w'->w'.cell? ⟨g,d,none⟩=some (.int .u32 (wd v1 d:Int))/\w'.cell? ⟨g,a,none⟩=some (.int .u32 (wd v1 a:Int))):=fun w' e=>⟨((A1.ext e).fct (by omega)).1,((A1.ext e).fct (by omega)).1⟩
 have u1:bits .xor .u32 (wd v1 d:Int) (wd v1 a:Int)=((wd v1 d^^^wd v1 a:Nat):Int):=jq7 _ _ lp lq;have HR:=Hj (fun w0:World=> @zH 16 (wd v1 d^^^wd v1 a) w0 (jL lp lq) (by omega) (by omega));refine ym 13 [0,1,2,3,4,5,6,7,8,9,10,11,12,13] [11,13] ?_;repeat (refine qzR _ (fun w' e=>KEEP.out w' ((jnQ _).drew.trans e)) ?_;go_frame)
 refine qzD fun K1 hK1=> ?_
 go_simp;refine (HR.out _).mono ?_;rintro e w1 ⟨rfl,k1,rfl⟩;refine hK1.out _ _ (.inr ((jnQ _).drewN k1)) ?_;clear hK1 K1;try go_frame
 repeat (refine qzR _ (fun w' e=>KEEP.out w' (((jnQ _).drew.drewN k1).trans e)) ?_;go_frame)
 refine qzD fun K1 hK1=> ?_
 go_simp;refine hK1.out _ _ (.inl rfl) ?_;clear hK1 K1;refine jN ?_;go_wp2_with fail;refine jg (fun w1=>Arr w1 g (qa 16 v1 d a)/\w.grownBy w1 (some g)) ⟨(A1.ext ((jnQ _).drewN (1+k1))).set (by omega) (yB (jL lp lq)),Qr (jj G1 (jV ((jnQ _).drewN (1+k1)) _)) _ _⟩ ?_;rintro w2 ⟨A2,G2⟩;have L2:(qa 16 v1 d a).length=16:=(yd ..).trans L1;clear A1 G1 L1 cp fp lp cq fq lq KEEP u1 HR;generalize HV1:qa 16 v1 d a=v2 at A2 L2;replace HV1:=Hj HV1;obtain ⟨cp,fp,lp⟩:=A2.fct (i:=c) (by omega);obtain ⟨cq,fq,lq⟩:=A2.fct (i:=d) (by omega);have KEEP:Hid (∀ w',Ext w2 w'->w'.cell? ⟨g,c,none⟩=some (.int .u32 (wd v2 c:Int))/\w'.cell? ⟨g,d,none⟩=some (.int .u32 (wd v2 d:Int))):=fun w' e=>⟨((A2.ext e).fct (by omega)).1,((A2.ext e).fct (by omega)).1⟩
 have u1:IntKind.u32.wrap ((wd v2 c:Int)+(wd v2 d:Int))=(qF (wd v2 c) (wd v2 d):Int):=vP;refine ym 12 [0,1,2,3,4,5,6,7,8,9,10,11,12] [12] ?_;repeat (refine qzR _ (fun w' e=>KEEP.out w' ((jnQ _).drew.trans e)) ?_;go_frame)
 refine qzD fun K1 hK1=> ?_
 go_simp;refine hK1.out _ _ (.inl rfl) ?_;clear hK1 K1;refine jN ?_;go_wp2_with fail;refine jg (fun w1=>Arr w1 g (qu v2 c d)/\w.grownBy w1 (some g)) ⟨(A2.set (by omega) (ve _ _)).ext (jnQ _).drew,qt G2⟩ ?_;rintro w3 ⟨A3,G3⟩;have L3:(qu v2 c d).length=16:=(yq ..).trans L2;clear A2 G2 L2 cp fp lp cq fq lq KEEP u1;generalize HV2:qu v2 c d=v3 at A3 L3;replace HV2:=Hj HV2;obtain ⟨cp,fp,lp⟩:=A3.fct (i:=b) (by omega);obtain ⟨cq,fq,lq⟩:=A3.fct (i:=c) (by omega);have KEEP:Hid (∀ w',Ext w3 w'->w'.cell? ⟨g,b,none⟩=some (.int .u32 (wd v3 b:Int))/\w'.cell? ⟨g,c,none⟩=some (.int .u32 (wd v3 c:Int))):=fun w' e=>⟨((A3.ext e).fct (by omega)).1,((A3.ext e).fct (by omega)).1⟩
 have u1:bits .xor .u32 (wd v3 b:Int) (wd v3 c:Int)=((wd v3 b^^^wd v3 c:Nat):Int):=jq7 _ _ lp lq;have HR:=Hj (fun w0:World=> @zH 12 (wd v3 b^^^wd v3 c) w0 (jL lp lq) (by omega) (by omega));refine ym 13 [0,1,2,3,4,5,6,7,8,9,10,11,12,13] [11,13] ?_;repeat (refine qzR _ (fun w' e=>KEEP.out w' ((jnQ _).drew.trans e)) ?_;go_frame)
 refine qzD fun K1 hK1=> ?_
 go_simp;refine (HR.out _).mono ?_;rintro e w1 ⟨rfl,k1,rfl⟩;refine hK1.out _ _ (.inr ((jnQ _).drewN k1)) ?_;clear hK1 K1;try go_frame
 repeat (refine qzR _ (fun w' e=>KEEP.out w' (((jnQ _).drew.drewN k1).trans e)) ?_;go_frame)
 refine qzD fun K1 hK1=> ?_
 go_simp;refine hK1.out _ _ (.inl rfl) ?_;clear hK1 K1;refine jN ?_;go_wp2_with fail;refine jg (fun w1=>Arr w1 g (qa 12 v3 b c)/\w.grownBy w1 (some g)) ⟨(A3.ext ((jnQ _).drewN (1+k1))).set (by omega) (yB (jL lp lq)),Qr (jj G3 (jV ((jnQ _).drewN (1+k1)) _)) _ _⟩ ?_;rintro w4 ⟨A4,G4⟩;have L4:(qa 12 v3 b c).length=16:=(yd ..).trans L3;clear A3 G3 L3 cp fp lp cq fq lq KEEP u1 HR;generalize HV3:qa 12 v3 b c=v4 at A4 L4;replace HV3:=Hj HV3;obtain ⟨cp,fp,lp⟩:=A4.fct (i:=a) (by omega);obtain ⟨cq,fq,lq⟩:=A4.fct (i:=b) (by omega);have KEEP:Hid (∀ w',Ext w4 w'->w'.cell? ⟨g,a,none⟩=some (.int .u32 (wd v4 a:Int))/\w'.cell? ⟨g,b,none⟩=some (.int .u32 (wd v4 b:Int))):=fun w' e=>⟨((A4.ext e).fct (by omega)).1,((A4.ext e).fct (by omega)).1⟩
 have u1:IntKind.u32.wrap ((wd v4 a:Int)+(wd v4 b:Int))=(qF (wd v4 a) (wd v4 b):Int):=vP;have u2:IntKind.u32.wrap ((qF (wd v4 a) (wd v4 b):Int)+(y:Int))=(qF (qF (wd v4 a) (wd v4 b)) y:Int):=vP;refine ym 14 [0,1,2,3,4,5,6,7,8,9,10,11,12,13,14] [14] ?_;repeat (refine qzR _ (fun w' e=>KEEP.out w' ((jnQ _).drew.trans e)) ?_;go_frame)
 refine qzD fun K1 hK1=> ?_
 go_simp;refine hK1.out _ _ (.inl rfl) ?_;clear hK1 K1;refine jN ?_;go_wp2_with fail;refine jg (fun w1=>Arr w1 g (vX v4 a b y)/\w.grownBy w1 (some g)) ⟨ZJ v4 a b y ▸ (A4.set (by omega) (ve _ _)).ext (jnQ _).drew,qt G4⟩ ?_;rintro w5 ⟨A5,G5⟩;have L5:(vX v4 a b y).length=16:=(jnB ..).trans L4;clear A4 G4 L4 cp fp lp cq fq lq KEEP u1 u2;generalize HV4:vX v4 a b y=v5 at A5 L5;replace HV4:=Hj HV4;obtain ⟨cp,fp,lp⟩:=A5.fct (i:=d) (by omega);obtain ⟨cq,fq,lq⟩:=A5.fct (i:=a) (by omega);have KEEP:Hid (∀ w',Ext w5 w'->w'.cell? ⟨g,d,none⟩=some (.int .u32 (wd v5 d:Int))/\w'.cell? ⟨g,a,none⟩=some (.int .u32 (wd v5 a:Int))):=fun w' e=>⟨((A5.ext e).fct (by omega)).1,((A5.ext e).fct (by omega)).1⟩
 have u1:bits .xor .u32 (wd v5 d:Int) (wd v5 a:Int)=((wd v5 d^^^wd v5 a:Nat):Int):=jq7 _ _ lp lq;have HR:=Hj (fun w0:World=> @zH 8 (wd v5 d^^^wd v5 a) w0 (jL lp lq) (by omega) (by omega));refine ym 13 [0,1,2,3,4,5,6,7,8,9,10,11,12,13] [11,13] ?_;repeat (refine qzR _ (fun w' e=>KEEP.out w' ((jnQ _).drew.trans e)) ?_;go_frame)
 refine qzD fun K1 hK1=> ?_
 go_simp;refine (HR.out _).mono ?_;rintro e w1 ⟨rfl,k1,rfl⟩;refine hK1.out _ _ (.inr ((jnQ _).drewN k1)) ?_;clear hK1 K1;try go_frame
 repeat (refine qzR _ (fun w' e=>KEEP.out w' (((jnQ _).drew.drewN k1).trans e)) ?_;go_frame)
 refine qzD fun K1 hK1=> ?_
 go_simp;refine hK1.out _ _ (.inl rfl) ?_;clear hK1 K1;refine jN ?_;go_wp2_with fail;refine jg (fun w1=>Arr w1 g (qa 8 v5 d a)/\w.grownBy w1 (some g)) ⟨(A5.ext ((jnQ _).drewN (1+k1))).set (by omega) (yB (jL lp lq)),Qr (jj G5 (jV ((jnQ _).drewN (1+k1)) _)) _ _⟩ ?_;rintro w6 ⟨A6,G6⟩;have L6:(qa 8 v5 d a).length=16:=(yd ..).trans L5;clear A5 G5 L5 cp fp lp cq fq lq KEEP u1 HR;generalize HV5:qa 8 v5 d a=v6 at A6 L6;replace HV5:=Hj HV5;obtain ⟨cp,fp,lp⟩:=A6.fct (i:=c) (by omega);obtain ⟨cq,fq,lq⟩:=A6.fct (i:=d) (by omega);have KEEP:Hid (∀ w',Ext w6 w'->w'.cell? ⟨g,c,none⟩=some (.int .u32 (wd v6 c:Int))/\w'.cell? ⟨g,d,none⟩=some (.int .u32 (wd v6 d:Int))):=fun w' e=>⟨((A6.ext e).fct (by omega)).1,((A6.ext e).fct (by omega)).1⟩
 have u1:IntKind.u32.wrap ((wd v6 c:Int)+(wd v6 d:Int))=(qF (wd v6 c) (wd v6 d):Int):=vP;refine ym 12 [0,1,2,3,4,5,6,7,8,9,10,11,12] [12] ?_;repeat (refine qzR _ (fun w' e=>KEEP.out w' ((jnQ _).drew.trans e)) ?_;go_frame)
 refine qzD fun K1 hK1=> ?_
 go_simp;refine hK1.out _ _ (.inl rfl) ?_;clear hK1 K1;refine jN ?_;go_wp2_with fail;refine jg (fun w1=>Arr w1 g (qu v6 c d)/\w.grownBy w1 (some g)) ⟨(A6.set (by omega) (ve _ _)).ext (jnQ _).drew,qt G6⟩ ?_;rintro w7 ⟨A7,G7⟩;have L7:(qu v6 c d).length=16:=(yq ..).trans L6;clear A6 G6 L6 cp fp lp cq fq lq KEEP u1;generalize HV6:qu v6 c d=v7 at A7 L7;replace HV6:=Hj HV6;obtain ⟨cp,fp,lp⟩:=A7.fct (i:=b) (by omega);obtain ⟨cq,fq,lq⟩:=A7.fct (i:=c) (by omega);have KEEP:Hid (∀ w',Ext w7 w'->w'.cell? ⟨g,b,none⟩=some (.int .u32 (wd v7 b:Int))/\w'.cell? ⟨g,c,none⟩=some (.int .u32 (wd v7 c:Int))):=fun w' e=>⟨((A7.ext e).fct (by omega)).1,((A7.ext e).fct (by omega)).1⟩
 have u1:bits .xor .u32 (wd v7 b:Int) (wd v7 c:Int)=((wd v7 b^^^wd v7 c:Nat):Int):=jq7 _ _ lp lq;have HR:=Hj (fun w0:World=> @zH 7 (wd v7 b^^^wd v7 c) w0 (jL lp lq) (by omega) (by omega));refine ym 13 [0,1,2,3,4,5,6,7,8,9,10,11,12,13] [11,13] ?_;repeat (refine qzR _ (fun w' e=>KEEP.out w' ((jnQ _).drew.trans e)) ?_;go_frame)
 refine qzD fun K1 hK1=> ?_
 go_simp;refine (HR.out _).mono ?_;rintro e w1 ⟨rfl,k1,rfl⟩;refine hK1.out _ _ (.inr ((jnQ _).drewN k1)) ?_;clear hK1 K1;try go_frame
 repeat (refine qzR _ (fun w' e=>KEEP.out w' (((jnQ _).drew.drewN k1).trans e)) ?_;go_frame)
 refine qzD fun K1 hK1=> ?_
 go_simp;refine hK1.out _ _ (.inl rfl) ?_;clear hK1 K1;refine jN ?_;go_wp2_with fail;have HM:q9 vs a b c d x y=qa 7 v7 b c:=by
  unfold q9;rw [HV0.out,HV1.out,HV2.out,HV3.out,HV4.out,HV5.out,HV6.out]
 rw [HM];go_end0
 exact ⟨rfl,(A7.ext ((jnQ _).drewN (1+k1))).set (by omega) (yB (jL lp lq)),Qr (jj G7 (jV ((jnQ _).drewN (1+k1)) _)) _ _⟩
theorem Jx {w:World}:
 Calls jpx 96 #[] w fun e w'=>e= .returned (.slice (some ⟨w.heap.size,0,none⟩) 8 8)/\Wr w' w.heap.size 133 qJ/\Ext w w':=by
 go_enter Tryz.func96,Tryz.ntmps96
 go_wp2_with fail;go_ret;exact ⟨rfl,jqq _ _,(jnQ _).alloc _⟩
theorem jec {P:jpB}{w:World}{B:Nat}{t e:jpC}{z:Value}{bytes:Nat}(ht:P.underlying t=some (.slice e)) (hinfo:(P.info? e).map (fun i=>(i.zero,i.size,i.bytes))=some (some z,1,bytes)) (hzs:z.cells.size=1)
 {A A':Option Addr} {n c m c':Nat} {xs news:List Value} (ty:jpC) (h:w.ownsRow B e 1 (.slice A n c) n xs) (hl:news.length=m) (hsrc:0 < m->∃ ad,A'=some ad/\∀ j u,news[j]? =some u->w.cell? (ad.add j)=some u)
 (h1:∀ u∈news,u.oneCell'=true) (hm:(n+m)*bytes<=140737488355328) (hn:n+m<=140737488355328) (hB:B<=w.heap.size):
 ∃ A'' c'' w',(jrd #[t,t] ty #[.slice A n c, .slice A' m c']).run P w= .ok (.slice A'' (n+m) c'') w'/\w'.ownsRow B e 1 (.slice A'' (n+m) c'') (n+m) (xs++news)/\w.grownBy w' (jrb (.slice A n c))/\
   (jrb (.slice A'' (n+m) c'')=jrb (.slice A n c)\/jrb (.slice A'' (n+m) c'')=some w.heap.size):=by
 obtain ⟨i,hi,hz0,hz1,hz2⟩:=info_parts hinfo;rcases A' with _ | a
 ·have hm0:m=0:=by
   rcases Nat.eq_zero_or_pos m with h0 | h0
   ·exact h0
   ·obtain ⟨ad,e,_⟩:=hsrc h0
    cases e
  subst hm0;have hy:=jpw hl;subst hy;refine ⟨A,c,w,?_,by simpa using h,⟨rfl,rfl,rfl,jpo _,fun _ _ _=>rfl⟩, .inl rfl⟩;rcases h.2 with ⟨hv,hn⟩ | ⟨g,cap,cur,hv,_,_,hnc,_⟩
  ·rw [hv];subst hn
   injection hv with q1 _ q3
   subst q1 q3;simp [jrd,jql ht,sizeOf,typeInfo,hi,Builtin.lenOf,Builtin.firstCells]
  ·rw [hv]
   injection hv with q1 _ q3
   subst q1 q3;simp [jrd,jql ht,sizeOf,typeInfo,hi,Builtin.lenOf,Builtin.firstCells,hnc,storeCells]
 ·have hsrc':∀ j u,news[j]? =some u->w.cell? (a.add j)=some u:=fun j u hu=>by
   have hj:j < news.length:=(jqx.1 hu).1;obtain ⟨ad,e,hc⟩:=hsrc (by omega)
   injection e with e
   subst e;exact hc j u hu
  obtain ⟨v',w',hrun,ho,hg,_,hown⟩:=run_append_own_at (P:=P) w B t ty e i z 1 bytes ht hi hz0 hz1 hz2 hzs (by decide) (.slice A n c) n xs h a m c' news (by rw [hl,Nat.mul_one]) hsrc' h1 (by unfold maxLen;omega) hm hB;rcases ho.2 with ⟨hv,hn0⟩ | ⟨g,cap,cur,hv,_⟩
  ·subst hv;refine ⟨none,0,w',by rw [hrun,hn0],by rw [hn0] at ho ⊢;exact ho,hg,?_⟩;rcases hown with q | q
   ·exact .inl q
   ·exact .inr q
  ·subst hv;exact ⟨_,_,w',hrun,ho,hg,hown⟩
theorem jkk:(Tryz.prog.info? 133).map (fun i=>(i.zero,i.size,i.bytes))=some (some (.int .u32 0),1,4):=by kernel_rfl
def Ws (w:World) (A:Option Addr) (n:Nat) (vs:List Nat):Prop:=vs.length=n/\(0 < n->∃ b off,A=some ⟨b,off,none⟩/\b < w.heap.size/\∀ j,j < n->w.cell? ⟨b,off+j,none⟩=some (.int .u32 (wd vs j:Int)))
theorem Ws.ext {w w':World}{A:Option Addr}{n:Nat}{vs:List Nat}(h:Ws w A n vs) (e:Ext w w'):Ws w' A n vs:=⟨h.1,fun h0=>by
 obtain ⟨b,off,q,hb,hc⟩:=h.2 h0;exact ⟨b,off,q,jpq hb e.size,fun j hj=>(e.cell hb).trans (hc j hj)⟩⟩
def OwnW (B:Nat) (w:World) (A:Option Addr) (n c:Nat) (vs:List Nat):Prop:=w.ownsRow B 133 1 (.slice A n c) n (jb vs)
section
variable {w w':World}{B:Nat}{A:Option Addr}{n c:Nat}{vs:List Nat}
theorem OwnW.nil (B:Nat) (w:World):OwnW B w none 0 0 []:=World.ownsRow_nil w B _ 1
theorem OwnW.empty (w:World) (B:Nat) (hB:B<=w.heap.size):OwnW B (w.alloc (.cells #[] 133)) (some ⟨w.heap.size,0,none⟩) 0 0 []:=World.ownsRow_lit (e:=133) (size:=1) w #[] 0 hB (jpp _) rfl
theorem OwnW.len (h:OwnW B w A n c vs):vs.length=n:=by simpa [jb] using h.1
theorem OwnW.ge (h:OwnW B w A n c vs):∀ g,jrb (.slice A n c)=some g->B<=g:=fun g hg=>(jrc h g hg).1
theorem OwnW.ext (h:OwnW B w A n c vs) (he:Ext w w'):OwnW B w' A n c vs:=by
 refine ⟨h.1,?_⟩;rcases h.2 with h | ⟨g,cap,cur,hv,hb,hg,r⟩
 ·exact .inl h
 ·exact .inr ⟨g,cap,cur,hv,hb,(he.block g (jh hg)).trans hg,r⟩
theorem OwnW.ws (h:OwnW B w A n c vs):Ws w A n vs:=by
 have hl:=h.len;refine ⟨hl,fun h0=> ?_⟩;rcases h.2 with ⟨hv,hn⟩ | ⟨g,cap,cur,hv,hb,hg,hnc,hcm,hcs,htk⟩
 ·omega
 ·injection hv with h1 h2 h3
  subst h1 h3;refine ⟨g,0,rfl,jh hg,fun j hj=> ?_⟩;rw [jpz];have e:(jb vs)[j]? =cur[j]? :=by
   rw [<-htk,jqf,if_pos (by omega),jpU]
  have e2:(jb vs)[j]? =some (.int .u32 (wd vs j:Int)):=by simp [jb,wd,jpr,show j < vs.length by omega]
  rw [e2] at e;simp [World.cell?,hg,<-e]
end
theorem QT {w:World}{o:Oper}{a:Act}{K:Act->World->Prop}{Q:Exit->Act->World->Prop}{B:Nat}{A A':Option Addr}{n c m c':Nat}{us vs:List Nat}{s x:Operand}
 (ho:o.op= .call {callee:= .builtin .append,args:= #[s,x],argTypes:= #[195,195]}) (hs:a.eval s= .slice A n c) (hx:a.eval x= .slice A' m c')
 (h:OwnW B w A n c us) (hr:Ws w A' m vs) (hm:n+m<=1000000) (hB:B<=w.heap.size)
 (hK:∀ A'' c'' w',OwnW B w' A'' (n+m) c'' (us++vs)->w.grownBy w' (jrb (.slice A n c))->Below B w w'->K (a.put o.dst (.slice A'' (n+m) c'')) w'):o.wp jpx a w K Q:=by
 obtain ⟨A'',c'',w',hrun,h2,h3,h4⟩:=jec (c':=c') Tryz.underlying195 jkk rfl o.type h (news:=jb vs) (m:=m) (A':=A') (by rw [<-hr.1];simp [jb]) (fun h0=>by
  obtain ⟨b,off,q,hb,hc⟩:=hr.2 h0;refine ⟨⟨b,off,none⟩,q,fun j u hu=> ?_⟩;have hj:j < vs.length:=by
   have:=(jqx.1 hu).1
   simpa [jb] using this
  have e2:(jb vs)[j]? =some (.int .u32 (wd vs j:Int)):=by simp [jb,wd,jpr,hj]
  have hplain:(⟨b,off,none⟩:Addr).add j=⟨b,off+j,none⟩:=by unfold Addr.add;split <;> simp_all
  rw [hplain,hc j (by rw [<-hr.1];exact hj),<-e2,hu]) (fun u hu=>by
  obtain ⟨x,_,rfl⟩:=jpN.1 hu
  rfl) (by omega) (by omega) hB
 unfold Oper.wp jpY;simp only [ho,resolve,invoke,builtin,jqi,jqj,jqk,jqE,jqA,jqF,hs,hx,hrun];refine hK A'' c'' w' ?_ h3 ((jpm B w).grown h3 hB h.ge);unfold OwnW;have:jb (us++vs)=jb us++jb vs:=by simp [jb]
 rw [this];exact h2
theorem zC {w:World}{ops:Array Oper}{rest:List Oper}{o:Oper}{a:Act}{Q:Exit->Act->World->Prop}(hgd:o.guard=none){B:Nat}{A A':Option Addr}{n c m c':Nat}{us vs:List Nat}{s x:Operand}
 (ho:o.op= .call {callee:= .builtin .append,args:= #[s,x],argTypes:= #[195,195]}) (hs:a.eval s= .slice A n c) (hx:a.eval x= .slice A' m c')
 (h:OwnW B w A n c us) (hr:Ws w A' m vs) (hm:n+m<=1000000) (hB:B<=w.heap.size)
 (hK:∀ A'' c'' w',OwnW B w' A'' (n+m) c'' (us++vs)->w.grownBy w' (jrb (.slice A n c))->Below B w w'->wpList jpx ops Q rest (a.put o.dst (.slice A'' (n+m) c'')) w'):wpList jpx ops Q (o::rest) a w:=
 wpList_plain hgd fun _ hK'=>QT ho hs hx h hr hm hB fun A'' c'' w' h2 h3 h4=>hK' _ _ (hK A'' c'' w' h2 h3 h4)
theorem Ws.one (w:World) (t:jpC) (x:Nat):Ws (w.alloc (.cells #[.int .u32 (x:Int)] t)) (some ⟨w.heap.size,0,none⟩) 1 [x]:=by
 refine ⟨rfl,fun _=>⟨w.heap.size,0,rfl,by rw [je];omega,fun j hj=> ?_⟩⟩;obtain rfl:j=0:=by omega
 rw [jqe _ _ _ _ _ (0,0) (jqq _ _)]
 rfl
theorem OwnW.arr {B:Nat}{w:World}{A:Option Addr}{n c:Nat}{vs:List Nat}(h:OwnW B w A n c vs) (h0:0 < n) (hlt:∀ i,i < n->wd vs i < 4294967296):∃ g,A=some ⟨g,0,none⟩/\B<=g/\Arr w g vs:=by
 have hl:=h.len;rcases h.2 with ⟨hv,hn⟩ | ⟨g,cap,cur,hv,hb,hg,hnc,hcm,hcs,htk⟩
 ·omega
 ·injection hv with h1 h2 h3
  subst h1 h3;refine ⟨g,rfl,hb,jh hg,fun j hj=>⟨?_,frozen_of_row w g j cur _ hg,hlt j (by omega)⟩⟩;have e:(jb vs)[j]? =cur[j]? :=by
   rw [<-htk,jqf,if_pos (by omega),jpU]
  have e2:(jb vs)[j]? =some (.int .u32 (wd vs j:Int)):=by simp [jb,wd,jpr,hj]
  rw [e2] at e;simp [World.cell?,hg,<-e]
theorem jfY {vs:List Nat}{k:Nat}(h:k < vs.length):vs.take k++ [wd vs k]=vs.take (k+1):=by
 rw [jq6 h];simp [wd,jpr,h]
theorem Ws.of_wr {w:World}{g n:Nat}{t:jpC}{vs:List Nat}(h:Wr w g t vs) (hn:vs.length=n):Ws w (some ⟨g,0,none⟩) n vs:=
 ⟨hn,fun _=>⟨g,0,rfl,h.lt,fun j hj=>by rw [jpz];exact h.cell (by omega)⟩⟩
theorem jdn {xs:List UInt8}{k:Nat}(h:k < xs.length):vF (xs.drop k)=bt xs k+256*vF (xs.drop (k+1)):=by
 rw [List.drop_eq_getElem_cons h,vF];simp [bt,jpr,h]
def vW (xs:List UInt8) (m k:Nat):Nat:=vF ((xs.take m).drop k)
theorem jau {xs:List UInt8}{m k:Nat}(hk:k < m) (hm:m<=xs.length):vW xs m k=bt xs k+256*vW xs m (k+1):=by
 unfold vW;rw [jdn (by rw [jps];omega),YU hk]
theorem jcq {xs:List UInt8}{m k:Nat}(hm:m<=xs.length) (h8:m<=8) (hk:1<=k):vW xs m k < 72057594037927936:=by
 unfold vW;refine jpq (Yd _) (Nat.pow_le_pow_right (by omega) (show _<=7 from ?_));rw [List.length_drop,jps];omega
theorem jaI {A:Option Addr}{n c:Nat}{m:Nat}{xs:List UInt8}{w:World}(h:Bs w A n c xs) (hm8:m<=8) (hmn:m<=n) (hM:(if (8:Int) < (n:Int) then 8 else (n:Int))=(m:Int)):
 Calls jpx 127 #[.slice A n c] w fun e w'=>e= .returned (.int .u64 (vF (xs.take m):Int))/\w'=w:=by
 have h1:=h.le;have h2:=h.cap;have hz:vW xs m m=0:=by unfold vW;rw [jrg (by rw [jps];omega)];rfl
 have hz':=Hj hz;clear hz;go_enter Tryz.func127,Tryz.ntmps127
 go_wp2
 clear hM;go_loop [3,4] (fun x i=>∃ k:Nat,k<=m/\i= .int .i64 ((k:Int) - 1)/\x= .int .u64 (vW xs m k:Int)) (fun _ i=>(intOf i+1).toNat)
 case atStart=>exact ⟨m,jpo _,rfl,by rw [hz'.out];rfl⟩
 case round=>
  obtain ⟨k,hk,rfl,rfl⟩:=hrel;rcases Nat.eq_zero_or_pos k with rfl | hpos
  ·go_wp2
   go_ret;exact ⟨jjz (by unfold vW;rw [List.drop_zero]),rfl⟩
  ·obtain ⟨j,rfl⟩:∃ j,k=j+1:=⟨k - 1,by omega⟩;obtain ⟨b,off,rfl,hb,hc⟩:=h.pos (by omega);have g1:=hc j (by omega);have hbt:=vL xs j;have hlt2:=jcq (xs:=xs) (m:=m) (k:=j+1) (by rw [h.len];omega) hm8 (by omega);have hst:Hid ((vW xs m (j+1):Int)*256+(bt xs j:Int)=(vW xs m j:Int)):=by
    unfold Hid;rw [jau (show j < m by omega) (by rw [h.len];omega)];omega
   clear hc;go_wp2
   exact ⟨⟨j,by omega,rfl,congrArg (jpA .u64) hst.out⟩,by simp [intOf]⟩
def jfq (vs:List Nat) (w:World) (e:Ending) (w':World):Prop:=∃ A c,e= .returned (.slice A vs.length c)/\Ws w' A vs.length vs/\Ext w w'
theorem jbT {xs:List UInt8}{n j:Nat}(h:j < n):wd (qZ xs n) j=zA xs j:=by simp [wd,qZ,jpr,h]
theorem ji2 {hs V:List Nat}{j:Nat}(h:j < 8):wd (ZW hs V) j=wd hs j^^^(wd V j^^^wd V (j+8)):=by simp [wd,ZW,jpr,h]
set_option maxRecDepth 100000 in
theorem Qh {A B:Option Addr}{c cb t:Nat}{hs:List Nat}{xs:List UInt8}{last:Bool}{w:World}(hh:Ws w A 8 hs) (hx:Bs w B 64 cb xs) (ht:t < 4294967296000000) (hb:Lt32 hs):
 Calls jpx 98 #[.slice A 8 c, .slice B 64 cb, .int .i64 (t:Int), .bool last] w (jfq (vp hs xs t last) w):=by
 have hl:=hh.1;replace hh:=Hj hh;have hxl:=hx.len;have hc1:=hx.le;have hc2:=hx.cap;replace hx:=Hj hx;replace hb:=Hj hb;have CL:=yh hs xs t last;have CD:Hid (vp hs xs t last=ZW hs (vG (qZ xs 16) (vY hs t last) 10)):=rfl;unfold jfq;rw [CL];generalize vp hs xs t last=R at *;go_enter Tryz.func98,Tryz.ntmps98
 go_wp2_with (at_builtin;(with_reducible refine zC rfl (B:=w.heap.size) (s:= .tmp 17) (x:= .tmp 18) rfl rfl rfl (OwnW.empty w _ (jpo _)) (hh.out.ext ((jnQ _).alloc _)) (by omega) (by simp) ?_);intro A1 c1 w1 o1 g1 b1;simp only [jpz,jq8] at o1 ⊢;replace o1:=Hj o1;have e1:Hid (Ext w w1):=jpn ((jnQ w).alloc _) b1;clear g1 b1;go_frame)
 refine Jx.mono ?_;rintro e w2 ⟨rfl,r2,e2⟩;have f2:=Hj (Ws.of_wr r2 (show qJ.length=8 from rfl));have o2:=Hj (o1.out.ext e2);have E2:Hid (Ext w w2):=e1.out.trans e2;clear o1 e1 r2 e2;go_upto_region 2 with (at_builtin;(with_reducible refine zC rfl (B:=w.heap.size) (s:= .tmp 19) (x:= .tmp 20) rfl rfl rfl o2.out f2.out (by omega) E2.out.size ?_);intro A3 c3 w3 o3 g3 b3;simp only [Nat.reduceAdd] at o3 ⊢;replace o3:=Hj o3;replace b3:=Hj b3;clear g3;go_frame)
 have I0:=hb.out.append zZ;obtain ⟨gv,rfl,hgv,av⟩:=o3.out.arr (by omega) (fun i _=>I0 i);have E3:Ext w w3:=jpn E2.out b3.out;refine jg (fun W=>Ext w W/\Arr W gv (hs++qJ)) ⟨E3,av⟩ ?_;clear E2 o2 f2 o3 b3 av E3;rintro W ⟨E0,AV⟩;have vl:(hs++qJ).length=16:=by rw [jpG,hl];rfl
 obtain ⟨v0,hv0⟩:=ex_ (hs++qJ);have hS:∀ last,vY hs t last=bif last then ((v0.set 12 (wd v0 12^^^t % 4294967296)).set 13 (wd v0 13^^^t / 4294967296)).set 14 (4294967295^^^wd v0 14) else (v0.set 12 (wd v0 12^^^t % 4294967296)).set 13 (wd v0 13^^^t / 4294967296):=fun last=>by
  subst hv0;rfl
 rw [<-hv0] at AV vl;rw [<-hv0] at I0;replace hS:=Hj hS;replace hv0:=Hj hv0;have l12:=I0 12;have l13:=I0 13;have l14:=I0 14;have x12:bits .xor .u32 (wd v0 12:Int) ((t:Int) % 4294967296)=((wd v0 12^^^t % 4294967296:Nat):Int):=by
  rw [show (t:Int) % 4294967296=((t % 4294967296:Nat):Int) by omega];exact jq7 _ _ l12 (jp3 _ (by decide))
 have x13:bits .xor .u32 (wd v0 13:Int) ((t:Int) / 4294967296)=((wd v0 13^^^t / 4294967296:Nat):Int):=by
  rw [show (t:Int) / 4294967296=((t / 4294967296:Nat):Int) by omega];exact jq7 _ _ l13 (by omega)
 have x14:bits .xor .u32 IntKind.u32.max (wd v0 14:Int)=((4294967295^^^wd v0 14:Nat):Int):=jq7 4294967295 _ (by decide) l14;have m1:(t:Int) / 4294967296 < 4294967296:=by omega
 have SL:Hid (∀ last,Lt32 (vY hs t last)):=fun last=>hb.out.start (by omega) last
 have SN:Hid (∀ last,(vY hs t last).length=16):=fun last=>jaT hl
 replace I0:=Hj I0;obtain ⟨c12,f12,_⟩:=AV.2 12 (by omega);obtain ⟨c13,f13,_⟩:=AV.2 13 (by omega);go_upto_if 40 with (fail)
 have B12:wd v0 12^^^t % 4294967296 < 4294967296:=jL l12 (jp3 t (by decide));have B13:wd v0 13^^^t / 4294967296 < 4294967296:=jL l13 (by omega);refine jg (fun W'=>Ext w W'/\Arr W' gv (vY hs t false)) ⟨(E0.setCell hgv _).setCell hgv _,by rw [hS.out];exact (AV.set (by omega) B12).set (by rw [jp5];omega) B13⟩ ?_;have hT:Hid (vY hs t true=(vY hs t false).set 14 (4294967295^^^wd (vY hs t false) 14)):=by
  have h9:wd (vY hs t false) 14=wd v0 14:=by
   rw [hS.out];simp only [cond_false];rw [j8 (by rw [jp5];omega),if_neg (by omega),j8 (by omega),if_neg (by omega)]
  unfold Hid;rw [h9,hS.out,hS.out]
  rfl
 clear AV E0 c12 f12 c13 f13 x12 x13 x14 l12 l13 l14 B12 B13 m1 vl I0 hS hv0;clear W;rintro W ⟨E0,AV⟩;go_cut [40] (fun _ wx=>Ext w wx/\Arr wx gv (vY hs t last))
 case first=>
  have l14:=(SL.out false) 14;have vl:=SN.out false;generalize hv2:vY hs t false=v2 at *;replace hv2:=Hj hv2
  cases last
  ·replace AV:=Hj AV;replace E0:=Hj E0;go_wp2_with fail;go_meet
   exact ⟨E0.out,by rw [hv2.out];exact AV.out⟩
  ·have x14:bits .xor .u32 IntKind.u32.max (wd v2 14:Int)=((4294967295^^^wd v2 14:Nat):Int):=jq7 4294967295 _ (by decide) l14;have B14:Hid (4294967295^^^wd v2 14 < 4294967296):=jL (by decide) l14;obtain ⟨c14,f14,_⟩:=AV.2 14 (by omega);replace AV:=Hj AV;replace E0:=Hj E0;go_wp2_with fail;go_meet
   exact ⟨E0.out.setCell hgv _,by rw [hT.out];exact AV.out.set (by omega) B14.out⟩
 case rest=>
  obtain ⟨E1,A1v⟩:=hcut;have sl:=SN.out last;have sb:=Hj (SL.out last);generalize hv1:vY hs t last=v1 at *;replace hv1:=Hj hv1;clear E0 AV SL SN hT;replace A1v:=Hj A1v;replace E1:=Hj E1;go_wp2_with fail;go_loopw [10,11] (fun v i wr=>∃ (k:Nat) (D:Option Addr) (cc:Nat),k<=16/\i= .int .i64 k/\v= .slice D k cc/\OwnW wc.heap.size wr D k cc ((qZ xs 16).take k)/\Ext wc wr) (fun _ i _=>16 - (intOf i).toNat)
  case atStart=>exact ⟨0,none,0,jpp _,rfl,rfl,OwnW.nil _ _,jnQ _⟩
  case round=>
   obtain ⟨k,D,cc,hk,rfl,rfl,ho,he⟩:=hrel;by_cases hlt:k < 16
   ·have TK:=Hj (jfY (vs:=qZ xs 16) (k:=k) (by simp [qZ];omega));rw [jbT hlt] at TK;have pl:=J0 xs k;have hcv:IntKind.u32.wrap (zA xs k:Int)=(zA xs k:Int):=by rw [jp6];omega
    have HX:=Hj (hx.out.ext (E1.out.trans he));have OFL:Hid (∀ A',Bs wr A' 4 (cb - 4*k) ((xs.take (4*k+4)).drop (4*k))->Calls jpx 127 #[.slice A' 4 (cb - 4*k)] wr fun e w'=>e= .returned (.int .u64 (zA xs k:Int))/\w'=wr):=fun A' b=>by
     have h9:=jaI (m:=4) b (by omega) (by omega) (by decide);have:((xs.take (4*k+4)).drop (4*k)).take 4=(xs.drop (4*k)).take 4:=by
      rw [List.drop_take,List.take_take]
      congr 1
      omega
     rw [this] at h9;exact h9
    replace ho:=Hj ho;replace he:=Hj he;have hz:=he.out.size;generalize zA xs k=pk at *;obtain ⟨q,hq⟩:=ex_ (4*k);rw [<-hq] at OFL;have i1:(4:Int)*(k:Int)=(q:Int):=by omega
    have q1:q+4<=64:=by omega
    have q2:q+4 - q=4:=by omega
    replace hq:=Hj hq;go_wp2_with ((with_reducible refine ZR rfl (x:= .tmp 52) (lo:= .tmp 54) (hi:= .tmp 57) (k:=q) (h:=q+4) rfl rfl rfl rfl (by omega) (by omega) q1 hc1 ?_);intro A3 h3;replace h3:=Hj h3;rw [q2] at h3 ⊢;go_frame)
    refine (OFL.out A3 (h3.out _ _ HX.out)).mono ?_;rintro e w4 ⟨rfl,rfl⟩;clear OFL h3 i1 q2;go_wp2_with (at_builtin;(with_reducible refine zC rfl (B:=wc.heap.size) (s:= .tmp 51) (x:= .tmp 61) rfl rfl rfl (ho.out.ext ((jnQ _).alloc _)) (Ws.one _ _ _) (by omega) (jp0 hz (by simp)) ?_);intro A5 c5 w5 o5 g5 b5;replace o5:=Hj o5;replace b5:=Hj b5;clear g5;go_frame)
    refine ⟨⟨k+1,A5,c5,by omega,by go_num,rfl,?_,jpn (he.out.alloc _) b5.out⟩,by simp [intOf];omega⟩;rw [<-TK.out];exact o5.out
   ·obtain rfl:k=16:=by omega
    rw [show ((16:Nat):Int)=16 from rfl];have hm:(qZ xs 16).take 16=qZ xs 16:=jqm (by simp [qZ]);rw [hm] at ho;clear hm;have HM:(qZ xs 16).length=16:=by simp [qZ]
    have HMb:Hid (∀ j,j < 16->wd (qZ xs 16) j < 4294967296):=fun j hj=>by
     rw [jbT hj];exact J0 _ _
    generalize hM:qZ xs 16=ms at *;replace hM:=Hj hM;obtain ⟨gm,rfl,hgm,am⟩:=ho.arr (by omega) (fun i hi=>HMb.out i hi);have am':=Hj (am.ext (jnQ _));replace am:=Hj am;have avr:=Hj (A1v.out.ext he);have glt:gv < wc.heap.size:=A1v.out.1;have hhr:=Hj (hh.out.ext (E1.out.trans he));have Er:=Hj (E1.out.trans he);clear ho hx am';go_wp2_with fail;refine jbl.mono ?_;rintro e wB ⟨s0,rfl,hs0,hrw,eB⟩;have hs9:wr.heap.size<=s0:=hs0;have z1:=he.size;have gvm:gm < wr.heap.size:=am.out.1;have ALL:Hid (∀ w',wB.grownBy w' (some gv)->(∀ k,k < 10->∀ j,j < 16->w'.cell? ⟨s0+k,j,none⟩=some (.int .i64 (pm k j:Int)))/\(∀ j,j < 16->w'.cell? ⟨gm,j,none⟩=some (.int .u32 (wd ms j:Int)))/\(∀ k,k < 10->w'.cell? ⟨s0+10,k,none⟩=some (.slice (some ⟨s0+k,0,none⟩) 16 16))):=fun w' e=>by
     have cc:∀ (b o:Nat),b < wB.heap.size->b≠gv->w'.cell? ⟨b,o,none⟩=wB.cell? ⟨b,o,none⟩:=fun b o hb hne=>by
      unfold World.cell?;simp only;rw [e.block b hb (fun q=>by injection q with q;exact hne q)]
     have hw:=hrw.1;refine ⟨fun k hk j hj=> ?_,fun j hj=> ?_,fun k hk=> ?_⟩
     ·rw [cc _ _ (by omega) (by omega)];exact (hrw.2 k hk).2 j hj
     ·rw [cc _ _ (jpq gvm eB.size) (by omega)];exact ((am.out.ext eB).2 j (by rw [HM];exact hj)).1
     ·rw [cc _ _ hw (by omega)];exact (hrw.2 k hk).1
    have AVB:=Hj (avr.out.ext eB);have EB:=Hj (Er.out.trans eB);have HB:True:=trivial;clear eB Er avr hhr hrw hs9 z1 gvm he am E1 A1v hs0 HB;go_wp2_with fail;go_loopw [13] (fun i wr=>∃ k:Nat,k<=10/\i= .int .i64 k/\wB.grownBy wr (some gv)/\Arr wr gv (vG ms v1 k)) (fun i _=>10 - (intOf i).toNat)
    case atStart=>exact ⟨0,jpp _,rfl,jV (jnQ _) _,AVB.out⟩
    case round=>
     obtain ⟨k,hk,rfl,GR,AV⟩:=hrel;have VL:(vG ms v1 k).length=16:=jg2 sl k;by_cases hlt:k < 10
     ·have HSUC:=Hj (Yc ms v1 k);generalize hvk:vG ms v1 k=vk at AV VL HSUC;clear hvk;have cs:=(ALL.out _ GR).2.2 k hlt;have ik:(k:Int) < 10:=by omega
      go_upto_region 16 with fail;refine jg (fun W'=>wB.grownBy W' (some gv)/\Arr W' gv vk) ⟨GR,AV⟩ ?_;clear GR AV cs;rintro W ⟨GR,AV⟩;have lp:(pm k 0:Int) < 16:=by have:=jA k 0;omega
      have lq:(pm k 1:Int) < 16:=by have:=jA k 1;omega
      have KEEP:Hid (∀ w',W.grownBy w' (some gv)->w'.cell? ⟨s0+k,0,none⟩=some (.int .i64 (pm k 0:Int))/\w'.cell? ⟨s0+k,1,none⟩=some (.int .i64 (pm k 1:Int))/\w'.cell? ⟨gm,pm k 0,none⟩=some (.int .u32 (wd ms (pm k 0):Int))/\w'.cell? ⟨gm,pm k 1,none⟩=some (.int .u32 (wd ms (pm k 1):Int))):=fun w' e=>⟨(ALL.out w' (jj GR e)).1 k hlt 0 (by omega),(ALL.out w' (jj GR e)).1 k hlt 1 (by omega),(ALL.out w' (jj GR e)).2.1 _ (jA _ _),(ALL.out w' (jj GR e)).2.1 _ (jA _ _)⟩
      replace GR:=Hj GR;replace AV:=Hj AV;refine qgW gv [0,1,2,3,4,5,6,7,8,9,10,11,12,13] [13] ?_;repeat ((first | refine qR _ (fun w' e=>KEEP.out w' (jj (jV (jnQ _).drew _) e)) ?_ | refine qS ?_);go_frame)
      refine qD fun K hK=> ?_
      go_simp;refine (vO (AV.out.ext (jnQ _).drew) VL (a:=0) (b:=4) (c:=8) (d:=12) (by omega) (by omega) (by omega) (by omega) (HMb.out _ (jA _ _)) (HMb.out _ (jA _ _))).mono ?_;rintro e w2 ⟨rfl,A2,G2⟩;refine hK.out _ _ G2 ?_;clear hK K;try go_frame
      refine jp ?_;go_wp2_with fail;refine jg (fun W'=>wB.grownBy W' (some gv)/\Arr W' gv (q9 vk 0 4 8 12 (wd ms (pm k 0)) (wd ms (pm k 1)))) ⟨jj GR.out (jj (jV (jnQ _).drew _) G2),A2⟩ ?_;clear A2 G2 KEEP GR AV;clear W;rintro W ⟨GR,AV⟩;have VL':=(vD vk 0 4 8 12 (wd ms (pm k 0)) (wd ms (pm k 1))).trans VL;clear VL;generalize HV0:q9 vk 0 4 8 12 (wd ms (pm k 0)) (wd ms (pm k 1))=u0 at AV VL';replace HV0:=Hj HV0;have VL:=VL';clear VL' lp lq;have lp:(pm k 2:Int) < 16:=by have:=jA k 2;omega
      have lq:(pm k 3:Int) < 16:=by have:=jA k 3;omega
      have KEEP:Hid (∀ w',W.grownBy w' (some gv)->w'.cell? ⟨s0+k,2,none⟩=some (.int .i64 (pm k 2:Int))/\w'.cell? ⟨s0+k,3,none⟩=some (.int .i64 (pm k 3:Int))/\w'.cell? ⟨gm,pm k 2,none⟩=some (.int .u32 (wd ms (pm k 2):Int))/\w'.cell? ⟨gm,pm k 3,none⟩=some (.int .u32 (wd ms (pm k 3):Int))):=fun w' e=>⟨(ALL.out w' (jj GR e)).1 k hlt 2 (by omega),(ALL.out w' (jj GR e)).1 k hlt 3 (by omega),(ALL.out w' (jj GR e)).2.1 _ (jA _ _),(ALL.out w' (jj GR e)).2.1 _ (jA _ _)⟩
      replace GR:=Hj GR;replace AV:=Hj AV;refine qgW gv [0,1,2,3,4,5,6,7,8,9,10,11,12,13] [13] ?_;repeat ((first | refine qR _ (fun w' e=>KEEP.out w' (jj (jV (jnQ _).drew _) e)) ?_ | refine qS ?_);go_frame)
      refine qD fun K hK=> ?_
      go_simp;refine (vO (AV.out.ext (jnQ _).drew) VL (a:=1) (b:=5) (c:=9) (d:=13) (by omega) (by omega) (by omega) (by omega) (HMb.out _ (jA _ _)) (HMb.out _ (jA _ _))).mono ?_;rintro e w2 ⟨rfl,A2,G2⟩;refine hK.out _ _ G2 ?_;clear hK K;try go_frame
      refine jp ?_;go_wp2_with fail;refine jg (fun W'=>wB.grownBy W' (some gv)/\Arr W' gv (q9 u0 1 5 9 13 (wd ms (pm k 2)) (wd ms (pm k 3)))) ⟨jj GR.out (jj (jV (jnQ _).drew _) G2),A2⟩ ?_;clear A2 G2 KEEP GR AV;clear W;rintro W ⟨GR,AV⟩;have VL':=(vD u0 1 5 9 13 (wd ms (pm k 2)) (wd ms (pm k 3))).trans VL;clear VL;generalize HV1:q9 u0 1 5 9 13 (wd ms (pm k 2)) (wd ms (pm k 3))=u1 at AV VL';replace HV1:=Hj HV1;have VL:=VL';clear VL' lp lq;have lp:(pm k 4:Int) < 16:=by have:=jA k 4;omega
      have lq:(pm k 5:Int) < 16:=by have:=jA k 5;omega
      have KEEP:Hid (∀ w',W.grownBy w' (some gv)->w'.cell? ⟨s0+k,4,none⟩=some (.int .i64 (pm k 4:Int))/\w'.cell? ⟨s0+k,5,none⟩=some (.int .i64 (pm k 5:Int))/\w'.cell? ⟨gm,pm k 4,none⟩=some (.int .u32 (wd ms (pm k 4):Int))/\w'.cell? ⟨gm,pm k 5,none⟩=some (.int .u32 (wd ms (pm k 5):Int))):=fun w' e=>⟨(ALL.out w' (jj GR e)).1 k hlt 4 (by omega),(ALL.out w' (jj GR e)).1 k hlt 5 (by omega),(ALL.out w' (jj GR e)).2.1 _ (jA _ _),(ALL.out w' (jj GR e)).2.1 _ (jA _ _)⟩
      replace GR:=Hj GR;replace AV:=Hj AV;refine qgW gv [0,1,2,3,4,5,6,7,8,9,10,11,12,13] [13] ?_;repeat ((first | refine qR _ (fun w' e=>KEEP.out w' (jj (jV (jnQ _).drew _) e)) ?_ | refine qS ?_);go_frame)
      refine qD fun K hK=> ?_
      go_simp;refine (vO (AV.out.ext (jnQ _).drew) VL (a:=2) (b:=6) (c:=10) (d:=14) (by omega) (by omega) (by omega) (by omega) (HMb.out _ (jA _ _)) (HMb.out _ (jA _ _))).mono ?_;rintro e w2 ⟨rfl,A2,G2⟩;refine hK.out _ _ G2 ?_;clear hK K;try go_frame
      refine jp ?_;go_wp2_with fail;refine jg (fun W'=>wB.grownBy W' (some gv)/\Arr W' gv (q9 u1 2 6 10 14 (wd ms (pm k 4)) (wd ms (pm k 5)))) ⟨jj GR.out (jj (jV (jnQ _).drew _) G2),A2⟩ ?_;clear A2 G2 KEEP GR AV;clear W;rintro W ⟨GR,AV⟩;have VL':=(vD u1 2 6 10 14 (wd ms (pm k 4)) (wd ms (pm k 5))).trans VL;clear VL;generalize HV2:q9 u1 2 6 10 14 (wd ms (pm k 4)) (wd ms (pm k 5))=u2 at AV VL';replace HV2:=Hj HV2;have VL:=VL';clear VL' lp lq;have lp:(pm k 6:Int) < 16:=by have:=jA k 6;omega
      have lq:(pm k 7:Int) < 16:=by have:=jA k 7;omega
      have KEEP:Hid (∀ w',W.grownBy w' (some gv)->w'.cell? ⟨s0+k,6,none⟩=some (.int .i64 (pm k 6:Int))/\w'.cell? ⟨s0+k,7,none⟩=some (.int .i64 (pm k 7:Int))/\w'.cell? ⟨gm,pm k 6,none⟩=some (.int .u32 (wd ms (pm k 6):Int))/\w'.cell? ⟨gm,pm k 7,none⟩=some (.int .u32 (wd ms (pm k 7):Int))):=fun w' e=>⟨(ALL.out w' (jj GR e)).1 k hlt 6 (by omega),(ALL.out w' (jj GR e)).1 k hlt 7 (by omega),(ALL.out w' (jj GR e)).2.1 _ (jA _ _),(ALL.out w' (jj GR e)).2.1 _ (jA _ _)⟩
      replace GR:=Hj GR;replace AV:=Hj AV;refine qgW gv [0,1,2,3,4,5,6,7,8,9,10,11,12,13] [13] ?_;repeat ((first | refine qR _ (fun w' e=>KEEP.out w' (jj (jV (jnQ _).drew _) e)) ?_ | refine qS ?_);go_frame)
      refine qD fun K hK=> ?_
      go_simp;refine (vO (AV.out.ext (jnQ _).drew) VL (a:=3) (b:=7) (c:=11) (d:=15) (by omega) (by omega) (by omega) (by omega) (HMb.out _ (jA _ _)) (HMb.out _ (jA _ _))).mono ?_;rintro e w2 ⟨rfl,A2,G2⟩;refine hK.out _ _ G2 ?_;clear hK K;try go_frame
      refine jp ?_;go_wp2_with fail;refine jg (fun W'=>wB.grownBy W' (some gv)/\Arr W' gv (q9 u2 3 7 11 15 (wd ms (pm k 6)) (wd ms (pm k 7)))) ⟨jj GR.out (jj (jV (jnQ _).drew _) G2),A2⟩ ?_;clear A2 G2 KEEP GR AV;clear W;rintro W ⟨GR,AV⟩;have VL':=(vD u2 3 7 11 15 (wd ms (pm k 6)) (wd ms (pm k 7))).trans VL;clear VL;generalize HV3:q9 u2 3 7 11 15 (wd ms (pm k 6)) (wd ms (pm k 7))=u3 at AV VL';replace HV3:=Hj HV3;have VL:=VL';clear VL' lp lq;have lp:(pm k 8:Int) < 16:=by have:=jA k 8;omega
      have lq:(pm k 9:Int) < 16:=by have:=jA k 9;omega
      have KEEP:Hid (∀ w',W.grownBy w' (some gv)->w'.cell? ⟨s0+k,8,none⟩=some (.int .i64 (pm k 8:Int))/\w'.cell? ⟨s0+k,9,none⟩=some (.int .i64 (pm k 9:Int))/\w'.cell? ⟨gm,pm k 8,none⟩=some (.int .u32 (wd ms (pm k 8):Int))/\w'.cell? ⟨gm,pm k 9,none⟩=some (.int .u32 (wd ms (pm k 9):Int))):=fun w' e=>⟨(ALL.out w' (jj GR e)).1 k hlt 8 (by omega),(ALL.out w' (jj GR e)).1 k hlt 9 (by omega),(ALL.out w' (jj GR e)).2.1 _ (jA _ _),(ALL.out w' (jj GR e)).2.1 _ (jA _ _)⟩
      replace GR:=Hj GR;replace AV:=Hj AV;refine qgW gv [0,1,2,3,4,5,6,7,8,9,10,11,12,13] [13] ?_;repeat ((first | refine qR _ (fun w' e=>KEEP.out w' (jj (jV (jnQ _).drew _) e)) ?_ | refine qS ?_);go_frame)
      refine qD fun K hK=> ?_
      go_simp;refine (vO (AV.out.ext (jnQ _).drew) VL (a:=0) (b:=5) (c:=10) (d:=15) (by omega) (by omega) (by omega) (by omega) (HMb.out _ (jA _ _)) (HMb.out _ (jA _ _))).mono ?_;rintro e w2 ⟨rfl,A2,G2⟩;refine hK.out _ _ G2 ?_;clear hK K;try go_frame
      refine jp ?_;go_wp2_with fail;refine jg (fun W'=>wB.grownBy W' (some gv)/\Arr W' gv (q9 u3 0 5 10 15 (wd ms (pm k 8)) (wd ms (pm k 9)))) ⟨jj GR.out (jj (jV (jnQ _).drew _) G2),A2⟩ ?_;clear A2 G2 KEEP GR AV;clear W;rintro W ⟨GR,AV⟩;have VL':=(vD u3 0 5 10 15 (wd ms (pm k 8)) (wd ms (pm k 9))).trans VL;clear VL;generalize HV4:q9 u3 0 5 10 15 (wd ms (pm k 8)) (wd ms (pm k 9))=u4 at AV VL';replace HV4:=Hj HV4;have VL:=VL';clear VL' lp lq;have lp:(pm k 10:Int) < 16:=by have:=jA k 10;omega
      have lq:(pm k 11:Int) < 16:=by have:=jA k 11;omega
      have KEEP:Hid (∀ w',W.grownBy w' (some gv)->w'.cell? ⟨s0+k,10,none⟩=some (.int .i64 (pm k 10:Int))/\w'.cell? ⟨s0+k,11,none⟩=some (.int .i64 (pm k 11:Int))/\w'.cell? ⟨gm,pm k 10,none⟩=some (.int .u32 (wd ms (pm k 10):Int))/\w'.cell? ⟨gm,pm k 11,none⟩=some (.int .u32 (wd ms (pm k 11):Int))):=fun w' e=>⟨(ALL.out w' (jj GR e)).1 k hlt 10 (by omega),(ALL.out w' (jj GR e)).1 k hlt 11 (by omega),(ALL.out w' (jj GR e)).2.1 _ (jA _ _),(ALL.out w' (jj GR e)).2.1 _ (jA _ _)⟩
      replace GR:=Hj GR;replace AV:=Hj AV;refine qgW gv [0,1,2,3,4,5,6,7,8,9,10,11,12,13] [13] ?_;repeat ((first | refine qR _ (fun w' e=>KEEP.out w' (jj (jV (jnQ _).drew _) e)) ?_ | refine qS ?_);go_frame)
      refine qD fun K hK=> ?_
      go_simp;refine (vO (AV.out.ext (jnQ _).drew) VL (a:=1) (b:=6) (c:=11) (d:=12) (by omega) (by omega) (by omega) (by omega) (HMb.out _ (jA _ _)) (HMb.out _ (jA _ _))).mono ?_;rintro e w2 ⟨rfl,A2,G2⟩;refine hK.out _ _ G2 ?_;clear hK K;try go_frame
      refine jp ?_;go_wp2_with fail;refine jg (fun W'=>wB.grownBy W' (some gv)/\Arr W' gv (q9 u4 1 6 11 12 (wd ms (pm k 10)) (wd ms (pm k 11)))) ⟨jj GR.out (jj (jV (jnQ _).drew _) G2),A2⟩ ?_;clear A2 G2 KEEP GR AV;clear W;rintro W ⟨GR,AV⟩;have VL':=(vD u4 1 6 11 12 (wd ms (pm k 10)) (wd ms (pm k 11))).trans VL;clear VL;generalize HV5:q9 u4 1 6 11 12 (wd ms (pm k 10)) (wd ms (pm k 11))=u5 at AV VL';replace HV5:=Hj HV5;have VL:=VL';clear VL' lp lq;have lp:(pm k 12:Int) < 16:=by have:=jA k 12;omega
      have lq:(pm k 13:Int) < 16:=by have:=jA k 13;omega
      have KEEP:Hid (∀ w',W.grownBy w' (some gv)->w'.cell? ⟨s0+k,12,none⟩=some (.int .i64 (pm k 12:Int))/\w'.cell? ⟨s0+k,13,none⟩=some (.int .i64 (pm k 13:Int))/\w'.cell? ⟨gm,pm k 12,none⟩=some (.int .u32 (wd ms (pm k 12):Int))/\w'.cell? ⟨gm,pm k 13,none⟩=some (.int .u32 (wd ms (pm k 13):Int))):=fun w' e=>⟨(ALL.out w' (jj GR e)).1 k hlt 12 (by omega),(ALL.out w' (jj GR e)).1 k hlt 13 (by omega),(ALL.out w' (jj GR e)).2.1 _ (jA _ _),(ALL.out w' (jj GR e)).2.1 _ (jA _ _)⟩
      replace GR:=Hj GR;replace AV:=Hj AV;refine qgW gv [0,1,2,3,4,5,6,7,8,9,10,11,12,13] [13] ?_;repeat ((first | refine qR _ (fun w' e=>KEEP.out w' (jj (jV (jnQ _).drew _) e)) ?_ | refine qS ?_);go_frame)
      refine qD fun K hK=> ?_
      go_simp;refine (vO (AV.out.ext (jnQ _).drew) VL (a:=2) (b:=7) (c:=8) (d:=13) (by omega) (by omega) (by omega) (by omega) (HMb.out _ (jA _ _)) (HMb.out _ (jA _ _))).mono ?_;rintro e w2 ⟨rfl,A2,G2⟩;refine hK.out _ _ G2 ?_;clear hK K;try go_frame
      refine jp ?_;go_wp2_with fail;refine jg (fun W'=>wB.grownBy W' (some gv)/\Arr W' gv (q9 u5 2 7 8 13 (wd ms (pm k 12)) (wd ms (pm k 13)))) ⟨jj GR.out (jj (jV (jnQ _).drew _) G2),A2⟩ ?_;clear A2 G2 KEEP GR AV;clear W;rintro W ⟨GR,AV⟩;have VL':=(vD u5 2 7 8 13 (wd ms (pm k 12)) (wd ms (pm k 13))).trans VL;clear VL;generalize HV6:q9 u5 2 7 8 13 (wd ms (pm k 12)) (wd ms (pm k 13))=u6 at AV VL';replace HV6:=Hj HV6;have VL:=VL';clear VL' lp lq;have lp:(pm k 14:Int) < 16:=by have:=jA k 14;omega
      have lq:(pm k 15:Int) < 16:=by have:=jA k 15;omega
      have KEEP:Hid (∀ w',W.grownBy w' (some gv)->w'.cell? ⟨s0+k,14,none⟩=some (.int .i64 (pm k 14:Int))/\w'.cell? ⟨s0+k,15,none⟩=some (.int .i64 (pm k 15:Int))/\w'.cell? ⟨gm,pm k 14,none⟩=some (.int .u32 (wd ms (pm k 14):Int))/\w'.cell? ⟨gm,pm k 15,none⟩=some (.int .u32 (wd ms (pm k 15):Int))):=fun w' e=>⟨(ALL.out w' (jj GR e)).1 k hlt 14 (by omega),(ALL.out w' (jj GR e)).1 k hlt 15 (by omega),(ALL.out w' (jj GR e)).2.1 _ (jA _ _),(ALL.out w' (jj GR e)).2.1 _ (jA _ _)⟩
      replace GR:=Hj GR;replace AV:=Hj AV;refine qgW gv [0,1,2,3,4,5,6,7,8,9,10,11,12,13] [13] ?_;repeat ((first | refine qR _ (fun w' e=>KEEP.out w' (jj (jV (jnQ _).drew _) e)) ?_ | refine qS ?_);go_frame)
      refine qD fun K hK=> ?_
      go_simp;refine (vO (AV.out.ext (jnQ _).drew) VL (a:=3) (b:=4) (c:=9) (d:=14) (by omega) (by omega) (by omega) (by omega) (HMb.out _ (jA _ _)) (HMb.out _ (jA _ _))).mono ?_;rintro e w2 ⟨rfl,A2,G2⟩;refine hK.out _ _ G2 ?_;clear hK K;try go_frame
      refine jp ?_;go_wp2_with fail;have H7:jbm ms vk k=q9 u6 3 4 9 14 (wd ms (pm k 14)) (wd ms (pm k 15)):=by
       unfold jbm;simp only [];rw [HV0.out,HV1.out,HV2.out,HV3.out,HV4.out,HV5.out,HV6.out]
      refine ⟨⟨k+1,by omega,by go_num,jj GR.out (jj (jV (jnQ _).drew _) G2),?_⟩,by simp [intOf];omega⟩;rw [HSUC.out,H7];exact A2
     ·obtain rfl:k=10:=by omega
      rw [show ((10:Nat):Int)=10 from rfl];have RB:Hid (Lt32 (vG ms v1 10)):=sb.out.rounds 10;have RD:Hid (∀ j,j < 8->wd R j=wd hs j^^^(wd (vG ms v1 10) j^^^wd (vG ms v1 10) (j+8))):=fun j hj=>by rw [CD.out];exact ji2 hj
      generalize vG ms v1 10=vs at *;have E9:Hid (Ext w wr):=jpn EB.out ⟨GR.os,GR.tape,GR.output,GR.size,fun i hi=>GR.block i (jpq hi EB.out.size) (fun q=>by injection q with q;omega)⟩;have KP:Hid (∀ w',Ext wr w'->(∀ j,j < 16->w'.cell? ⟨gv,j,none⟩=some (.int .u32 (wd vs j:Int)))/\Ws w' A 8 hs):=fun w' e=>⟨fun j hj=>((AV.ext e).2 j (by omega)).1,hh.out.ext (E9.out.trans e)⟩
      clear GR AV ALL AVB EB;obtain ⟨w9,rfl⟩:∃ W,W=wr:=⟨_,rfl⟩;go_wp2_with fail;go_loopw [15,16] (fun v i wx=>∃ (k:Nat) (D:Option Addr) (cc:Nat),k<=8/\i= .int .i64 k/\v= .slice D k cc/\OwnW w9.heap.size wx D k cc (R.take k)/\Ext w9 wx) (fun _ i _=>8 - (intOf i).toNat)
      case atStart=>exact ⟨0,none,0,jpp _,rfl,rfl,OwnW.nil _ _,jnQ _⟩
      case round=>
       obtain ⟨k,D,cc,hk,rfl,rfl,ho,he⟩:=hrel;by_cases hlt:k < 8
       ·obtain ⟨b,off,rfl,hb2,hc⟩:=(KP.out _ (jnQ _)).2.2 (by omega);have ch:Hid (∀ w',Ext w9 w'->w'.cell? ⟨b,off+k,none⟩=some (.int .u32 (wd hs k:Int))/\w'.cell? ⟨gv,k,none⟩=some (.int .u32 (wd vs k:Int))/\w'.cell? ⟨gv,k+8,none⟩=some (.int .u32 (wd vs (k+8):Int))):=fun w' e=>⟨(e.cell hb2).trans (hc k hlt),(KP.out _ e).1 k (by omega),(KP.out _ e).1 (k+8) (by omega)⟩
        have TK:=Hj (jfY (vs:=R) (k:=k) (by omega));rw [RD.out k hlt,<-Nat.xor_assoc] at TK;have lh:=hb.out k;have lv:=RB.out k;have lw:=RB.out (k+8);have x1:bits .xor .u32 (wd hs k:Int) (wd vs k:Int)=((wd hs k^^^wd vs k:Nat):Int):=jq7 _ _ lh lv;have x2:bits .xor .u32 ((wd hs k^^^wd vs k:Nat):Int) (wd vs (k+8):Int)=((wd hs k^^^wd vs k^^^wd vs (k+8):Nat):Int):=jq7 _ _ (jL lh lv) lw;have i8:IntKind.i64.wrap ((k:Int)+8)=(k:Int)+8:=jq0 _ (by omega);have n8:((k:Int)+8).toNat=k+8:=by omega
        have p8:(0:Int)<=(k:Int)+8:=by omega
        have l8:(k:Int)+8 < 16:=by omega
        have ik:(k:Int) < 8:=by omega
        have il:(k:Int) < 16:=by omega
        generalize hX1:wd hs k^^^wd vs k=y1 at *;generalize hX2:y1^^^wd vs (k+8)=y2 at *;replace hX1:=Hj hX1;replace hX2:=Hj hX2;replace ho:=Hj ho;replace he:=Hj he;have hz:=he.out.size;clear hc lh lv lw;go_wp2_with fail;refine qgB w9.heap.size [0,1,2,3,4,5,6,7,8,9,10,11,12,13,14,15,16,17,18] [16,17] ?_;have hd:=Hj he.out.drew;have ho':=Hj (ho.out.ext (jnQ wr).drew);have hz':w9.heap.size<=wr.drew.heap.size:=hz;clear he ho hz;generalize wr.drew=WD at *;repeat ((first | refine qR _ (fun w' e=>ch.out w' (jpn hd.out e)) ?_ | refine qS ?_);go_frame)
        refine qD fun K hK=> ?_
        go_simp;refine hK.out _ _ ((jpm _ _).alloc hz' _) ?_;clear hK K;try go_frame
        refine qD fun K hK=> ?_
        refine QT rfl rfl rfl (ho'.out.ext ((jnQ _).alloc _)) (Ws.one _ _ _) (by omega) (jp0 hz' (by simp)) ?_;intro A5 c5 w5 o5 g5 b5;refine hK.out _ _ b5 ?_;clear hK K;try go_frame
        repeat ((first | refine qR0 ?_ | refine qS ?_);go_frame)
        refine jp ?_;replace o5:=Hj o5;have E5:Hid (Ext w9 w5):=jpn (Below.alloc hd.out hz' _) b5;clear g5 b5 ho' hd ch KP;go_wp2_with fail;refine ⟨⟨k+1,A5,c5,by omega,by go_num,rfl,?_,E5.out⟩,by simp [intOf];omega⟩;rw [<-TK.out];exact o5.out
       ·obtain rfl:k=8:=by omega
        have hR:R.take 8=R:=jqm (by omega);rw [hR] at ho;have WS:=Hj ho.ws;have EE:Hid (Ext w wr):=E9.out.trans he;clear ho hR;go_wp2_with fail;go_ret;exact ⟨D,cc,rfl,WS.out,EE.out⟩
theorem QW (k:Nat):Builtin.zeroCells (jpA .u8 0).cells k=((jqn k (0:UInt8)).map u8v).toArray:=by
 apply Array.ext'
 have h0:(jpA .u8 0).cells= #[jpA .u8 0]:=rfl;simp [Builtin.zeroCells,h0,u8v]
 apply jp8
 ·simp
 ·intro i h1 h2;simp [Nat.mod_one]
theorem jab {w:World}{B:Nat}{A:Option Addr}{n c k:Nat}{xs:List UInt8}(tn ty:jpC) (htn:Tryz.prog.underlying tn=some (.int .i64)) (h:Own B w A n c xs) (hm:n+k<=140737488355328) (hB:B<=w.heap.size):
 ∃ A'' c'' w',(jrd #[33,tn] ty #[.slice A n c, .int .i64 (k:Int)]).run jpx w= .ok (.slice A'' (n+k) c'') w'/\Own B w' A'' (n+k) c'' (xs++jqn k 0)/\w.grownBy w' (jrb (.slice A n c)):=by
 obtain ⟨i,hi,hz0,hz1,hz2⟩:=info_parts jdb;have hl:=h.len;have hw:IntKind.i64.wrap (k:Int)=k:=by rw [IntKind.wrap_i64];omega
 have hneg: ¬ ((k:Int) < 0):=by omega
 have h48i: ¬ (281474976710656 < (k:Int)*(i.bytes:Int)):=by rw [hz2];omega
 have grown:∀ (old:Nat),old < n+k->∀ (row:Option Nat),
  (w.drew.alloc (.cells ((xs.map u8v).toArray++Builtin.zeroCells (jpA .u8 0).cells k++Builtin.zeroCells (jpA .u8 0).cells (grownCap w (n+k) old 5 - (n+k))) 5)).ownsRow B 5 1
    (.slice (some ⟨w.heap.size,0,none⟩) (n+k) (grownCap w (n+k) old 5)) (n+k) ((xs++jqn k 0).map u8v)/\
  w.grownBy (w.drew.alloc (.cells ((xs.map u8v).toArray++Builtin.zeroCells (jpA .u8 0).cells k++Builtin.zeroCells (jpA .u8 0).cells (grownCap w (n+k) old 5 - (n+k))) 5)) row:=by
  intro old ho row;have hge:=grownCap_ge w (n+k) old 5;have hcm:grownCap w (n+k) old 5<=maxLen:=grownCap_le_maxLen w (n+k) old 5 (by unfold maxLen;omega);refine ⟨⟨by simp [hl], .inr ⟨w.heap.size,_,_,rfl,hB,jqq w.drew _,hge,hcm,?_,?_⟩⟩,⟨rfl,rfl,rfl,by simp,fun j hj _=>heap_alloc_old w.drew _ hj⟩⟩
  ·have hz1:(jpA IntKind.u8 0).cells.size=1:=rfl;simp only [Array.size_append,jqu,size_zeroCells,hz1,jqH,hl];omega
  ·rw [QW k];simp only [Array.toList_append,jqd,jqw];rw [<-jqd,<-jqw];exact jqv (by simp [hl])
 by_cases hk:k=0
 ·subst hk;have hw0:IntKind.i64.wrap 0=0:=rfl;refine ⟨A,c,w,?_,by simpa using h,⟨rfl,rfl,rfl,jpo _,fun _ _ _=>rfl⟩⟩;rcases h.2 with ⟨hv,hn⟩ | ⟨g,cap,cur,hv,_,_,hnc,_⟩
  ·rw [hv];subst hn
   injection hv with q1 _ q3
   subst q1 q3;simp [jrd,jql jpy,jql htn,sizeOf,typeInfo,hi,asInt,asIntOf,hw0]
  ·rw [hv]
   injection hv with q1 _ q3
   subst q1 q3;simp [jrd,jql jpy,jql htn,sizeOf,typeInfo,hi,asInt,asIntOf,hw0,hnc,storeCells]
 rcases h.2 with ⟨hv,hn⟩ | ⟨g,cap,cur,hv,hbg,hg,hnc,hcm,hcs,htake⟩
 ·injection hv with q1 q2 q3
  subst q1 q3;have hx:xs= []:=jpw (by omega);subst hx;have hn0:n=0:=hn;subst hn0;have hr:=Lib.run_append_grow_zeros (P:=jpx) w 33 tn ty 5 i (.int .u8 0) .i64 .i64 jpy htn hi hz0 none 0 0 [] (run_firstCells_none _ _ _ _ _) k (by omega) (by rw [hz1];decide) (by omega) (by omega) (by rw [hz2];omega) (growslice_fits (by omega) (by rw [hz2];omega));have hgr:=grown 0 (by omega) (jrb (.slice none 0 0));exact ⟨_,_,_,hr,hgr.1,hgr.2⟩
 ·injection hv with q1 q2 q3
  subst q1 q3;by_cases hroom:n+k<=c
  ·have hfit:n*1+((jqn k (0:UInt8)).map u8v).length<=cur.size:=by rw [hcs];simp;omega
   have hst:=run_storeCells_at jpx g (n*1) 5 ((jqn k (0:UInt8)).map u8v) 0 cur w hg (by simpa using hfit) (fun u hu=>by
    obtain ⟨x,_,rfl⟩:=jpN.1 hu
    rfl)
   simp only [jpP,Nat.mul_one] at hst;have hzc:=QW k;have hw':IntKind.i64.wrap (k:Int)=k:=hw;simp only [List.map_replicate,jrh] at hst hzc;refine ⟨some ⟨g,0,none⟩,c,w.setRow g (cur.toList.take n++(jqn k (0:UInt8)).map u8v++cur.toList.drop (n+((jqn k (0:UInt8)).map u8v).length)).toArray,?_,?_,⟨rfl,rfl,rfl,by simp,fun j _ hj=>jqy w g j _ (fun e=>hj (by simp [jrb,e]))⟩⟩
   ·have hkz: ¬ (k*i.size=0):=by rw [hz1];omega
    simp [jrd,jql jpy,jql htn,sizeOf,typeInfo,jpI,hi,hz0,asInt,asIntOf,hw,hneg,h48i,hroom,hkz,hk,hz1,hzc,Addr.add_lit,hst]
   ·refine ⟨by simp [hl], .inr ⟨g,c,_,rfl,hbg,jqc w g cur _ 5 _ hg,hroom,hcm,?_,?_⟩⟩
    ·simp only [jqu,jpG,jps,List.length_drop,Array.length_toList,jqH,jrh];omega
    ·have ht:cur.toList.take n=xs.map u8v:=by
      have:=htake
      rwa [show n*1=n by omega] at this
     rw [ht,jqw];exact jqv (by simp [hl])
  ·have holds:∀ j u,(xs.map u8v)[j]? =some u->w.cell? ((⟨g,0,none⟩:Addr).add j)=some u:=h.cells (g:=g) rfl;have hr:=Lib.run_append_grow_zeros (P:=jpx) w 33 tn ty 5 i (.int .u8 0) .i64 .i64 jpy htn hi hz0 (some ⟨g,0,none⟩) n c (xs.map u8v) (run_firstCells_some w.drew i.size n ⟨g,0,none⟩ n c (xs.map u8v) (by rw [hz1];simp [hl]) (by simpa using holds)) k (by omega) (by rw [hz1];decide) (by omega) (by omega) (by rw [hz2];omega) (growslice_fits (by omega) (by rw [hz2];omega));have hgr:=grown c (by omega) (jrb (.slice (some ⟨g,0,none⟩) n c));exact ⟨_,_,_,hr,hgr.1,hgr.2⟩
theorem QR {w:World}{o:Oper}{a:Act}{K:Act->World->Prop}{Q:Exit->Act->World->Prop}{tn:jpC}(htn:Tryz.prog.underlying tn=some (.int .i64)){B:Nat}{A:Option Addr}{n c k:Nat}{xs:List UInt8}{s x:Operand}
 (ho:o.op= .call {callee:= .builtin .append,args:= #[s,x],argTypes:= #[33,tn]}) (hs:a.eval s= .slice A n c) (hx:a.eval x= .int .i64 (k:Int))
 (h:Own B w A n c xs) (hm:n+k<=140737488355328) (hB:B<=w.heap.size)
 (hK:∀ A'' c'' w',Own B w' A'' (n+k) c'' (xs++jqn k 0)->w.grownBy w' (jrb (.slice A n c))->Below B w w'->K (a.put o.dst (.slice A'' (n+k) c'')) w'):o.wp jpx a w K Q:=by
 obtain ⟨A'',c'',w',hrun,h2,h3⟩:=jab tn o.type htn h hm hB;unfold Oper.wp jpY;simp only [ho,resolve,invoke,builtin,jqi,jqj,jqk,jqE,jqA,jqF,hs,hx,hrun];exact hK A'' c'' w' h2 h3 ((jpm B w).grown h3 hB h.ge)
theorem Jk {w:World}{ops:Array Oper}{rest:List Oper}{o:Oper}{a:Act}{Q:Exit->Act->World->Prop}(hgd:o.guard=none){tn:jpC}(htn:Tryz.prog.underlying tn=some (.int .i64)){B:Nat}{A:Option Addr}{n c k:Nat}{xs:List UInt8}{s x:Operand}
 (ho:o.op= .call {callee:= .builtin .append,args:= #[s,x],argTypes:= #[33,tn]}) (hs:a.eval s= .slice A n c) (hx:a.eval x= .int .i64 (k:Int))
 (h:Own B w A n c xs) (hm:n+k<=140737488355328) (hB:B<=w.heap.size)
 (hK:∀ A'' c'' w',Own B w' A'' (n+k) c'' (xs++jqn k 0)->w.grownBy w' (jrb (.slice A n c))->Below B w w'->wpList jpx ops Q rest (a.put o.dst (.slice A'' (n+k) c'')) w'):wpList jpx ops Q (o::rest) a w:=
 wpList_plain hgd fun _ hK'=>QR htn ho hs hx h hm hB fun A'' c'' w' h2 h3 h4=>hK' _ _ (hK A'' c'' w' h2 h3 h4)
theorem Je {A:Option Addr}{n c:Nat}{xs:List UInt8}{w:World}(h:Bs w A n c xs) (hn:n<=64):
 Calls jpx 97 #[.slice A n c] w fun e w'=>∃ A' c',e= .returned (.slice A' 64 c')/\Own w.heap.size w' A' 64 c' (qQ xs)/\Ext w w':=by
 have hl:=h.len;have h2:=h.cap;have h1:=h.le;obtain ⟨k,hk⟩:=ex_ (64 - n);have ik:(64:Int) - (n:Int)=(k:Int):=by omega
 have hp:qQ xs=xs++jqn k 0:=by unfold qQ;rw [hl,hk]
 rw [hp];clear hp;have h64:n+k=64:=by omega
 replace h:=Hj h;clear hk hl;go_enter Tryz.func97,Tryz.ntmps97
 go_wp2_with (first
  | (at_builtin;(with_reducible refine jJ rfl (B:=w.heap.size) (s:= .tmp 3) (x:= .tmp 4) rfl rfl rfl (Own.empty w _ (jpo _)) (h.out.ext ((jnQ _).alloc _)) (by omega) (by simp) ?_);intro A1 c1 w1 o1 g1 b1;simp only [jpz,jq8] at o1 ⊢;replace o1:=Hj o1;have e1:Hid (Ext w w1):=jpn ((jnQ w).alloc _) b1;clear g1 b1;go_frame)
  | (at_builtin;(with_reducible refine Jk rfl Tryz.underlying3 (B:=w.heap.size) (k:=k) (s:= .tmp 5) (x:= .tmp 8) rfl rfl rfl o1.out (by omega) e1.out.size ?_);intro A2 c2 w2 o2 g2 b2;rw [h64] at o2 ⊢;replace o2:=Hj o2;replace e1:Hid (Ext w w2):=jpn e1.out b2;clear g2 b2;go_frame))
 go_ret;exact ⟨A2,c2,rfl,o2.out,e1.out⟩
end
section
def zh (hs:List Nat) (xs:List UInt8):Nat->List Nat
 | 0=>hs
 | i+1=>vp (zh hs xs i) ((xs.drop (64*i)).take 64) (64*(i+1)) false
def YD (ks:List UInt8):List UInt8:=if ks.length=0 then [] else qQ ks
def QJ (n:Nat) (xs:List UInt8):List UInt8:=qX (vp (zh (h0L n) xs (vJ xs.length)) (qQ (xs.drop (64*vJ xs.length))) xs.length true)
theorem jgC {hs:List Nat}{xs:List UInt8}(h:hs.length=8):∀ i,(zh hs xs i).length=8
 | 0=>h
 | i+1=>yh _ _ _ _
theorem jdz {hs:List Nat}{xs:List UInt8}(h:Lt32 hs):∀ i,64*i < 18446744073709551616->Lt32 (zh hs xs i)
 | 0,_=>h
 | i+1,hi=>(jdz h i (by omega)).comp (by omega) _
theorem Zl {xs:List UInt8}(h:xs.length=64):qQ xs=xs:=by unfold qQ;rw [h];simp
theorem jbG {hs:List Nat}{xs:List UInt8}:∀ i,64*i<=xs.length->zh hs xs i=hAt hs 0 xs i
 | 0,_=>rfl
 | i+1,hi=>by
   rw [zh,hAt,jbG i (by omega),Zl (by simp;omega),jpz]
theorem jbH {hs:List Nat}{ps xs:List UInt8}(hp:ps.length=64):∀ i,64*i<=xs.length->zh hs (ps++xs) (i+1)=hAt (vp hs ps 64 false) 64 xs i
 | 0,_=>by
   rw [zh,zh,hAt,Nat.mul_zero,List.drop_zero,jqv hp]
 | i+1,hi=>by
   rw [zh,jbH hp i (by omega),hAt,Zl (by simp;omega)]
   congr 1
   ·rw [List.drop_append,jrg (by omega),jq8,hp,show 64*(i+1) - 64=64*i by omega]
   ·omega
theorem jjy (ks bs:List UInt8) (hk:ks.length<=64):jC ks bs=QJ ks.length (YD ks++bs):=by
 unfold jC YD QJ;by_cases h:ks.length=0
 ·simp only [if_pos h,jq8];unfold Yt;rw [h,jbG _ (by unfold vJ;omega),jpz]
 ·simp only [if_neg h];have hp:=Yk hk;by_cases hb:bs.length=0
  ·obtain rfl:=jpw hb;simp only [List.length_nil,if_true,List.append_nil,hp,vJ,show (64 - 1) / 64=0 from rfl,Nat.mul_zero,List.drop_zero,zh,Zl hp]
  ·rw [if_neg hb];have hF:vJ (qQ ks++bs).length=vJ bs.length+1:=by rw [jpG,hp];unfold vJ;omega
   have hd:(qQ ks++bs).drop (64*(vJ bs.length+1))=bs.drop (64*vJ bs.length):=by
    rw [List.drop_append,jrg (by omega),jq8,hp,show 64*(vJ bs.length+1) - 64=64*vJ bs.length by omega]
   rw [hF,hd,jbH hp _ (by unfold vJ;omega),jpG,hp]
   rfl
end
section
open Go.ChangeShapes Go.WideShapes Go.ChangeAt Go.RowKit Go.Deep
theorem Own.down {B B':Nat}{w:World}{A:Option Addr}{n c:Nat}{xs:List UInt8}(h:Own B w A n c xs) (hB:B'<=B):Own B' w A n c xs:=by
 refine ⟨h.1,?_⟩;rcases h.2 with h | ⟨g,cap,cur,hv,hb,r⟩
 ·exact .inl h
 ·exact .inr ⟨g,cap,cur,hv,jp0 hB hb,r⟩
theorem Ky.setB {w:World}{g j x:Nat}{xs:List UInt8}(h:Ky w g xs) (hj:j < 32) (hx:x < 256):Ky (w.setCell ⟨g,j,none⟩ (.int .u8 (x:Int))) g (xs.set j (jpt x)):=by
 refine ⟨?_,by rw [jp5];exact h.2⟩;rw [setCell_eq_setRow w g j _ _ (0,0) _ h.1,jqc w g _ _ _ _ h.1]
 congr 2
 have hl:=h.2
 apply Array.ext'
 rw [Array.toList_setIfInBounds]
 apply List.ext_getElem?
 intro i;simp only [List.getElem?_set,ja];by_cases hi:i < 32
 ·rw [jZ (xs:=xs.set j (jpt x)) (by rw [jp5];omega),Za (by omega) hx];by_cases e:j=i
  ·subst e;simp [show j < xs.length by omega]
  ·rw [if_neg e,if_neg (Ne.symm e)];have:=jZ (xs:=xs) (j:=i) (by omega)
   simpa using this
 ·have h1:(cellsOf xs)[i]? =none:=jqa (by rw [ja];omega);have h2:(cellsOf (xs.set j (jpt x)))[i]? =none:=jqa (by rw [ja,jp5];omega);rw [if_neg (by omega)];simp only [h2]
  simpa using h1
set_option maxRecDepth 100000 in
theorem jcC {A A':Option Addr}{n c m d:Nat}{ks bs:List UInt8}{w:World}(h:Bs w A n c ks) (h':Bs w A' m d bs) (hk:n<=32) (hm:m<=1000000):
 Calls jpx 70 #[.slice A n c, .slice A' m d] w fun e w'=>e= .returned (.tuple #[.agg (cellsOf (jC ks bs)).toArray, .int .i64 0])/\Ext w w':=by
 have h1:=h.le;have h2:=h.cap;have h3:=h'.le;have h4:=h'.cap;have hkl:=h.len;have hml:=h'.len;have hk':decide ((32:Int) < (n:Int))=false:=decide_eq_false (by omega);have HR:=jjy ks bs (by omega);rw [hkl] at HR
 have PL:(YD ks).length≤64:=by unfold YD;split; ·simp
                               ·rw [Yk (by omega)];omega
 have P0:Hid (n=0->YD ks= []):=fun h0=>by unfold YD;rw [if_pos (by omega)]
 have P1:Hid (0 < n->YD ks=qQ ks/\(YD ks).length=64):=fun h0=>by
  have e:YD ks=qQ ks:=by unfold YD;rw [if_neg (by omega)]
  exact ⟨e,by rw [e,Yk (by omega)]⟩
 have RL:Hid (QJ n (YD ks++bs)=qX (vp (zh (h0L n) (YD ks++bs) (vJ (YD ks++bs).length)) (qQ ((YD ks++bs).drop (64*vJ (YD ks++bs).length))) (YD ks++bs).length true)):=rfl;have XL:(YD ks++bs).length=(YD ks).length+m:=by rw [jpG,hml]
 rw [HR];clear HR;have ML:(QJ n (YD ks++bs)).length=32:=by rw [RL.out,ya,yh]
 generalize hRM:QJ n (YD ks++bs)=RM at *;replace hRM:=Hj hRM;have HL:=Zc n;have HB:=Hj (jc7 hk);have HD:Hid (h0L n=qJ.set 0 (wd qJ 0^^^(16842784^^^n*256))):=rfl;generalize YD ks=ps at *;generalize hps:ps.length=np at *;replace h:=Hj h;replace h':=Hj h';replace hkl:=Hj hkl;replace hml:=Hj hml;replace hps:=Hj hps;have hal:∀ w,(jpI 23).run jpx w= .ok (.agg jr) w:=fun _=>by kernel_rfl
 have hz32:=Hj jU;generalize jr=Z at *;have k0:Hid (Ky (w.alloc (jqY Z 23)) w.heap.size (jqn 32 0)):=by
  have:=Ky.boxed w (show (jqn 32 (0:UInt8)).length=32 from rfl);rw [hz32.out] at this;exact this
 go_enter Tryz.func70,Tryz.ntmps70
 go_wp2_with fail;refine Jx.mono ?_;rintro e w1 ⟨rfl,r1,e1⟩;rw [je] at r1;have a1:Arr w1 (w.heap.size+1) qJ:=r1.arr (fun i _=>zZ i);have E1:Ext w w1:=((jnQ w).alloc _).trans e1;have kz:=k0.out.ext e1;obtain ⟨c0,f0,_⟩:=a1.2 0 (by decide);have x1:bits .xor .u32 (wd qJ 0:Int) 16842784=((wd qJ 0^^^16842784:Nat):Int):=jq7 _ 16842784 (zZ 0) (by decide);have l1:wd qJ 0^^^16842784 < 4294967296:=jL (zZ 0) (by decide);have x2:bits .xor .u32 ((wd qJ 0^^^16842784:Nat):Int) ((n:Int)*256)=((wd qJ 0^^^16842784^^^n*256:Nat):Int):=by
  rw [show (n:Int)*256=((n*256:Nat):Int) by omega];exact jq7 _ _ l1 (by omega)
 rw [Nat.xor_assoc] at x2;generalize wd qJ 0^^^16842784=y1 at *;generalize hy2:wd qJ 0^^^(16842784^^^n*256)=y2 at *;have l2:y2 < 4294967296:=by rw [<-hy2];exact jL (zZ 0) (jL (by decide) (by omega))
 replace hy2:=Hj hy2;replace a1:=Hj a1;replace E1:=Hj E1;replace kz:=Hj kz;clear r1 e1 k0;go_upto_if 29 with (fail)
 refine jg (fun W=>Ext w W/\Ky W w.heap.size (jqn 32 0)/\Arr W (w.heap.size+1) (h0L n)) ⟨E1.out.setCell (show w.heap.size<=w.heap.size+1 by omega) _,⟨(jp7 _ _ _ _ (show w.heap.size≠w.heap.size+1 by omega)).trans kz.out.1,kz.out.2⟩,by rw [HD.out];exact a1.out.set (by decide) l2⟩ ?_;clear c0 f0 x1 x2 l1 l2 a1 E1 kz hy2;clear w1;rintro W ⟨E1,kz,a1⟩;replace E1:=Hj E1;replace kz:=Hj kz;replace a1:=Hj a1;have zW:w.heap.size+1+1<=W.heap.size:=a1.out.1;go_cut [7] (fun s7 wx=>∃ (D:Option Addr) (cc:Nat),s7= .slice D np cc/\Own (w.heap.size+1+1) wx D np cc ps/\Ext W wx)
 case first=>
  by_cases hn0:n=0
  ·have d0:decide (0 < n)=false:=decide_eq_false (by omega);have d1:decide ((0:Int) < (n:Int))=false:=decide_eq_false (by omega);go_wp2_with fail;go_meet
   obtain rfl:ps= []:=P0.out hn0;obtain rfl:np=0:=hps.out.symm;exact ⟨none,0,rfl,Own.nil _ _,jnQ _⟩
  ·have d0:decide (0 < n)=true:=decide_eq_true (by omega);have d1:decide ((0:Int) < (n:Int))=true:=decide_eq_true (by omega);obtain ⟨q1,rfl⟩:=P1.out (by omega);subst q1;go_wp2_with fail;refine (Je (h.out.ext E1.out) (by omega)).mono ?_;rintro e w2 ⟨D,cc,rfl,o2,e2⟩;replace o2:=Hj (o2.down zW);replace e2:=Hj e2;go_wp2_with fail;go_meet
   exact ⟨D,cc,rfl,o2.out,e2.out⟩
 case rest=>
  obtain ⟨D,cc,rfl,o2,e2⟩:=hcut;have zc:w.heap.size+1+1<=wc.heap.size:=jp0 zW e2.size;have Ec:=Hj (E1.out.trans e2);replace kz:=Hj (kz.out.ext e2);replace a1:=Hj (a1.out.ext e2);replace o2:=Hj o2;clear E1 e2 zW;go_wp2_with (at_builtin;(with_reducible refine jJ rfl (B:=w.heap.size+1+1) (s:= .tmp 32) (x:= .tmp 33) rfl rfl rfl o2.out (h'.out.ext Ec.out) (by omega) zc ?_);intro A5 c5 w5 o5 g5 b5;replace o5:=Hj o5;replace b5:=Hj b5;clear g5;go_frame)
  have E5:Hid (Ext w w5):=jpn Ec.out (b5.out.mono (by omega));have K5:Hid (Ky w5 w.heap.size (jqn 32 0)):=⟨(b5.out.block _ (by omega)).trans kz.out.1,kz.out.2⟩;have B5:=o5.out.bs;have W5:Hid (Ws w5 (some ⟨w.heap.size+1,0,none⟩) 8 (h0L n)):=⟨HL,fun _=>⟨_,0,rfl,jpq a1.out.1 b5.out.size,fun j hj=>by
   rw [jpz,b5.out.cell (p:=⟨w.heap.size+1,j,none⟩) (show w.heap.size+1 < w.heap.size+1+1 by omega)];exact (a1.out.2 j (by omega)).1⟩⟩
  have l5:=B5.le;have m5:=B5.cap;replace B5:=Hj B5;clear o2 Ec kz a1 zc o5 b5 P0 P1 h h';generalize hxs:ps++bs=xs at *;replace hxs:=Hj hxs;obtain ⟨M,hM⟩:=ex_ (np+m);rw [<-hM] at XL l5 B5 ⊢;have hM1:M<=1000064:=by omega
  replace hM:=Hj hM;replace XL:=Hj XL;go_loopw [6,8] (fun hv qv wr=>∃ (i q:Nat) (H:Option Addr) (c':Nat),hv= .slice H 8 c'/\qv= .int .i64 (q:Int)/\q=64*i/\i<=vJ M/\Ws wr H 8 (zh (h0L n) xs i)/\Ext w5 wr) (fun _ qv _=>M - (intOf qv).toNat)
  case atStart=>exact ⟨0,0,_,_,rfl,rfl,rfl,jpp _,W5.out,jnQ _⟩
  case round=>
   obtain ⟨i,q,H,c',rfl,rfl,hq,hi,hw,he⟩:=hrel;have qM:q<=M:=by unfold vJ at hi;omega
   have LT:=Hj (jdz (xs:=xs) HB.out i (by omega));have BX:=Hj (B5.out.ext he);by_cases h64:64 < M - q
   ·have hi1:i+1<=vJ M:=by unfold vJ;omega
    have INTO:Hid (∀ A3,Bs wr A3 64 (c5 - q) ((xs.take (q+64)).drop q)->Calls jpx 98 #[.slice H 8 c', .slice A3 64 (c5 - q), .int .i64 ((q:Int)+64), .bool false] wr (jfq (zh (h0L n) xs (i+1)) wr)):=fun A3 b=>by
     have h9:=Qh (c:=c') (t:=q+64) (last:=false) hw b (by omega) LT.out;rw [show ((q+64:Nat):Int)=(q:Int)+64 by omega,List.drop_take,show q+64 - q=64 by omega,hq,show 64*i+64=64*(i+1) by omega] at h9;rw [hq];exact h9
    have RN:=jgC (xs:=xs) HL (i+1);have q2:q+64 - q=64:=by omega
    have qm:(64:Int) < (M:Int) - (q:Int):=by omega
    replace he:=Hj he;clear hw LT;replace hq:=Hj hq;go_wp2_with ((with_reducible refine ZR rfl (x:= .tmp 41) (lo:= .tmp 42) (hi:= .tmp 44) (k:=q) (h:=q+64) rfl rfl rfl rfl (by omega) (by omega) (by omega) l5 ?_);intro A3 h3;replace h3:=Hj h3;rw [q2] at h3 ⊢;go_frame)
    refine (INTO.out A3 (h3.out _ _ BX.out)).mono ?_;rintro e w6 ⟨H6,c6,rfl,hw6,e6⟩;rw [RN] at hw6 ⊢;replace hw6:=Hj hw6;replace e6:=Hj e6;clear INTO h3 q2;go_wp2_with fail;refine ⟨⟨i+1,q+64,H6,c6,rfl,by go_num,by have:=hq.out;omega,hi1,hw6.out,he.out.trans e6.out⟩,by simp [intOf];omega⟩
   ·have hif:i=vJ M:=by unfold vJ at hi ⊢;omega
    have FILL:=Hj (fun A3 (b:Bs wr A3 (M - q) (c5 - q) (xs.drop q))=>Je b (by omega));have INTO:Hid (∀ (W:World) A3 c3,Ext wr W->Bs W A3 64 c3 (qQ (xs.drop q))->Calls jpx 98 #[.slice H 8 c', .slice A3 64 c3, .int .i64 (M:Int), .bool true] W (jfq (vp (zh (h0L n) xs i) (qQ (xs.drop q)) M true) W)):=fun W A3 c3 e b=>Qh (t:=M) (last:=true) (hw.ext e) b (by omega) LT.out
    have RQ:Hid (RM=qX (vp (zh (h0L n) xs i) (qQ (xs.drop q)) M true)):=by rw [RL.out,XL.out,<-hif,hq];rfl
    have RN:=yh (zh (h0L n) xs i) (qQ (xs.drop q)) M true;have RT:Hid (Lt32 (vp (zh (h0L n) xs i) (qQ (xs.drop q)) M true)):=LT.out.comp (by omega) true;generalize vp (zh (h0L n) xs i) (qQ (xs.drop q)) M true=V at *;have qm: ¬ (64:Int) < (M:Int) - (q:Int):=by omega
    replace he:=Hj he;clear hw LT RL W5 hif;replace hq:=Hj hq;go_wp2_with ((with_reducible refine ja7 rfl (x:= .tmp 52) (lo:= .tmp 53) (k:=q) rfl rfl rfl rfl qM l5 ?_);intro A3 h3;replace h3:=Hj h3;go_frame)
    refine (FILL.out A3 (h3.out _ _ BX.out)).mono ?_;rintro e w6 ⟨A6,c6,rfl,o6,e6⟩;replace o6:=Hj o6.bs;replace e6:=Hj e6;clear FILL h3 BX;go_wp2_with fail;refine (INTO.out _ _ _ e6.out o6.out).mono ?_;rintro e w7 ⟨H7,c7,rfl,hw7,e7⟩;rw [RN] at hw7 ⊢;have E7:Hid (Ext w w7):=E5.out.trans (he.out.trans (e6.out.trans e7));have K7:Hid (Ky w7 w.heap.size (jqn 32 0)):=K5.out.ext (he.out.trans (e6.out.trans e7));obtain ⟨gb,goff,rfl,hgb,hgc⟩:=hw7.2 (by omega);have CV:=Hj (fun w' (e:Ext w7 w') j (hj:j < 8)=>(e.cell hgb).trans (hgc j hj));clear INTO o6 e6 e7 he hw7 hgc B5 E5 K5;have kn:Hid (Ky (w7.alloc (jqY Z 23)) w7.heap.size (jqn 32 0)):=by
     have:=Ky.boxed w7 (show (jqn 32 (0:UInt8)).length=32 from rfl);rw [hz32.out] at this;exact this
    have z7:w.heap.size < w7.heap.size:=jh K7.out.1;generalize hzs:jqn 32 (0:UInt8)=zs at *;have zl:zs.length=32:=by rw [<-hzs];rfl
    clear hzs;go_wp2_with fail;go_loopw [10] (fun v wr=>∃ (k:Nat) (ys:List UInt8),k<=32/\v= .int .i64 (k:Int)/\ys.length=32/\(∀ j,j < k->bt ys j=bt RM j)/\Ext w7 wr/\Ky wr w7.heap.size ys) (fun v _=>32 - (intOf v).toNat)
    case atStart=>exact ⟨0,zs,jpp _,rfl,zl,fun j hj=>absurd hj (by omega),(jnQ _).alloc _,kn.out⟩
    case round=>
     obtain ⟨k,ys,hk,rfl,yl,hv,he,ky⟩:=hrel;clear kn;by_cases hlt:k < 32
     ·obtain ⟨a,ha⟩:=ex_ (k / 4);obtain ⟨b,hb⟩:=ex_ (k % 4);obtain ⟨sh,hs⟩:=ex_ (8*b);have ia:(k:Int) / 4=(a:Int):=by omega
      have ib:(k:Int) % 4=(b:Int):=by omega
      have is:(8:Int)*(b:Int)=(sh:Int):=by omega
      have a8:a < 8:=by omega
      have a8':(a:Int) < 8:=by omega
      have b4:(b:Int) < 4:=by omega
      have s32:(sh:Int)<=32:=by omega
      have cv:=CV.out _ he a a8;have yb:bt RM k=wd V a / 2 ^ sh % 256:=by
       rw [RQ.out,JK (by rw [RN];omega),<-ha,<-hb,hs,show (256:Nat)=2 ^ 8 from rfl,<-Nat.pow_mul]
      obtain ⟨y,hy⟩:=ex_ (wd V a / 2 ^ sh);have q1:Op.shift .shr .u32 (wd V a:Int) .i64 (sh:Int)=pure (.int .u32 (y:Int)):=by
       have:=shift_shr .u32 .i64 (wd V a:Int) (sh:Int) (by omega) (by show (sh:Int)<=32;exact s32);rw [this,hy];simp
      have y8:IntKind.u8.wrap (y:Int)=((y % 256:Nat):Int):=by rw [IntKind.wrap_u8];omega
      have y8':(y:Int) % 256=((y % 256:Nat):Int):=by omega
      rw [<-hy] at yb;have hlt8:y % 256 < 256:=jp3 _ (by decide);generalize y % 256=z at *;have g1:=ky.cell hlt;have g2:=ky.frozen k;have ik:(k:Int) < 32:=by omega
      replace yb:=Hj yb;replace hy:=Hj hy;replace ha:=Hj ha;replace hb:=Hj hb;replace hs:=Hj hs;replace hv:=Hj hv;replace he:=Hj he;replace ky:=Hj ky;clear hlt8;go_wp2_with fail;have hz:(wd V a:Int) / 2 ^ sh % 256=(z:Int):=by
       rw [<-y8',hy.out,Int.natCast_ediv,Int.natCast_pow];rfl
      rw [hz];have z256:z < 256:=by rw [<-yb.out];exact vL _ _
      refine ⟨⟨k+1,ys.set k (jpt z),by omega,by go_num,by rw [jp5];exact yl,fun j hj=> ?_,he.out.setCell (jpo _) _,ky.out.setB hlt z256⟩,by simp [intOf];omega⟩;rw [Za (by omega) z256];by_cases e:j=k
      ·rw [if_pos e,e];exact yb.out.symm
      ·rw [if_neg e];exact hv.out j (by omega)
     ·obtain rfl:k=32:=by omega
      have hy:ys=RM:=Y0 (by rw [yl,ML]) fun j hj=>hv j (by omega)
      subst hy;have KK:=Hj (K7.out.ext he);have EE:Hid (Ext w wr):=E7.out.trans he;have RS:(cellsOf ys).toArray.size=32:=by simp [ja,yl]
      have R1:=ji ys;have ZS:(cellsOf zs).toArray.size=32:=by simp [ja,zl]
      replace ky:=Hj ky;clear hv he RQ RT CV K7 E7;go_wp2_with (first
       | (refine wl_ rfl 23 rfl w7.heap.size rfl ky.out.1 rfl rfl (by rw [RS];rfl) ?_;go_frame)
       | refine ws_ rfl 23 rfl w.heap.size (cellsOf ys).toArray rfl rfl KK.out.1 (by rw [RS];rfl) (by rw [RS,ZS]) R1 ?_)
      (try simp only [jqV,Exit.then]);refine jqW (v:= .tuple #[.agg (cellsOf ys).toArray, .int .i64 0]) ?_ rfl ?_
      ·exact qj rfl _ _ w.heap.size 23 (cellsOf ys).toArray (0,0) _ _ rfl rfl (jqc _ _ _ _ _ _ KK.out.1) rfl rfl (by rw [RS];rfl)
      ·exact ⟨rfl,jqb EE.out (jpo _) _⟩
set_option maxRecDepth 100000 in
theorem jcD {A:Option Addr}{m d:Nat}{bs:List UInt8}{w:World}(h:Bs w A m d bs) (hm:m<=1000000):
 Calls jpx 39 #[.slice A m d] w fun e w'=>e= .returned (.agg (cellsOf (jC [] bs)).toArray)/\Ext w w':=by
 have hal:∀ w,(jpI 23).run jpx w= .ok (.agg jr) w:=fun _=>by kernel_rfl
 have HL:(cellsOf (jC [] bs)).toArray.size=32:=by simp [ja,qr]
 have H1:=ji (jC [] bs);have CALL:Hid (Calls jpx 70 #[.slice none 0 0, .slice A m d] (w.alloc (jqY jr 23)) fun e w'=>e= .returned (.tuple #[.agg (cellsOf (jC [] bs)).toArray, .int .i64 0])/\Ext (w.alloc (jqY jr 23)) w'):=
  jcC (Bs.nil _) (h.ext ((jnQ w).alloc _)) (by omega) hm
 have hz0:=j7;generalize jr=Z at *;generalize (cellsOf (jC [] bs)).toArray=D at *;go_enter Tryz.func39,Tryz.ntmps39
 go_wp2_with fail;refine CALL.out.mono ?_;rintro e w1 ⟨rfl,e1⟩;have r0:=Hj ((e1.block w.heap.size (by rw [je];omega)).trans (jqq w (jqY Z 23)));have r1:Hid (((w1.alloc (jqY Z 23)).setRow w1.heap.size D).heap[w.heap.size]? =some (jqY Z 23)):=(jqy _ _ _ _ (Nat.ne_of_lt (jh r0.out))).trans (((jnQ w1).alloc _ |>.block _ (jh r0.out)).trans r0.out);clear CALL;go_wp2_with (first
  | refine ws_ rfl 23 rfl w1.heap.size D rfl rfl (by with_reducible exact jqq _ _) (by rw [HL];rfl) (by rw [HL];exact hz0) H1 ?_
  | refine wl_ rfl 23 rfl w1.heap.size rfl (by with_reducible exact jqc _ _ _ _ _ _ (jqq _ _)) rfl rfl (by rw [HL];rfl) ?_
  | refine ws_ rfl 23 rfl w.heap.size D rfl rfl (by with_reducible exact r1.out) (by rw [HL];rfl) (by rw [HL];exact hz0) H1 ?_)
 (try simp only [jqV,Exit.then]);refine jqW (jqX rfl _ _ w.heap.size 23 D (0,0) _ rfl (jqc _ _ _ _ _ _ r1.out) rfl rfl (by rw [HL];rfl)) rfl ?_;exact ⟨rfl,jqb (jqb ((((jnQ w).alloc _).trans e1).alloc _) (jqU (jh r0.out)) _) (jpo _) _⟩
def jc (vs:List Nat):List Value:=vs.map fun x:Nat=>jpA .u64 (x:Int)
def Ur (w:World) (g:Nat) (t:jpC) (vs:List Nat):Prop:=w.heap[g]? =some (.cells (jc vs).toArray t (0,0))
section
variable {w w':World}{g:Nat}{t:jpC}{vs:List Nat}
theorem Ur.lt (h:Ur w g t vs):g < w.heap.size:=jh h
theorem Ur.cell (h:Ur w g t vs){i:Nat}(hi:i < vs.length):w.cell? ⟨g,i,none⟩=some (.int .u64 (wd vs i:Int)):=by
 rw [jqe w g i _ t (0,0) h];simp [jc,wd,jpr,hi]
theorem Ur.frozen (h:Ur w g t vs) (i:Nat):w.frozen? ⟨g,i,none⟩=false:=by
 unfold Ur at h;simp [World.frozen?,h]
theorem Ur.set (h:Ur w g t vs){k x:Nat}:Ur (w.setCell ⟨g,k,none⟩ (.int .u64 (x:Int))) g t (vs.set k x):=by
 have h1:=setCell_eq_setRow w g k _ t (0,0) (.int .u64 (x:Int)) h;unfold Ur;rw [h1,jqc w g _ _ t _ h];simp [jc,List.map_set]
theorem Ur.kept {B:Nat}(h:Ur w g t vs) (he:Below B w w') (hB:g < B):Ur w' g t vs:=(he.block g hB).trans h
end
theorem jnE {vs:List Nat}{n:Nat}(h:vs.length=n):(jc vs).toArray.size=n:=by simp [jc,h]
theorem jw (vs:List Nat):(jc vs).toArray.all (·.oneCell')=true:=by
 rw [jpV];intro v hv;obtain ⟨j,_,rfl⟩:=jpN.1 (List.mem_toArray.1 hv)
 rfl
def dg (x i:Nat):Nat:=x / 65536 ^ i % 65536
def dgs (n x:Nat):List Nat:=(jp1 n).map (dg x)
theorem zK (x i:Nat):dg x i < 65536:=jp3 _ (by decide)
theorem qH (n x:Nat):(dgs n x).length=n:=by simp [dgs]
theorem yx {n x i:Nat}(h:i < n):wd (dgs n x) i=dg x i:=by simp [wd,dgs,jpr,h]
def pV (ds:List Nat):Nat->Nat
 | 0=>0
 | i+1=>pV ds i+wd ds i*65536 ^ i
theorem jj2 (i:Nat):0 < 65536 ^ i:=Nat.pow_pos (by decide)
theorem jfP (ds:List Nat) (i:Nat):∀ n,∃ k,pV ds (i+n)=pV ds i+65536 ^ i*k
 | 0=>⟨0,by simp⟩
 | n+1=>by
   obtain ⟨k,hk⟩:=jfP ds i n;refine ⟨k+wd ds (i+n)*65536 ^ n,?_⟩;rw [<-Nat.add_assoc,pV,hk,jqK,Nat.mul_add,Nat.mul_left_comm,Nat.add_assoc]
def cR (ds:List Nat) (i:Nat):Nat:=pV ds i / 65536 ^ i
theorem jhg (ds:List Nat) (i:Nat):pV ds (i+1) / 65536 ^ i=wd ds i+cR ds i:=by
 rw [pV,Nat.add_mul_div_right _ _ (jj2 i),cR,Nat.add_comm]
theorem jb2 (ds:List Nat) (i:Nat):cR ds (i+1)=(wd ds i+cR ds i) / 65536:=by
 rw [<-jhg,cR,jqN,jqQ]
theorem jb3 (ds:List Nat):cR ds 0=0:=by simp [cR,pV]
theorem jhf {ds:List Nat}{n:Nat}(h:∀ i,i < n->wd ds i < 576460752303423488):∀ i,i<=n->cR ds i < 17592186044416
 | 0,_=>by rw [jb3];omega
 | i+1,hi=>by
   have:=jhf h i (by omega);have:=h i (by omega);rw [jb2];omega
theorem jjX (ds:List Nat){i n:Nat}(h:i < n):dg (pV ds n) i=(wd ds i+cR ds i) % 65536:=by
 obtain ⟨k,hk⟩:=jfP ds (i+1) (n - (i+1));rw [show i+1+(n - (i+1))=n by omega] at hk;rw [dg,hk,jqN,jqJ,Nat.add_mul_div_left _ _ (jj2 i),jhg,jq1]
theorem Jv (n x:Nat):∀ i,i<=n->pV (dgs n x) i=x % 65536 ^ i
 | 0,_=>by rw [pV,Nat.pow_zero,Nat.mod_one]
 | i+1,h=>by rw [pV,Jv n x i (by omega),yx (by omega),jqN,Nat.mod_mul,dg,jqI (65536 ^ i)]
theorem jfQ {ds:List Nat}{z:Nat}(h:0 < ds.length):∀ i,pV (ds.set 0 z) (i+1)+wd ds 0=pV ds (i+1)+z
 | 0=>by rw [pV,pV,pV,pV,j8 h,if_pos rfl,Nat.pow_zero];omega
 | i+1=>by
   have:=jfQ (z:=z) h i
   show pV (ds.set 0 z) (i+1)+wd (ds.set 0 z) (i+1)*65536 ^ (i+1)+wd ds 0=pV ds (i+1)+wd ds (i+1)*65536 ^ (i+1)+z
   rw [j8 h,if_neg (by omega)];omega
def B16:Nat:=115792089237316195423570985008687907853269984665640564039457584007913129639936
theorem Yz:65536 ^ 16=B16:=by decide+kernel
def rr (V:Nat):Nat:=V % B16+38*(V / B16)
theorem jiw (V:Nat):rr V % P25=V % P25:=by
 have h:=Nat.mod_add_div V B16;have e:V=rr V+P25*(2*(V / B16)):=by
  unfold rr;have hb:B16=2*P25+38:=by decide+kernel
  conv=>lhs;rw [<-h]
  generalize V % B16=r;generalize V / B16=q;rw [hb,jqZ,<-jqJ,jqI P25 2];omega
 conv=>rhs;rw [e]
 rw [jq1]
theorem jdI {V:Nat}(h:V / B16 < 17592186044416):rr (rr V) < B16:=by
 have h0:(0:Nat) < B16:=by decide+kernel
 have h1:V % B16 < B16:=jp3 _ h0;have hb:38*17592186044416+38 < B16:=by decide+kernel
 have h2:rr V < B16+38*17592186044416:=by unfold rr;omega
 have h3:=Nat.div_add_mod (rr V) B16;have h4:=jp3 (rr V) h0;rw [show rr (rr V)=rr V % B16+38*(rr V / B16) from rfl];generalize rr V=U at *;clear h h1;generalize B16=M at *;have hq:U / M < 2:=jq2 (by omega);generalize U / M=q at *;generalize U % M=r at *;have:q=0\/q=1:=by omega
 rcases this with rfl | rfl <;> omega
theorem jiv {V:Nat}(h:V < B16):rr V=V:=by
 unfold rr;rw [jqM h,jqR h,Nat.mul_zero,jpP]
def rd (V:Nat):List Nat:=(dgs 16 V).set 0 (dg V 0+38*(V / B16))
theorem jkA (V:Nat):(rd V).length=16:=by unfold rd;rw [jp5,qH]
theorem rd_val (V:Nat):pV (rd V) 16=rr V:=by
 have:pV ((dgs 16 V).set 0 (dg V 0+38*(V / B16))) 16+wd (dgs 16 V) 0=pV (dgs 16 V) 16+(dg V 0+38*(V / B16)):=jfQ (ds:=dgs 16 V) (z:=dg V 0+38*(V / B16)) (by rw [qH];omega) 15;rw [Jv 16 V 16 (jpo _),yx (by omega),Yz] at this;unfold rd rr;omega
theorem jk4 {V:Nat}(h:V / B16 < 17592186044416):∀ i,i < 16->wd (rd V) i < 576460752303423488:=fun i hi=>by
 unfold rd;rw [j8 (by rw [qH];omega)];have:=zK V 0
 split
 ·omega
 ·rw [yx hi];have:=zK V i;omega
theorem jkz {V:Nat}(h:V < B16):rd V=dgs 16 V:=by
 unfold rd;rw [jqR h,Nat.mul_zero,jpP];refine jp8 (by simp) fun i h1 h2=> ?_
 rw [List.getElem_set]
 split
 ·rename_i q
  subst q;simp [dgs]
 ·rfl
def pd (i:Nat):Nat:=if i=0 then 65517 else if i=15 then 32767 else 65535
theorem jdu:∀ i,i < 16->pd i=dg P25 i:=by decide+kernel
theorem jj1 (i:Nat):pd i < 65536:=by unfold pd;split <;> (try split) <;> omega
theorem ZI {i:Nat}{w:World}:Calls jpx 132 #[.int .i64 (i:Int)] w fun e w'=>e= .returned (.int .u64 (pd i:Int))/\Ext w w':=by
 by_cases h0:i=0
 ·have b0:((i:Int)==0)=true:=by simpa using h0
  have hp:Hid (pd i=65517):=if_pos h0;clear h0;go_enter Tryz.func132,Tryz.ntmps132
  go_wp2_with fail;go_ret;exact ⟨by rw [hp.out];rfl,jnQ _⟩
 ·have b0:((i:Int)==0)=false:=by simpa using h0
  by_cases h15:i=15
  ·have b1:((i:Int)==15)=true:=by rw [h15];rfl
   have hp:Hid (pd i=32767):=(if_neg h0).trans (if_pos h15);clear h0 h15;go_enter Tryz.func132,Tryz.ntmps132
   go_wp2_with fail;go_ret;exact ⟨by rw [hp.out];rfl,jnQ _⟩
  ·have b1:((i:Int)==15)=false:=by
    have: ¬ (i:Int)=15:=by omega
    simpa using this
   have hp:Hid (pd i=65535):=(if_neg h0).trans (if_neg h15);clear h0 h15;go_enter Tryz.func132,Tryz.ntmps132
   go_wp2_with fail;go_ret;exact ⟨by rw [hp.out];rfl,jnQ _⟩
theorem jb7 (v i:Nat):v / 65536 ^ i=65536*(v / 65536 ^ (i+1))+dg v i:=by
 rw [dg,show (65536:Nat) ^ (i+1)=65536 ^ i*65536 from jqN _ _,<-jqQ];omega
theorem jfd {v p i:Nat}(h:v / 65536 ^ (i+1)=p / 65536 ^ (i+1)) (hd:dg v i≠dg p i):decide (dg p i < dg v i)=decide (p<=v):=by
 have h1:=jb7 v i;have h2:=jb7 p i;rw [h] at h1;by_cases q:dg p i < dg v i
 ·rw [decide_eq_true q];refine (decide_eq_true ?_).symm;rcases jpu v p with r | r
  ·have:=Nat.div_le_div_right (c:=65536 ^ i) (jqU r);omega
  ·exact r
 ·rw [decide_eq_false q];refine (decide_eq_false fun r=> ?_).symm;have:=Nat.div_le_div_right (c:=65536 ^ i) r;omega
theorem jeY {v p i:Nat}(h:v / 65536 ^ (i+1)=p / 65536 ^ (i+1)) (hd:dg v i=dg p i):v / 65536 ^ i=p / 65536 ^ i:=by
 rw [jb7 v i,jb7 p i,h,hd]
def J6:List Nat:=jqn 16 0
theorem zy (w:World):(jpI 200).run jpx w= .ok (.agg (jc J6).toArray) w:=by kernel_rfl
theorem Zt {vs:List Nat}{x:Nat}(hl:vs.length=16) (h:∀ j,j < 16->wd vs j=dg x j):vs=dgs 16 x:=by
 refine jp8 (by rw [qH,hl]) fun i h1 h2=> ?_
 have:=h i (by omega);simp [wd,jpr,h1] at this
 simp [dgs,this]
def RL (ds:List Nat):Nat->List Nat
 | 0=>ds
 | k+1=>rd (pV (RL ds k) 16)
def Dig (ds:List Nat):Prop:=ds.length=16/\∀ i,i < 16->wd ds i < 576460752303423488
theorem Dig.top {ds:List Nat}(h:Dig ds):pV ds 16 / B16 < 17592186044416:=by
 have:=jhf (n:=16) h.2 16 (jpo _);rw [cR,Yz] at this;exact this
theorem jg1 {ds:List Nat}(h:Dig ds):∀ k,Dig (RL ds k)
 | 0=>h
 | k+1=>⟨jkA _,jk4 (jg1 h k).top⟩
def cN (ds:List Nat):Nat:=rr (rr (pV ds 16))
theorem jj5 {ds:List Nat}(h:Dig ds):RL ds 4=dgs 16 (cN ds):=by
 have h1:=jdI h.top;have e1:pV (RL ds 1) 16=rr (pV ds 16):=rd_val _;have e2:pV (RL ds 2) 16=cN ds:=by rw [show RL ds 2=rd (pV (RL ds 1) 16) from rfl,rd_val,e1];rfl
 have e3:pV (RL ds 3) 16=cN ds:=by rw [show RL ds 3=rd (pV (RL ds 2) 16) from rfl,rd_val,e2];exact jiv h1
 rw [show RL ds 4=rd (pV (RL ds 3) 16) from rfl,e3];exact jkz h1
theorem jhd {ds:List Nat}(h:Dig ds):cN ds < B16:=jdI h.top
theorem jei (ds:List Nat):cN ds % P25=pV ds 16 % P25:=by unfold cN;rw [jiw,jiw]
theorem jo3 {ds:List Nat}{w:World}(hd:Dig ds):
 Calls jpx 130 #[.agg (jc ds).toArray] w fun e w'=>e= .returned (.agg (jc (dgs 16 (cN ds))).toArray)/\Ext w w':=by
 have hal:=zy;have ZL:J6.length=16:=rfl;generalize J6=zs at *;have ZS:=jnE ZL;have RD:Hid (∀ k,Dig (RL ds k)):=jg1 hd;have RE:=Hj (jj5 hd);obtain ⟨R,hR⟩:∃ R:Nat->List Nat,R=RL ds:=⟨_,rfl⟩;have RS:Hid (∀ (k:Nat) (_:Unit),rd (pV (R k) 16)=R (k+1)):=fun k _=>by rw [hR];rfl
 have R0:Hid (∀ _:Unit,R 0=ds):=fun _=>by rw [hR];rfl
 rw [<-hR] at RD RE;clear hR;generalize dgs 16 (cN ds)=rs at *;have B0:Hid (Ur ((w.alloc (jqY (jc ds).toArray 200)).alloc (jqY (jc zs).toArray 200)) w.heap.size 200 ds/\Ur ((w.alloc (jqY (jc ds).toArray 200)).alloc (jqY (jc zs).toArray 200)) (w.heap.size+1) 200 zs/\Ext w ((w.alloc (jqY (jc ds).toArray 200)).alloc (jqY (jc zs).toArray 200))):=⟨jQ _ _ _,jK _ _ _,((jnQ w).alloc _).alloc _⟩;clear hd;go_enter Tryz.func130,Tryz.ntmps130
 go_upto_region 1 with fail;refine jg (fun W=>Ur W w.heap.size 200 ds/\Ur W (w.heap.size+1) 200 zs/\Ext w W) B0.out ?_;clear B0;rintro W0 ⟨k0,k1,e0⟩;replace k0:=Hj k0;replace k1:=Hj k1;replace e0:=Hj e0;go_wp2_with fail;go_loopw [3] (fun iv wr=>∃ k:Nat,k<=4/\iv= .int .i64 (k:Int)/\Ur wr w.heap.size 200 (R k)/\Ur wr (w.heap.size+1) 200 zs/\Ext w wr) (fun iv _=>4 - (intOf iv).toNat)
 case atStart=>exact ⟨0,jpp _,rfl,by rw [R0.out ()];exact k0.out,k1.out,e0.out⟩
 case round=>
  clear k0 k1 e0 R0;obtain ⟨k,hk,rfl,k0,k1,e0⟩:=hrel;replace k0:=Hj k0;replace k1:=Hj k1;replace e0:=Hj e0;by_cases hlt:k < 4
  ·have ik:(k:Int) < 4:=by omega
   have ik0:(0:Int)<=(k:Int):=by omega
   have VL:=(RD.out k).1;have VB:Hid (∀ i,i < 16->wd (R k) i < 576460752303423488):=(RD.out k).2;have HN:=Hj (RS.out k);have DG:Hid (∀ i,i < 16->dg (pV (R k) 16) i=(wd (R k) i+cR (R k) i) % 65536):=fun i hi=>jjX _ hi
   have CS:Hid (∀ i,cR (R k) (i+1)=(wd (R k) i+cR (R k) i) / 65536):=jb2 _;have CB:Hid (∀ i,i<=16->cR (R k) i < 17592186044416):=jhf (RD.out k).2;have C0:=Hj (jb3 (R k));have C16:Hid (cR (R k) 16=pV (R k) 16 / B16):=by unfold Hid;rw [cR,Yz]
   clear RD RE RS;obtain ⟨rn,hrn⟩:=ex_ (R (k+1));rw [<-hrn] at HN;replace hrn:=Hj hrn;generalize R k=vs at *;obtain ⟨V,hV⟩:=ex_ (pV vs 16);rw [<-hV] at HN DG C16;clear hV;go_wp2_with fail;go_loopw [4,5] (fun cv jv wr=>∃ (i:Nat) (us:List Nat),i<=16/\jv= .int .i64 (i:Int)/\cv= .int .u64 (cR vs i:Int)/\us.length=16/\(∀ j,j < i->wd us j=dg V j)/\(∀ j,i<=j->wd us j=wd vs j)/\Ur wr w.heap.size 200 us/\Ur wr (w.heap.size+1) 200 zs/\Ext w wr) (fun _ jv _=>16 - (intOf jv).toNat)
   case atStart=>exact ⟨0,vs,jpp _,rfl,by rw [C0.out];rfl,VL,fun j hj=>absurd hj (by omega),fun _ _=>rfl,k0.out,k1.out,e0.out⟩
   case round=>
    clear k0 k1 e0 C0;obtain ⟨i,us,hi,rfl,rfl,ul,ud,ur,k0,k1,e0⟩:=hrel;by_cases hlt2:i < 16
    ·have ii:(i:Int) < 16:=by omega
     have ii0:(0:Int)<=(i:Int):=by omega
     have cv:=k0.cell (i:=i) (by omega);have fv:=k0.frozen i;rw [ur i (jpo _)] at cv;have b1:=VB.out i hlt2;have b2:=CB.out i (by omega);have hz:=Hj (DG.out i hlt2);have hc:=Hj (CS.out i);generalize wd vs i=a at *;generalize cR vs i=c at *;obtain ⟨T,hT⟩:=ex_ (a+c);obtain ⟨z,hzz⟩:=ex_ (T % 65536);obtain ⟨d,hd⟩:=ex_ (T / 65536);rw [<-hT,<-hzz] at hz;rw [<-hT,<-hd] at hc;have f4:(a:Int)+(c:Int)=(T:Int):=by omega
     have f4w:IntKind.u64.wrap (T:Int)=(T:Int):=by rw [jqT];omega
     have f5:(T:Int) % 65536=(z:Int):=by omega
     have f5t:Int.tmod (T:Int) 65536=(z:Int):=by rw [jq4 (by omega)];exact f5
     have f5w:IntKind.u64.wrap (z:Int)=(z:Int):=by rw [jqT];omega
     have f6:(T:Int) / 65536=(d:Int):=by omega
     have f6t:Int.tdiv (T:Int) 65536=(d:Int):=by rw [jq3 (by omega)];exact f6
     have f6w:IntKind.u64.wrap (d:Int)=(d:Int):=by rw [jqT];omega
     have Tlt:T < 18446744073709551616:=by omega
     have il:Hid (i < us.length):=by unfold Hid;omega
     have gne:Hid (¬ w.heap.size+1=w.heap.size):=by unfold Hid;omega
     replace hT:=Hj hT;replace hzz:=Hj hzz;replace hd:=Hj hd;replace ud:=Hj ud;replace ur:=Hj ur;replace k0:=Hj k0;replace k1:=Hj k1;replace e0:=Hj e0;clear b1 b2;go_wp2_with fail;refine ⟨⟨i+1,us.set i z,by omega,by go_num,by rw [hc.out],by rw [jp5];exact ul,fun j hj=> ?_,fun j hj=> ?_,k0.out.set,(jp7 _ _ _ _ gne.out).trans k1.out,Ext.setCell e0.out (jpo _) _⟩,by simp [intOf];omega⟩
     ·rw [j8 il.out];by_cases e:j=i
      ·rw [if_pos e,e];exact hz.out.symm
      ·rw [if_neg e];exact ud.out j (by omega)
     ·rw [j8 il.out,if_neg (by omega)];exact ur.out j (by omega)
    ·obtain rfl:i=16:=by omega
     have hu:=Zt ul ud;have c0:=k0.cell (i:=0) (by omega);have fv:=k0.frozen 0;rw [ud 0 (by omega)] at c0;have b1:=zK V 0;have b2:=CB.out 16 (jpo _);have hrd:Hid (∀ _:Unit,us.set 0 (dg V 0+38*cR vs 16)=rn):=fun _=>by rw [<-HN.out (),C16.out,hu];rfl
     generalize dg V 0=a at *;generalize cR vs 16=c at *;obtain ⟨p,hp⟩:=ex_ (38*c);obtain ⟨T,hT⟩:=ex_ (a+p);rw [<-hp,<-hT] at hrd;have f3:(38:Int)*(c:Int)=(p:Int):=by omega
     have f3w:IntKind.u64.wrap (p:Int)=(p:Int):=by rw [jqT];omega
     have f4:(a:Int)+(p:Int)=(T:Int):=by omega
     have f4w:IntKind.u64.wrap (T:Int)=(T:Int):=by rw [jqT];omega
     have gne:Hid (¬ w.heap.size+1=w.heap.size):=by unfold Hid;omega
     replace hp:=Hj hp;replace hT:=Hj hT;replace k0:=Hj k0;replace k1:=Hj k1;replace e0:=Hj e0;clear b1 b2 ud ur hu HN DG CS CB C16 VB hlt2 hi;go_wp2_with fail;refine ⟨⟨k+1,by omega,by go_num,?_,(jp7 _ _ _ _ gne.out).trans k1.out,Ext.setCell e0.out (jpo _) _⟩,by simp [intOf];omega⟩;rw [<-hrn.out,<-hrd.out ()];exact k0.out.set
  ·obtain rfl:k=4:=by omega
   rw [RE.out] at k0;have L4:Hid (rs.length=16):=by unfold Hid;rw [<-RE.out];exact (RD.out 4).1
   have RSZ:=jnE L4.out;have R1:=jw rs;clear RD RE RS L4;go_wp2_with (first
    | (refine wl_ rfl 200 rfl w.heap.size rfl k0.out rfl rfl (by rw [RSZ];rfl) ?_;go_frame)
    | (refine ws_ rfl 200 rfl (w.heap.size+1) (jc rs).toArray rfl rfl k1.out (by rw [RSZ];rfl) (by rw [RSZ,ZS]) R1 ?_;go_frame))
   (try simp only [jqV,Exit.then]);refine jqW (jqX rfl _ _ (w.heap.size+1) 200 (jc rs).toArray (0,0) _ rfl (jqc _ _ _ _ _ _ k1.out) rfl rfl (by rw [RSZ];rfl)) rfl ?_;exact ⟨rfl,jqb e0.out (by omega) _⟩
def bK (v:Nat):Nat->Nat
 | 0=>0
 | i+1=>1 - (dg v i+65536 - dg P25 i - bK v i) / 65536
theorem jg6 (v:Nat):∀ i,bK v i<=1
 | 0=>jpp _
 | i+1=>by rw [bK];omega
theorem jb6 (x i:Nat):x / 65536 ^ (i+1)=x / 65536 ^ i / 65536:=by rw [jqN,jqQ]
theorem jfH {v:Nat}(h:P25<=v):∀ i,(v - P25) / 65536 ^ i+P25 / 65536 ^ i+bK v i=v / 65536 ^ i
 | 0=>by rw [Nat.pow_zero,Nat.div_one,Nat.div_one,Nat.div_one,bK];omega
 | i+1=>by
   have ih:=jfH h i;have hb:=jg6 v i;rw [jb6,jb6 P25,jb6 v,bK];unfold dg;generalize (v - P25) / 65536 ^ i=D at *;generalize P25 / 65536 ^ i=P at *;generalize v / 65536 ^ i=V at *;generalize bK v i=b at *;omega
theorem jkl {v:Nat}(h:P25<=v) (i:Nat):dg (v - P25) i=(dg v i+65536 - dg P25 i - bK v i) % 65536:=by
 have ih:=jfH h i;have hb:=jg6 v i;unfold dg;generalize (v - P25) / 65536 ^ i=D at *;generalize P25 / 65536 ^ i=P at *;generalize v / 65536 ^ i=V at *;generalize bK v i=b at *;omega
theorem jiX (x:Nat):Dig (dgs 16 x):=⟨qH 16 x,fun i hi=>by rw [yx hi];have:=zK x i;omega⟩
theorem jkc {x:Nat}(h:x < B16):cN (dgs 16 x)=x:=by
 unfold cN;rw [Jv 16 x 16 (jpo _),Yz,jqM h,jiv h,jiv h]
theorem ji8 {x i:Nat}(hi:i < 16):bt (kL x) (2*i)=dg x i % 256:=by
 rw [Q0 (by omega),dg,show (256:Nat) ^ (2*i)=65536 ^ i by rw [Nat.pow_mul]];generalize x / 65536 ^ i=X;omega
theorem jhH {x i:Nat}(hi:i < 16):bt (kL x) (2*i+1)=dg x i / 256:=by
 rw [Q0 (by omega),dg,show (256:Nat) ^ (2*i+1)=65536 ^ i*256 by rw [jqN,Nat.pow_mul],<-jqQ];generalize x / 65536 ^ i=X;omega
theorem jhR {v x:Nat}(h:P25<=v) (hm:v % P25=x % P25):(v - P25) % P25=x % P25:=by
 rw [<-hm,Nat.mod_eq_sub_mod h]
def mW (w:World) (g:Nat):Nat:=match w.heap[g]? with
 | some (.cells cs _ _)=>pV (cs.toList.map fun v=>match v with | .int _ z=>z.toNat | _=>0) 16
 | _=>0
theorem jkY {w:World}{g:Nat}{t:jpC}{vs:List Nat}(h:Ur w g t vs):mW w g=pV vs 16:=by
 unfold mW;unfold Ur at h;rw [h];simp [jc,List.map_map,Function.comp_def]
theorem jhO {w:World}{g:Nat}{t:jpC}{v:Nat}(h:Ur w g t (dgs 16 v)) (hv:v < B16):mW w g=v:=by
 rw [jkY h,Jv 16 v 16 (jpo _),Yz,jqM hv]
theorem Ur.boxed (w:World) (t:jpC) (vs:List Nat):Ur (w.alloc (.cells (jc vs).toArray t)) w.heap.size t vs:=jqq _ _
theorem jdi {v:Nat}{w:World}(hv:v < B16):
 Calls jpx 131 #[.agg (jc (dgs 16 v)).toArray] w fun e w'=>e= .returned (.bool (decide (P25<=v)))/\Ext w w':=by
 have PR:Hid (∀ (W:World) (i:Nat),Calls jpx 132 #[.int .i64 (i:Int)] W fun e w'=>e= .returned (.int .u64 (pd i:Int))/\Ext W w'):=fun W i=>ZI
 have st:Hid (v / 65536 ^ 16=P25 / 65536 ^ 16):=by
  unfold Hid;rw [Yz,jqR hv,jqR (show P25 < B16 by decide+kernel)]
 obtain ⟨L,hL⟩:=ex_ (decide (P25<=v));have TD:Hid (∀ i,i < 16->v / 65536 ^ (i+1)=P25 / 65536 ^ (i+1)->dg v i≠pd i->decide (pd i < dg v i)=L):=fun i hi h hd=>by
  rw [hL,jdu i hi];exact jfd h (by rw [<-jdu i hi];exact hd)
 have SD:Hid (∀ i,i < 16->v / 65536 ^ (i+1)=P25 / 65536 ^ (i+1)->dg v i=pd i->v / 65536 ^ i=P25 / 65536 ^ i):=fun i hi h hd=>jeY h (by rw [<-jdu i hi];exact hd)
 have LT:Hid (v / 65536 ^ 0=P25 / 65536 ^ 0->L=true):=fun h=>by
  rw [Nat.pow_zero,Nat.div_one,Nat.div_one] at h;rw [hL,h];exact decide_eq_true (jpo _)
 rw [<-hL];clear hL hv;have XL:=qH 16 v;have WX:Hid (∀ j,j < 16->wd (dgs 16 v) j=dg v j):=fun j hj=>yx hj
 have DL:Hid (∀ j,dg v j < 65536):=zK v;generalize dgs 16 v=xs at *;obtain ⟨E,hE⟩:∃ E:Nat->Prop,E=fun m=>v / 65536 ^ m=P25 / 65536 ^ m:=⟨_,rfl⟩
 have hE':∀ m,(v / 65536 ^ m=P25 / 65536 ^ m)=E m:=fun m=>by rw [hE]
 simp only [hE'] at st TD SD LT;clear hE hE';obtain ⟨D,hD⟩:∃ D:Nat->Nat,D=dg v:=⟨_,rfl⟩;rw [<-hD] at TD SD WX DL;clear hD;have B0:Hid (Ur (w.alloc (jqY (jc xs).toArray 200)) w.heap.size 200 xs/\Ext w (w.alloc (jqY (jc xs).toArray 200))):=⟨Ur.boxed _ _ _,(jnQ w).alloc _⟩;go_enter Tryz.func131,Tryz.ntmps131
 go_upto_region 1 with fail;refine jg (fun W=>Ur W w.heap.size 200 xs/\Ext w W) B0.out ?_;clear B0;rintro W0 ⟨k0,e0⟩;replace k0:=Hj k0;replace e0:=Hj e0;go_wp2_with fail;go_loopw [3] (fun iv wr=>∃ m:Nat,m<=16/\iv= .int .i64 ((m:Int) - 1)/\E m/\Ur wr w.heap.size 200 xs/\Ext w wr) (fun iv _=>(intOf iv+1).toNat)
 case atStart=>exact ⟨16,jpo _,rfl,st.out,k0.out,e0.out⟩
 case round=>
  clear k0 e0 st;obtain ⟨m,hm,rfl,hs,k0,e0⟩:=hrel
  cases m with
  | zero=>
    have hl:=LT.out hs;replace hl:=Hj hl;clear k0 hs TD SD LT PR WX DL;replace e0:=Hj e0;rw [show ((0:Nat):Int) - 1= -1 from rfl];go_wp2_with fail;(try simp only [jqV,Exit.then]);go_ret;exact ⟨by rw [hl.out];rfl,e0.out⟩
  | succ i=>
    have hi:i < 16:=by omega
    rw [show ((i+1:Nat):Int) - 1=(i:Int) by omega];have ii:(i:Int) < 16:=by omega
    have ii0:(0:Int)<=(i:Int):=by omega
    have PRi:=Hj (fun W=>PR.out W i);have b1:=DL.out i;have b2:=jj1 i;have KC:Hid (∀ s,Ext wr s->s.cell? ⟨w.heap.size,i,none⟩=some (.int .u64 (D i:Int))):=fun s e=>by
     have:=(k0.kept e k0.lt).cell (i:=i) (by omega);rw [WX.out i hi] at this;exact this
    have TDi:=Hj (TD.out i hi hs);have SDi:=Hj (SD.out i hi hs);have KK:Hid (∀ s,Ext wr s->Ur s w.heap.size 200 xs/\Ext w s):=fun s e=>⟨k0.kept e k0.lt,e0.trans e⟩
    clear k0 e0 hs TD SD LT PR WX DL;have bw:IntKind.i64.wrap ((i:Int) - 1)=(i:Int) - 1:=jq0 _ (by omega);generalize D i=a at *;generalize pd i=p at *;by_cases q:a=p
    ·have nb:((a:Int)!=(p:Int))=false:=by rw [q];simp
     have hn:=Hj (SDi.out q);clear SDi TDi q;go_wp2_with fail;refine qgE [0,1,2,3,4,5] [4] ?_;repeat ((first | refine qR _ (fun w' e=>KC.out w' ((jnQ _).drew.trans e)) ?_ | refine qS ?_);go_frame)
     refine qD fun K1 hK1=> ?_
     go_simp;refine (PRi.out _).mono ?_;rintro e w2 ⟨rfl,e1⟩;refine hK1.out _ _ e1 ?_;clear hK1 K1;try go_frame
     repeat ((first | refine qR0 ?_ | refine qS ?_);go_frame)
     refine jp ?_;have E1:=Hj (KK.out w2 ((jnQ _).drew.trans e1));clear KK KC e1 PRi;go_wp2_with fail;refine ⟨⟨i,by omega,rfl,hn.out,E1.out.1,E1.out.2⟩,by simp [intOf]⟩
    ·have nb:((a:Int)!=(p:Int))=true:=by
      have: ¬ (a:Int)=(p:Int):=by omega
      simpa using this
     have dt:Hid (decide (p < a)=L):=TDi.out q;clear SDi TDi q;go_wp2_with fail;refine qgE [0,1,2,3,4,5] [4] ?_;repeat ((first | refine qR _ (fun w' e=>KC.out w' ((jnQ _).drew.trans e)) ?_ | refine qS ?_);go_frame)
     refine qD fun K1 hK1=> ?_
     go_simp;refine (PRi.out _).mono ?_;rintro e w2 ⟨rfl,e1⟩;refine hK1.out _ _ e1 ?_;clear hK1 K1;try go_frame
     repeat ((first | refine qR0 ?_ | refine qS ?_);go_frame)
     refine jp ?_;have E1:=Hj (KK.out w2 ((jnQ _).drew.trans e1));have KC2:Hid (∀ s,Ext w2 s->s.cell? ⟨w.heap.size,i,none⟩=some (.int .u64 (a:Int))):=fun s e=>KC.out s ((jnQ _).drew.trans (e1.trans e))
     clear KK KC e1;go_upto_region 5 with fail;refine qgE [0,1,2,3,4,5,6] [4] ?_;repeat ((first | refine qR _ (fun w' e=>KC2.out w' ((jnQ _).drew.trans e)) ?_ | refine qS ?_);go_frame)
     refine qD fun K1 hK1=> ?_
     go_simp;refine (PRi.out _).mono ?_;rintro e w3 ⟨rfl,e1⟩;refine hK1.out _ _ e1 ?_;clear hK1 K1;try go_frame
     repeat ((first | refine qR0 ?_ | refine qS ?_);go_frame)
     refine jp ?_;have EE:=Hj (E1.out.2.trans ((jnQ _).drew.trans e1));clear KC2 E1 e1 PRi;go_wp2_with fail;(try simp only [jqV,Exit.then]);go_ret;exact ⟨by rw [<-dt.out];rfl,EE.out⟩
theorem jdC {x:Nat}{w:World}(hx:x < B16):
 Calls jpx 104 #[.agg (jc (dgs 16 x)).toArray] w fun e w'=>e= .returned (.agg (cellsOf (kL (x % P25))).toArray)/\Ext w w':=by
 have CA:Hid (∀ W,Calls jpx 130 #[.agg (jc (dgs 16 x)).toArray] W fun e w'=>e= .returned (.agg (jc (dgs 16 x)).toArray)/\Ext W w'):=fun W=>by
  have:=jo3 (w:=W) (jiX x);rw [jkc hx] at this;exact this
 have LE:Hid (∀ (W:World) (v:Nat),v < B16->Calls jpx 131 #[.agg (jc (dgs 16 v)).toArray] W fun e w'=>e= .returned (.bool (decide (P25<=v)))/\Ext W w'):=fun W v h=>jdi h
 have PR:Hid (∀ (W:World) (i:Nat),Calls jpx 132 #[.int .i64 (i:Int)] W fun e w'=>e= .returned (.int .u64 (pd i:Int))/\Ext W w'):=fun W i=>ZI
 have RL:=zx (x % P25);have RB:Hid (∀ i,i < 16->bt (kL (x % P25)) (2*i)=dg (x % P25) i % 256/\bt (kL (x % P25)) (2*i+1)=dg (x % P25) i / 256):=fun i hi=>⟨ji8 hi,jhH hi⟩
 generalize kL (x % P25)=rr at *;have hal:=j2;have hz:=jU;have zl:(jqn 32 (0:UInt8)).length=32:=rfl;rw [<-hz] at hal;clear hz;generalize jqn 32 (0:UInt8)=zs at *;have ZS:(cellsOf zs).toArray.size=32:=by simp [ja,zl]
 have XL:=qH 16 x;have XS:=jnE XL;have X1:=jw (dgs 16 x);have B0:Hid (Ur ((w.alloc (jqY (jc (dgs 16 x)).toArray 200)).alloc (jqY (cellsOf zs).toArray 23)) w.heap.size 200 (dgs 16 x)/\Ky ((w.alloc (jqY (jc (dgs 16 x)).toArray 200)).alloc (jqY (cellsOf zs).toArray 23)) (w.heap.size+1) zs/\Ext w ((w.alloc (jqY (jc (dgs 16 x)).toArray 200)).alloc (jqY (cellsOf zs).toArray 23))):=⟨jQ _ _ _,⟨jK _ _ _,zl⟩,((jnQ w).alloc _).alloc _⟩;obtain ⟨xs,hxs⟩:=ex_ (dgs 16 x);rw [<-hxs] at CA XL XS X1 B0 ⊢;replace hxs:=Hj (fun _:Unit=>hxs);go_enter Tryz.func104,Tryz.ntmps104
 go_upto_region 1 with fail;refine jg (fun W=>Ur W w.heap.size 200 xs/\Ky W (w.heap.size+1) zs/\Ext w W) B0.out ?_;clear B0;rintro W0 ⟨k0,k1,e0⟩;replace k0:=Hj k0;replace k1:=Hj k1;replace e0:=Hj e0;go_wp2_with (refine wl_ rfl 200 rfl w.heap.size rfl k0.out rfl rfl (by rw [XS];rfl) ?_;go_frame)
 refine (CA.out _).mono ?_;rintro e W1 ⟨rfl,e1⟩;have m0:=Hj (k0.out.kept e1 k0.out.lt);have m1:=Hj (k1.out.ext e1);have m2:=Hj (e0.out.trans e1);clear k0 k1 e0 e1 CA;go_upto_region 2 with (refine ws_ rfl 200 rfl w.heap.size (jc xs).toArray rfl rfl m0.out (by rw [XS];rfl) (by rw [XS]) X1 ?_;go_frame)
 refine jg (fun W=>Ur W w.heap.size 200 xs/\Ky W (w.heap.size+1) zs/\Ext w W) ⟨jqc _ _ _ _ _ _ m0.out,⟨(jqy _ _ _ _ (by omega)).trans m1.out.1,zl⟩,jqb m2.out (jpo _) _⟩ ?_;clear m0 m1 m2;rintro W2 ⟨k0,k1,e0⟩;replace k0:=Hj k0;replace k1:=Hj k1;replace e0:=Hj e0;have gne:Hid (¬ w.heap.size+1=w.heap.size):=by unfold Hid;omega
 go_loopw [3] (fun _ wr=>∃ v:Nat,v < B16/\v % P25=x % P25/\Ur wr w.heap.size 200 (dgs 16 v)/\Ky wr (w.heap.size+1) zs/\Ext w wr) (fun _ wr=>mW wr w.heap.size)
 case atStart=>exact ⟨x,hx,rfl,by rw [<-hxs.out ()];exact k0.out,k1.out,e0.out⟩
 case round=>
  clear k0 k1 e0 hxs;obtain ⟨v,hv,hm,k0,k1,e0⟩:=hrel;have LEv:=Hj (fun W=>LE.out W v hv);have hmw:=Hj (jhO k0 hv);have VL:=qH 16 v;have VS:=jnE VL;by_cases hge:P25<=v
  ·rw [decide_eq_true hge] at LEv;have hv2:v - P25 < B16:=by omega
   have hm2:=jhR hge hm;have hlt3:v - P25 < v:=by
    have:0 < P25:=by decide+kernel
    omega
   have DG:Hid (∀ i,i < 16->dg (v - P25) i=(dg v i+65536 - pd i - bK v i) % 65536):=fun i hi=>by rw [jdu i hi];exact jkl hge i
   have BS:Hid (∀ i,i < 16->bK v (i+1)=1 - (dg v i+65536 - pd i - bK v i) / 65536):=fun i hi=>by rw [jdu i hi];rfl
   have WV:Hid (∀ j,j < 16->wd (dgs 16 v) j=dg v j):=fun j hj=>yx hj
   have b00:Hid (bK v 0=0):=rfl;have WE:Hid (∀ us:List Nat,us.length=16->(∀ j,j < 16->wd us j=dg (v - P25) j)->us=dgs 16 (v - P25)):=fun us h1 h2=>Zt h1 h2
   have mwn:Hid (∀ (W:World),Ur W w.heap.size 200 (dgs 16 (v - P25))->mW W w.heap.size < mW wr w.heap.size):=fun W h=>by
    rw [jhO h hv2,hmw.out];exact hlt3
   obtain ⟨y,hy⟩:=ex_ (v - P25);rw [<-hy] at DG WE hv2 hm2 mwn;clear hy hge hlt3 hmw hm;generalize dgs 16 v=vs at *;replace hv2:=Hj hv2;replace hm2:=Hj hm2;replace k0:=Hj k0;replace k1:=Hj k1;replace e0:=Hj e0;replace hv:=Hj hv;go_wp2_with (refine wl_ rfl 200 rfl w.heap.size rfl k0.out rfl rfl (by rw [VS];rfl) ?_;go_frame)
   refine (LEv.out _).mono ?_;rintro e W3 ⟨rfl,e1⟩;have m0:=Hj (k0.out.kept e1 k0.out.lt);have m1:=Hj (k1.out.ext e1);have m2:=Hj (e0.out.trans e1);clear k0 k1 e0 e1 LEv LE;go_wp2_with fail;go_loopw [3,4] (fun ov jv wc=>∃ (i:Nat) (us:List Nat),i<=16/\jv= .int .i64 (i:Int)/\ov= .int .u64 (bK v i:Int)/\us.length=16/\(∀ j,j < i->wd us j=dg y j)/\(∀ j,i<=j->j < 16->wd us j=dg v j)/\Ur wc w.heap.size 200 us/\Ky wc (w.heap.size+1) zs/\Ext w wc) (fun _ jv _=>16 - (intOf jv).toNat)
   case atStart=>exact ⟨0,vs,jpp _,rfl,by rw [b00.out];rfl,VL,fun j hj=>absurd hj (by omega),fun j _ hj=>WV.out j hj,m0.out,m1.out,m2.out⟩
   case round=>
    clear m0 m1 m2 b00 WV;obtain ⟨i,us,hi,rfl,rfl,ul,ud,ur,k0,k1,e0⟩:=hrel;by_cases hlt2:i < 16
    ·have ii:(i:Int) < 16:=by omega
     have ii0:(0:Int)<=(i:Int):=by omega
     have PRi:=Hj (fun W=>PR.out W i);have b1:=zK v i;have b2:=jj1 i;have b3:=jg6 v i;have CC:Hid (∀ s,Ext wr s->s.cell? ⟨w.heap.size,i,none⟩=some (.int .u64 (dg v i:Int))):=fun s e=>by
      have:=(k0.kept e k0.lt).cell (i:=i) (by omega);rw [ur i (jpo _) hlt2] at this;exact this
     have hz:=Hj (DG.out i hlt2);have hc:=Hj (BS.out i hlt2);generalize bK v i=b at *;generalize pd i=p at *;generalize dg v i=a at *;obtain ⟨s,hs⟩:=ex_ (a+65536);obtain ⟨t,ht⟩:=ex_ (s - p);obtain ⟨T,hT⟩:=ex_ (t - b);obtain ⟨z,hzz⟩:=ex_ (T % 65536);obtain ⟨d,hd⟩:=ex_ (T / 65536);obtain ⟨o,ho⟩:=ex_ (1 - d);rw [<-hs,<-ht,<-hT,<-hzz] at hz;rw [<-hs,<-ht,<-hT,<-hd,<-ho] at hc;have f1:(a:Int)+65536=(s:Int):=by omega
     have f1w:IntKind.u64.wrap (s:Int)=(s:Int):=by rw [jqT];omega
     have f2:(s:Int) - (p:Int)=(t:Int):=by omega
     have f2w:IntKind.u64.wrap (t:Int)=(t:Int):=by rw [jqT];omega
     have f4:(t:Int) - (b:Int)=(T:Int):=by omega
     have f4w:IntKind.u64.wrap (T:Int)=(T:Int):=by rw [jqT];omega
     have f5:(T:Int) % 65536=(z:Int):=by omega
     have f5t:Int.tmod (T:Int) 65536=(z:Int):=by rw [jq4 (by omega)];exact f5
     have f5w:IntKind.u64.wrap (z:Int)=(z:Int):=by rw [jqT];omega
     have f6:(T:Int) / 65536=(d:Int):=by omega
     have f6t:Int.tdiv (T:Int) 65536=(d:Int):=by rw [jq3 (by omega)];exact f6
     have f6w:IntKind.u64.wrap (d:Int)=(d:Int):=by rw [jqT];omega
     have f7:1 - (d:Int)=(o:Int):=by omega
     have f7w:IntKind.u64.wrap (o:Int)=(o:Int):=by rw [jqT];omega
     have il:Hid (i < us.length):=by unfold Hid;omega
     have KC:Hid (∀ s,Ext wr s->s.cell? ⟨w.heap.size,i,none⟩=some (.int .u64 (a:Int))/\Ur s w.heap.size 200 us/\Ky s (w.heap.size+1) zs/\Ext w s):=fun s e=>jqS (CC.out s e) (jqS (k0.kept e k0.lt) (jqS (k1.ext e) (e0.trans e)))
     replace hs:=Hj hs;replace ht:=Hj ht;replace hT:=Hj hT;replace hzz:=Hj hzz;replace hd:=Hj hd;replace ho:=Hj ho;replace ud:=Hj ud;replace ur:=Hj ur;clear b1 b2 b3 DG BS WE PR CC k0 k1 e0;go_upto_region 7 with fail;refine qgE [0,1,2,3,4,7,5,6,8,9] [5] ?_;repeat ((first | refine qR _ (fun w' e=>(KC.out w' ((jnQ _).drew.trans e)).1) ?_ | refine qS ?_);go_frame)
     refine qD fun K1 hK1=> ?_
     go_simp;refine (PRi.out _).mono ?_;rintro e w2 ⟨rfl,e1⟩;refine hK1.out _ _ e1 ?_;clear hK1 K1;try go_frame
     repeat ((first | refine qR0 ?_ | refine qS ?_);go_frame)
     refine jp ?_;have Q:=KC.out w2 ((jnQ _).drew.trans e1);have m0:=Hj Q.2.1;have m1:=Hj Q.2.2.1;have m2:=Hj Q.2.2.2;have cv:=m0.out.cell (i:=i) il.out;have fv:=m0.out.frozen i;clear Q KC e1 PRi;generalize wd us i=old at *;go_wp2_with fail;refine ⟨⟨i+1,us.set i z,by omega,by go_num,by rw [hc.out],by rw [jp5];exact ul,fun j hj=> ?_,fun j hj hj2=> ?_,m0.out.set,⟨(jp7 _ _ _ _ gne.out).trans m1.out.1,zl⟩,Ext.setCell m2.out (jpo _) _⟩,by simp [intOf];omega⟩
     ·rw [j8 il.out];by_cases e:j=i
      ·rw [if_pos e,e];exact hz.out.symm
      ·rw [if_neg e];exact ud.out j (by omega)
     ·rw [j8 il.out,if_neg (by omega)];exact ur.out j (by omega) hj2
    ·obtain rfl:i=16:=by omega
     have hu:=WE.out us ul ud;subst hu;have hmm:=Hj (mwn.out wr k0);replace k0:=Hj k0;replace k1:=Hj k1;replace e0:=Hj e0;clear ud ur DG BS WE PR mwn ul;go_wp2_with fail;exact ⟨⟨y,hv2.out,hm2.out,k0.out,k1.out,e0.out⟩,hmm.out⟩
  ·rw [decide_eq_false hge] at LEv;have hx3:x % P25=v:=by rw [<-hm];exact jqM (by omega)
   rw [hx3] at RB;have WV:Hid (∀ j,j < 16->wd (dgs 16 v) j=dg v j):=fun j hj=>yx hj
   clear hx3 hm hge hmw PR hv LE;generalize dgs 16 v=vs at *;replace k0:=Hj k0;replace k1:=Hj k1;replace e0:=Hj e0;go_wp2_with (refine wl_ rfl 200 rfl w.heap.size rfl k0.out rfl rfl (by rw [VS];rfl) ?_;go_frame)
   refine (LEv.out _).mono ?_;rintro e W3 ⟨rfl,e1⟩;have m0:=Hj (k0.out.kept e1 k0.out.lt);have m1:=Hj (k1.out.ext e1);have m2:=Hj (e0.out.trans e1);clear k0 k1 e0 e1 LEv;have a1:=Hj (Ky.boxed W3 zl);have e5:=Hj ((jnQ W3).alloc (jqY (cellsOf zs).toArray 23));go_upto_region 11 with fail;obtain ⟨g,hg⟩:=ex_ W3.heap.size;have lg:w.heap.size+1 < g:=by rw [hg];exact jh m1.out.1
   rw [<-hg];rw [<-hg] at a1;refine jg (fun W=>Ur W w.heap.size 200 vs/\Ky W (w.heap.size+1) zs/\Ky W g zs/\Ext w W) ⟨m0.out.kept e5.out m0.out.lt,m1.out.ext e5.out,a1.out,m2.out.trans e5.out⟩ ?_;clear hg a1 e5 m0 m1 m2;rintro W4 ⟨k0,k1,k2,e0⟩;replace k0:=Hj k0;replace k1:=Hj k1;replace k2:=Hj k2;replace e0:=Hj e0;go_wp2_with fail;go_loopw [7] (fun jv wc=>∃ (i:Nat) (ks:List UInt8),i<=16/\jv= .int .i64 (i:Int)/\ks.length=32/\(∀ j,j < 2*i->bt ks j=bt rr j)/\Ur wc w.heap.size 200 vs/\Ky wc (w.heap.size+1) zs/\Ky wc g ks/\Ext w wc) (fun jv _=>16 - (intOf jv).toNat)
   case atStart=>exact ⟨0,zs,jpp _,rfl,zl,fun j hj=>absurd hj (by omega),k0.out,k1.out,k2.out,e0.out⟩
   case round=>
    clear k0 k1 k2 e0;obtain ⟨i,ks,hi,rfl,kl,kd,k0,k1,k2,e0⟩:=hrel;by_cases hlt2:i < 16
    ·have ii:(i:Int) < 16:=by omega
     have ii0:(0:Int)<=(i:Int):=by omega
     have b1:=zK v i;have rb:=RB.out i hlt2;obtain ⟨p,hp⟩:=ex_ (2*i);obtain ⟨q,hq⟩:=ex_ (p+1);rw [<-hp,<-hq] at rb;have cn:=k0.cell (i:=i) (by omega);rw [WV.out i hlt2] at cn;generalize dg v i=a at *;obtain ⟨z,hz⟩:=ex_ (a % 256);obtain ⟨y,hy⟩:=ex_ (a / 256);rw [<-hz,<-hy] at rb;have z8:z < 256:=by omega
     have y8:y < 256:=by omega
     have g1:(2:Int)*(i:Int)=(p:Int):=by omega
     have g1w:IntKind.i64.wrap (p:Int)=(p:Int):=jq0 _ (by omega);have g2:(p:Int)+1=(q:Int):=by omega
     have g2w:IntKind.i64.wrap (q:Int)=(q:Int):=jq0 _ (by omega);have p0:(0:Int)<=(p:Int):=by omega
     have p32:(p:Int) < 32:=by omega
     have q0:(0:Int)<=(q:Int):=by omega
     have q32:(q:Int) < 32:=by omega
     have pn:Hid (p < 32):=by unfold Hid;omega
     have qn:Hid (q < 32):=by unfold Hid;omega
     have f1:IntKind.u8.wrap (a:Int)=(z:Int):=by rw [IntKind.wrap_u8];omega
     have f1m:(a:Int) % 256=(z:Int):=by omega
     have f2:(a:Int) / 256=(y:Int):=by omega
     have f2t:Int.tdiv (a:Int) 256=(y:Int):=by rw [jq3 (by omega)];exact f2
     have f2w:IntKind.u64.wrap (y:Int)=(y:Int):=by rw [jqT];omega
     have f3:IntKind.u8.wrap (y:Int)=(y:Int):=by rw [IntKind.wrap_u8];omega
     have f3m:(y:Int) % 256=(y:Int):=by omega
     have cg:=k2.cell pn.out;have fg:=k2.frozen p;generalize bt ks p=old at *;have gn:Hid (¬ w.heap.size=g/\ ¬ w.heap.size+1=g/\w.heap.size<=g):=by unfold Hid;omega
     have z8':=Hj z8;have y8':=Hj y8;replace rb:=Hj rb;replace hz:=Hj hz;replace hy:=Hj hy;replace hp:=Hj hp;replace hq:=Hj hq;replace kd:=Hj kd;have cn2:Hid (∀ s,Ur s w.heap.size 200 vs->s.cell? ⟨w.heap.size,i,none⟩=some (.int .u64 (a:Int))):=fun s h=>by
      simp only [World.cell?] at cn ⊢;unfold Ur at h k0;rw [k0] at cn;rw [h];exact cn
     replace k0:=Hj k0;replace k1:=Hj k1;replace k2:=Hj k2;replace e0:=Hj e0;clear b1 z8 y8 RB WV;go_upto_region 15 with fail;refine jg (fun W=>Ur W w.heap.size 200 vs/\Ky W (w.heap.size+1) zs/\Ky W g (ks.set p (jpt z))/\Ext w W) ⟨(jp7 _ _ _ _ gn.out.1).trans k0.out,⟨(jp7 _ _ _ _ gn.out.2.1).trans k1.out.1,zl⟩,k2.out.setB6 pn.out z8'.out,Ext.setCell e0.out gn.out.2.2 _⟩ ?_;clear k0 k1 k2 e0 cn cg fg old;rintro W5 ⟨k0,k1,k2,e0⟩;have cn:=cn2.out _ k0;have cg:=k2.cell qn.out;have fg:=k2.frozen q;generalize bt (ks.set p (jpt z)) q=old at *;replace k0:=Hj k0;replace k1:=Hj k1;replace k2:=Hj k2;replace e0:=Hj e0;go_wp2_with fail;refine ⟨⟨i+1,(ks.set p (jpt z)).set q (jpt y),by omega,by go_num,by rw [jp5,jp5];exact kl,fun j hj=> ?_,(jp7 _ _ _ _ gn.out.1).trans k0.out,⟨(jp7 _ _ _ _ gn.out.2.1).trans k1.out.1,zl⟩,k2.out.setB6 qn.out y8'.out,Ext.setCell e0.out gn.out.2.2 _⟩,by simp [intOf];omega⟩;have h1:=hp.out;have h2:=hq.out;have h3:=pn.out;have h4:=qn.out;rw [Za (by rw [jp5];omega) y8'.out];by_cases e:j=q
     ·rw [if_pos e,e];exact rb.out.2.symm
     ·rw [if_neg e,Za (by omega) z8'.out];by_cases e2:j=p
      ·rw [if_pos e2,e2];exact rb.out.1.symm
      ·rw [if_neg e2];exact kd.out j (by omega)
    ·obtain rfl:i=16:=by omega
     have hy:ks=rr:=Y0 (by rw [kl,RL]) fun j hj=>kd j (by omega)
     subst hy;have RS:(cellsOf ks).toArray.size=32:=by simp [ja,kl]
     have R1:=ji ks;replace k1:=Hj k1;replace k2:=Hj k2;replace e0:=Hj e0;clear kd RB WV k0;go_wp2_with (first
      | (refine wl_ rfl 23 rfl g rfl k2.out.1 rfl rfl (by rw [RS];rfl) ?_;go_frame)
      | (refine ws_ rfl 23 rfl (w.heap.size+1) (cellsOf ks).toArray rfl rfl k1.out.1 (by rw [RS];rfl) (by rw [RS,ZS]) R1 ?_;go_frame))
     (try simp only [jqV,Exit.then]);refine jqW (jqX rfl _ _ (w.heap.size+1) 23 (cellsOf ks).toArray (0,0) _ rfl (jqc _ _ _ _ _ _ k1.out.1) rfl rfl (by rw [RS];rfl)) rfl ?_;exact ⟨rfl,jqb e0.out (by omega) _⟩
def Zr (x y:Nat):List Nat:=(jp1 16).map fun i=>dg x i+dg y i
theorem jf2 {x y i:Nat}(h:i < 16):wd (Zr x y) i=dg x i+dg y i:=by simp [wd,Zr,jpr,h]
theorem jaV (x y:Nat):Dig (Zr x y):=⟨by simp [Zr],fun i hi=>by rw [jf2 hi];have:=zK x i;have:=zK y i;omega⟩
theorem jfR (x y:Nat):∀ i,i<=16->pV (Zr x y) i=pV (dgs 16 x) i+pV (dgs 16 y) i
 | 0,_=>rfl
 | i+1,h=>by rw [pV,pV,pV,jfR x y i (by omega),jf2 (by omega),yx (by omega),yx (by omega),jqZ];omega
theorem jfm {vs:List Nat}{x y:Nat}(hl:vs.length=16) (h:∀ j,j < 16->wd vs j=dg x j+dg y j):vs=Zr x y:=by
 refine jp8 (by simp [Zr,hl]) fun i h1 h2=> ?_
 have:=h i (by omega);simp [wd,jpr,h1] at this
 simp [Zr,this]
def jcS (x y:Nat):Nat:=cN (Zr x y)
theorem jiR (x y:Nat):jcS x y < B16:=jhd (jaV x y)
theorem jg4 {x y:Nat}(hx:x < B16) (hy:y < B16):jcS x y % P25=(x+y) % P25:=by
 unfold jcS;rw [jei,jfR x y 16 (jpo _),Jv 16 x 16 (jpo _),Jv 16 y 16 (jpo _),Yz,jqM hx,jqM hy]
theorem jdA {x y:Nat}{w:World}:
 Calls jpx 101 #[.agg (jc (dgs 16 x)).toArray, .agg (jc (dgs 16 y)).toArray] w fun e w'=>e= .returned (.agg (jc (dgs 16 (jcS x y))).toArray)/\Ext w w':=by
 have CA:Hid (∀ W,Calls jpx 130 #[.agg (jc (Zr x y)).toArray] W fun e w'=>e= .returned (.agg (jc (dgs 16 (jcS x y))).toArray)/\Ext W w'):=fun W=>jo3 (jaV x y)
 have hal:=zy;have ZL:J6.length=16:=rfl;generalize J6=zs at *;have ZS:=jnE ZL;have RL:=qH 16 (jcS x y);have XL:=qH 16 x;have YL:=qH 16 y;have WX:Hid (∀ j,j < 16->wd (dgs 16 x) j=dg x j):=fun j hj=>yx hj
 have WY:Hid (∀ j,j < 16->wd (dgs 16 y) j=dg y j):=fun j hj=>yx hj
 generalize dgs 16 (jcS x y)=rs at *;generalize dgs 16 x=xs at *;generalize dgs 16 y=ys at *;have RS:=jnE RL;have R1:=jw rs;have WS:Hid (∀ vs:List Nat,vs.length=16->(∀ j,j < 16->wd vs j=dg x j+dg y j)->vs=Zr x y):=fun vs h1 h2=>jfm h1 h2
 have SL:Hid ((Zr x y).length=16):=(jaV x y).1;generalize Zr x y=ss at *;have B0:Hid (Ur (((w.alloc (jqY (jc xs).toArray 200)).alloc (jqY (jc ys).toArray 200)).alloc (jqY (jc zs).toArray 200)) w.heap.size 200 xs/\Ur (((w.alloc (jqY (jc xs).toArray 200)).alloc (jqY (jc ys).toArray 200)).alloc (jqY (jc zs).toArray 200)) (w.heap.size+1) 200 ys/\Ur (((w.alloc (jqY (jc xs).toArray 200)).alloc (jqY (jc ys).toArray 200)).alloc (jqY (jc zs).toArray 200)) (w.heap.size+1+1) 200 zs/\Ext w (((w.alloc (jqY (jc xs).toArray 200)).alloc (jqY (jc ys).toArray 200)).alloc (jqY (jc zs).toArray 200))):=⟨jF _ _ _ _,jH _ _ _ _,jB _ _ _ _,(((jnQ w).alloc _).alloc _).alloc _⟩;go_enter Tryz.func101,Tryz.ntmps101
 go_upto_region 1 with fail;refine jg (fun W=>Ur W w.heap.size 200 xs/\Ur W (w.heap.size+1) 200 ys/\Ur W (w.heap.size+1+1) 200 zs/\Ext w W) B0.out ?_;clear B0;rintro W0 ⟨k0,k1,k2,e0⟩;replace k0:=Hj k0;replace k1:=Hj k1;replace k2:=Hj k2;replace e0:=Hj e0;go_wp2_with fail;go_loopw [5] (fun jv wr=>∃ (i:Nat) (us:List Nat),i<=16/\jv= .int .i64 (i:Int)/\us.length=16/\(∀ j,j < i->wd us j=dg x j+dg y j)/\(∀ j,i<=j->j < 16->wd us j=dg x j)/\Ur wr w.heap.size 200 us/\Ur wr (w.heap.size+1) 200 ys/\Ur wr (w.heap.size+1+1) 200 zs/\Ext w wr) (fun jv _=>16 - (intOf jv).toNat)
 case atStart=>exact ⟨0,xs,jpp _,rfl,XL,fun j hj=>absurd hj (by omega),fun j _ hj=>WX.out j hj,k0.out,k1.out,k2.out,e0.out⟩
 case round=>
  clear k0 k1 k2 e0;obtain ⟨i,us,hi,rfl,ul,ud,ur,k0,k1,k2,e0⟩:=hrel;by_cases hlt2:i < 16
  ·have ii:(i:Int) < 16:=by omega
   have ii0:(0:Int)<=(i:Int):=by omega
   have KC:Hid (∀ s,Ext wr s->s.cell? ⟨w.heap.size,i,none⟩=some (.int .u64 (dg x i:Int))/\s.cell? ⟨w.heap.size+1,i,none⟩=some (.int .u64 (dg y i:Int))):=fun s e=>by
    have h1:=(k0.kept e k0.lt).cell (i:=i) (by omega);have h2:=(k1.kept e k1.lt).cell (i:=i) (by omega);rw [ur i (jpo _) hlt2] at h1;rw [WY.out i hlt2] at h2;exact jqS h1 h2
   have cv:=k0.cell (i:=i) (by omega);have fv:=k0.frozen i;rw [ur i (jpo _) hlt2] at cv;have b1:=zK x i;have b2:=zK y i;have hz:Hid (∀ z,z=dg x i+dg y i->z=dg x i+dg y i):=fun _ h=>h
   obtain ⟨a,ha⟩:=ex_ (dg x i);obtain ⟨b,hb⟩:=ex_ (dg y i);obtain ⟨T,hT⟩:=ex_ (a+b);rw [<-ha] at KC b1 cv;rw [<-hb] at KC b2;have hTz:Hid (T=dg x i+dg y i):=by unfold Hid;rw [hT,ha,hb]
   clear hz;have f4:(a:Int)+(b:Int)=(T:Int):=by omega
   have f4w:IntKind.u64.wrap (T:Int)=(T:Int):=by rw [jqT];omega
   have il:Hid (i < us.length):=by unfold Hid;omega
   have gne:Hid (¬ w.heap.size+1=w.heap.size/\ ¬ w.heap.size+1+1=w.heap.size):=by unfold Hid;omega
   replace ha:=Hj ha;replace hb:=Hj hb;replace hT:=Hj hT;replace ud:=Hj ud;replace ur:=Hj ur;have d0:Ext wr wr.drew:=(jnQ _).drew;have m0:=Hj (k0.kept d0 k0.lt);have m1:=Hj (k1.kept d0 k1.lt);have m2:=Hj (k2.kept d0 k2.lt);have m3:=Hj (e0.trans d0);clear k0 k1 k2 e0 d0 b1 b2 WX WY WS CA;go_wp2_with fail;refine ym 9 [0,1,2,3,4,5,6,7,8,9] [9] ?_;repeat (refine qzR _ (fun w' e=>KC.out w' ((jnQ _).drew.trans e)) ?_;go_frame)
   refine qzD fun K1 hK1=> ?_
   go_simp;refine hK1.out _ _ (.inl rfl) ?_;clear hK1 K1;refine jN ?_;go_wp2_with fail;refine ⟨⟨i+1,us.set i T,by omega,by go_num,by rw [jp5];exact ul,fun j hj=> ?_,fun j hj hj2=> ?_,m0.out.set,(jp7 _ _ _ _ gne.out.1).trans m1.out,(jp7 _ _ _ _ gne.out.2).trans m2.out,Ext.setCell m3.out (jpo _) _⟩,by simp [intOf];omega⟩
   ·rw [j8 il.out];by_cases e:j=i
    ·rw [if_pos e,e];exact hTz.out
    ·rw [if_neg e];exact ud.out j (by omega)
   ·rw [j8 il.out,if_neg (by omega)];exact ur.out j (by omega) hj2
  ·obtain rfl:i=16:=by omega
   have hu:=WS.out us ul ud;rw [hu] at k0;have SS:=jnE SL.out;replace k0:=Hj k0;replace k1:=Hj k1;replace k2:=Hj k2;replace e0:=Hj e0;clear ud ur hu ul WX WY WS us SL;go_wp2_with (refine wl_ rfl 200 rfl w.heap.size rfl k0.out rfl rfl (by rw [SS];rfl) ?_;go_frame)
   refine (CA.out _).mono ?_;rintro e w2 ⟨rfl,e1⟩;have r2:=Hj (k2.out.kept e1 k2.out.lt);have rx:=Hj (e0.out.trans e1);clear k0 k1 k2 e0 e1 CA;go_wp2_with (refine ws_ rfl 200 rfl (w.heap.size+1+1) (jc rs).toArray rfl rfl r2.out (by rw [RS];rfl) (by rw [RS,ZS]) R1 ?_;go_frame)
   (try simp only [jqV,Exit.then]);refine jqW (jqX rfl _ _ (w.heap.size+1+1) 200 (jc rs).toArray (0,0) _ rfl (jqc _ _ _ _ _ _ r2.out) rfl rfl (by rw [RS];rfl)) rfl ?_;exact ⟨rfl,jqb rx.out (by omega) _⟩
def zR (i:Nat):Nat:=if i=0 then 130996 else 131070
theorem Zb (i:Nat):65536<=zR i/\zR i<=131070:=by unfold zR;split <;> omega
def Qo (x y:Nat):List Nat:=(jp1 16).map fun i=>dg x i+zR i - dg y i
theorem jf1 {x y i:Nat}(h:i < 16):wd (Qo x y) i=dg x i+zR i - dg y i:=by simp [wd,Qo,jpr,h]
theorem jaf (x y:Nat):Dig (Qo x y):=⟨by simp [Qo],fun i hi=>by rw [jf1 hi];have:=zK x i;have:=Zb i;omega⟩
def jfE:List Nat:=(jp1 16).map zR
theorem jiK {i:Nat}(h:i < 16):wd jfE i=zR i:=by simp [wd,jfE,jpr,h]
theorem jfO (x y:Nat):∀ i,i<=16->pV (Qo x y) i+pV (dgs 16 y) i=pV (dgs 16 x) i+pV jfE i
 | 0,_=>rfl
 | i+1,h=>by
   have ih:=jfO x y i (by omega);have h1:=zK y i;have h2:=Zb i;rw [pV,pV,pV,pV,jf1 (by omega),yx (by omega),yx (by omega),jiK (by omega)];have:(dg x i+zR i - dg y i)*65536 ^ i+dg y i*65536 ^ i=dg x i*65536 ^ i+zR i*65536 ^ i:=by
    rw [<-jqZ,<-jqZ]
    congr 1
    omega
   omega
theorem jgf:pV jfE 16=4*P25:=by decide+kernel
theorem jfl {vs:List Nat}{x y:Nat}(hl:vs.length=16) (h:∀ j,j < 16->wd vs j=dg x j+zR j - dg y j):vs=Qo x y:=by
 refine jp8 (by simp [Qo,hl]) fun i h1 h2=> ?_
 have:=h i (by omega);simp [wd,jpr,h1] at this
 simp [Qo,this]
def jd2 (x y:Nat):Nat:=cN (Qo x y)
theorem jjE (x y:Nat):jd2 x y < B16:=jhd (jaf x y)
theorem jiE {x y:Nat}(hx:x < B16) (hy:y < B16):pV (Qo x y) 16+y=x+4*P25:=by
 have:=jfO x y 16 (jpo _);rw [Jv 16 x 16 (jpo _),Jv 16 y 16 (jpo _),Yz,jqM hx,jqM hy,jgf] at this;exact this
theorem jiD {x y:Nat}(hx:x < B16) (hy:y < B16):jd2 x y % P25=(x % P25+(P25 - y % P25)) % P25:=by
 unfold jd2;rw [jei];have h:=jiE hx hy;generalize pV (Qo x y) 16=D at *;have hp:0 < P25:=by decide+kernel
 have h1:=jp3 y hp;have h2:=Nat.div_add_mod y P25;generalize hq:y / P25=q at *;generalize y % P25=r at *;have e:D+P25*q=x+(P25 - r)+P25*3:=by omega
 have e2:(D+P25*q) % P25=D % P25:=jq1 _ _ _;rw [<-e2,e,jq1,Nat.mod_add_mod]
theorem jdD {x y:Nat}{w:World}:
 Calls jpx 102 #[.agg (jc (dgs 16 x)).toArray, .agg (jc (dgs 16 y)).toArray] w fun e w'=>e= .returned (.agg (jc (dgs 16 (jd2 x y))).toArray)/\Ext w w':=by
 have CA:Hid (∀ W,Calls jpx 130 #[.agg (jc (Qo x y)).toArray] W fun e w'=>e= .returned (.agg (jc (dgs 16 (jd2 x y))).toArray)/\Ext W w'):=fun W=>jo3 (jaf x y)
 have hal:=zy;have ZL:J6.length=16:=rfl;generalize J6=zs at *;have ZS:=jnE ZL;have RL:=qH 16 (jd2 x y);have XL:=qH 16 x;have YL:=qH 16 y;have WX:Hid (∀ j,j < 16->wd (dgs 16 x) j=dg x j):=fun j hj=>yx hj
 have WY:Hid (∀ j,j < 16->wd (dgs 16 y) j=dg y j):=fun j hj=>yx hj
 generalize dgs 16 (jd2 x y)=rs at *;generalize dgs 16 x=xs at *;generalize dgs 16 y=ys at *;have RS:=jnE RL;have R1:=jw rs;have WS:Hid (∀ vs:List Nat,vs.length=16->(∀ j,j < 16->wd vs j=dg x j+zR j - dg y j)->vs=Qo x y):=fun vs h1 h2=>jfl h1 h2
 have SL:Hid ((Qo x y).length=16):=(jaf x y).1;generalize Qo x y=ss at *;have B0:Hid (Ur (((w.alloc (jqY (jc xs).toArray 200)).alloc (jqY (jc ys).toArray 200)).alloc (jqY (jc zs).toArray 200)) w.heap.size 200 xs/\Ur (((w.alloc (jqY (jc xs).toArray 200)).alloc (jqY (jc ys).toArray 200)).alloc (jqY (jc zs).toArray 200)) (w.heap.size+1) 200 ys/\Ur (((w.alloc (jqY (jc xs).toArray 200)).alloc (jqY (jc ys).toArray 200)).alloc (jqY (jc zs).toArray 200)) (w.heap.size+1+1) 200 zs/\Ext w (((w.alloc (jqY (jc xs).toArray 200)).alloc (jqY (jc ys).toArray 200)).alloc (jqY (jc zs).toArray 200))):=⟨jF _ _ _ _,jH _ _ _ _,jB _ _ _ _,(((jnQ w).alloc _).alloc _).alloc _⟩;go_enter Tryz.func102,Tryz.ntmps102
 go_upto_region 1 with fail;refine jg (fun W=>Ur W w.heap.size 200 xs/\Ur W (w.heap.size+1) 200 ys/\Ur W (w.heap.size+1+1) 200 zs/\Ext w W) B0.out ?_;clear B0;rintro W0 ⟨k0,k1,k2,e0⟩;replace k0:=Hj k0;replace k1:=Hj k1;replace k2:=Hj k2;replace e0:=Hj e0;go_wp2_with fail;go_loopw [5] (fun jv wr=>∃ (i:Nat) (us:List Nat),i<=16/\jv= .int .i64 (i:Int)/\us.length=16/\(∀ j,j < i->wd us j=dg x j+zR j - dg y j)/\(∀ j,i<=j->j < 16->wd us j=dg x j)/\Ur wr w.heap.size 200 us/\Ur wr (w.heap.size+1) 200 ys/\Ur wr (w.heap.size+1+1) 200 zs/\Ext w wr) (fun jv _=>16 - (intOf jv).toNat)
 case atStart=>exact ⟨0,xs,jpp _,rfl,XL,fun j hj=>absurd hj (by omega),fun j _ hj=>WX.out j hj,k0.out,k1.out,k2.out,e0.out⟩
 case round=>
  clear k0 k1 k2 e0;obtain ⟨i,us,hi,rfl,ul,ud,ur,k0,k1,k2,e0⟩:=hrel;by_cases hlt2:i < 16
  ·have ii:(i:Int) < 16:=by omega
   have ii0:(0:Int)<=(i:Int):=by omega
   have KC:Hid (∀ s,Ext wr s->s.cell? ⟨w.heap.size,i,none⟩=some (.int .u64 (dg x i:Int))/\s.cell? ⟨w.heap.size+1,i,none⟩=some (.int .u64 (dg y i:Int))):=fun s e=>by
    have h1:=(k0.kept e k0.lt).cell (i:=i) (by omega);have h2:=(k1.kept e k1.lt).cell (i:=i) (by omega);rw [ur i (jpo _) hlt2] at h1;rw [WY.out i hlt2] at h2;exact jqS h1 h2
   have cv:=k0.cell (i:=i) (by omega);have fv:=k0.frozen i;rw [ur i (jpo _) hlt2] at cv;have b1:=zK x i;have b2:=zK y i;obtain ⟨a,ha⟩:=ex_ (dg x i);obtain ⟨b,hb⟩:=ex_ (dg y i);obtain ⟨f,hf⟩:=ex_ (zR i);have b3:=Zb i;obtain ⟨S,hS⟩:=ex_ (a+f);obtain ⟨T,hT⟩:=ex_ (S - b);rw [<-ha] at KC b1 cv;rw [<-hb] at KC b2;rw [<-hf] at b3;have hTz:Hid (T=dg x i+zR i - dg y i):=by unfold Hid;rw [hT,hS,ha,hb,hf]
   have CASE:Hid ((((i:Int)==0)=true/\(a:Int)+130996=(S:Int))\/(((i:Int)==0)=false/\(a:Int)+131070=(S:Int))):=by
    unfold Hid;by_cases q:i=0
    ·have h7:f=130996:=by rw [hf,zR,if_pos q]
     exact .inl (jqS (by simpa using q) (by omega))
    ·have h7:f=131070:=by rw [hf,zR,if_neg q]
     exact .inr (jqS (by simpa using q) (by omega))
   have f3w:IntKind.u64.wrap (S:Int)=(S:Int):=by rw [jqT];omega
   have f4:(S:Int) - (b:Int)=(T:Int):=by omega
   have f4w:IntKind.u64.wrap (T:Int)=(T:Int):=by rw [jqT];omega
   replace hf:=Hj hf;replace hS:=Hj hS;have il:Hid (i < us.length):=by unfold Hid;omega
   have gne:Hid (¬ w.heap.size+1=w.heap.size/\ ¬ w.heap.size+1+1=w.heap.size):=by unfold Hid;omega
   replace ha:=Hj ha;replace hb:=Hj hb;replace hT:=Hj hT;replace ud:=Hj ud;replace ur:=Hj ur;have d0:Ext wr wr.drew:=(jnQ _).drew;have m0:=Hj (k0.kept d0 k0.lt);have m1:=Hj (k1.kept d0 k1.lt);have m2:=Hj (k2.kept d0 k2.lt);have m3:=Hj (e0.trans d0);clear k0 k1 k2 e0 d0 b1 b2 WX WY WS CA;rcases CASE.out with ⟨n0b,f3⟩ | ⟨n0b,f3⟩
   ·clear CASE;go_wp2_with fail;refine ym 11 [0,1,2,3,4,5,6,7,8,9,10,11] [11] ?_;repeat (refine qzR _ (fun w' e=>KC.out w' ((jnQ _).drew.trans e)) ?_;go_frame)
    refine qzD fun K1 hK1=> ?_
    go_simp;refine hK1.out _ _ (.inl rfl) ?_;clear hK1 K1;refine jN ?_;go_wp2_with fail;refine ⟨⟨i+1,us.set i T,by omega,by go_num,by rw [jp5];exact ul,fun j hj=> ?_,fun j hj hj2=> ?_,m0.out.set,(jp7 _ _ _ _ gne.out.1).trans m1.out,(jp7 _ _ _ _ gne.out.2).trans m2.out,Ext.setCell m3.out (jpo _) _⟩,by simp [intOf];omega⟩
    ·rw [j8 il.out];by_cases e:j=i
     ·rw [if_pos e,e];exact hTz.out
     ·rw [if_neg e];exact ud.out j (by omega)
    ·rw [j8 il.out,if_neg (by omega)];exact ur.out j (by omega) hj2
   ·clear CASE;go_wp2_with fail;refine ym 11 [0,1,2,3,4,5,6,7,8,9,10,11] [11] ?_;repeat (refine qzR _ (fun w' e=>KC.out w' ((jnQ _).drew.trans e)) ?_;go_frame)
    refine qzD fun K1 hK1=> ?_
    go_simp;refine hK1.out _ _ (.inl rfl) ?_;clear hK1 K1;refine jN ?_;go_wp2_with fail;refine ⟨⟨i+1,us.set i T,by omega,by go_num,by rw [jp5];exact ul,fun j hj=> ?_,fun j hj hj2=> ?_,m0.out.set,(jp7 _ _ _ _ gne.out.1).trans m1.out,(jp7 _ _ _ _ gne.out.2).trans m2.out,Ext.setCell m3.out (jpo _) _⟩,by simp [intOf];omega⟩
    ·rw [j8 il.out];by_cases e:j=i
     ·rw [if_pos e,e];exact hTz.out
     ·rw [if_neg e];exact ud.out j (by omega)
    ·rw [j8 il.out,if_neg (by omega)];exact ur.out j (by omega) hj2
  ·obtain rfl:i=16:=by omega
   have hu:=WS.out us ul ud;rw [hu] at k0;have SS:=jnE SL.out;replace k0:=Hj k0;replace k1:=Hj k1;replace k2:=Hj k2;replace e0:=Hj e0;clear ud ur hu ul WX WY WS us SL;go_wp2_with (refine wl_ rfl 200 rfl w.heap.size rfl k0.out rfl rfl (by rw [SS];rfl) ?_;go_frame)
   refine (CA.out _).mono ?_;rintro e w2 ⟨rfl,e1⟩;have r2:=Hj (k2.out.kept e1 k2.out.lt);have rx:=Hj (e0.out.trans e1);clear k0 k1 k2 e0 e1 CA;go_wp2_with (refine ws_ rfl 200 rfl (w.heap.size+1+1) (jc rs).toArray rfl rfl r2.out (by rw [RS];rfl) (by rw [RS,ZS]) R1 ?_;go_frame)
   (try simp only [jqV,Exit.then]);refine jqW (jqX rfl _ _ (w.heap.size+1+1) 200 (jc rs).toArray (0,0) _ rfl (jqc _ _ _ _ _ _ r2.out) rfl rfl (by rw [RS];rfl)) rfl ?_;exact ⟨rfl,jqb rx.out (by omega) _⟩
theorem jh0 {ds:List Nat}{q z:Nat}(h:q < ds.length):∀ n,q < n->pV (ds.set q z) n+wd ds q*65536 ^ q=pV ds n+z*65536 ^ q
 | 0,hn=>absurd hn (by omega)
 | n+1,hn=>by
   by_cases e:q=n
   ·subst e;have hp:∀ i,i<=q->pV (ds.set q z) i=pV ds i:=by
     intro i
     induction i with
     | zero=>intro _;rfl
     | succ i ih=>intro hi;rw [pV,pV,ih (by omega),j8 h,if_neg (by omega)]
    rw [pV,pV,hp q (jpo _),j8 h,if_pos rfl];omega
   ·have ih:=jh0 (z:=z) h n (by omega);rw [pV,pV,j8 h,if_neg (by omega)];omega
theorem jaq (y l:Nat):y % 65536 ^ (l+1)=y % 65536 ^ l+dg y l*65536 ^ l:=by
 rw [jqN,Nat.mod_mul,dg,jqI (65536 ^ l)]
theorem jhT {us:List Nat}{x y k l u T:Nat}(hl:k+l < us.length) (hl2:k+l < 32) (hu:wd us (k+l)=u) (hT:T=u+dg x k*dg y l)
 (h:pV us 32=x % 65536 ^ k*y+dg x k*(y % 65536 ^ l)*65536 ^ k):pV (us.set (k+l) T) 32=x % 65536 ^ k*y+dg x k*(y % 65536 ^ (l+1))*65536 ^ k:=by
 subst hT;have h1:=jh0 (z:=u+dg x k*dg y l) hl 32 hl2;rw [hu,h,jqZ] at h1;rw [jaq,Nat.mul_add,jqZ,show dg x k*(dg y l*65536 ^ l)*65536 ^ k=dg x k*dg y l*65536 ^ (k+l) by rw [jqK,<-jqJ,jqJ (dg x k*dg y l),jqI (65536 ^ l)]];omega
theorem jjd {us:List Nat}{x y k:Nat}(hy:y < 65536 ^ 16) (h:pV us 32=x % 65536 ^ k*y+dg x k*(y % 65536 ^ 16)*65536 ^ k):pV us 32=x % 65536 ^ (k+1)*y:=by
 rw [h,jqM hy,jaq,jqZ]
 congr 1
 rw [jqJ,jqI y,<-jqJ]
def upL (us:List Nat):List Nat:=(jp1 16).map fun i=>wd us i+38*wd us (i+16)
theorem jiL {us:List Nat}{i:Nat}(h:i < 16):wd (upL us) i=wd us i+38*wd us (i+16):=by simp [wd,upL,jpr,h]
theorem jgV {vs us:List Nat}(hl:vs.length=16) (h:∀ j,j < 16->wd vs j=wd us j+38*wd us (j+16)):vs=upL us:=by
 refine jp8 (by simp [upL,hl]) fun i h1 h2=> ?_
 have:=h i (by omega);simp only [wd,jpr,h1,jq9,Option.getD_some] at this;simp [upL,wd,jpr,this]
theorem jfZ {us:List Nat}(h:∀ j,wd us j<=68717379600):Dig (upL us):=⟨by simp [upL],fun i hi=>by
 rw [jiL hi];have:=h i;have:=h (i+16);omega⟩
theorem jf0 (us:List Nat){M:Nat}(hM:∀ i,65536 ^ (16+i)=M*65536 ^ i):∀ i,i<=16->∃ H,pV us (16+i)=pV us 16+M*H/\pV (upL us) i=pV us i+38*H
 | 0,_=>⟨0,by rw [Nat.mul_zero,jpP,jpP],by rw [pV,pV]⟩
 | i+1,hi=>by
   obtain ⟨H,h1,h2⟩:=jf0 us hM i (by omega);have hp:=hM i;refine ⟨H+wd us (i+16)*65536 ^ i,?_,?_⟩
   ·show pV us (16+i)+wd us (16+i)*65536 ^ (16+i)=_
    rw [h1,hp,Nat.mul_add,Nat.add_assoc,Nat.add_comm 16 i,Nat.mul_left_comm]
   ·rw [pV,pV,h2,jiL (by omega),jqZ,Nat.mul_add,jqJ];omega
theorem jjN (us:List Nat):pV (upL us) 16 % P25=pV us 32 % P25:=by
 have hb:(65536:Nat) ^ 16=2*P25+38:=by decide+kernel
 obtain ⟨H,h1,h2⟩:=jf0 us (M:=2*P25+38) (fun i=>by rw [jqK,hb]) 16 (jpo _);rw [show pV us 32=pV us 16+(2*P25+38)*H from h1,h2,jqZ,show pV us 16+(2*P25*H+38*H)=pV us 16+38*H+P25*(2*H) by
  rw [<-jqJ,jqI P25 2];omega,jq1]
theorem Jy {x y:Nat}{w:World}(hx:x < B16) (hy:y < B16):
 Calls jpx 103 #[.agg (jc (dgs 16 x)).toArray, .agg (jc (dgs 16 y)).toArray] w fun e w'=>∃ z,z < B16/\z % P25=x*y % P25/\e= .returned (.agg (jc (dgs 16 z)).toArray)/\Ext w w':=by
 have hx':x < 65536 ^ 16:=by rw [Yz];exact hx
 have hy':y < 65536 ^ 16:=by rw [Yz];exact hy
 have hal:=zy;have hal3:∀ w,(jpI 228).run jpx w= .ok (.agg (jc (jqn 32 0)).toArray) w:=fun w=>by kernel_rfl
 have ZL:J6.length=16:=rfl;generalize J6=zs at *;have ZS:=jnE ZL;have XL:=qH 16 x;have YL:=qH 16 y;have WX:Hid (∀ j,j < 16->wd (dgs 16 x) j=dg x j):=fun j hj=>yx hj
 have WY:Hid (∀ j,j < 16->wd (dgs 16 y) j=dg y j):=fun j hj=>yx hj
 generalize dgs 16 x=xs at *;generalize dgs 16 y=ys at *;have TL:(jqn 32 0:List Nat).length=32:=rfl;have T0:Hid (∀ j,wd (jqn 32 0) j=0):=fun j=>by
  unfold wd;simp only [jpr,jq5]
  split <;> rfl
 have TV:Hid (pV (jqn 32 0) 32=0):=by unfold Hid;decide+kernel
 generalize (jqn 32 0:List Nat)=ts at *;have CA:Hid (∀ W us,(∀ j,wd us j<=68717379600)->pV us 32=x*y->Calls jpx 130 #[.agg (jc (upL us)).toArray] W fun e w'=>∃ z,z < B16/\z % P25=x*y % P25/\e= .returned (.agg (jc (dgs 16 z)).toArray)/\Ext W w'):=fun W us h1 h2=>(jo3 (jfZ h1)).mono fun e w' h=>⟨cN (upL us),jhd (jfZ h1),by rw [jei,jjN,h2],h.1,h.2⟩
 have ME:Hid (∀ us:List Nat,pV us 32=x % 65536 ^ 16*y->pV us 32=x*y):=fun us h=>by rw [h,jqM hx']
 have MR:Hid (∀ (us:List Nat) k,pV us 32=x % 65536 ^ k*y+dg x k*(y % 65536 ^ 16)*65536 ^ k->pV us 32=x % 65536 ^ (k+1)*y):=fun us k h=>jjd hy' h
 have B0:Hid (Ur ((((w.alloc (jqY (jc xs).toArray 200)).alloc (jqY (jc ys).toArray 200)).alloc (jqY (jc zs).toArray 200)).alloc (jqY (jc ts).toArray 228)) w.heap.size 200 xs/\Ur ((((w.alloc (jqY (jc xs).toArray 200)).alloc (jqY (jc ys).toArray 200)).alloc (jqY (jc zs).toArray 200)).alloc (jqY (jc ts).toArray 228)) (w.heap.size+1) 200 ys/\Ur ((((w.alloc (jqY (jc xs).toArray 200)).alloc (jqY (jc ys).toArray 200)).alloc (jqY (jc zs).toArray 200)).alloc (jqY (jc ts).toArray 228)) (w.heap.size+1+1) 200 zs/\Ur ((((w.alloc (jqY (jc xs).toArray 200)).alloc (jqY (jc ys).toArray 200)).alloc (jqY (jc zs).toArray 200)).alloc (jqY (jc ts).toArray 228)) (w.heap.size+1+1+1) 228 ts/\Ext w ((((w.alloc (jqY (jc xs).toArray 200)).alloc (jqY (jc ys).toArray 200)).alloc (jqY (jc zs).toArray 200)).alloc (jqY (jc ts).toArray 228))):=by
  have e3:Ext ((((w.alloc (jqY (jc xs).toArray 200)).alloc (jqY (jc ys).toArray 200)).alloc (jqY (jc zs).toArray 200))) ((((w.alloc (jqY (jc xs).toArray 200)).alloc (jqY (jc ys).toArray 200)).alloc (jqY (jc zs).toArray 200)).alloc (jqY (jc ts).toArray 228)):=(jnQ _).alloc _;have u0:Ur (((w.alloc (jqY (jc xs).toArray 200)).alloc (jqY (jc ys).toArray 200)).alloc (jqY (jc zs).toArray 200)) w.heap.size 200 xs:=jF _ _ _ _;have u1:Ur (((w.alloc (jqY (jc xs).toArray 200)).alloc (jqY (jc ys).toArray 200)).alloc (jqY (jc zs).toArray 200)) (w.heap.size+1) 200 ys:=jH _ _ _ _;have u2:Ur (((w.alloc (jqY (jc xs).toArray 200)).alloc (jqY (jc ys).toArray 200)).alloc (jqY (jc zs).toArray 200)) (w.heap.size+1+1) 200 zs:=jB _ _ _ _;refine ⟨u0.kept e3 u0.lt,u1.kept e3 u1.lt,u2.kept e3 u2.lt,?_,((((jnQ w).alloc _).alloc _).alloc _).alloc _⟩;have:=jqq (((w.alloc (jqY (jc xs).toArray 200)).alloc (jqY (jc ys).toArray 200)).alloc (jqY (jc zs).toArray 200)) (jqY (jc ts).toArray 228);rw [je,je,je] at this;exact this
 clear hx' hy' hx hy;go_enter Tryz.func103,Tryz.ntmps103
 go_upto_region 2 with fail;refine jg (fun W=>Ur W w.heap.size 200 xs/\Ur W (w.heap.size+1) 200 ys/\Ur W (w.heap.size+1+1) 200 zs/\Ur W (w.heap.size+1+1+1) 228 ts/\Ext w W) B0.out ?_;clear B0;rintro W0 ⟨k0,k1,k2,k3,e0⟩;replace k0:=Hj k0;replace k1:=Hj k1;replace k2:=Hj k2;replace k3:=Hj k3;replace e0:=Hj e0;have gne:Hid (¬ w.heap.size=w.heap.size+1+1+1/\ ¬ w.heap.size+1=w.heap.size+1+1+1/\ ¬ w.heap.size+1+1=w.heap.size+1+1+1):=by unfold Hid;omega
 go_wp2_with fail;go_loopw [6] (fun iv wr=>∃ (k:Nat) (vs:List Nat),k<=16/\iv= .int .i64 (k:Int)/\vs.length=32/\(∀ j,wd vs j<=k*4294836225)/\pV vs 32=x % 65536 ^ k*y/\Ur wr w.heap.size 200 xs/\Ur wr (w.heap.size+1) 200 ys/\Ur wr (w.heap.size+1+1) 200 zs/\Ur wr (w.heap.size+1+1+1) 228 vs/\Ext w wr) (fun iv _=>16 - (intOf iv).toNat)
 case atStart=>exact ⟨0,ts,jpp _,rfl,TL,fun j=>by rw [T0.out];omega,by rw [TV.out,Nat.pow_zero,Nat.mod_one,Nat.zero_mul],k0.out,k1.out,k2.out,k3.out,e0.out⟩
 case round=>
  clear k0 k1 k2 k3 e0;obtain ⟨k,vs,hk,rfl,vl,vb,vv,k0,k1,k2,k3,e0⟩:=hrel;by_cases hlt:k < 16
  ·have ik:(k:Int) < 16:=by omega
   have ik0:(0:Int)<=(k:Int):=by omega
   replace vb:=Hj vb;replace vv:=Hj (fun _:Unit=>vv);replace k0:=Hj k0;replace k1:=Hj k1;replace k2:=Hj k2;replace k3:=Hj k3;replace e0:=Hj e0;go_wp2_with fail;go_loopw [7] (fun jv wr=>∃ (l:Nat) (us:List Nat),l<=16/\jv= .int .i64 (l:Int)/\us.length=32/\(∀ j,wd us j<=(k+1)*4294836225/\(k+l<=j->wd us j<=k*4294836225))/\pV us 32=x % 65536 ^ k*y+dg x k*(y % 65536 ^ l)*65536 ^ k/\Ur wr w.heap.size 200 xs/\Ur wr (w.heap.size+1) 200 ys/\Ur wr (w.heap.size+1+1) 200 zs/\Ur wr (w.heap.size+1+1+1) 228 us/\Ext w wr) (fun jv _=>16 - (intOf jv).toNat)
   case atStart=>exact ⟨0,vs,jpp _,rfl,vl,fun j=>⟨jp0 (vb.out j) (Nat.mul_le_mul_right _ (Nat.le_succ k)),fun _=>vb.out j⟩,by rw [vv.out (),Nat.pow_zero,Nat.mod_one,Nat.mul_zero,Nat.zero_mul,jpP],k0.out,k1.out,k2.out,k3.out,e0.out⟩
   case round=>
    clear vv vb vl k0 k1 k2 k3 e0;obtain ⟨l,us,hl,rfl,ul,ub,uv,k0,k1,k2,k3,e0⟩:=hrel;by_cases hlt2:l < 16
    ·have il:(l:Int) < 16:=by omega
     have il0:(0:Int)<=(l:Int):=by omega
     obtain ⟨q,hq⟩:=ex_ (k+l);obtain ⟨u,hu⟩:∃ u,wd us (k+l)=u:=⟨_,rfl⟩;have u1:=(ub (k+l)).2 (jpo _);rw [hu] at u1;have cv:=k3.cell (i:=q) (by omega);have fv:=k3.frozen q;rw [hq,hu,<-hq] at cv;have b1:=zK x k;have b2:=zK y l;have KC:Hid (∀ s,Ext wr s->s.cell? ⟨w.heap.size,k,none⟩=some (.int .u64 (dg x k:Int))/\s.cell? ⟨w.heap.size+1,l,none⟩=some (.int .u64 (dg y l:Int))/\s.cell? ⟨w.heap.size+1+1+1,q,none⟩=some (.int .u64 (u:Int))):=fun s e=>by
      have h1:=(k0.kept e k0.lt).cell (i:=k) (by omega);have h2:=(k1.kept e k1.lt).cell (i:=l) (by omega);have h3:=(k3.kept e k3.lt).cell (i:=q) (by omega);rw [WX.out k hlt] at h1;rw [WY.out l hlt2] at h2;rw [hq,hu,<-hq] at h3;exact jqS h1 (jqS h2 h3)
     have hm1:dg x k*dg y l<=4294836225:=by
      have h1:dg x k*dg y l<=65535*65535:=Nat.mul_le_mul (by omega) (by omega);omega
     obtain ⟨T,hT⟩:=ex_ (u+dg x k*dg y l);have hstep:=Hj (fun _:Unit=>jhT (us:=us) (x:=x) (y:=y) (k:=k) (l:=l) (by omega) (by omega) hu hT uv);generalize dg x k=a at *;generalize dg y l=b at *;obtain ⟨m,hm⟩:=ex_ (a*b);rw [<-hm] at hT hm1;have f0:(a:Int)*(b:Int)=(m:Int):=by rw [hm];exact (Int.natCast_mul a b).symm
     have f0w:IntKind.u64.wrap (m:Int)=(m:Int):=by rw [jqT];omega
     have f4:(u:Int)+(m:Int)=(T:Int):=by omega
     have f4w:IntKind.u64.wrap (T:Int)=(T:Int):=by rw [jqT];omega
     have fq:(k:Int)+(l:Int)=(q:Int):=by omega
     have fqw:IntKind.i64.wrap (q:Int)=(q:Int):=jq0 _ (by omega);have q32:(q:Int) < 32:=by omega
     have q0:(0:Int)<=(q:Int):=by omega
     have ql:Hid (q < us.length):=by unfold Hid;omega
     have Tb:Hid (T<=(k+1)*4294836225):=by unfold Hid;omega
     rw [<-hq] at hstep;replace hq:=Hj hq;replace hu:=Hj hu;replace hT:=Hj hT;replace hm:=Hj hm;replace ub:=Hj ub;have d0:Ext wr wr.drew:=(jnQ _).drew;have m0:=Hj (k0.kept d0 k0.lt);have m1:=Hj (k1.kept d0 k1.lt);have m2:=Hj (k2.kept d0 k2.lt);have m3:=Hj (k3.kept d0 k3.lt);have m4:=Hj (e0.trans d0);clear k0 k1 k2 k3 e0 d0 b1 b2 hm1 u1 uv WX WY CA ME MR;go_wp2_with fail;refine ym 17 [0,1,2,3,4,5,6,7,8,9,10,11,12,13,14,15,16,17] [17] ?_;repeat (refine qzR _ (fun w' e=>KC.out w' ((jnQ _).drew.trans e)) ?_;go_frame)
     refine qzD fun K1 hK1=> ?_
     go_simp;refine hK1.out _ _ (.inl rfl) ?_;clear hK1 K1;refine jN ?_;go_wp2_with fail;refine ⟨⟨l+1,us.set q T,by omega,by go_num,by rw [jp5];exact ul,fun j=> ?_,hstep.out (),(jp7 _ _ _ _ gne.out.1).trans m0.out,(jp7 _ _ _ _ gne.out.2.1).trans m1.out,(jp7 _ _ _ _ gne.out.2.2).trans m2.out,m3.out.set,Ext.setCell m4.out (show w.heap.size<=w.heap.size+1+1+1 by omega) _⟩,by simp [intOf];omega⟩;rw [j8 ql.out];have h1:=ub.out j;by_cases e:j=q
     ·rw [if_pos e];have:=hq.out;exact ⟨Tb.out,fun h=>absurd h (by omega)⟩
     ·rw [if_neg e];exact ⟨h1.1,fun h=>h1.2 (by omega)⟩
    ·obtain rfl:l=16:=by omega
     have hend:=Hj (fun _:Unit=>MR.out us k uv);replace ub:=Hj ub;replace k0:=Hj k0;replace k1:=Hj k1;replace k2:=Hj k2;replace k3:=Hj k3;replace e0:=Hj e0;clear uv WX WY CA ME MR hlt2 hl;go_wp2_with fail;refine ⟨⟨k+1,us,by omega,by go_num,ul,fun j=>(ub.out j).1,hend.out (),k0.out,k1.out,k2.out,k3.out,e0.out⟩,by simp [intOf];omega⟩
  ·obtain rfl:k=16:=by omega
   have CAu:=Hj (fun W=>CA.out W vs (fun j=>by have:=vb j;omega) (ME.out vs vv));have VBD:Hid (∀ j,wd vs j<=68717379600):=fun j=>by have:=vb j;omega
   have WU:Hid (∀ us:List Nat,us.length=16->(∀ j,j < 16->wd us j=wd vs j+38*wd vs (j+16))->us=upL vs):=fun us h1 h2=>jgV h1 h2
   have UL:(upL vs).length=16:=by simp [upL]
   generalize upL vs=uu at *;have US:=jnE UL;replace k0:=Hj k0;replace k1:=Hj k1;replace k2:=Hj k2;replace k3:=Hj k3;replace e0:=Hj e0;clear vv vb CA ME MR WX WY k0 k1 hk hlt;have a1:=Hj (jqq wr (jqY (jc zs).toArray 200));have e5:=Hj ((jnQ wr).alloc (jqY (jc zs).toArray 200));go_upto_region 10 with fail;obtain ⟨g,hg⟩:=ex_ wr.heap.size;have lg:w.heap.size+1+1+1 < g:=by rw [hg];exact k3.out.lt
   rw [<-hg];rw [<-hg] at a1;refine jg (fun W=>Ur W (w.heap.size+1+1) 200 zs/\Ur W (w.heap.size+1+1+1) 228 vs/\Ur W g 200 zs/\Ext w W) ⟨k2.out.kept e5.out k2.out.lt,k3.out.kept e5.out k3.out.lt,a1.out,e0.out.trans e5.out⟩ ?_;clear hg a1 e5 k2 k3 e0;rintro W3 ⟨k2,k3,k4,e0⟩;replace k2:=Hj k2;replace k3:=Hj k3;replace k4:=Hj k4;replace e0:=Hj e0;go_wp2_with fail;rw [show ((16:Nat):Int)=16 from rfl];go_loopw [9] (fun jv wr=>∃ (i:Nat) (us:List Nat),i<=16/\jv= .int .i64 (i:Int)/\us.length=16/\(∀ j,j < i->wd us j=wd vs j+38*wd vs (j+16))/\Ur wr (w.heap.size+1+1) 200 zs/\Ur wr (w.heap.size+1+1+1) 228 vs/\Ur wr g 200 us/\Ext w wr) (fun jv _=>16 - (intOf jv).toNat)
   case atStart=>exact ⟨0,zs,jpp _,rfl,ZL,fun j hj=>absurd hj (by omega),k2.out,k3.out,k4.out,e0.out⟩
   case round=>
    clear k2 k3 k4 e0;obtain ⟨i,us,hi,rfl,ul,ud,k2,k3,k4,e0⟩:=hrel;by_cases hlt2:i < 16
    ·have il:(i:Int) < 16:=by omega
     have il0:(0:Int)<=(i:Int):=by omega
     obtain ⟨q,hq⟩:=ex_ (i+16);have cv:=k4.cell (i:=i) (by omega);have fv:=k4.frozen i;have b1:=VBD.out i;have b2:=VBD.out q;have KC:Hid (∀ s,Ext wr s->s.cell? ⟨w.heap.size+1+1+1,i,none⟩=some (.int .u64 (wd vs i:Int))/\s.cell? ⟨w.heap.size+1+1+1,q,none⟩=some (.int .u64 (wd vs q:Int))):=fun s e=>jqS ((k3.kept e k3.lt).cell (by omega)) ((k3.kept e k3.lt).cell (by omega))
     obtain ⟨T,hT⟩:=ex_ (wd vs i+38*wd vs q);have hTz:Hid (∀ j,j=i->T=wd vs j+38*wd vs (j+16)):=fun j e=>by rw [hT,hq,e]
     generalize wd vs i=a at *;generalize wd vs q=b at *;generalize wd us i=old at *;obtain ⟨m,hm⟩:=ex_ (38*b);rw [<-hm] at hT;have f3:(38:Int)*(b:Int)=(m:Int):=by omega
     have f3w:IntKind.u64.wrap (m:Int)=(m:Int):=by rw [jqT];omega
     have f4:(a:Int)+(m:Int)=(T:Int):=by omega
     have f4w:IntKind.u64.wrap (T:Int)=(T:Int):=by rw [jqT];omega
     have fq:(i:Int)+16=(q:Int):=by omega
     have fqw:IntKind.i64.wrap (q:Int)=(q:Int):=jq0 _ (by omega);have q32:(q:Int) < 32:=by omega
     have q0:(0:Int)<=(q:Int):=by omega
     have i32:(i:Int) < 32:=by omega
     have lg2:w.heap.size<=g:=by omega
     have ql:Hid (i < us.length):=by unfold Hid;omega
     have gn2:Hid (¬ w.heap.size+1+1=g/\ ¬ w.heap.size+1+1+1=g):=by unfold Hid;omega
     replace hq:=Hj hq;replace hT:=Hj hT;replace hm:=Hj hm;replace ud:=Hj ud;have d0:Ext wr wr.drew:=(jnQ _).drew;have m2:=Hj (k2.kept d0 k2.lt);have m3:=Hj (k3.kept d0 k3.lt);have m4:=Hj (k4.kept d0 k4.lt);have m5:=Hj (e0.trans d0);clear k2 k3 k4 e0 d0 b1 b2 CAu VBD WU;go_wp2_with fail;refine ym 11 [0,1,2,3,4,5,6,7,8,9,10,11] [11] ?_;repeat (refine qzR _ (fun w' e=>KC.out w' ((jnQ _).drew.trans e)) ?_;go_frame)
     refine qzD fun K1 hK1=> ?_
     go_simp;refine hK1.out _ _ (.inl rfl) ?_;clear hK1 K1;refine jN ?_;go_wp2_with fail;refine ⟨⟨i+1,us.set i T,by omega,by go_num,by rw [jp5];exact ul,fun j hj=> ?_,(jp7 _ _ _ _ gn2.out.1).trans m2.out,(jp7 _ _ _ _ gn2.out.2).trans m3.out,m4.out.set,Ext.setCell m5.out lg2 _⟩,by simp [intOf];omega⟩;rw [j8 ql.out];by_cases e:j=i
     ·rw [if_pos e];exact hTz.out j e
     ·rw [if_neg e];exact ud.out j (by omega)
    ·obtain rfl:i=16:=by omega
     have hu:=WU.out us ul ud;rw [hu] at k4;replace k2:=Hj k2;replace k4:=Hj k4;replace e0:=Hj e0;clear ud hu ul us WU VBD k3;go_wp2_with (refine wl_ rfl 200 rfl g rfl k4.out rfl rfl (by rw [US];rfl) ?_;go_frame)
     refine (CAu.out _).mono ?_;rintro e w2 ⟨z,hz,hzm,rfl,e1⟩;have RL:=qH 16 z;have r2:=Hj (k2.out.kept e1 k2.out.lt);have rx:=Hj (e0.out.trans e1);obtain ⟨rs,hrs⟩:=ex_ (dgs 16 z);rw [<-hrs] at RL ⊢;have RS:=jnE RL;have R1:=jw rs;replace hrs:=Hj hrs;replace hz:=Hj hz;replace hzm:=Hj hzm;clear k2 k4 e0 e1 CAu;go_wp2_with (refine ws_ rfl 200 rfl (w.heap.size+1+1) (jc rs).toArray rfl rfl r2.out (by rw [RS];rfl) (by rw [RS,ZS]) R1 ?_;go_frame)
     (try simp only [jqV,Exit.then]);refine jqW (jqX rfl _ _ (w.heap.size+1+1) 200 (jc rs).toArray (0,0) _ rfl (jqc _ _ _ _ _ _ r2.out) rfl rfl (by rw [RS];rfl)) rfl ?_;exact ⟨z,hz.out,hzm.out,by rw [hrs.out],jqb rx.out (by omega) _⟩
theorem jfw {ds:List Nat}{n:Nat}(h:∀ i,i < n->wd ds i < 65536):∀ i,i<=n->cR ds i=0
 | 0,_=>jb3 ds
 | i+1,hi=>by
   rw [jb2,jfw h i (by omega)];have:=h i (by omega);omega
theorem jgI {vs:List Nat}(hl:vs.length=16) (h:∀ i,i < 16->wd vs i < 65536):vs=dgs 16 (pV vs 16):=
 Zt hl fun j hj=>by
  rw [jjX vs hj,jfw h j (by omega)];have:=h j hj;omega
theorem jjZ {vs:List Nat}{n:Nat}(h:∀ i,i < n->wd vs i < 65536):∀ i,i<=n->pV vs i < 65536 ^ i
 | 0,_=>by simp [pV]
 | i+1,hi=>by
   have h1:=jjZ h i (by omega);have h2:=h i (by omega);rw [pV,show (65536:Nat) ^ (i+1)=65536 ^ i*65536 from jqN _ _];have:wd vs i*65536 ^ i<=65535*65536 ^ i:=Nat.mul_le_mul_right _ (by omega);generalize wd vs i*65536 ^ i=t at *;generalize 65536 ^ i=P at *;omega
def ofM (ks:List UInt8):Nat:=ofN ks 32 % H8
theorem jks (ks:List UInt8):ofM ks < B16:=jpq (jp3 _ (by decide+kernel)) (by decide+kernel)
theorem jjf (ks:List UInt8):ofV ks=ofM ks % P25:=rfl
theorem jj0 {ks:List UInt8}{vs:List Nat}(h:∀ j,j < 16->wd vs j=bt ks (2*j)+256*bt ks (2*j+1)):∀ i,i<=16->pV vs i=ofN ks (2*i)
 | 0,_=>rfl
 | i+1,hi=>by
   have e:(65536:Nat) ^ i=256 ^ (2*i):=by rw [Nat.pow_mul]
   rw [pV,jj0 h i (by omega),h i (by omega),show 2*(i+1)=2*i+1+1 by omega,ofN,ofN,e,show (256:Nat) ^ (2*i+1)=256 ^ (2*i)*256 from jqN _ _,jqZ];generalize 256 ^ (2*i)=P;rw [show bt ks (2*i+1)*(P*256)=256*bt ks (2*i+1)*P by rw [jqI 256,jqJ,jqI 256 P]];omega
theorem jhW {ks:List UInt8}{vs:List Nat}(hl:vs.length=16) (h:∀ j,j < 16->wd vs j=bt ks (2*j)+256*bt ks (2*j+1)):vs.set 15 (wd vs 15 % 32768)=dgs 16 (ofM ks):=by
 have h16:∀ i,i < 16->wd vs i < 65536:=fun i hi=>by
  rw [h i hi];have:=vL ks (2*i);have:=vL ks (2*i+1);omega
 have l15:15 < vs.length:=by omega
 have hs:∀ i,i < 16->wd (vs.set 15 (wd vs 15 % 32768)) i < 65536:=fun i hi=>by
  rw [j8 l15]
  split
  ·omega
  ·exact h16 i hi
 rw [jgI (vs:=vs.set 15 (wd vs 15 % 32768)) (by simp [hl]) hs]
 congr 1
 have hp:∀ i,i<=15->pV (vs.set 15 (wd vs 15 % 32768)) i=pV vs i:=by
  intro i
  induction i with
  | zero=>intro _;rfl
  | succ i ih=>intro hi;rw [pV,pV,ih (by omega),j8 l15,if_neg (by omega)]
 have e1:pV (vs.set 15 (wd vs 15 % 32768)) 16=pV vs 15+wd vs 15 % 32768*65536 ^ 15:=by
  rw [show pV (vs.set 15 (wd vs 15 % 32768)) 16=pV (vs.set 15 (wd vs 15 % 32768)) 15+wd (vs.set 15 (wd vs 15 % 32768)) 15*65536 ^ 15 from rfl,hp 15 (jpo _),j8 l15,if_pos rfl]
 have e2:pV vs 15+wd vs 15*65536 ^ 15=ofN ks 32:=jj0 h 16 (jpo _);have h3:=jjZ h16 15 (by omega);have hH:H8=32768*65536 ^ 15:=by decide+kernel
 rw [e1,ofM,<-e2,hH];have h4:=Nat.div_add_mod (wd vs 15) 32768;have h5:wd vs 15 % 32768 < 32768:=jp3 _ (by decide);generalize wd vs 15 % 32768=r at *;generalize wd vs 15 / 32768=q at *;rw [<-h4];generalize pV vs 15=t at *;generalize (65536:Nat) ^ 15=M at *;clear hH;rw [jqZ,show 32768*q*M=32768*M*q by rw [jqJ,jqI q,jqJ],show t+(32768*M*q+r*M)=(t+r*M)+32768*M*q by omega,jq1];refine (jqM ?_).symm;have:r*M<=32767*M:=Nat.mul_le_mul_right _ (by omega);generalize r*M=u at *;omega
theorem jeU {ks:List UInt8}{w:World}(hk:ks.length=32):
 Calls jpx 99 #[.agg (cellsOf ks).toArray] w fun e w'=>e= .returned (.agg (jc (dgs 16 (ofM ks))).toArray)/\Ext w w':=by
 have hal:=zy;have ZL:J6.length=16:=rfl;generalize J6=zs at *;have ZS:=jnE ZL;have RL:=qH 16 (ofM ks);have WS:Hid (∀ vs:List Nat,vs.length=16->(∀ j,j < 16->wd vs j=bt ks (2*j)+256*bt ks (2*j+1))->vs.set 15 (wd vs 15 % 32768)=dgs 16 (ofM ks)):=fun vs h1 h2=>jhW h1 h2
 generalize dgs 16 (ofM ks)=rs at *;have RS:=jnE RL;have R1:=jw rs;have B0:Hid (Ky (((w.alloc (jqY (cellsOf ks).toArray 23)).alloc (jqY (jc zs).toArray 200)).alloc (jqY (jc zs).toArray 200)) w.heap.size ks/\Ur (((w.alloc (jqY (cellsOf ks).toArray 23)).alloc (jqY (jc zs).toArray 200)).alloc (jqY (jc zs).toArray 200)) (w.heap.size+1) 200 zs/\Ur (((w.alloc (jqY (cellsOf ks).toArray 23)).alloc (jqY (jc zs).toArray 200)).alloc (jqY (jc zs).toArray 200)) (w.heap.size+1+1) 200 zs/\Ext w (((w.alloc (jqY (cellsOf ks).toArray 23)).alloc (jqY (jc zs).toArray 200)).alloc (jqY (jc zs).toArray 200))):=⟨⟨jF _ _ _ _,hk⟩,jH _ _ _ _,jB _ _ _ _,(((jnQ w).alloc _).alloc _).alloc _⟩;go_enter Tryz.func99,Tryz.ntmps99
 go_upto_region 2 with fail;refine jg (fun W=>Ky W w.heap.size ks/\Ur W (w.heap.size+1) 200 zs/\Ur W (w.heap.size+1+1) 200 zs/\Ext w W) B0.out ?_;clear B0;rintro W0 ⟨k0,k1,k2,e0⟩;replace k0:=Hj k0;replace k1:=Hj k1;replace k2:=Hj k2;replace e0:=Hj e0;go_wp2_with fail;go_loopw [4] (fun jv wr=>∃ (i:Nat) (us:List Nat),i<=16/\jv= .int .i64 (i:Int)/\us.length=16/\(∀ j,j < i->wd us j=bt ks (2*j)+256*bt ks (2*j+1))/\Ky wr w.heap.size ks/\Ur wr (w.heap.size+1) 200 zs/\Ur wr (w.heap.size+1+1) 200 us/\Ext w wr) (fun jv _=>16 - (intOf jv).toNat)
 case atStart=>exact ⟨0,zs,jpp _,rfl,ZL,fun j hj=>absurd hj (by omega),k0.out,k1.out,k2.out,e0.out⟩
 case round=>
  clear k0 k1 k2 e0;obtain ⟨i,us,hi,rfl,ul,ud,k0,k1,k2,e0⟩:=hrel;by_cases hlt2:i < 16
  ·have ii:(i:Int) < 16:=by omega
   have ii0:(0:Int)<=(i:Int):=by omega
   obtain ⟨p,hp⟩:=ex_ (2*i);obtain ⟨q,hq⟩:=ex_ (p+1);have KC:Hid (∀ s,Ext wr s->s.cell? ⟨w.heap.size,p,none⟩=some (.int .u8 (bt ks p:Int))/\s.cell? ⟨w.heap.size,q,none⟩=some (.int .u8 (bt ks q:Int))):=fun s e=>jqS (Ky.cell (k0.ext e) (by omega)) (Ky.cell (k0.ext e) (by omega))
   have cv:=k2.cell (i:=i) (by omega);have fv:=k2.frozen i;have b1:=vL ks p;have b2:=vL ks q;obtain ⟨a,ha⟩:=ex_ (bt ks p);obtain ⟨b,hb⟩:=ex_ (bt ks q);obtain ⟨m,hm⟩:=ex_ (256*b);obtain ⟨T,hT⟩:=ex_ (a+m);have hTz:Hid (T=bt ks (2*i)+256*bt ks (2*i+1)):=by unfold Hid;rw [hT,hm,ha,hb,hq,hp]
   rw [<-ha] at KC b1;rw [<-hb] at KC b2;generalize wd us i=old at *;have g1:(2:Int)*(i:Int)=(p:Int):=by omega
   have g1w:IntKind.i64.wrap (p:Int)=(p:Int):=jq0 _ (by omega);have g2:(p:Int)+1=(q:Int):=by omega
   have g2w:IntKind.i64.wrap (q:Int)=(q:Int):=jq0 _ (by omega);have p0:(0:Int)<=(p:Int):=by omega
   have p32:(p:Int) < 32:=by omega
   have q0:(0:Int)<=(q:Int):=by omega
   have q32:(q:Int) < 32:=by omega
   have f1:IntKind.u64.wrap (a:Int)=(a:Int):=by rw [jqT];omega
   have f2:IntKind.u64.wrap (b:Int)=(b:Int):=by rw [jqT];omega
   have f3:(256:Int)*(b:Int)=(m:Int):=by omega
   have f3w:IntKind.u64.wrap (m:Int)=(m:Int):=by rw [jqT];omega
   have f4:(a:Int)+(m:Int)=(T:Int):=by omega
   have f4w:IntKind.u64.wrap (T:Int)=(T:Int):=by rw [jqT];omega
   have il:Hid (i < us.length):=by unfold Hid;omega
   have gne:Hid (¬ w.heap.size=w.heap.size+1+1/\ ¬ w.heap.size+1=w.heap.size+1+1):=by unfold Hid;omega
   replace hp:=Hj hp;replace hq:=Hj hq;replace ha:=Hj ha;replace hb:=Hj hb;replace hm:=Hj hm;replace hT:=Hj hT;replace ud:=Hj ud;have d0:Ext wr wr.drew:=(jnQ _).drew;have m0:=Hj (k0.ext d0);have m1:=Hj (k1.kept d0 k1.lt);have m2:=Hj (k2.kept d0 k2.lt);have m3:=Hj (e0.trans d0);clear k0 k1 k2 e0 d0 b1 b2 WS;go_wp2_with fail;refine ym 15 [0,1,2,3,4,5,6,7,8,9,10,11,12,13,14,15] [15] ?_;repeat (refine qzR _ (fun w' e=>KC.out w' ((jnQ _).drew.trans e)) ?_;go_frame)
   refine qzD fun K1 hK1=> ?_
   go_simp;refine hK1.out _ _ (.inl rfl) ?_;clear hK1 K1;refine jN ?_;go_wp2_with fail;refine ⟨⟨i+1,us.set i T,by omega,by go_num,by rw [jp5];exact ul,fun j hj=> ?_,⟨(jp7 _ _ _ _ gne.out.1).trans m0.out.1,hk⟩,(jp7 _ _ _ _ gne.out.2).trans m1.out,m2.out.set,Ext.setCell m3.out (show w.heap.size<=w.heap.size+1+1 by omega) _⟩,by simp [intOf];omega⟩;rw [j8 il.out];by_cases e:j=i
   ·rw [if_pos e,e];exact hTz.out
   ·rw [if_neg e];exact ud.out j (by omega)
  ·obtain rfl:i=16:=by omega
   have hu:Hid (∀ _:Unit,us.set 15 (wd us 15 % 32768)=rs):=fun _=>WS.out us ul ud
   have c0:=k2.cell (i:=15) (by omega);have fv:=k2.frozen 15;have b1:wd us 15 < 65536:=by rw [ud 15 (by omega)];have:=vL ks (2*15);have:=vL ks (2*15+1);omega
   generalize wd us 15=a at *;obtain ⟨z,hz⟩:=ex_ (a % 32768);rw [<-hz] at hu;have f5:(a:Int) % 32768=(z:Int):=by omega
   have f5t:Int.tmod (a:Int) 32768=(z:Int):=by rw [jq4 (by omega)];exact f5
   have f5w:IntKind.u64.wrap (z:Int)=(z:Int):=by rw [jqT];omega
   replace hz:=Hj hz;have gne:Hid (¬ w.heap.size+1=w.heap.size+1+1):=by unfold Hid;omega
   replace k1:=Hj k1;replace k2:=Hj k2;replace e0:=Hj e0;clear ud b1 WS k0;go_upto_region 7 with fail;refine jg (fun W=>Ur W (w.heap.size+1) 200 zs/\Ur W (w.heap.size+1+1) 200 rs/\Ext w W) ⟨(jp7 _ _ _ _ gne.out).trans k1.out,by rw [<-hu.out ()];exact k2.out.set,Ext.setCell e0.out (show w.heap.size<=w.heap.size+1+1 by omega) _⟩ ?_;clear k1 k2 e0 c0 fv hu f5 f5t f5w hz ul;rintro W2 ⟨k1,k2,e0⟩;go_wp2_with (first
    | (refine wl_ rfl 200 rfl (w.heap.size+1+1) rfl k2 rfl rfl (by rw [RS];rfl) ?_;go_frame)
    | (refine ws_ rfl 200 rfl (w.heap.size+1) (jc rs).toArray rfl rfl k1 (by rw [RS];rfl) (by rw [RS,ZS]) R1 ?_;go_frame))
   (try simp only [jqV,Exit.then]);refine jqW (jqX rfl _ _ (w.heap.size+1) 200 (jc rs).toArray (0,0) _ rfl (jqc _ _ _ _ _ _ k1) rfl rfl (by rw [RS];rfl)) rfl ?_;exact ⟨rfl,jqb e0 (by omega) _⟩
def jeK:List Nat:= [1,0,0,0,0,0,0,0,0,0,0,0,0,0,0,0]
theorem jjh:jeK=dgs 16 1:=by decide+kernel
theorem jaw:Tryz.prog.built 200 [(0, .int .u64 1)]=some (jc jeK).toArray:=by kernel_rfl
theorem jdB {x:Nat}{w:World}(hx:x < B16):
 Calls jpx 105 #[.agg (jc (dgs 16 x)).toArray] w fun e w'=>∃ z,z < B16/\z % P25=zL (x % P25)/\e= .returned (.agg (jc (dgs 16 z)).toArray)/\Ext w w':=by
 have SQ:Hid (∀ (W:World) (a m:Nat),a < B16->a % P25=iA (x % P25) m->Calls jpx 103 #[.agg (jc (dgs 16 a)).toArray, .agg (jc (dgs 16 a)).toArray] W fun e w'=>∃ cs:List Nat,cs.length=16/\(∃ c,c < B16/\c % P25=iA (x % P25) m*iA (x % P25) m % P25/\cs=dgs 16 c)/\e= .returned (.agg (jc cs).toArray)/\Ext W w'):=fun W a m h hm=>by
  refine (Jy h h).mono ?_;rintro e w' ⟨z,hz,hzm,rfl,e1⟩;exact ⟨dgs 16 z,qH 16 z,⟨z,hz,by rw [hzm,jqL,hm],rfl⟩,rfl,e1⟩
 have MX:Hid (∀ (W:World) (a t:Nat),a < B16->a % P25=t->Calls jpx 103 #[.agg (jc (dgs 16 a)).toArray, .agg (jc (dgs 16 x)).toArray] W fun e w'=>∃ cs:List Nat,cs.length=16/\(∃ c,c < B16/\c % P25=t*(x % P25) % P25/\cs=dgs 16 c)/\e= .returned (.agg (jc cs).toArray)/\Ext W w'):=fun W a t h hm=>by
  refine (Jy h hx).mono ?_;rintro e w' ⟨z,hz,hzm,rfl,e1⟩;exact ⟨dgs 16 z,qH 16 z,⟨z,hz,by rw [hzm,jqL,hm],rfl⟩,rfl,e1⟩
 have hxP:Hid (x % P25*1 % P25=x % P25):=by unfold Hid;rw [Nat.mul_one,Nat.mod_mod]
 obtain ⟨X,hX⟩:=ex_ (x % P25);rw [<-hX] at SQ MX hxP ⊢;have IS:Hid (∀ m,(m=252\/m=250)->iA X (m+1)=iA X m*iA X m % P25):=fun m h=>by rw [iA,if_pos h]
 have IN:Hid (∀ m, ¬ (m=252\/m=250)->iA X (m+1)=iA X m*iA X m % P25*X % P25):=fun m h=>by rw [iA,if_neg h]
 have I0:Hid (1 % P25=iA X 0):=by unfold Hid;rw [iA];decide+kernel
 have IE:Hid (iA X 255=zL X):=rfl;generalize zL X=R at *;obtain ⟨f,hf⟩:∃ f:Nat->Nat,f=iA X:=⟨_,rfl⟩;rw [<-hf] at SQ IS IN I0 IE;clear hf hX hxP hx;have hal:=zy;have ZL:J6.length=16:=rfl;generalize J6=zs at *;have ZS:=jnE ZL;have XL:=qH 16 x;have XS:=jnE XL;generalize dgs 16 x=xs at *;have O1L:jeK.length=16:=rfl;have hb1:=Hj jaw;have o1e:Hid (∀ _:Unit,jeK=dgs 16 1):=fun _=>jjh
 generalize jeK=ow at *;have OS:=jnE O1L;have O1:=jw ow;have B0:Hid (Ur (((w.alloc (jqY (jc xs).toArray 200)).alloc (jqY (jc zs).toArray 200)).alloc (jqY (jc zs).toArray 200)) w.heap.size 200 xs/\Ur (((w.alloc (jqY (jc xs).toArray 200)).alloc (jqY (jc zs).toArray 200)).alloc (jqY (jc zs).toArray 200)) (w.heap.size+1) 200 zs/\Ur (((w.alloc (jqY (jc xs).toArray 200)).alloc (jqY (jc zs).toArray 200)).alloc (jqY (jc zs).toArray 200)) (w.heap.size+1+1) 200 zs/\Ext w (((w.alloc (jqY (jc xs).toArray 200)).alloc (jqY (jc zs).toArray 200)).alloc (jqY (jc zs).toArray 200))):=⟨jF _ _ _ _,jH _ _ _ _,jB _ _ _ _,(((jnQ w).alloc _).alloc _).alloc _⟩;go_enter Tryz.func105,Tryz.ntmps105
 go_upto_region 2 with (first
  | (refine jm rfl _ _ rfl (jc ow).toArray (by simp only [jqE,jqA,jqF];exact hb1.out) ?_;go_frame)
  | (refine ws_ rfl 200 rfl (w.heap.size+1+1) (jc ow).toArray rfl rfl B0.out.2.2.1 (by rw [OS];rfl) (by rw [OS,ZS]) O1 ?_;go_frame))
 refine jg (fun W=>Ur W w.heap.size 200 xs/\Ur W (w.heap.size+1) 200 zs/\Ur W (w.heap.size+1+1) 200 ow/\Ext w W) ⟨(jqy _ _ _ _ (by omega)).trans B0.out.1,(jqy _ _ _ _ (by omega)).trans B0.out.2.1,jqc _ _ _ _ _ _ B0.out.2.2.1,jqb B0.out.2.2.2 (by omega) _⟩ ?_;clear B0;rintro W0 ⟨k0,k1,k2,e0⟩;replace k0:=Hj k0;replace k1:=Hj k1;replace k2:=Hj k2;replace e0:=Hj e0;go_wp2_with fail;go_loopw [4] (fun iv wr=>∃ (m z:Nat),m<=255/\iv= .int .i64 (254 - (m:Int))/\z < B16/\z % P25=f m/\Ur wr w.heap.size 200 xs/\Ur wr (w.heap.size+1) 200 zs/\Ur wr (w.heap.size+1+1) 200 (dgs 16 z)/\Ext w wr) (fun iv _=>(intOf iv+1).toNat)
 case atStart=>exact ⟨0,1,jpp _,rfl,by decide+kernel,I0.out,k0.out,k1.out,by rw [<-o1e.out ()];exact k2.out,e0.out⟩
 case round=>
  clear k0 k1 k2 e0 I0 o1e;obtain ⟨m,z,hm,rfl,hz,hzm,k0,k1,k2,e0⟩:=hrel;have L_z:=qH 16 z;have S_z:=jnE L_z;by_cases hlt:m < 255
  ·obtain ⟨b,hb⟩:∃ b:Int,b=254 - (m:Int):=⟨_,rfl⟩;rw [<-hb];have b0:(0:Int)<=b:=by omega
   have b1:b<=254:=by omega
   have bw:IntKind.i64.wrap (b - 1)=b - 1:=jq0 _ (by omega);have hbn:Hid (b - 1=254 - ((m+1:Nat):Int)):=by unfold Hid;omega
   have SQm:=Hj (fun W=>SQ.out W z m hz hzm);have CASE:Hid (((b=2\/b=4)/\f (m+1)=f m*f m % P25)\/((¬ b=2/\ ¬ b=4)/\f (m+1)=f m*f m % P25*X % P25)):=by
    unfold Hid;by_cases q:m=252\/m=250
    ·exact .inl ⟨by omega,IS.out m q⟩
    ·exact .inr ⟨by omega,IN.out m q⟩
   clear IS IN IE SQ hz hzm;replace hb:=Hj hb;generalize dgs 16 z=zz at *;replace k0:=Hj k0;replace k1:=Hj k1;replace k2:=Hj k2;replace e0:=Hj e0;go_wp2_with (refine wl_ rfl 200 rfl (w.heap.size+1+1) rfl k2.out rfl rfl (by rw [S_z];rfl) ?_;go_frame)
   refine (SQm.out _).mono ?_;rintro e w1 ⟨cs,cl,hc,rfl,e1⟩;replace hc:=Hj hc;have S_c:=jnE cl;have O_c:=jw cs;have m0:=Hj (k0.out.kept e1 k0.out.lt);have m1:=Hj (k1.out.kept e1 k1.out.lt);have m2:=Hj (k2.out.kept e1 k2.out.lt);have m3:=Hj (e0.out.trans e1);clear k0 k1 k2 e0 e1 SQm;go_upto_region 6 with (refine ws_ rfl 200 rfl (w.heap.size+1+1) (jc cs).toArray rfl rfl m2.out (by rw [S_c];rfl) (by rw [S_c,S_z]) O_c ?_;go_frame)
   refine jg (fun W=>Ur W w.heap.size 200 xs/\Ur W (w.heap.size+1) 200 zs/\Ur W (w.heap.size+1+1) 200 cs/\Ext w W) ⟨(jqy _ _ _ _ (by omega)).trans m0.out,(jqy _ _ _ _ (by omega)).trans m1.out,jqc _ _ _ _ _ _ m2.out,jqb m3.out (by omega) _⟩ ?_;clear m0 m1 m2 m3 S_z L_z;rintro w2 ⟨k0,k1,k2,e0⟩;replace k0:=Hj k0;replace k1:=Hj k1;replace k2:=Hj k2;replace e0:=Hj e0;rcases CASE.out with ⟨hbb,hfe⟩ | ⟨⟨n2,n4⟩,hfe⟩
   ·clear CASE MX;have hfe':=Hj (fun _:Unit=>hfe);clear hfe;rcases hbb with rfl | rfl <;>
    ·go_wp2_with fail;obtain ⟨c,hcB,hcm,hce⟩:=hc.out;exact ⟨⟨m+1,c,by omega,by rw [<-hbn.out];rfl,hcB,by rw [hfe'.out ()];exact hcm,k0.out,k1.out,by rw [<-hce];exact k2.out,e0.out⟩,by simp [intOf]⟩
   ·clear CASE;have hfe':=Hj (fun _:Unit=>hfe);clear hfe;have n2b:(b !=2)=true:=by simpa using n2
    have n4b:(b !=4)=true:=by simpa using n4
    have MXc:Hid (∀ W,Calls jpx 103 #[.agg (jc cs).toArray, .agg (jc xs).toArray] W fun e w'=>∃ ds:List Nat,ds.length=16/\(∃ c,c < B16/\c % P25=f m*f m % P25*X % P25/\ds=dgs 16 c)/\e= .returned (.agg (jc ds).toArray)/\Ext W w'):=fun W=>by
     obtain ⟨c,hcB,hcm,hce⟩:=hc.out;rw [hce];exact MX.out W c _ hcB hcm
    clear MX hc;go_wp2_with (first
     | (refine wl_ rfl 200 rfl (w.heap.size+1+1) rfl k2.out rfl rfl (by rw [S_c];rfl) ?_;go_frame)
     | (refine wl_ rfl 200 rfl w.heap.size rfl k0.out rfl rfl (by rw [XS];rfl) ?_;go_frame))
    refine (MXc.out _).mono ?_;rintro e w3 ⟨ds,dl,hd,rfl,e1⟩;replace hd:=Hj hd;have S_d:=jnE dl;have O_d:=jw ds;have m0:=Hj (k0.out.kept e1 k0.out.lt);have m1:=Hj (k1.out.kept e1 k1.out.lt);have m2:=Hj (k2.out.kept e1 k2.out.lt);have m3:=Hj (e0.out.trans e1);clear k0 k1 k2 e0 e1 MXc;go_wp2_with (refine ws_ rfl 200 rfl (w.heap.size+1+1) (jc ds).toArray rfl rfl m2.out (by rw [S_d];rfl) (by rw [S_d,S_c]) O_d ?_;go_frame)
    obtain ⟨c,hcB,hcm,hce⟩:=hd.out;exact ⟨⟨m+1,c,by omega,by rw [<-hbn.out],hcB,by rw [hfe'.out ()];exact hcm,(jqy _ _ _ _ (by omega)).trans m0.out,(jqy _ _ _ _ (by omega)).trans m1.out,by rw [<-hce];exact jqc _ _ _ _ _ _ m2.out,jqb m3.out (by omega) _⟩,by simp [intOf];omega⟩
  ·obtain rfl:m=255:=by omega
   rw [IE.out] at hzm;have O_z:=jw (dgs 16 z);obtain ⟨zz,hzz⟩:=ex_ (dgs 16 z);rw [<-hzz] at k2 L_z S_z O_z;replace hzz:=Hj (fun _:Unit=>hzz);replace hz:=Hj hz;replace hzm:=Hj hzm;replace k1:=Hj k1;replace k2:=Hj k2;replace e0:=Hj e0;clear k0 IS IN IE SQ MX;go_wp2_with (first
    | (refine wl_ rfl 200 rfl (w.heap.size+1+1) rfl k2.out rfl rfl (by rw [S_z];rfl) ?_;go_frame)
    | (refine ws_ rfl 200 rfl (w.heap.size+1) (jc zz).toArray rfl rfl k1.out (by rw [S_z];rfl) (by rw [S_z,ZS]) O_z ?_;go_frame))
   (try simp only [jqV,Exit.then]);refine jqW (jqX rfl _ _ (w.heap.size+1) 200 (jc zz).toArray (0,0) _ rfl (jqc _ _ _ _ _ _ k1.out) rfl rfl (by rw [S_z];rfl)) rfl ?_;exact ⟨z,hz.out,hzm.out,by rw [hzz.out ()],jqb e0.out (by omega) _⟩
def IsN (cs:List Nat) (v:Nat):Prop:=∃ c,c < B16/\c % P25=v/\cs=dgs 16 c
theorem IsN.len {cs:List Nat}{v:Nat}(h:IsN cs v):cs.length=16:=by obtain ⟨c,_,_,rfl⟩:=h;exact qH 16 c
section
variable {cs ds:List Nat}{x y:Nat}{w:World}
theorem yo (hx:IsN cs x) (hy:IsN ds y):Calls jpx 101 #[.agg (jc cs).toArray, .agg (jc ds).toArray] w fun e w'=>∃ es,IsN es (jnw x y)/\e= .returned (.agg (jc es).toArray)/\Ext w w':=by
 obtain ⟨a,ha,hm,rfl⟩:=hx;obtain ⟨b,hb,hn,rfl⟩:=hy;refine jdA.mono ?_;rintro e w' ⟨rfl,e1⟩;exact ⟨_,⟨jcS a b,jiR a b,by rw [jg4 ha hb,Nat.add_mod,hm,hn];rfl,rfl⟩,rfl,e1⟩
theorem yp (hx:IsN cs x) (hy:IsN ds y):Calls jpx 102 #[.agg (jc cs).toArray, .agg (jc ds).toArray] w fun e w'=>∃ es,IsN es (zO x y)/\e= .returned (.agg (jc es).toArray)/\Ext w w':=by
 obtain ⟨a,ha,hm,rfl⟩:=hx;obtain ⟨b,hb,hn,rfl⟩:=hy;refine jdD.mono ?_;rintro e w' ⟨rfl,e1⟩;exact ⟨_,⟨jd2 a b,jjE a b,by rw [jiD ha hb,hm,hn];rfl,rfl⟩,rfl,e1⟩
theorem j9 (hx:IsN cs x) (hy:IsN ds y):Calls jpx 103 #[.agg (jc cs).toArray, .agg (jc ds).toArray] w fun e w'=>∃ es,IsN es (qs x y)/\e= .returned (.agg (jc es).toArray)/\Ext w w':=by
 obtain ⟨a,ha,hm,rfl⟩:=hx;obtain ⟨b,hb,hn,rfl⟩:=hy;refine (Jy ha hb).mono ?_;rintro e w' ⟨z,hz,hzm,rfl,e1⟩;exact ⟨_,⟨z,hz,by rw [hzm,jqL,hm,hn];rfl,rfl⟩,rfl,e1⟩
theorem jeC (hx:IsN cs x):Calls jpx 105 #[.agg (jc cs).toArray] w fun e w'=>∃ es,IsN es (zL x)/\e= .returned (.agg (jc es).toArray)/\Ext w w':=by
 obtain ⟨a,ha,hm,rfl⟩:=hx;refine (jdB ha).mono ?_;rintro e w' ⟨z,hz,hzm,rfl,e1⟩;exact ⟨_,⟨z,hz,by rw [hzm,hm],rfl⟩,rfl,e1⟩
theorem jeD (hx:IsN cs x):Calls jpx 104 #[.agg (jc cs).toArray] w fun e w'=>e= .returned (.agg (cellsOf (kL x)).toArray)/\Ext w w':=by
 obtain ⟨a,ha,hm,rfl⟩:=hx;have:=jdC (w:=w) ha
 rwa [hm] at this
theorem jgt {ks:List UInt8}(hk:ks.length=32):Calls jpx 99 #[.agg (cellsOf ks).toArray] w fun e w'=>∃ es,IsN es (ofV ks)/\e= .returned (.agg (jc es).toArray)/\Ext w w':=by
 refine (jeU hk).mono ?_;rintro e w' ⟨rfl,e1⟩;exact ⟨_,⟨ofM ks,jks ks,(jjf ks).symm,rfl⟩,rfl,e1⟩
end
def jkj:List Nat:= [56129,1,0,0,0,0,0,0,0,0,0,0,0,0,0,0]
theorem jeo:Tryz.prog.built 200 [(0, .int .u64 56129),(1, .int .u64 1)]=some (jc jkj).toArray:=by kernel_rfl
theorem jd8:Tryz.prog.built 200 []=some (jc J6).toArray:=by kernel_rfl
theorem ji4:IsN jkj 121665:=⟨121665,by decide+kernel,by decide+kernel,by decide+kernel⟩
theorem jji:IsN jeK 1:=⟨1,by decide+kernel,by decide+kernel,by decide+kernel⟩
theorem jjQ:IsN J6 0:=⟨0,by decide+kernel,by decide+kernel,by decide+kernel⟩
theorem jeT {ks:List UInt8}{n:Nat}{w:World}(hk:ks.length=32) (hn:n<=254):
 Calls jpx 100 #[.agg (cellsOf ks).toArray, .int .i64 (n:Int)] w fun e w'=>e= .returned (.bool (yk ks n))/\Ext w w':=by
 have B0:Hid (Ky (w.alloc (jqY (cellsOf ks).toArray 23)) w.heap.size ks/\Ext w (w.alloc (jqY (cellsOf ks).toArray 23))):=⟨Ky.boxed w hk,(jnQ w).alloc _⟩;by_cases h3:n < 3
 ·have hb:Hid (yk ks n=false):=by unfold Hid yk;rw [if_pos (by omega)]
  have t1:decide ((n:Int) < 3)=true:=decide_eq_true (by omega);go_enter Tryz.func100,Tryz.ntmps100
  go_wp2_with fail;go_ret;exact ⟨by rw [hb.out];rfl,B0.out.2⟩
 ·have t1:decide ((n:Int) < 3)=false:=decide_eq_false (by omega);have t2:((n:Int)==255)=false:=by simp;omega
  by_cases h4:n=254
  ·have hb:Hid (yk ks n=true):=by unfold Hid yk;rw [if_neg (by omega),if_pos h4]
   have t3:((n:Int)==254)=true:=by simp;omega
   replace h4:=Hj (fun _:Unit=>h4);go_enter Tryz.func100,Tryz.ntmps100
   go_wp2_with fail;go_ret;exact ⟨by rw [hb.out];rfl,B0.out.2⟩
  ·have t3:((n:Int)==254)=false:=by simp;omega
   obtain ⟨q,hq⟩:=ex_ (n / 8);obtain ⟨r,hr⟩:=ex_ (n % 8);have hb:Hid (yk ks n=decide (bt ks q / 2 ^ r % 2=1)):=by unfold Hid yk;rw [if_neg (by omega),if_neg h4,hq,hr]
   have iq:(n:Int) / 8=(q:Int):=by omega
   have ir:(n:Int) % 8=(r:Int):=by omega
   have iq':Int.tdiv (n:Int) 8=(q:Int):=by rw [jq3 (by omega)];omega
   have ir':Int.tmod (n:Int) 8=(r:Int):=by rw [jq4 (by omega)];omega
   have q32:q < 32:=by omega
   have q32':(q:Int) < 32:=by omega
   have q0:(0:Int)<=(q:Int):=by omega
   have r8:(r:Int) < 8:=by omega
   have c6:=B0.out.1.cell q32;have b256:=vL ks q;generalize bt ks q=u at *;obtain ⟨y,hy⟩:=ex_ (u / 2 ^ r);have y8:y < 256:=by rw [hy];exact jp4 (Nat.div_le_self _ _) b256
   have s1:Op.shift .shr .u8 (u:Int) .i64 (r:Int)=pure (.int .u8 (y:Int)):=by
    have:=shift_shr .u8 .i64 (u:Int) (r:Int) (by omega) (by show (r:Int)<=8;omega);rw [this,hy];simp
   have s3:(u:Int) / 2 ^ r=(y:Int):=by rw [hy];simp
   rw [<-hy] at hb;obtain ⟨t,ht⟩:=ex_ (y % 2);have s4:(y:Int) % 2=(t:Int):=by omega
   have s4':Int.tmod (y:Int) 2=(t:Int):=by rw [jq4 (by omega)];omega
   rw [<-ht] at hb;have t01:t=0\/t=1:=by omega
   clear hy ht hq hr y8 b256 h3 h4 hn;rcases t01 with h | h
   ·have t5:((t:Int)==1)=false:=by rw [h];rfl
    have hb':Hid (yk ks n=false):=by unfold Hid;rw [hb.out,h];rfl
    clear h hb;go_enter Tryz.func100,Tryz.ntmps100
    go_wp2_with fail;go_ret;exact ⟨by rw [hb'.out];rfl,B0.out.2⟩
   ·have t5:((t:Int)==1)=true:=by rw [h];rfl
    have hb':Hid (yk ks n=true):=by unfold Hid;rw [hb.out,h];rfl
    clear h hb;go_enter Tryz.func100,Tryz.ntmps100
    go_wp2_with fail;go_ret;exact ⟨by rw [hb'.out];rfl,B0.out.2⟩
end
end Go.Proofs.YtakpgbaijkhpmaaGreatDoor
