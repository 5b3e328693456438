/- The law FrameLines. -/
import Derived.Test.YtakpgbaijkhpmaaGreatDoorPkAO
open Bool renaming and_eq_true→jpB,not_eq_true'→jpC
open Classical renaming byContradiction→jpD
open Go renaming TypeId→jpt
open Go.Proofs.Tryz renaming prog→jpo
open List renaming map_cons→jqr,map_nil→jqw,map_toArray→jqv,replicate→jqe
namespace Go.Proofs.YtakpgbaijkhpmaaGreatDoor
set_option maxHeartbeats 64000000
set_option linter.unusedSimpArgs false
set_option linter.unusedVariables false
open Go.ChangeShapes Go.WideShapes Go.ChangeAt Go.RowKit Go.Deep Go.Maps
set_option maxRecDepth 100000
theorem joq:Tryz.prog.built 31 []=some (cellsOf (jqe 64 0)).toArray:=by kernel_rfl
theorem joo {f t:Int}:joE f t=true↔(0<=f/\f<=7)/\(0<=t/\t<=7)/\f≠t:=by
 unfold joE joa;simp only [jpB,decide_eq_true_eq,jpC,decide_eq_false_iff_not];omega
theorem joe {w:World}{f t:Int}{tg tp:jpt×Nat×Nat}(hG:Gl w tg) (hP:Gp w tp):
 Calls jpo 11 #[.int .i64 f, .int .i64 t] w fun e w'=>e= .returned (.bool true)/\Ext w w':=by
 have AW:=Hj (job hG hP);have zk:=zJ;rw [<-jU] at zk;have bk:=Hj zk;have bp:=Hj joq;have NS:Hid (∀ W,Ext w W->Calls jpo 27 #[.slice none 0 0] W fun e w'=>∃ g,e= .returned (.pointer (some ⟨g,0,none⟩))/\Ext W w'):=fun W x=>(jgs (Bs.nil W) (by omega) (hG.kept x hG.lt)).mono fun e w' ⟨g,h1,_,h2⟩=>⟨g,h1,h2⟩
 have AN:Hid (∀ (W:World) (g:Nat),Calls jpo 36 #[.agg (cellsOf (jqe 32 0)).toArray, .agg (cellsOf (jqe 64 0)).toArray, .pointer (some ⟨g,0,none⟩)] W fun e w'=>∃ sg,e= .returned (.pointer (some ⟨sg,0,none⟩))/\Ext W w'):=fun W g=>(Z9 (w:=W) (gs:=g) (show (jqe 32 (0:UInt8)).length=32 from rfl) (show (jqe 64 (0:UInt8)).length=64 from rfl)).mono fun e w' ⟨sg,_,_,h1,_,_,h2⟩=>⟨sg,h1,h2⟩
 generalize (cellsOf (jqe 32 (0:UInt8))).toArray=K0 at *;generalize (cellsOf (jqe 64 (0:UInt8))).toArray=P0 at *;clear hG hP zk;go_enter Tryz.func11,Tryz.ntmps11
 go_wp2_with fail
 refine AW.out.mono ?_;rintro e w1 ⟨rfl,x1⟩;have N1:=Hj (NS.out w1 x1);replace x1:=Hj x1;clear AW NS;go_wp2_with (first | ((with_reducible refine jm (o:=⟨some 11, .build 23 _,_,_,_,_⟩) ?_ 23 _ rfl K0 ?_ ?_);(·rfl);(·simp only [jqv,jqr,jqw];exact bk.out);go_frame) | ((with_reducible refine jm (o:=⟨some 12, .build 31 _,_,_,_,_⟩) ?_ 31 _ rfl P0 ?_ ?_);(·rfl);(·simp only [jqv,jqr,jqw];exact bp.out);go_frame))
 refine N1.out.mono ?_;rintro e w2 ⟨g2,rfl,x2⟩;have A2:=Hj (AN.out w2 g2);have X2:Hid (Ext w w2):=x1.out.trans x2;clear N1 x1 x2 AN;go_wp2_with fail
 refine A2.out.mono ?_;rintro e w3 ⟨sg,rfl,x3⟩;have X3:Hid (Ext w w3):=X2.out.trans x3;clear A2 X2 x3;by_cases hg:joE f t=true
 ·have FN:=Hj (joi (w:=w3) (sg:=sg) hg);obtain ⟨⟨f0,f7⟩,⟨t0,t7⟩,hne⟩:=joo.1 hg;have d1:decide (0<=f)=true:=decide_eq_true f0;have d2:decide (f<=7)=true:=decide_eq_true f7;have d3:decide (0<=t)=true:=decide_eq_true t0;have d4:decide (t<=7)=true:=decide_eq_true t7;have d5:(f==t)=false:=beq_eq_false_iff_ne.2 hne;have d6:(f !=t)=true:=by unfold bne;rw [d5];rfl
  clear hg hne f0 f7 t0 t7;go_wp2_with fail
  refine FN.out.mono ?_;rintro e w4 ⟨l,rfl,_,_,x4⟩;have F:=Hj (X3.out.trans x4);clear FN X3 x4;go_wp2_with fail
  go_ret
  exact ⟨rfl,F.out⟩
 ·have FN:=Hj (joO (w:=w3) (sg:=sg) (f:=f) (t:=t) (by simpa using hg))
  have hb: ¬((0<=f/\f<=7)/\(0<=t/\t<=7)/\f≠t):=fun q=>hg (joo.2 q)
  clear hg;go_wp2_with fail
  refine FN.out.mono ?_;rintro e w4 ⟨rfl,x4⟩;have F:=Hj (X3.out.trans x4);clear FN X3 x4;by_cases f0:0<=f
  case neg=>
   have d1:decide (0<=f)=false:=decide_eq_false f0;clear hb f0;go_wp2_with fail
   go_ret
   exact ⟨rfl,F.out⟩
  have d1:decide (0<=f)=true:=decide_eq_true f0;by_cases f7:f<=7
  case neg=>
   have d2:decide (f<=7)=false:=decide_eq_false f7;clear hb f0 f7;go_wp2_with fail
   go_ret
   exact ⟨rfl,F.out⟩
  have d2:decide (f<=7)=true:=decide_eq_true f7;by_cases t0:0<=t
  case neg=>
   have d3:decide (0<=t)=false:=decide_eq_false t0;clear hb f0 f7 t0;go_wp2_with fail
   go_ret
   exact ⟨rfl,F.out⟩
  have d3:decide (0<=t)=true:=decide_eq_true t0;by_cases t7:t<=7
  case neg=>
   have d4:decide (t<=7)=false:=decide_eq_false t7;clear hb f0 f7 t0 t7;go_wp2_with fail
   go_ret
   exact ⟨rfl,F.out⟩
  have d4:decide (t<=7)=true:=decide_eq_true t7;obtain rfl:f=t:=jpD fun q=>hb ⟨⟨f0,f7⟩,⟨t0,t7⟩,q⟩
  clear hb f0 f7 t0 t7;go_wp2_with fail
  go_ret
  exact ⟨rfl,F.out⟩
end Go.Proofs.YtakpgbaijkhpmaaGreatDoor
