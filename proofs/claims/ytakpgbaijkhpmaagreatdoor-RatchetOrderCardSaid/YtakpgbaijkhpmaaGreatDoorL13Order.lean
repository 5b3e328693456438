/- The law RatchetOrder. -/
import Derived.Test.YtakpgbaijkhpmaaGreatDoorPkAO
import Derived.Test.YtakpgbaijkhpmaaGreatDoorPkAG
import Derived.Deep.DeepCutAuto
open Bool renaming and_eq_true→joE
open Go renaming TypeId→jow,heap_alloc_new→jpk
open Go.Act renaming put→joL
open Go.IntWalk renaming i64_in→jnZ
open Go.Proofs.Tryz renaming prog→jor,underlying23→jpx
open Go.RowKit.Below renaming trans→y4
open Go.Value renaming pointer→jon
open List renaming length_append→joA,mem_cons→joy,nil_append→jn7,replicate→jph,size_toArray→jpo
open Nat renaming le_of_eq→jod,le_refl→Y5,le_trans→joU,zero_add→jot,zero_le→Y7
open UInt8 renaming ofNat→Z2
namespace Go.Proofs.YtakpgbaijkhpmaaGreatDoor
set_option maxHeartbeats 64000000
set_option linter.unusedSimpArgs false
set_option linter.unusedVariables false
open Go.ChangeShapes Go.WideShapes Go.ChangeAt Go.RowKit Go.Deep Go.Maps
set_option maxRecDepth 100000
def Talk (shared:List UInt8) (W:World) (sa ga la sb gb lb m:Nat) (tg tp:jow×Nat×Nat):Prop:=
 ∃ (ka ma kb mb k j:Nat) (s u:Rt),Duo W ⟨sa,ka,ma,ga,la,[120],k,⟨s,[],0⟩⟩ ⟨sb,kb,mb,gb,lb,[121],j,⟨u,[],0⟩⟩ tg tp∧jf3 shared k j s u m
theorem Talk.ext {shared:List UInt8}{W W':World}{sa ga la sb gb lb m:Nat}{tg tp:jow×Nat×Nat}(h:Talk shared W sa ga la sb gb lb m tg tp) (e:Ext W W'):Talk shared W' sa ga la sb gb lb m tg tp:=by
 obtain ⟨ka,ma,kb,mb,k,j,s,u,h1,h2⟩:=h
 exact ⟨ka,ma,kb,mb,k,j,s,u,h1.ext e,h2⟩
theorem Talk.kj {shared:List UInt8}{k j m:Nat}{s u:Rt}(h:jf3 shared k j s u m):k≤m+1∧j≤m+1:=by
 rcases h with ⟨rfl,rfl,rfl,_,_⟩ | ⟨h1,h2,_⟩ | ⟨h1,_,h2,_⟩ <;> omega
def jcR (sj:Nat) (bs text:List UInt8) (fin:World→Prop) (w':World) (e:Ending):Prop:=
 ∃ (H:List Value) (A':Option Addr) (n' c':Nat),e= .returned (.tuple #[.agg H.toArray, .slice A' n' c', .int .i64 0])∧H.length=34∧H.toArray.all (·.oneCell')=true∧(∃ SB,SB.length=text.length+32∧Bs w' A' n' c' SB)∧
   ∀ W A m1 c1,Ext w' W→Bs W A m1 c1 bs→m1≤900000→Calls jor 23 #[.pointer (some ⟨sj,0,none⟩), .slice A m1 c1, .agg H.toArray, .slice A' n' c'] W fun e w''=>∃ A2 n2 c2,e= .returned (.tuple #[.slice A2 n2 c2, .int .i64 0])∧Own W.heap.size w'' A2 n2 c2 text∧fin w''∧W.grownBy w'' (some sj)
theorem jda {w':World}{a b:Pty}{tg tp:jow×Nat×Nat}{u S' U':Rt}{k':Nat}{bs text pk SB:List UInt8}{bf sm:Int}{A':Option Addr}{n' c':Nat}{pr:List UInt8}{s:Rt}
 (D:Duo w' {a with k:=k',t:=⟨S',[],0⟩} b tg tp) (hb:b.t=⟨u,[],0⟩) (q:Said s u pr text bs pk bf sm SB S' U' 0) (O:Bs w' A' n' c' SB) (ht:text.length≤300)
 {fin:World→Prop} (hf:∀ w'' kp mb,Duo w'' {a with k:=k',t:=⟨S',[],0⟩} {b with kp:=kp,mb:=mb,t:=⟨U',[],0⟩} tg tp→fin w''):
 jcR b.s bs text fin w' (.returned (.tuple #[.agg (hdC pk bf sm).toArray, .slice A' n' c', .int .i64 0])):=by
 refine ⟨hdC pk bf sm,A',n',c',rfl,yz q.lp bf sm,YZ,⟨SB,q.l,O⟩,fun W A m1 c1 e hB hm=> ?_⟩
 have hl:=O.len
 have ql:=q.l
 refine (jbw (D.ext e).swap (by rw [hb];exact (by decide:(0:Int)≤1000000000)) hB (O.ext e) hm (by omega) q.lp (E:=0) (T:=text) (S':=⟨U',[],0⟩) (by rw [hb];exact q.re) (by rw [hb];exact q.rt) (by rw [hb];exact q.rs)).mono ?_
 rintro e w'' ⟨A2,n2,c2,kp,mb,h1,h2,h3,h4⟩
 exact ⟨A2,n2,c2,h1,h2,hf _ kp mb h3.swap,h4⟩
theorem jl9 {shared:List UInt8}{W:World}{sa ga la sb gb lb m:Nat}{tg tp:jow×Nat×Nat}(h:Talk shared W sa ga la sb gb lb m tg tp) (hm:m≤17){A B:Option Addr}{m1 c1 m2 c2:Nat}{bs text:List UInt8}(ht:text.length≤300) (hm1:m1≤900000) (hM:∀ u,Two sa ga W u→Bs u A m1 c1 bs∧Bs u B m2 c2 text):
 Calls jor 21 #[.pointer (some ⟨sa,0,none⟩), .slice A m1 c1, .slice B m2 c2] W fun e w'=>jcR sb bs text (fun x=>Talk shared x sa ga la sb gb lb (m+1) tg tp) w' e∧Two sa ga W w':=by
 obtain ⟨ka,ma,kb,mb,k,j,s,u,D,C⟩:=h
 have kj:=Talk.kj C
 obtain ⟨pk,bf,sm,SB,S',U',K',q,qk,C'⟩:=jkd C hm ht bs 0
 refine (JP D (bs:=bs) (text:=text) (by show k < 1000000;omega) hm1 hM q.e q.h q.b q.s qk).mono ?_
 rintro e w' ⟨A',n',c',rfl,O,D',t⟩
 exact ⟨jda (a:=⟨sa,ka,ma,ga,la,[120],k,⟨s,[],0⟩⟩) (b:=⟨sb,kb,mb,gb,lb,[121],j,⟨u,[],0⟩⟩) D' rfl q O.bs ht (fun w'' kp mb' d=>⟨ka,ma,kp,mb',K',j,S',U',d,C'⟩),t⟩
theorem jma {shared:List UInt8}{W:World}{sa ga la sb gb lb m:Nat}{tg tp:jow×Nat×Nat}(h:Talk shared W sa ga la sb gb lb m tg tp) (h0:0 < m) (hm:m≤17){A B:Option Addr}{m1 c1 m2 c2:Nat}{bs text:List UInt8}(ht:text.length≤300) (hm1:m1≤900000) (hM:∀ u,Two sb gb W u→Bs u A m1 c1 bs∧Bs u B m2 c2 text):
 Calls jor 21 #[.pointer (some ⟨sb,0,none⟩), .slice A m1 c1, .slice B m2 c2] W fun e w'=>jcR sa bs text (fun x=>Talk shared x sa ga la sb gb lb (m+1) tg tp) w' e∧Two sb gb W w':=by
 obtain ⟨ka,ma,kb,mb,k,j,s,u,D,C⟩:=h
 have kj:=Talk.kj C
 obtain ⟨pk,bf,sm,SB,S',U',K',q,qk,C'⟩:=jke C h0 hm ht bs 0
 refine (JP D.swap (bs:=bs) (text:=text) (by show j < 1000000;omega) hm1 hM q.e q.h q.b q.s qk).mono ?_
 rintro e w' ⟨A',n',c',rfl,O,D',t⟩
 exact ⟨jda (a:=⟨sb,kb,mb,gb,lb,[121],j,⟨u,[],0⟩⟩) (b:=⟨sa,ka,ma,ga,la,[120],k,⟨s,[],0⟩⟩) D' rfl q O.bs ht (fun w'' kp mb' d=>⟨kp,mb',kb,mb,k,K',U',S',d.swap,C'⟩),t⟩
theorem jiH {w:World}{shared:List UInt8}(lr:shared.length=32){tg tp:jow×Nat×Nat}(hG:Gl w tg) (hP:Gp w tp):
 Calls jor 17 #[.agg (cellsOf shared).toArray] w fun e w'=>∃ sa ga la sb gb lb,e= .returned (.agg #[.pointer (some ⟨sa,0,none⟩), .pointer (some ⟨sb,0,none⟩)])∧Talk shared w' sa ga la sb gb lb 0 tg tp∧Ext w w'∧(w.heap.size≤sa∧sa < w'.heap.size)∧(w.heap.size≤ga∧ga < w'.heap.size)∧(w.heap.size≤sb∧sb < w'.heap.size)∧(w.heap.size≤gb∧gb < w'.heap.size):=by
 refine (jbQ lr hG hP).mono ?_
 rintro e w' ⟨sa,ka,ma,ga,la,sb,kb,mb,gb,lb,rfl,D,x,l1,l2⟩
 have a1:=D.pa.ss.sl
 have a2:=D.pa.gs
 have a3:=D.pa.src.1
 have b1:=D.pb.ss.sl
 have b2:=D.pb.gs
 have b3:=D.pb.src.1
 dsimp only [jh1,jjk] at a1 a2 a3 b1 b2 b3
 exact ⟨sa,ga,la,sb,gb,lb,rfl,⟨ka,ma,kb,mb,1,0,_,_,D, .inl ⟨rfl,rfl,rfl,rfl,rfl⟩⟩,x,by omega,by omega,by omega,by omega⟩
theorem Own.at13 {B:Nat}{w:World}{A:Option Addr}{n c:Nat}{xs:List UInt8}(h:Own B w A n c xs) (h0:0 < n):∃ b off,A=some ⟨b,off,none⟩∧B≤b:=by
 obtain ⟨b',off',e,hbl,hc⟩:=h.bs.2.2.2 h0
 subst e
 refine ⟨b',off',rfl,?_⟩
 rcases h.2 with ⟨hv,hn⟩ | ⟨g,cap,cur,hv,hge,_⟩
 ·omega
 ·injection hv with q1 _ _
  injection q1 with q1
  injection q1 with q1
  omega
theorem jbP {shared:List UInt8}{W:World}{sa ga la sb gb lb m:Nat}{tg tp:jow×Nat×Nat}(h:Talk shared W sa ga la sb gb lb m tg tp):
 (Calls jor 25 #[.pointer (some ⟨sa,0,none⟩)] W fun e w'=>e= .returned (.int .i64 0)∧Ext W w')∧Calls jor 25 #[.pointer (some ⟨sb,0,none⟩)] W fun e w'=>e= .returned (.int .i64 0)∧Ext W w':=by
 obtain ⟨ka,ma,kb,mb,k,j,s,u,D,C⟩:=h
 exact ⟨jan D.pa.ss,jan D.pb.ss⟩
theorem jjL (z:Int):∃ y:UInt8,IntKind.u8.wrap z=(y.toNat:Int):=by
 refine ⟨Z2 (z % 256).toNat,?_⟩
 rw [IntKind.wrap_u8,UInt8.toNat_ofNat']
 omega
theorem Qu {w:World}{shared:List UInt8}(lr:shared.length=32){A:Option Addr}{n c:Nat}{f:Nat→Bool}(hf:Bls w A n c f){Xp:Option Addr}{l d:Nat}{xs:List UInt8}(hx:Bs w Xp l d xs){tg tp:jow×Nat×Nat}(hG:Gl w tg) (hP:Gp w tp):
 Calls jor 5 #[.agg (cellsOf shared).toArray, .slice A n c, .slice Xp l d] w fun e w'=>e= .returned (.bool true)∧Ext w w':=by
 have AW:Hid (∀ W,Ext w W→Calls jor 15 #[] W fun e w'=>e= .returned (.bool true)∧Ext W w'):=fun W e=>jbd (hG.kept e hG.lt) (hP.ext e)
 have TW:Hid (∀ W,Ext w W→Calls jor 17 #[.agg (cellsOf shared).toArray] W fun e w'=>∃ sa ga la sb gb lb,e= .returned (.agg #[.pointer (some ⟨sa,0,none⟩), .pointer (some ⟨sb,0,none⟩)])∧Talk shared w' sa ga la sb gb lb 0 tg tp∧Ext W w'∧(W.heap.size≤sa∧sa < w'.heap.size)∧(W.heap.size≤ga∧ga < w'.heap.size)∧(W.heap.size≤sb∧sb < w'.heap.size)∧(W.heap.size≤gb∧gb < w'.heap.size)):=fun W e=>jiH lr (hG.kept e hG.lt) (hP.ext e)
 have K_:(cellsOf shared).toArray.size=32:=by rw [jpo,ja,lr]
 have O_:Hid ((cellsOf shared).toArray.all (·.oneCell')=true):=qC (fun v hv=>JT _ _ hv)
 have YK:Hid (Cb (w.alloc (.cells (cellsOf shared).toArray 23)) w.heap.size 23 (cellsOf shared)):=Cb.new _ _ _
 generalize cellsOf shared=KL at *
 have xf:=hf.1
 have xf2:=hf.2.1
 have xx:=hx.le
 have lx:=hx.len
 have xx2:=hx.cap
 unfold maxLen at xf2 xx2
 replace hf:=Hj hf
 replace hx:=Hj hx
 clear hG hP lr
 have hal2:=JD
 obtain ⟨T0,hT0⟩:∃ x,x=jjJ:=⟨_,rfl⟩
 rw [←hT0] at hal2
 have S_T0:T0.toArray.size=2:=by rw [hT0];rfl
 clear hT0
 have hal:=Jp
 have L_hz:(hdC (jph 32 0) 0 0).length=34:=yz rfl _ _
 generalize hdC (jph 32 0) 0 0=ZH at *
 have S_hz:ZH.toArray.size=34:=by rw [jpo,L_hz]
 clear L_hz
 have CV:Hid (∀ (W:World) A n c (ys:List UInt8),Bs W A n c ys→(convert 33 9 (.slice A n c)).run jor W= .ok (.string (vR ys)) W):=fun W A n c ys h=>jfz h
 go_enter Tryz.func5,Tryz.ntmps5
 go_wp2_with fail
 refine (AW.out _ ((Ext.refl w).alloc _)).mono ?_
 rintro e w1 ⟨rfl,e1⟩
 have kk:=Hj (YK.out.ext e1)
 have X1:Hid (Ext w w1):=((Ext.refl w).alloc _).trans e1
 have sz1:=X1.out.size
 clear AW YK e1
 go_wp2_with (first | ((with_reducible refine js (o:=⟨some 18,_,_,_,_,_⟩) ?_ 23 _ rfl w.heap.size ?_ 23 KL.toArray (0,0) _ ?_ jpx ?_ ?_ ?_);(·rfl);(·rfl);(·exact kk.out);(·rfl);(·rw [K_];rfl);go_frame))
 refine (TW.out w1 X1.out).mono ?_
 rintro e w2 ⟨sa,ga,la,sb,gb,lb,rfl,D1,x2,⟨a1,a2⟩,⟨a3,a4⟩,⟨b1,b2⟩,⟨b3,b4⟩⟩
 have szX:=X1.out.size
 have ww2:=x2.size
 have X2:Hid (Ext w w2):=X1.out.trans x2
 have OO: #[jon (some ⟨sa,0,none⟩), .pointer (some ⟨sb,0,none⟩)].all (·.oneCell')=true:=qC (L:= [jon (some ⟨sa,0,none⟩), .pointer (some ⟨sb,0,none⟩)]) (fun v hv=>by
  rcases joy.1 hv with rfl | hv
  ·rfl
  ·rcases joy.1 hv with rfl | hv
   ·rfl
   ·cases hv)
 have Y:Hid (Cb ((w2.alloc (.cells T0.toArray 28)).setRow w2.heap.size #[.pointer (some ⟨sa,0,none⟩), .pointer (some ⟨sb,0,none⟩)]) w2.heap.size 28 [.pointer (some ⟨sa,0,none⟩), .pointer (some ⟨sb,0,none⟩)]∧Ext w2 ((w2.alloc (.cells T0.toArray 28)).setRow w2.heap.size #[.pointer (some ⟨sa,0,none⟩), .pointer (some ⟨sb,0,none⟩)])):=⟨Cb.set (Cb.new _ _ _),Ext.newRow _ _ _⟩
 replace D1:=Hj D1
 replace x2:=Hj x2
 clear TW kk X1 K_ O_
 go_upto_region 3 with (refine ws_ rfl 28 rfl w2.heap.size #[.pointer (some ⟨sa,0,none⟩), .pointer (some ⟨sb,0,none⟩)] rfl rfl (jpk _ _) rfl (by rw [S_T0];rfl) OO ?_;simp only [joL])
 obtain ⟨r1,hr1⟩:∃ x,x=w2.heap.size:=⟨_,rfl⟩
 refine jg (fun W=>Cb W w2.heap.size 28 [.pointer (some ⟨sa,0,none⟩), .pointer (some ⟨sb,0,none⟩)]∧Ext w2 W) Y.out ?_
 rw [←hr1]
 have wr1:w2.heap.size≤r1:=jod hr1.symm
 clear Y
 replace hr1:=Hj hr1
 rintro w3 ⟨k1,x3⟩
 have D3:Hid (Talk shared w3 sa ga la sb gb lb 0 tg tp):=D1.out.ext x3
 have X3:Hid (Ext w w3):=X2.out.trans x3
 have c0:=k1.cell (j:=0) rfl
 have c1:=k1.cell (j:=1) rfl
 have r1l:=k1.lt
 replace k1:=Hj k1
 clear D1 x2 x3 X2
 by_cases h16:16 < n
 ·have u1:decide ((16:Int) < (n:Int))=true:=decide_eq_true (by omega)
  go_wp2_with fail
  go_ret
  exact ⟨rfl,X3.out⟩
 have u1:decide ((16:Int) < (n:Int))=false:=decide_eq_false (by omega)
 by_cases h280:280 < l
 ·have u2:decide ((280:Int) < (l:Int))=true:=decide_eq_true (by omega)
  go_wp2_with fail
  go_ret
  exact ⟨rfl,X3.out⟩
 have u2:decide ((280:Int) < (l:Int))=false:=decide_eq_false (by omega)
 go_wp2_with fail
 go_loopw [9] (fun iv wr=>∃ (m:Nat) (z:Int),m≤n+1∧z=(m:Int) - 1∧iv= .int .i64 z∧Talk shared wr sa ga la sb gb lb m tg tp∧Cb wr r1 28 [.pointer (some ⟨sa,0,none⟩), .pointer (some ⟨sb,0,none⟩)]∧Ext w wr∧w3.heap.size≤wr.heap.size) (fun v _=>n+1 - (intOf v+1).toNat)
 case atStart=>exact ⟨0, -1,Y7 _,rfl,rfl,D3.out,k1.out,X3.out,Y5 _⟩
 case round=>
  obtain ⟨m,z,hm,hz,rfl,T,kb,X,sz⟩:=hrel
  clear D3 k1 X3 c0 c1
  have hz1:z+1≤(m:Int):=by omega
  have hz2:(m:Int)≤z+1:=by omega
  clear hz
  have hf2:=(hf.out.ext X).2.2
  have k0:=kb.cell (j:=0) rfl
  have k1:=kb.cell (j:=1) rfl
  have rl:=kb.lt
  replace T:=Hj T
  replace kb:=Hj kb
  replace X:=Hj X
  by_cases hlt:m < n+1
  ·have v1:decide (z < (n:Int))=true:=decide_eq_true (by omega)
   go_upto_region 9 with fail
   go_cut [62] from 49 to 101 (fun s62 wx=>s62= .bool (decide (0 < m)&&f (m - 1))∧wx=wr)
   case first=>
    by_cases h0:m=0
    ·have v2:decide (0≤z)=false:=decide_eq_false (by omega)
     go_wp2_with fail
     go_meet
     exact ⟨by simp [h0],rfl⟩
    ·obtain ⟨b,off,rfl,hbb,hbc⟩:=hf2 (by omega)
     obtain ⟨i,rfl⟩:∃ i:Nat,z=(i:Int):=⟨m - 1,by omega⟩
     obtain rfl:m=i+1:=by omega
     have cj:=hbc i (by omega)
     clear hbc
     go_wp2_with fail
     go_meet
     exact ⟨by rw [show (decide (0 < i+1))=true from decide_eq_true (by omega),Nat.add_sub_cancel];rfl,rfl⟩
   case rest=>
   obtain ⟨rfl,rfl⟩:=hcut
   obtain ⟨q,hq⟩:=ex_ ((decide (0 < m)&&f (m - 1)))
   rw [←hq]
   have hq0:q=true→0 < m:=fun z=>by rw [z] at hq;have:=(joE _ _ ▸ hq.symm:_∧_).1;exact of_decide_eq_true this
   clear hq hf2
   have HX:Hid (Bs wc Xp l d xs):=hx.out.ext X.out
   obtain ⟨y,hy⟩:=jjL z
   have wz:IntKind.i64.wrap (z+1)=z+1:=jnZ _ (by omega)
   rcases q with _ | _
   ·skip
    go_upto_region 12 with (first
     | (at_builtin;(with_reducible refine jJ rfl (B:=wc.heap.size) (s:= .tmp 63) (x:= .tmp 64) rfl rfl rfl (Own.empty wc _ (Y5 _)) (HX.out.ext ((Ext.refl _).alloc _)) (by omega) (by simp) ?_);intro A6 c6 w6 o6 g6 b6;simp only [jot,jn7] at o6 ⊢;replace o6:=Hj o6;have e6:Hid (Ext wc w6):=y4 ((Ext.refl wc).alloc _) b6;clear g6 b6;go_frame)
     | (at_builtin;(with_reducible refine jJ rfl (B:=wc.heap.size) (s:= .tmp 65) (x:= .tmp 68) rfl rfl rfl (o6.out.ext ((Ext.refl _).alloc _)) (Bs.one8 _ _ y _ (by first | rfl | exact hy)) (by omega) (joU e6.out.size (by simp)) ?_);intro A7 c7 w7 o7 g7 b7;replace o7:=Hj o7;have e7:Hid (Ext wc w7):=y4 (e6.out.alloc _) b7;clear g7 b7;go_frame))
    obtain ⟨b7,off7,rfl,hb7⟩:=o7.out.at13 (by omega)
    have k7:=kb.out.ext e7.out
    have X7:Hid (Ext w w7):=X.out.trans e7.out
    have o7b:=Hj o7.out.bs
    have SND:Hid (Calls jor 21 #[.pointer (some ⟨sa,0,none⟩), .slice Xp l d, .slice (some ⟨b7,off7,none⟩) (l+1) c7] w7 fun e w'=>jcR sb xs (xs++ [y]) (fun x=>Talk shared x sa ga la sb gb lb (m+1) tg tp) w' e∧Two sa ga w7 w'):=jl9 (T.out.ext e7.out) (by omega) (by rw [joA,lx];show l+1≤300;omega) (by omega) (fun u t=>⟨hx.out.ext (Two.ext X7.out t (by omega) (by omega)),o7b.out.two13 t (by omega) (by omega)⟩)
    have c7_:=k7.cell (j:=0) rfl
    replace k7:=Hj k7
    have sz7:=e7.out.size
    clear HX o6 e6 o7 k0 k1 T X kb e7
    go_wp2_with fail
    refine SND.out.mono ?_
    rintro e w8 ⟨⟨H,A8,n8,c8,rfl,LH,OH,⟨SB,lsb,bsb⟩,RC⟩,t8⟩
    have k8:Cb w8 r1 28 [.pointer (some ⟨sa,0,none⟩), .pointer (some ⟨sb,0,none⟩)]:=t8.block k7.out (by omega) (by omega)
    have X8:Hid (Ext w w8):=Two.ext X7.out t8 (by omega) (by omega)
    have o8:=Hj (o7b.out.two13 t8 (by omega) (by omega))
    have sz8:=t8.2.2.2.1
    have S_H:H.toArray.size=34:=by rw [jpo,LH]
    have Y:Hid (Cb ((w8.alloc (.cells ZH.toArray 47)).setRow w8.heap.size H.toArray) w8.heap.size 47 H∧Ext w8 ((w8.alloc (.cells ZH.toArray 47)).setRow w8.heap.size H.toArray)):=⟨Cb.set (Cb.new _ _ _),Ext.newRow _ _ _⟩
    replace RC:=Hj RC
    replace k8:=Hj k8
    replace bsb:=Hj bsb
    clear SND t8 k7 X7 o7b c7_ lsb
    go_upto_region 13 with (refine ws_ rfl 47 rfl w8.heap.size H.toArray rfl rfl (jpk _ _) (by rw [S_H];rfl) (by rw [S_H,S_hz]) OH ?_;simp only [joL])
    obtain ⟨r5,hr5⟩:∃ x,x=w8.heap.size:=⟨_,rfl⟩
    refine jg (fun W=>Cb W w8.heap.size 47 H∧Ext w8 W) Y.out ?_
    rw [←hr5]
    clear Y
    have r5g:w8.heap.size≤r5:=jod hr5.symm
    replace hr5:=Hj hr5
    rintro w9 ⟨k9,x9⟩
    have r5l:=k9.lt
    have P9:Hid (∀ s,Ext w9 s→Cb s r1 28 [.pointer (some ⟨sa,0,none⟩), .pointer (some ⟨sb,0,none⟩)]∧Cb s r5 47 H∧Ext w s∧Bs s (some ⟨b7,off7,none⟩) (l+1) c7 (xs++ [y])):=fun s e=>⟨k8.out.ext (x9.trans e),k9.ext e,X8.out.trans (x9.trans e),o8.out.ext (x9.trans e)⟩
    have RC9:Hid (∀ s,Ext w9 s→Calls jor 23 #[.pointer (some ⟨sb,0,none⟩), .slice Xp l d, .agg H.toArray, .slice A8 n8 c8] s fun e w''=>∃ A2 n2 c2,e= .returned (.tuple #[.slice A2 n2 c2, .int .i64 0])∧Own s.heap.size w'' A2 n2 c2 (xs++ [y])∧Talk shared w'' sa ga la sb gb lb (m+1) tg tp∧s.grownBy w'' (some sb)):=fun s e=>RC.out s Xp l d (x9.trans e) (hx.out.ext (P9.out s e).2.2.1) (by omega)
    have sz9:=x9.size
    clear RC k8 k9 x9 X8 o8 bsb
    go_upto_region 15 with fail
    have hw:IntKind.i64.wrap (1 - 0)=1:=rfl
    have szW:=(Ext.refl w9).drew.size
    have P10:=P9.out _ (Ext.refl w9).drew
    have T3:Hid (∀ s,w9.drew.grownBy s (some sb)→s.cell? ⟨r1,1,none⟩=some (.pointer (some ⟨sb,0,none⟩))∧Cb s r5 47 H):=fun s e=>
     have t:=Two.of_grown (g':=sb) e
     ⟨Cb.cell (t.block P10.1 (by omega) (by omega):Cb s r1 28 _) (j:=1) rfl,t.block P10.2.1 (by omega) (by omega)⟩
    have A2:=Hj (RC9.out _ (Ext.refl w9).drew)
    replace P10:=Hj P10
    clear P9 RC9
    refine qgW sb [0,1,2,3,4,5,6,7,8,9,10,11,12] [7] ?_
    generalize w9.drew=W at *
    iterate 1 ((first | refine qR0 ?_ | refine qS ?_);go_frame)
    refine JB (fun _=>True) (fun _ _=>trivial) _ (v:= .int .i64 1) rfl rfl (by rfl) (fun w' hF=>by go_simp;try rfl) ?_
    simp only [joL,List.setIfInBounds_toArray,List.set_cons_zero,List.set_cons_succ]
    repeat ((first | refine qR _ (fun w' e=>(T3.out w' e).1) ?_ | refine qS ?_);go_frame)
    refine qV rfl (fun w'=>w'.heap[r5]? =some (.cells H.toArray 47 (0,0))) (fun w' e=>(T3.out w' e).2) (.agg H.toArray) (fun w' hF=>jd rfl rfl hF rfl rfl (by rw [S_H];rfl)) ?_
    go_frame
    repeat ((first | refine qR0 ?_ | refine qS ?_);go_frame)
    refine qD fun K hK=> ?_
    go_simp
    refine A2.out.mono ?_
    rintro e w10 ⟨A10,n10,c10,rfl,o10,T10,g10⟩
    refine hK.out _ _ g10 ?_
    clear hK K
    try go_frame
    repeat ((first | refine qR0 ?_ | refine qS ?_);go_frame)
    refine jp ?_
    have t10:=Two.of_grown (g':=sb) g10
    have sz10:=g10.size
    have X10:Hid (Ext w w10):=JQ P10.out.2.2.1 g10 (by omega)
    have k10:Hid (Cb w10 r1 28 [.pointer (some ⟨sa,0,none⟩), .pointer (some ⟨sb,0,none⟩)]):=t10.block P10.out.1 (by omega) (by omega)
    have cv10:=CV.out _ _ _ _ _ o10.bs
    have cv7:=CV.out w10 _ _ _ _ (P10.out.2.2.2.two13 t10 (by omega) (by omega))
    have u7:((vR (xs++ [y])).toList==(vR (xs++ [y])).toList)=true:=by simp
    replace T10:=Hj T10
    clear CV T3 A2 P10 g10 t10 o10
    generalize vR (xs++ [y])=HS at *
    go_wp2_with fail
    go_round
    case rel=>exact ⟨m+1,z+1,by omega,by omega,by first | rfl | (rw [wz]),T10.out,k10.out,X10.out,by omega⟩
    case measure=>simp [intOf];omega
   ·skip
    go_upto_region 12 with (first
     | (at_builtin;(with_reducible refine jJ rfl (B:=wc.heap.size) (s:= .tmp 63) (x:= .tmp 64) rfl rfl rfl (Own.empty wc _ (Y5 _)) (HX.out.ext ((Ext.refl _).alloc _)) (by omega) (by simp) ?_);intro A6 c6 w6 o6 g6 b6;simp only [jot,jn7] at o6 ⊢;replace o6:=Hj o6;have e6:Hid (Ext wc w6):=y4 ((Ext.refl wc).alloc _) b6;clear g6 b6;go_frame)
     | (at_builtin;(with_reducible refine jJ rfl (B:=wc.heap.size) (s:= .tmp 65) (x:= .tmp 68) rfl rfl rfl (o6.out.ext ((Ext.refl _).alloc _)) (Bs.one8 _ _ y _ (by first | rfl | exact hy)) (by omega) (joU e6.out.size (by simp)) ?_);intro A7 c7 w7 o7 g7 b7;replace o7:=Hj o7;have e7:Hid (Ext wc w7):=y4 (e6.out.alloc _) b7;clear g7 b7;go_frame))
    obtain ⟨b7,off7,rfl,hb7⟩:=o7.out.at13 (by omega)
    have k7:=kb.out.ext e7.out
    have X7:Hid (Ext w w7):=X.out.trans e7.out
    have o7b:=Hj o7.out.bs
    have SND:Hid (Calls jor 21 #[.pointer (some ⟨sb,0,none⟩), .slice Xp l d, .slice (some ⟨b7,off7,none⟩) (l+1) c7] w7 fun e w'=>jcR sa xs (xs++ [y]) (fun x=>Talk shared x sa ga la sb gb lb (m+1) tg tp) w' e∧Two sb gb w7 w'):=jma (T.out.ext e7.out) (hq0 rfl) (by omega) (by rw [joA,lx];show l+1≤300;omega) (by omega) (fun u t=>⟨hx.out.ext (Two.ext X7.out t (by omega) (by omega)),o7b.out.two13 t (by omega) (by omega)⟩)
    have c7_:=k7.cell (j:=1) rfl
    replace k7:=Hj k7
    have sz7:=e7.out.size
    clear HX o6 e6 o7 k0 k1 T X kb e7
    go_wp2_with fail
    refine SND.out.mono ?_
    rintro e w8 ⟨⟨H,A8,n8,c8,rfl,LH,OH,⟨SB,lsb,bsb⟩,RC⟩,t8⟩
    have k8:Cb w8 r1 28 [.pointer (some ⟨sa,0,none⟩), .pointer (some ⟨sb,0,none⟩)]:=t8.block k7.out (by omega) (by omega)
    have X8:Hid (Ext w w8):=Two.ext X7.out t8 (by omega) (by omega)
    have o8:=Hj (o7b.out.two13 t8 (by omega) (by omega))
    have sz8:=t8.2.2.2.1
    have S_H:H.toArray.size=34:=by rw [jpo,LH]
    have Y:Hid (Cb ((w8.alloc (.cells ZH.toArray 47)).setRow w8.heap.size H.toArray) w8.heap.size 47 H∧Ext w8 ((w8.alloc (.cells ZH.toArray 47)).setRow w8.heap.size H.toArray)):=⟨Cb.set (Cb.new _ _ _),Ext.newRow _ _ _⟩
    replace RC:=Hj RC
    replace k8:=Hj k8
    replace bsb:=Hj bsb
    clear SND t8 k7 X7 o7b c7_ lsb
    go_upto_region 13 with (refine ws_ rfl 47 rfl w8.heap.size H.toArray rfl rfl (jpk _ _) (by rw [S_H];rfl) (by rw [S_H,S_hz]) OH ?_;simp only [joL])
    obtain ⟨r5,hr5⟩:∃ x,x=w8.heap.size:=⟨_,rfl⟩
    refine jg (fun W=>Cb W w8.heap.size 47 H∧Ext w8 W) Y.out ?_
    rw [←hr5]
    clear Y
    have r5g:w8.heap.size≤r5:=jod hr5.symm
    replace hr5:=Hj hr5
    rintro w9 ⟨k9,x9⟩
    have r5l:=k9.lt
    have P9:Hid (∀ s,Ext w9 s→Cb s r1 28 [.pointer (some ⟨sa,0,none⟩), .pointer (some ⟨sb,0,none⟩)]∧Cb s r5 47 H∧Ext w s∧Bs s (some ⟨b7,off7,none⟩) (l+1) c7 (xs++ [y])):=fun s e=>⟨k8.out.ext (x9.trans e),k9.ext e,X8.out.trans (x9.trans e),o8.out.ext (x9.trans e)⟩
    have RC9:Hid (∀ s,Ext w9 s→Calls jor 23 #[.pointer (some ⟨sa,0,none⟩), .slice Xp l d, .agg H.toArray, .slice A8 n8 c8] s fun e w''=>∃ A2 n2 c2,e= .returned (.tuple #[.slice A2 n2 c2, .int .i64 0])∧Own s.heap.size w'' A2 n2 c2 (xs++ [y])∧Talk shared w'' sa ga la sb gb lb (m+1) tg tp∧s.grownBy w'' (some sa)):=fun s e=>RC.out s Xp l d (x9.trans e) (hx.out.ext (P9.out s e).2.2.1) (by omega)
    have sz9:=x9.size
    clear RC k8 k9 x9 X8 o8 bsb
    go_upto_region 15 with fail
    have hw:IntKind.i64.wrap (1 - 1)=0:=rfl
    have szW:=(Ext.refl w9).drew.size
    have P10:=P9.out _ (Ext.refl w9).drew
    have T3:Hid (∀ s,w9.drew.grownBy s (some sa)→s.cell? ⟨r1,0,none⟩=some (.pointer (some ⟨sa,0,none⟩))∧Cb s r5 47 H):=fun s e=>
     have t:=Two.of_grown (g':=sa) e
     ⟨Cb.cell (t.block P10.1 (by omega) (by omega):Cb s r1 28 _) (j:=0) rfl,t.block P10.2.1 (by omega) (by omega)⟩
    have A2:=Hj (RC9.out _ (Ext.refl w9).drew)
    replace P10:=Hj P10
    clear P9 RC9
    refine qgW sa [0,1,2,3,4,5,6,7,8,9,10,11,12] [7] ?_
    generalize w9.drew=W at *
    iterate 1 ((first | refine qR0 ?_ | refine qS ?_);go_frame)
    refine JB (fun _=>True) (fun _ _=>trivial) _ (v:= .int .i64 0) rfl rfl (by rfl) (fun w' hF=>by go_simp;try rfl) ?_
    simp only [joL,List.setIfInBounds_toArray,List.set_cons_zero,List.set_cons_succ]
    repeat ((first | refine qR _ (fun w' e=>(T3.out w' e).1) ?_ | refine qS ?_);go_frame)
    refine qV rfl (fun w'=>w'.heap[r5]? =some (.cells H.toArray 47 (0,0))) (fun w' e=>(T3.out w' e).2) (.agg H.toArray) (fun w' hF=>jd rfl rfl hF rfl rfl (by rw [S_H];rfl)) ?_
    go_frame
    repeat ((first | refine qR0 ?_ | refine qS ?_);go_frame)
    refine qD fun K hK=> ?_
    go_simp
    refine A2.out.mono ?_
    rintro e w10 ⟨A10,n10,c10,rfl,o10,T10,g10⟩
    refine hK.out _ _ g10 ?_
    clear hK K
    try go_frame
    repeat ((first | refine qR0 ?_ | refine qS ?_);go_frame)
    refine jp ?_
    have t10:=Two.of_grown (g':=sa) g10
    have sz10:=g10.size
    have X10:Hid (Ext w w10):=JQ P10.out.2.2.1 g10 (by omega)
    have k10:Hid (Cb w10 r1 28 [.pointer (some ⟨sa,0,none⟩), .pointer (some ⟨sb,0,none⟩)]):=t10.block P10.out.1 (by omega) (by omega)
    have cv10:=CV.out _ _ _ _ _ o10.bs
    have cv7:=CV.out w10 _ _ _ _ (P10.out.2.2.2.two13 t10 (by omega) (by omega))
    have u7:((vR (xs++ [y])).toList==(vR (xs++ [y])).toList)=true:=by simp
    replace T10:=Hj T10
    clear CV T3 A2 P10 g10 t10 o10
    generalize vR (xs++ [y])=HS at *
    go_wp2_with fail
    go_round
    case rel=>exact ⟨m+1,z+1,by omega,by omega,by first | rfl | (rw [wz]),T10.out,k10.out,X10.out,by omega⟩
    case measure=>simp [intOf];omega
  ·have v1:decide (z < (n:Int))=false:=decide_eq_false (by omega)
   have KE:=Hj (jbP T.out).1
   go_wp2_with fail
   refine KE.out.mono ?_
   rintro e w4 ⟨rfl,x4⟩
   have KE2:=Hj (jbP (T.out.ext x4)).2
   have k1':=(kb.out.ext x4).cell (j:=1) rfl
   replace x4:=Hj x4
   clear k0 k1 KE
   go_wp2_with fail
   refine KE2.out.mono ?_
   rintro e w5 ⟨rfl,x5⟩
   replace x5:=Hj x5
   go_wp2_with fail
   go_ret
   exact ⟨rfl,(X.out.trans x4.out).trans x5.out⟩
end Go.Proofs.YtakpgbaijkhpmaaGreatDoor
