import Derived.Test.YtakpgbaijkhpmaaGreatDoorPkAN
import Derived.Test.YtakpgbaijkhpmaaGreatDoorPkAL
import Derived.Test.YtakpgbaijkhpmaaGreatDoorPkAA
import Derived.Lib.LaidTab
import Derived.Test.YtakpgbaijkhpmaaGreatDoorPkAH
import Derived.Deep.Matrix
open Go renaming Program→jpB,TypeId→jpC,heap_alloc_new→jqq
open Go.Act renaming put→jpR
open Go.Obj renaming cells→jqY
open Go.Proofs.Tryz renaming prog→jpx,underlying23→jqD
open List renaming getD→jpr,getElem?_eq_none→jqa,getElem?_take→jqf,length_append→jpG,map_cons→jqA,map_nil→jqF,map_toArray→jqE,mem_cons→jpE,range→jp1,replicate→jqn,size_toArray→jqu,take_left'→jqv
open Nat renaming le_of_eq→jre,le_trans→jp0
open Option.some renaming inj→jpD
open UInt8 renaming ofNat→jpt
namespace Go.Proofs.YtakpgbaijkhpmaaGreatDoor
set_option maxHeartbeats 64000000
set_option linter.unusedSimpArgs false
set_option linter.unusedVariables false
set_option maxRecDepth 100000
section
open Go.ChangeShapes Go.WideShapes Go.ChangeAt Go.RowKit Go.Deep Go.Maps
section
variable {w W W':World}{a b:Pty}{tg tp:jpC×Nat×Nat}
theorem joL (h:Duo w a b tg tp){l:Nat}{fr tt:Int}(hL:Cb w l 150 (lnC fr tt a.s)){op text:List UInt8}{B:Option Addr}{m c:Nat}(hk:a.k < 1000000) (lop:op.length=32) (hm:m<=250) (hM:∀ u,Two a.s a.g w u->Bs u B m c text):
 Calls jpx 31 #[.pointer (some ⟨l,0,none⟩), .agg (cellsOf op).toArray, .slice B m c] w fun e w'=>∃ A' n' c',e= .returned (.tuple #[.agg (wrV a.t.s a.pair fr tt op text A' n' c').toArray, .int .i64 (qW a.t.s a.pair (op++text))])/\Own w.heap.size w' A' n' c' (yH a.t.s a.pair (jn fr tt (wrC fr tt op text)) (op++text))/\Duo w' (a.sent (op++text)) b tg tp/\Two a.s a.g w w':=by
 have hl:=h.pa.src.1;refine (jok hL h.pa.ss h.pa.src hk h.pa.gs lop hm h.gl h.gp h.pa.pr hM).mono ?_;rintro e w' ⟨A',n',c',h1,h2,h3,h4,h5⟩;have p1:=h.pa.pr;have p2:=h.pa.gs;have h6:=Pm.two h.pa h.pb h.ne h.ab h5;exact ⟨A',n',c',h1,h2,⟨⟨h3,h4,h.pa.gs,h.pa.pr⟩,h6,h.ne,h.ab,h.ba,h5.block h.gl (by omega) (by omega),h5.block h.gp (by omega) (by omega)⟩,h5⟩
theorem jov (h:Duo w a b tg tp){l:Nat}{f' t' p n:Int}(hL:Cb w l 150 (lnC t' f' a.s)){cm pk body:List UInt8}{A:Option Addr}{m c:Nat}(hp:a.t.puts<=1000000000) (lc:cm.length=32) (lp:pk.length=32) (hb:Bs w A m c body) (hm:m<=1000000):
 Calls jpx 34 #[.pointer (some ⟨l,0,none⟩), .agg (evC f' t' cm pk p n A m c).toArray] w fun e w'=>∃ A' n' c' kp' mb',e= .returned (.tuple #[.slice A' n' c', .agg (cellsOf (uwK a.t f' t' cm pk p n body)).toArray, .int .i64 (uwE a.t f' t' cm pk p n body)])/\Own w.heap.size w' A' n' c' (uwT a.t f' t' cm pk p n body)/\Duo w' {a with kp:=kp',mb:=mb',t:=zf a.t (jn f' t' cm) pk p n body} b tg tp/\w.grownBy w' (some a.s):=by
 have hl:=h.pa.src.1;have p1:=h.pa.pr;have p2:=h.pa.gs;refine (jox hL h.pa.ss hp lc lp hb hm h.gl h.gp (by omega) (by omega)).mono ?_;rintro e w' ⟨A',n',c',kp',mb',h1,h2,h3,h4,_⟩;have h5:=Two.of_grown (g':=a.g) h4;have h6:=Pm.two h.pa h.pb h.ne h.ab h5;exact ⟨A',n',c',kp',mb',h1,h2,⟨⟨h3,h.pa.src.other h4 (.inr h.pa.gs),h.pa.gs,h.pa.pr⟩,h6,h.ne,h.ab,h.ba,h5.block h.gl (by omega) (by omega),h5.block h.gp (by omega) (by omega)⟩,h4⟩
end
section
variable {s u S' U':Rt}{pr op text bs pk SB:List UInt8}{bf sm pp f t:Int}
theorem joT (q:Said s u pr (op++text) bs pk bf sm SB S' U' pp) (A:Option Addr) (n c:Nat):wrV s pr f t op text A n c=evC f t (wrC f t op text) pk bf sm A n c:=by
 unfold wrV;rw [q.e,if_pos rfl,q.h]
 rfl
theorem joZ (lop:op.length=32) (q:Said s u pr (op++text) (jn f t (wrC f t op text)) pk bf sm SB S' U' pp):uwE ⟨u,[],pp⟩ f t (wrC f t op text) pk bf sm SB=0/\uwT ⟨u,[],pp⟩ f t (wrC f t op text) pk bf sm SB=text/\uwK ⟨u,[],pp⟩ f t (wrC f t op text) pk bf sm SB=op:=by
 have hl: ¬ (op++text).length < 32:=by rw [jpG,lop];omega
 have e1:unE (op++text)=0:=if_neg hl;have e2:unK (op++text)=op:=by unfold unK;rw [if_neg hl];exact jqv lop
 have e3:unT (op++text)=text:=by unfold unT;rw [if_neg hl];exact List.drop_left' lop
 have e:uwE ⟨u,[],pp⟩ f t (wrC f t op text) pk bf sm SB=0:=by
  unfold uwE;rw [q.re,if_pos rfl,q.rt,e1,if_pos rfl,e2,e3,if_pos rfl]
 refine ⟨e,?_,?_⟩
 ·unfold uwT;rw [e,if_pos rfl,q.rt,e3]
 ·unfold uwK;rw [e,if_pos rfl,q.rt,e2]
end
def jpc (shared:List UInt8) (W:World) (l0 l1 sa ga la sb gb lb m:Nat) (tg tp:jpC×Nat×Nat):Prop:=
 (∃ (ka ma kb mb k j:Nat) (s u:Rt),Duo W ⟨sa,ka,ma,ga,la,[120],k,⟨s,[],0⟩⟩ ⟨sb,kb,mb,gb,lb,[121],j,⟨u,[],0⟩⟩ tg tp/\jf3 shared k j s u m)/\Cb W l0 150 (lnC 2 5 sa)/\Cb W l1 150 (lnC 5 2 sb)
section
variable {shared:List UInt8}{w W W':World}{l0 l1 sa ga la sb gb lb m:Nat}{tg tp:jpC×Nat×Nat}
def jot (B0 lj sj:Nat) (f t:Int) (op text:List UInt8) (fin:World->Prop) (w':World) (e:Ending):Prop:=
 ∃ (pk:List UInt8) (bf sm:Int) (A':Option Addr) (n' c':Nat) (SB:List UInt8),e= .returned (.tuple #[.agg (evC f t (wrC f t op text) pk bf sm A' n' c').toArray, .int .i64 0])/\pk.length=32/\SB.length=text.length+64/\Own B0 w' A' n' c' SB/\
   ∀ W,Ext w' W->Calls jpx 34 #[.pointer (some ⟨lj,0,none⟩), .agg (evC f t (wrC f t op text) pk bf sm A' n' c').toArray] W fun e w''=>∃ A2 n2 c2,e= .returned (.tuple #[.slice A2 n2 c2, .agg (cellsOf op).toArray, .int .i64 0])/\Own W.heap.size w'' A2 n2 c2 text/\fin w''/\W.grownBy w'' (some sj)
theorem joJ {w':World}{a b:Pty}{u S' U':Rt}{k' B0 lj:Nat}{op text pk SB:List UInt8}{bf sm f t:Int}{A':Option Addr}{n' c':Nat}{pr:List UInt8}{s:Rt}
 (D:Duo w' {a with k:=k',t:=⟨S',[],0⟩} b tg tp) (hb:b.t=⟨u,[],0⟩) (hlj:Cb w' lj 150 (lnC t f b.s)) (lop:op.length=32) (q:Said s u pr (op++text) (jn f t (wrC f t op text)) pk bf sm SB S' U' 0) (O:Own B0 w' A' n' c' SB) (ht:text.length<=250)
 {fin:World->Prop} (hf:∀ w'' kp mb,Duo w'' {a with k:=k',t:=⟨S',[],0⟩} {b with kp:=kp,mb:=mb,t:=⟨U',[],0⟩} tg tp->(∀ i (C:List Value),Cb w' i 150 C->Cb w'' i 150 C)->fin w''):
 jot B0 lj b.s f t op text fin w' (.returned (.tuple #[.agg (wrV s pr f t op text A' n' c').toArray, .int .i64 0])):=by
 have hl:=O.len;have ql:=q.l;rw [jpG,lop] at ql;refine ⟨pk,bf,sm,A',n',c',SB,by rw [joT q],q.lp,by omega,O,fun W e=> ?_⟩;obtain ⟨u1,u2,u3⟩:=joZ lop q;have hd:=(D.ext e).swap;have R:=jov hd (hlj.ext e) (p:=bf) (n:=sm) (cm:=wrC f t op text) (pk:=pk) (body:=SB) (A:=A') (m:=n') (c:=c') (by rw [hb];exact (by decide:(0:Int)<=1000000000)) (joj _ _ _ _) q.lp (O.bs.ext e) (by omega);rw [hb,u1,u2,u3,q.rs] at R;refine R.mono ?_;rintro e' w'' ⟨A2,n2,c2,kp,mb,h1,h2,h3,h4⟩;refine ⟨A2,n2,c2,h1,h2,hf _ kp mb h3.swap fun i C hi=> ?_,h4⟩;have hi':=hi.ext e;exact (h4.block _ hi'.lt (fun z=>zt hd.pa.ss.sq hi' (by decide) (jpD z).symm)).trans hi'
theorem jpi {l:Nat}{fr tt:Int}{sg:Nat}(hL:Cb W l 150 (lnC fr tt sg)){f' t' p n:Int}{cm pk:List UInt8}{A:Option Addr}{mm c:Nat}(lc:cm.length=32) (lp:pk.length=32) (hbad:f'≠tt\/t'≠fr):
 Calls jpx 34 #[.pointer (some ⟨l,0,none⟩), .agg (evC f' t' cm pk p n A mm c).toArray] W fun e w'=>e= .returned (.tuple #[.slice none 0 0, .agg (cellsOf (jqn 32 0)).toArray, .int .i64 1])/\Ext W w':=jpg hL lc lp hbad
structure LLay (w W:World) (l0 l1 sa ga la sb gb lb:Nat):Prop where
 a:(w.heap.size<=sa/\sa < W.heap.size)/\(w.heap.size<=ga/\ga < W.heap.size)
 b:(w.heap.size<=sb/\sb < W.heap.size)/\(w.heap.size<=gb/\gb < W.heap.size)
 l:(w.heap.size<=l0/\l0 < W.heap.size)/\(w.heap.size<=l1/\l1 < W.heap.size)
theorem joK (lr:shared.length=32) (hG:Gl w tg) (hP:Gp w tp):
 Calls jpx 29 #[.agg (cellsOf shared).toArray] w fun e w'=>∃ l0 l1 sa ga la sb gb lb,e= .returned (.agg #[.pointer (some ⟨l0,0,none⟩), .pointer (some ⟨l1,0,none⟩)])/\jpc shared w' l0 l1 sa ga la sb gb lb 0 tg tp/\Ext w w'/\LLay w w' l0 l1 sa ga la sb gb lb:=by
 refine (joz lr hG hP).mono ?_;rintro e w' ⟨l0,l1,sa,ka,ma,ga,la,sb,kb,mb,gb,lb,rfl,D,k0,k1,x,q1,q2,q3,q4⟩;have a1:=D.pa.ss.sl;have a2:=D.pa.gs;have a3:=D.pa.src.1;have b1:=D.pb.ss.sl;have b2:=D.pb.gs;have b3:=D.pb.src.1;dsimp only [jh1,jjk] at a1 a2 a3 b1 b2 b3;have c0:=k0.lt;have c1:=k1.lt;exact ⟨l0,l1,sa,ga,la,sb,gb,lb,rfl,⟨⟨ka,ma,kb,mb,1,0,_,_,D, .inl ⟨rfl,rfl,rfl,rfl,rfl⟩⟩,k0,k1⟩,x,⟨⟨⟨by omega,by omega⟩,by omega,by omega⟩,⟨⟨by omega,by omega⟩,by omega,by omega⟩,⟨⟨by omega,by omega⟩,by omega,by omega⟩⟩⟩
def LBeg (shared:List UInt8) (W:World) (l0 l1 sa ga la sb gb lb:Nat) (tg tp:jpC×Nat×Nat):Prop:=
 (∃ (ka ma kb mb:Nat),Duo W (jh1 sa ka ma ga la shared) (jjk sb kb mb gb lb shared) tg tp)/\Cb W l0 150 (lnC 2 5 sa)/\Cb W l1 150 (lnC 5 2 sb)
def jpb (W:World) (l0 l1 sa ga la sb gb lb:Nat) (tg tp:jpC×Nat×Nat):Prop:=
 (∃ (ka ma kb mb:Nat) (s u:Rt),Duo W ⟨sa,ka,ma,ga,la,[120],1,⟨s,[],0⟩⟩ ⟨sb,kb,mb,gb,lb,[121],0,⟨u,[],0⟩⟩ tg tp/\Insy [120] [121] 1 0 s u 1)/\Cb W l0 150 (lnC 2 5 sa)/\Cb W l1 150 (lnC 5 2 sb)
theorem LBeg.ext (h:LBeg shared W l0 l1 sa ga la sb gb lb tg tp) (e:Ext W W'):LBeg shared W' l0 l1 sa ga la sb gb lb tg tp:=by
 obtain ⟨⟨ka,ma,kb,mb,h1⟩,k0,k1⟩:=h;exact ⟨⟨ka,ma,kb,mb,h1.ext e⟩,k0.ext e,k1.ext e⟩
theorem jpb.ext (h:jpb W l0 l1 sa ga la sb gb lb tg tp) (e:Ext W W'):jpb W' l0 l1 sa ga la sb gb lb tg tp:=by
 obtain ⟨⟨ka,ma,kb,mb,s,u,h1,h2⟩,k0,k1⟩:=h;exact ⟨⟨ka,ma,kb,mb,s,u,h1.ext e,h2⟩,k0.ext e,k1.ext e⟩
theorem jo9 (h:LBeg shared W l0 l1 sa ga la sb gb lb tg tp){op text:List UInt8}(lop:op.length=32) (ht:text.length<=250){B:Option Addr}{mm c:Nat}(hM:∀ u,Two sa ga W u->Bs u B mm c text):
 Calls jpx 31 #[.pointer (some ⟨l0,0,none⟩), .agg (cellsOf op).toArray, .slice B mm c] W fun e w'=>jot W.heap.size l1 sb 2 5 op text (fun x=>jpb x l0 l1 sa ga la sb gb lb tg tp) w' e/\Two sa ga W w':=by
 obtain ⟨⟨ka,ma,kb,mb,D⟩,k0,k1⟩:=h;have lB:=(hM W (Two.refl _ _ _)).len;obtain ⟨S',U',SB,q,qk,_,_,_,C'⟩:=jeW shared (text:=op++text) (by rw [jpG,lop];omega) rfl (j3 (jO [120] 1)) (jn 2 5 (wrC 2 5 op text)) 0;have R:=joL D (fr:=2) (tt:=5) (op:=op) (text:=text) k0 (by show (1:Nat) < 1000000;omega) lop (by omega) hM;have e1:(Pty.sent (jh1 sa ka ma ga la shared) (op++text))=⟨sa,ka,ma,ga,la,[120],1,⟨S',[],0⟩⟩:=by
  unfold Pty.sent jh1;dsimp only;rw [qk,q.s]
 have e2:qW (J2 shared) (Pty.pair (jh1 sa ka ma ga la shared)) (op++text)=0:=q.e;have e3:yH (J2 shared) (Pty.pair (jh1 sa ka ma ga la shared)) (jn 2 5 (wrC 2 5 op text)) (op++text)=SB:=q.b;have e4:(jh1 sa ka ma ga la shared).t.s=J2 shared:=rfl;rw [e1,e4,e2,e3] at R;refine R.mono ?_;rintro e w' ⟨A',n',c',rfl,O,D',t⟩;have hL:∀ i (C:List Value),Cb W i 150 C->Cb w' i 150 C:=fun i C hi=>by
  obtain ⟨L',hL'⟩:=D.pa.src.cb;exact t.block hi (fun z=>zt D.pa.ss.sq hi (by decide) z.symm) (fun z=>zt hL' hi (by decide) z.symm)
 exact ⟨joJ (a:=jh1 sa ka ma ga la shared) (b:=jjk sb kb mb gb lb shared) (k':=1) D' rfl (hL _ _ k1) lop q O ht (fun w'' kp mb' d kk=>⟨⟨ka,ma,kp,mb',S',U',d,C'⟩,kk _ _ (hL _ _ k0),kk _ _ (hL _ _ k1)⟩),t⟩
theorem jpk (h:jpb W l0 l1 sa ga la sb gb lb tg tp){op text:List UInt8}(lop:op.length=32) (ht:text.length<=250){B:Option Addr}{mm c:Nat}(hM:∀ u,Two sb gb W u->Bs u B mm c text):
 Calls jpx 31 #[.pointer (some ⟨l1,0,none⟩), .agg (cellsOf op).toArray, .slice B mm c] W fun e w'=>jot W.heap.size l0 sa 5 2 op text (fun x=>Cb x l0 150 (lnC 2 5 sa)) w' e/\Two sb gb W w':=by
 obtain ⟨⟨ka,ma,kb,mb,s,u,D,C⟩,k0,k1⟩:=h;have lB:=(hM W (Two.refl _ _ _)).len;obtain ⟨S',U',SB,q,qk,_,_,_,_⟩:=jbK C (by omega) (text:=op++text) (by rw [jpG,lop];omega) rfl (fun z=>jkr z.symm) (jn 5 2 (wrC 5 2 op text)) 0;have R:=joL D.swap (fr:=5) (tt:=2) (op:=op) (text:=text) k1 (by show (0:Nat) < 1000000;omega) lop (by omega) hM;have e1:(Pty.sent ⟨sb,kb,mb,gb,lb,[121],0,⟨u,[],0⟩⟩ (op++text))=⟨sb,kb,mb,gb,lb,[121],1,⟨S',[],0⟩⟩:=by
  unfold Pty.sent;dsimp only;rw [qk,q.s]
 have e2:qW u (Pty.pair ⟨sb,kb,mb,gb,lb,[121],0,⟨u,[],0⟩⟩) (op++text)=0:=q.e;have e3:yH u (Pty.pair ⟨sb,kb,mb,gb,lb,[121],0,⟨u,[],0⟩⟩) (jn 5 2 (wrC 5 2 op text)) (op++text)=SB:=q.b;rw [e1] at R;dsimp only at R;rw [e2,e3] at R;refine R.mono ?_;rintro e w' ⟨A',n',c',rfl,O,D',t⟩;have hL:∀ i (C:List Value),Cb W i 150 C->Cb w' i 150 C:=fun i C hi=>by
  obtain ⟨L',hL'⟩:=D.pb.src.cb;exact t.block hi (fun z=>zt D.pb.ss.sq hi (by decide) z.symm) (fun z=>zt hL' hi (by decide) z.symm)
 exact ⟨joJ (a:=⟨sb,kb,mb,gb,lb,[121],0,⟨u,[],0⟩⟩) (b:=⟨sa,ka,ma,ga,la,[120],1,⟨s,[],0⟩⟩) D' rfl (hL _ _ k0) lop q O ht (fun w'' kp mb' d kk=>kk _ _ (hL _ _ k0)),t⟩
theorem jpa (lr:shared.length=32) (hG:Gl w tg) (hP:Gp w tp):
 Calls jpx 29 #[.agg (cellsOf shared).toArray] w fun e w'=>∃ l0 l1 sa ga la sb gb lb,e= .returned (.agg #[.pointer (some ⟨l0,0,none⟩), .pointer (some ⟨l1,0,none⟩)])/\LBeg shared w' l0 l1 sa ga la sb gb lb tg tp/\Ext w w'/\LLay w w' l0 l1 sa ga la sb gb lb:=by
 refine (joz lr hG hP).mono ?_;rintro e w' ⟨l0,l1,sa,ka,ma,ga,la,sb,kb,mb,gb,lb,rfl,D,k0,k1,x,q1,q2,q3,q4⟩;have a1:=D.pa.ss.sl;have a2:=D.pa.gs;have a3:=D.pa.src.1;have b1:=D.pb.ss.sl;have b2:=D.pb.gs;have b3:=D.pb.src.1;dsimp only [jh1,jjk] at a1 a2 a3 b1 b2 b3;have c0:=k0.lt;have c1:=k1.lt;exact ⟨l0,l1,sa,ga,la,sb,gb,lb,rfl,⟨⟨ka,ma,kb,mb,D⟩,k0,k1⟩,x,⟨⟨⟨by omega,by omega⟩,by omega,by omega⟩,⟨⟨by omega,by omega⟩,by omega,by omega⟩,⟨⟨by omega,by omega⟩,by omega,by omega⟩⟩⟩
end
theorem joP {w:World}{f t:Int}:Calls jpx 37 #[.pointer none, .int .i64 f, .int .i64 t] w fun e w'=>e= .returned (.tuple #[.pointer none, .int .i64 1])/\Ext w w':=by
 go_enter Tryz.func37,Tryz.ntmps37
 go_wp2_with fail;go_ret2;exact ⟨rfl,jnQ _⟩
def jol:List UInt8:=9::jqn 31 0
theorem jom:Tryz.prog.built 23 [(0, .int .u8 9)]=some (cellsOf jol).toArray:=by kernel_rfl
def lnA (l0 l1:Nat):List Value:= [.pointer (some ⟨l0,0,none⟩), .pointer (some ⟨l1,0,none⟩)]
theorem joW (l0 l1:Nat):(lnA l0 l1).toArray.all (·.oneCell')=true:=qC (L:=lnA l0 l1) (fun v hv=>by
 rcases jpE.1 hv with rfl | hv
 ·rfl
 ·rcases jpE.1 hv with rfl | hv
  ·rfl
  ·cases hv)
def Y8:List UInt8:= [104,101,108,108,111]
theorem job {w:World}{tg tp:jpC×Nat×Nat}(hG:Gl w tg) (hP:Gp w tp):
 Calls jpx 28 #[] w fun e w'=>e= .returned (.bool true)/\Ext w w':=by
 have TW:=Hj (jpa (w:=w) (shared:=Qe) rfl hG hP);have bk:=Hj jde;have bn:=Hj jom;have LA:Hid (∀ (W:World) (l0 l1 sa ga la sb gb lb b:Nat),LBeg Qe W l0 l1 sa ga la sb gb lb tg tp->Bs W (some ⟨b,0,none⟩) 5 5 Y8->(b≠sa/\b≠ga)->Calls jpx 31 #[.pointer (some ⟨l0,0,none⟩), .agg (cellsOf jol).toArray, .slice (some ⟨b,0,none⟩) 5 5] W fun e w'=>jot W.heap.size l1 sb 2 5 jol Y8 (fun x=>jpb x l0 l1 sa ga la sb gb lb tg tp) w' e/\Two sa ga W w'):=fun W l0 l1 sa ga la sb gb lb b h hb n=>jo9 h rfl (by decide) (fun u x=>hb.two13 x n.1 n.2)
 have L_n:jol.length=32:=rfl;obtain ⟨nine,hnine⟩:∃ x,x=jol:=⟨_,rfl⟩;rw [<-hnine] at bn LA L_n;clear hnine;have S_n:(cellsOf nine).toArray.size=32:=by simp [ja,L_n]
 have O_n:=ji nine;generalize (cellsOf Qe).toArray=K1 at *;generalize Qe=sh at *;have halk:=j2;have S_Z:=j7;generalize jr=Z at *;have hal2:=jn6;obtain ⟨T0,hT0⟩:∃ x,x=jjJ:=⟨_,rfl⟩;rw [<-hT0] at hal2;have S_T0:T0.toArray.size=2:=by rw [hT0];rfl
 clear hT0;have hale:=jn3;have L_z:=joH;generalize evZ=ZE at *;have S_ZE:ZE.toArray.size=69:=by rw [jqu,L_z]
 have CV:Hid (∀ (W:World) A n c (ys:List UInt8),Bs W A n c ys->(convert 33 9 (.slice A n c)).run jpx W= .ok (.string (vR ys)) W):=fun W A n c ys h=>jfz h
 have NN:Hid (∀ W:World,Calls jpx 37 #[.pointer none, .int .i64 1, .int .i64 2] W fun e w'=>e= .returned (.tuple #[.pointer none, .int .i64 1])/\Ext W w'):=fun W=>joP
 clear hG hP;go_enter Tryz.func28,Tryz.ntmps28
 go_wp2_with (first | ((with_reducible refine jm (o:=⟨some 9, .build 23 _,_,_,_,_⟩) ?_ 23 _ rfl K1 ?_ ?_);(·rfl);(·simp only [jqE,jqA,jqF];exact bk.out);go_frame))
 refine TW.out.mono ?_;rintro e w1 ⟨l0,l1,sa,ga,la,sb,gb,lb,rfl,D1,x1,ly⟩;have OO:=joW l0 l1;have ⟨⟨⟨a1,a2⟩,a3,a4⟩,⟨⟨b1,b2⟩,b3,b4⟩,_⟩:=ly;have Y:Hid (Cb ((w1.alloc (.cells T0.toArray 79)).setRow w1.heap.size (lnA l0 l1).toArray) w1.heap.size 79 (lnA l0 l1)/\Ext w1 ((w1.alloc (.cells T0.toArray 79)).setRow w1.heap.size (lnA l0 l1).toArray)):=⟨Cb.set (Cb.new _ _ _),Ext.newRow _ _ _⟩;replace D1:=Hj D1;replace x1:=Hj x1;clear TW bk ly;go_upto_region 2 with (refine ws_ rfl 79 rfl w1.heap.size (lnA l0 l1).toArray rfl rfl (jqq _ _) rfl (by rw [S_T0];rfl) OO ?_;simp only [jpR])
 refine jg (fun W=>Cb W w1.heap.size 79 (lnA l0 l1)/\Ext w1 W) Y.out ?_;obtain ⟨r1,hr1⟩:∃ x,x=w1.heap.size:=⟨_,rfl⟩;rw [<-hr1];have wr1:w1.heap.size<=r1:=jre hr1.symm;clear Y;replace hr1:=Hj hr1;rintro w2 ⟨k1,x2⟩;have D2:=Hj (D1.out.ext x2);have X2:=Hj (x1.out.trans x2);have c0:=k1.cell (j:=0) (v:= .pointer (some ⟨l0,0,none⟩)) rfl;have c1:=k1.cell (j:=1) (v:= .pointer (some ⟨l1,0,none⟩)) rfl;have r1l:=k1.lt;replace k1:=Hj k1;have hcv:=Qn;have v2:Hid (Bs (w2.alloc (jqY #[.int .u8 104, .int .u8 101, .int .u8 108, .int .u8 108, .int .u8 111] 5 (5,6))) (some ⟨w2.heap.size,0,none⟩) 5 5 Y8):=Bs.lit13 w2 5 (5,6) [104,101,108,108,111] _ rfl 5 rfl (by omega);have x5:Hid (Ext w2 (w2.alloc (jqY #[.int .u8 104, .int .u8 101, .int .u8 108, .int .u8 108, .int .u8 111] 5 (5,6)))):=(jnQ w2).alloc _;have S4:=Hj (LA.out _ _ _ _ _ _ _ _ _ _ (D2.out.ext x5.out) v2.out ⟨by omega,by omega⟩);clear D1 x1 x2 LA D2;go_wp2_with (first | ((with_reducible refine jm (o:=⟨some 22, .build 23 _,_,_,_,_⟩) ?_ 23 _ rfl (cellsOf nine).toArray ?_ ?_);(·rfl);(·simp only [jqE,jqA,jqF];exact bn.out);go_frame))
 refine S4.out.mono ?_;rintro e w3 ⟨⟨pk,bf,sm,A6,n6,c6,SB,rfl,lpk,lSB,o6,UW⟩,t3⟩;have k3:Cb w3 r1 79 (lnA l0 l1):=t3.block (k1.out.ext x5.out) (by omega) (by omega);have X3:Ext w w3:=Two.ext (X2.out.trans x5.out) t3 (by omega) (by omega);have s13:=jp0 x5.out.size t3.2.2.2.1;have L_E:=Z2 (joj 2 5 nine Y8) lpk 2 5 bf sm A6 n6 c6;have O_E:(evC 2 5 (wrC 2 5 nine Y8) pk bf sm A6 n6 c6).toArray.all (·.oneCell')=true:=qC fun v hv=>joF v hv
 generalize evC 2 5 (wrC 2 5 nine Y8) pk bf sm A6 n6 c6=EV at *;have S_E:EV.toArray.size=69:=by rw [jqu,L_E]
 have Y:Hid (Cb ((w3.alloc (.cells ZE.toArray 89)).setRow w3.heap.size EV.toArray) w3.heap.size 89 EV/\Ext w3 ((w3.alloc (.cells ZE.toArray 89)).setRow w3.heap.size EV.toArray)):=⟨Cb.set (Cb.new _ _ _),Ext.newRow _ _ _⟩;replace UW:=Hj UW;replace k3:=Hj k3;replace X3:=Hj X3;clear S4 k1 X2 x5 t3 c0 c1 v2 o6;go_upto_region 5 with (refine ws_ rfl 89 rfl w3.heap.size EV.toArray rfl rfl (jqq _ _) (by rw [S_E];rfl) (by rw [S_E,S_ZE]) O_E ?_;simp only [jpR])
 refine jg (fun W=>Cb W w3.heap.size 89 EV/\Ext w3 W) Y.out ?_;generalize w3.heap.size=r3 at *;clear Y;rintro w4 ⟨k4,x4⟩;have c1:=(k3.out.ext x4).cell (j:=1) (v:= .pointer (some ⟨l1,0,none⟩)) rfl;have U4:=Hj (UW.out w4 x4);have X4:=Hj (X3.out.trans x4);clear UW x4 X3;go_wp2_with (first | ((with_reducible refine js (o:=⟨some 31,_,_,_,_,_⟩) ?_ 89 _ rfl r3 ?_ 89 EV.toArray (0,0) _ ?_ Tryz.underlying89 ?_ ?_ ?_);(·rfl);(·rfl);(·exact k4);(·rfl);(·rw [S_E];rfl);go_frame))
 refine U4.out.mono ?_;rintro e w5 ⟨A9,n9,d9,rfl,o9,D5,g5⟩;have X5:Hid (Ext w w5):=JQ X4.out g5 (by omega);have b9:=Hj o9.bs;have kz:(w5.alloc (.cells Z 23)).heap[w5.heap.size]? =some (.cells Z 23 (0,0)):=jqq _ _;have Y:Hid (Ky ((w5.alloc (.cells Z 23)).setRow w5.heap.size (cellsOf nine).toArray) w5.heap.size nine/\Ext w5 ((w5.alloc (.cells Z 23)).setRow w5.heap.size (cellsOf nine).toArray)):=⟨Ky.new _ L_n,Ext.newRow _ _ _⟩;clear U4 X4 o9 D5 g5 k4 c1 k3;go_upto_region 6 with (refine ws_ rfl 23 rfl w5.heap.size (cellsOf nine).toArray rfl rfl kz (by rw [S_n];rfl) (by rw [S_n];exact S_Z) O_n ?_;simp only [jpR])
 refine jg (fun W=>Ky W w5.heap.size nine/\Ext w5 W) Y.out ?_;generalize w5.heap.size=r5 at *;clear Y kz;rintro w6 ⟨k6,x6⟩;have N6:=Hj (NN.out w6);replace b9:=Hj (b9.out.ext x6);have X6:=Hj (X5.out.trans x6);replace k6:=Hj k6;clear NN X5 x6;go_wp2_with fail;refine N6.out.mono ?_;rintro e w7 ⟨rfl,x7⟩;have k7:=(k6.out.ext x7).1;have F:=Hj (X6.out.trans x7);have cv:=CV.out _ _ _ _ _ (b9.out.ext x7);have u7:((vR Y8).toList== [104,101,108,108,111])=true:=by simp [vR,Y8]
 generalize vR Y8=HS at *;clear N6 X6 k6 b9 x7 CV;go_wp2_with (first
  | ((with_reducible refine js (o:=⟨some 52,_,_,_,_,_⟩) ?_ 23 _ rfl r5 ?_ 23 (cellsOf nine).toArray (0,0) _ ?_ jqD ?_ ?_ ?_);(·rfl);(·rfl);(·exact k7);(·rfl);(·rw [S_n];rfl);go_frame)
  | ((with_reducible refine vQ (o:=⟨some 53, .build 23 _,_,_,_,_⟩) (v:= .agg (cellsOf nine).toArray) ?_ ?_ ?_);(·rfl);(·refine qe rfl ?_;simp only [jqE,jqA,jqF];exact bn.out);go_frame)
  | ((with_reducible refine jn4 (o:=⟨some 54,_,_,_,_,_⟩) ?_ _ _ _ rfl nine nine true ?_ ?_ ?_ L_n L_n ?_);(·rfl);(·exact (by simp));(·rfl);(·rfl);go_frame))
 all_goals (go_ret;exact ⟨rfl,F.out⟩)
end
section
open Go.ChangeShapes Go.WideShapes Go.ChangeAt Go.RowKit Go.Deep
def jhC:List Int:= [1779033703,3144134277,1013904242,2773480762,1359893119,2600822924,528734635,1541459225]
theorem jhv:Tryz.prog.globalNamed "palfrey/blake.initial" =some 0:=by kernel_rfl
theorem jep:(Tryz.prog.globals[0]?).map (·.type)=some 218:=by kernel_rfl
theorem jgg {W:World}(h:Lib.TabIs jpx W "palfrey/blake.initial" .u32 jhC):∃ tg,Gl W tg:=by
 unfold Lib.TabIs World.var? at h;rw [jhv] at h;simp only [Option.bind_some] at h
 cases hh:W.heap[0]? with
 | none=>rw [hh] at h;cases h
 | some o=>
   rw [hh] at h
   cases o with
   | cells cs t fr=>
     simp only [Option.some.injEq] at h;subst h;exact ⟨(t,fr),hh⟩
   | _=>cases h
theorem jer {W:World}{rest:List (String×DataW Unit)}(h:laidMet jpx (("palfrey/blake.initial",Lib.tabData .u32 jhC)::rest) W):∃ tg,Gl W tg:=
 jgg (Lib.tabIs_of_head (rest:=rest) jhv jep Tryz.underlying218 Tryz.underlying133 (by kernel_rfl) (by kernel_rfl) h)
def jeR:List Int:= [4294967277,4294967295,4294967295,4294967295,4294967295,4294967295,4294967295,2147483647]
theorem jhw:Tryz.prog.globalNamed "palfrey/field.prime" =some 1:=by kernel_rfl
theorem jeq:(Tryz.prog.globals[1]?).map (·.type)=some 218:=by kernel_rfl
theorem jgh {W:World}(h:Lib.TabIs jpx W "palfrey/field.prime" .u32 jeR):∃ tg,Gp W tg:=by
 unfold Lib.TabIs World.var? at h;rw [jhw] at h;simp only [Option.bind_some] at h
 cases hh:W.heap[1]? with
 | none=>rw [hh] at h;cases h
 | some o=>
   rw [hh] at h
   cases o with
   | cells cs t fr=>
     simp only [Option.some.injEq] at h;subst h;refine ⟨(t,fr),?_⟩;unfold Gp;rw [<-jgy];exact hh
   | _=>cases h
theorem jes {W:World}{rest:List (String×DataW Unit)}(h:laidMet jpx (("palfrey/field.prime",Lib.tabData .u32 jeR)::rest) W):∃ tg,Gp W tg:=
 jgh (Lib.tabIs_of_head (rest:=rest) jhw jeq Tryz.underlying218 Tryz.underlying133 (by kernel_rfl) (by kernel_rfl) h)
theorem jck {P:jpB}{W:World}{x:String×DataW Unit}{rest:List (String×DataW Unit)}(h:laidMet P (x::rest) W):laidMet P rest W:=by
 obtain ⟨n,d⟩:=x;obtain ⟨ps,⟨g,t,cs,fuel,p,q,_,_,_,_,hr,rfl⟩,hnd,hall⟩:=h;exact ⟨q,hr,(List.nodup_append.1 hnd).2.1,fun b off hm=>hall b off (List.mem_append_right _ hm)⟩
theorem jb0 {W:World}{rest:List (String×DataW Unit)}(h:laidMet jpx (("palfrey/field.prime",Lib.tabData .u32 jeR)::("palfrey/blake.initial",Lib.tabData .u32 jhC)::rest) W):(∃ tp,Gp W tp)∧∃ tg,Gl W tg:=
 ⟨jes h,jer (jck h)⟩
section
variable {H:Type}{enc:jpC×Value->H}{W:World}{P:jpB}
theorem jef {t e:jpC}{a:Option Addr}{len cap:Nat}{d:DataW H}{p:List MemPlace}(ht:P.underlying t=some (.slice e)) (he:P.underlying e=some (.int .u8)) (hc:P.cellsOf e=1)
 (h:DataW.Trod enc P W 0 (fun _=>true) true t (.slice a len cap) d p):∃ xs,Bs W a len cap xs:=by
 obtain ⟨fuel,hf⟩:=h;rcases open_ints ht he hc hf with ⟨hcs,_⟩ | ⟨x,l,c,zs,hcs,_,hl,hm,hz,_,hcell,hwz⟩
 ·simp [Value.cells] at hcs
  obtain ⟨rfl,rfl,rfl⟩:=hcs;exact ⟨[],Bs.nil W⟩
 ·simp [Value.cells] at hcs
  obtain ⟨rfl,rfl,rfl⟩:=hcs;exact jf7 (.inr ⟨_,rfl,hl,hm,by simpa using hz,hcell,hwz⟩)
end
section
variable {H:Type}{enc:jpC×Value->H}{W:World}{P:jpB}
theorem jct {r:Reach}{b n:Nat}{t e:jpC}{v:Value}(ht:P.underlying t=some (.array n e)) (h:Value.okWide P W r b t v):∃ cs,v= .agg cs/\cs.size=P.cellsOf t:=by
 simp only [Value.okWide,ht] at h;obtain ⟨cs,h1,h2,_⟩:=h;exact ⟨cs,h1,h2⟩
def jhb:Option Value->Nat
 | some (.int _ z)=>z.toNat
 | _=>0
theorem jbg {n fuel:Nat}{t e:jpC}{cs:List Value}{x:DataW H×List MemPlace}(ht:P.underlying t=some (.array n e)) (he:P.underlying e=some (.int .u8)) (hce:P.cellsOf e=1) (hct:P.cellsOf t=n)
 (hf:DataW.trod enc P W 0 (fun _=>true) true fuel t cs=some x):∃ xs,cs=cellsOf xs/\xs.length=n:=by
 cases fuel with
 | zero=>simp [DataW.trod] at hf
 | succ fuel=>
   simp only [DataW.trod,ht,hce,hct,Nat.mul_one] at hf
   split at hf
   ·rename_i hl
    obtain ⟨xs,hm,hx⟩:=Option.map_eq_some_iff.1 hf;have hcell:∀ i,i < n->∃ z:Int,cs[i]? =some (.int .u8 z)/\0<=z/\z<=255:=fun i hi=>by
     obtain ⟨y,hy,hfy⟩:=Lib.mapM_at hm i i (by simp [hi]);obtain ⟨z,hc,rfl,hw⟩:=DataW.trod_int he hfy;have h1:cs[i]? =some (.int .u8 z):=by
      have:=congrArg (·[0]?) hc
      simpa [jqf,List.getElem?_drop] using this
     have hb:0<=z/\z<=255:=by simpa [Lit.wf,IntKind.min,IntKind.max,IntKind.signed,IntKind.bits] using hw
     exact ⟨z,h1,hb⟩
    refine ⟨(jp1 n).map fun i=>jpt (jhb cs[i]?),?_,by simp⟩
    apply List.ext_getElem?
    intro i;by_cases hi:i < n
    ·obtain ⟨z,h1,h2,h3⟩:=hcell i hi;have h4:=jZ (xs:=(jp1 n).map fun i=>jpt (jhb cs[i]?)) (j:=i) (by simp;exact hi);rw [h1];refine Eq.trans ?_ h4.symm
     congr 2
     unfold bt;simp [jpr,hi,h1,jhb]
     omega
    ·rw [jqa (by omega),jqa (by simp [ja];omega)]
   ·cases hf
theorem jdg {r:Reach}{b n:Nat}{t e:jpC}{v:Value}{d:DataW H}{p:List MemPlace}(ht:P.underlying t=some (.array n e)) (he:P.underlying e=some (.int .u8)) (hce:P.cellsOf e=1) (hct:P.cellsOf t=n)
 (hv:Value.okWide P W r b t v) (h:DataW.Trod enc P W 0 (fun _=>true) true t v d p):∃ xs,v= .agg (cellsOf xs).toArray/\xs.length=n:=by
 obtain ⟨cs,rfl,hsz⟩:=jct ht hv;obtain ⟨fuel,hf⟩:=h;obtain ⟨xs,hx,hl⟩:=jbg ht he hce hct hf;refine ⟨xs,?_,hl⟩
 congr 1
 apply Array.ext'
 rw [<-hx];rfl
end
end
end Go.Proofs.YtakpgbaijkhpmaaGreatDoor
