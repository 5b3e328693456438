import Derived.Test.YtakpgbaijkhpmaaGreatDoorPkAK
import Derived.Test.YtakpgbaijkhpmaaGreatDoorPkAB
import Derived.Test.YtakpgbaijkhpmaaGreatDoorPkAA
import Derived.Deep.Onto
open And renaming intro→jqS
open Go renaming TypeId→jpC,below_setRow→jqb,bodyPost_ret→jqW,cell_of_row→jqe,execOp→jpY,heap_alloc_new→jqq,results_cell_row→jqX,run_underlying→jql,setRow_heap→jqc,setRow_other→jqy,splice→jp9,wpList_store_mid→jrj,wp_store_row→jrf,zeroValue→jpI
open Go.Act renaming put→jpR
open Go.Exit renaming inBlock→jqV
open Go.Instr renaming fill→jqo
open Go.IntKind renaming wrap_u32→jp6
open Go.IntWalk renaming i64_in→jq0
open Go.Obj renaming cells→jqY
open Go.Proofs.Tryz renaming prog→jpx,underlying114→jrn,underlying23→jqD,underlying47→jrm
open Go.Result renaming andThen_ok→jqk
open Go.RowKit.Below renaming refl→jpm,trans→jpn
open Go.Sem renaming run_bind→jqi,run_pure→jqj
open Go.Value renaming agg→jqp,bool→jri,int→jpA,ownBlock→jrb,pointer→jro
open Go.World.grownBy renaming refl→jpZ
open Go.World.ownsRow renaming lt→jrc
open Int renaming le_refl→jrl
open List renaming append_assoc→jqd,getElem?_append_left→jqs,getElem?_append_right→jqr,length_append→jpG,length_replicate→jrh,length_take→jps,map_cons→jqA,map_nil→jqF,map_toArray→jqE,mem_append→jpH,range→jp1,replicate→jqn,size_toArray→jqu
open Nat renaming le_of_eq→jre,le_refl→jpo,le_trans→jp0,lt_of_le_of_lt→jp4,lt_of_lt_of_le→jpq,mod_lt→jp3,zero_le→jpp
open Option.some renaming inj→jpD
namespace Go.Proofs.YtakpgbaijkhpmaaGreatDoor
set_option maxHeartbeats 64000000
set_option linter.unusedSimpArgs false
set_option linter.unusedVariables false
set_option maxRecDepth 100000
section
open Go.ChangeShapes Go.WideShapes Go.ChangeAt Go.RowKit Go.Deep Go.Maps
def zj (t:Rz) (n:Int) (data body:List UInt8):Rz×List UInt8×Int:=
 if (opB t n).2≠0 then ((opB t n).1,[],(opB t n).2) else ((opB t n).1,J5 (opK t n) data body,J4 (opK t n) data body)
theorem QI (t:Rz) (pk:List UInt8) (prev n:Int) (data body:List UInt8):
 (yZ t.L pk n=true->vZ t pk prev n data body=(⟨t.s,yN t.L pk n,t.puts⟩,J5 (ye t.L pk n).k data body,J4 (ye t.L pk n).k data body))/\
 (yZ t.L pk n=false->(opA t pk prev).2≠0->vZ t pk prev n data body=((opA t pk prev).1,[],(opA t pk prev).2))/\
 (yZ t.L pk n=false->(opA t pk prev).2=0->vZ t pk prev n data body=zj (opA t pk prev).1 n data body):=by
 refine ⟨fun h=> ?_,fun h h2=> ?_,fun h h2=> ?_⟩
 ·unfold vZ;rw [h];rfl
 ·unfold vZ;rw [h]
  show (if (opA t pk prev).2≠0 then ((opA t pk prev).1,([]:List UInt8),(opA t pk prev).2) else _)=_
  rw [if_pos h2]
 ·unfold vZ zj;rw [h]
  show (if (opA t pk prev).2≠0 then ((opA t pk prev).1,([]:List UInt8),(opA t pk prev).2) else _)=_
  rw [if_neg (fun z=>z h2)]
theorem jcu (t:Rz) (pk:List UInt8) (prev:Int):
 (t.s.ho=true->pk=t.s.ot->opA t pk prev=(t,0))/\
 (¬(t.s.ho=true/\pk=t.s.ot)->t.s.ri=true->t.s.rm < prev->qO t.s prev≠0->opA t pk prev=(t,qO t.s prev))/\
 (¬(t.s.ho=true/\pk=t.s.ot)->t.s.ri=true->t.s.rm < prev->qO t.s prev=0->opA t pk prev=(⟨za (jX t prev).s pk,(jX t prev).L,(jX t prev).puts⟩,YG (jX t prev).s pk))/\
 (¬(t.s.ho=true/\pk=t.s.ot)-> ¬(t.s.ri=true/\t.s.rm < prev)->opA t pk prev=(⟨za t.s pk,t.L,t.puts⟩,YG t.s pk)):=by
 refine ⟨fun h1 h2=> ?_,fun h1 h2 h3 h4=> ?_,fun h1 h2 h3 h4=> ?_,fun h1 h2=> ?_⟩
 ·unfold opA;rw [if_pos ⟨h1,h2⟩]
 ·unfold opA;rw [if_neg h1];simp only [if_pos (jqS h2 h3)];rw [if_neg h4]
 ·unfold opA;rw [if_neg h1];simp only [if_pos (jqS h2 h3)];rw [if_pos h4]
 ·unfold opA;rw [if_neg h1];simp only [if_neg h2];rfl
theorem jnA (t:Rz) (n:Int):
 (t.s.ri=false\/n < t.s.rm->opB t n=(t,5))/\
 (¬(t.s.ri=false\/n < t.s.rm)->qO t.s n≠0->opB t n=(t,qO t.s n))/\
 (¬(t.s.ri=false\/n < t.s.rm)->qO t.s n=0->opB t n=(⟨yX (jX t n).s,(jX t n).L,(jX t n).puts⟩,0)):=by
 refine ⟨fun h=> ?_,fun h h2=> ?_,fun h h2=> ?_⟩
 ·unfold opB;rw [if_pos h]
 ·unfold opB;rw [if_neg h,if_neg h2]
 ·unfold opB;rw [if_neg h,if_pos h2]
theorem Rt.ok_skip {t:Rz}(ok:t.s.ok){up:Int}(hu:0<=up/\up<=1000000):(jX t up).s.ok:=by
 unfold jX
 split
 ·exact ⟨ok.root,ok.own,ok.ot,ok.sc,Jn ok.rc _,ok.sm,ok.bf,⟨hu.1,Int.le_trans hu.2 (by decide)⟩⟩
 ·exact ok
theorem Z5 {t:Rz}{up:Int}(l8:t.L.length<=8):(jX t up).L.length<=8:=by
 unfold jX
 split
 ·exact jaF _ _ _ _ _ l8
 ·exact l8
theorem jnD (t:Rz) (up:Int):t.puts<=(jX t up).puts/\(jX t up).puts<=t.puts+8:=by
 unfold jX
 split
 ·rename_i h
  have h1:=jcy t.s.ot (Y2 t.s.rc (Jf t.s up).toNat) t.L t.puts t.s.rm;rw [jdl] at h1;unfold qO at h
  split at h
  ·cases h
  ·exact ⟨h1.1,by dsimp only;omega⟩
 ·omega
theorem Cb.ot {p:Nat->Prop}{w w':World}{g:Nat}{T:jpC}{L:List Value}(h:Cb w g T L) (x:Ot p w w') (hp: ¬ p g):Cb w' g T L:=x.block h hp
theorem jdF {w:World}{g kp mb:Nat}{t:Rz}{q:List Value}{A B:Option Addr}{m1 c1 m2 c2:Nat}{data body pk:List UInt8}{prev n:Int}(h:Sq w g 114 t.s kp q) (hk:SK w kp mb t.L t.puts) (ok:t.s.ok) (l8:t.L.length<=8) (hp:t.puts<=1000000000)
 {tg tp:jpC×Nat×Nat} (hM:∀ u,Ot (P3 g kp mb) w u->(Bs u A m1 c1 data/\Bs u B m2 c2 body)/\Gl u tg/\Gp u tp) (hm1:m1<=1000000) (hm2:m2<=1000000) (lp:pk.length=32) (hpr:0<=prev/\prev<=1000000) (hn:0<=n/\n<=1000000):
 Calls jpx 52 #[.pointer (some ⟨g,0,none⟩), .slice A m1 c1, .agg (hdC pk prev n).toArray, .slice B m2 c2] w fun e w'=>∃ A' n' c',e= .returned (.tuple #[.slice A' n' c', .int .i64 (vZ t pk prev n data body).2.2])/\Own w.heap.size w' A' n' c' (vZ t pk prev n data body).2.1/\Sq w' g 114 (vZ t pk prev n data body).1.s kp q/\SK w' kp mb (vZ t pk prev n data body).1.L (vZ t pk prev n data body).1.puts/\Ot (P3 g kp mb) w w':=by
 obtain ⟨nk,nm⟩:=h.ne_sk hk;have nkm:=hk.ne;obtain ⟨E1,E2,E3⟩:=QI t pk prev n data body;obtain ⟨A1,A2,A3,A4⟩:=jcu t pk prev;replace E1:=Hj E1;replace E2:=Hj E2;replace E3:=Hj E3;replace A1:=Hj A1;replace A2:=Hj A2;replace A3:=Hj A3;replace A4:=Hj A4;have nO:Hid (yZ t.L pk n=false->yN t.L pk n=t.L):=fun z=>jaY z
 have lkk:(ye t.L pk n).k.length=32:=jfe hk.ok;obtain ⟨RES,hRES⟩:∃ x,x=vZ t pk prev n data body:=⟨_,rfl⟩;rw [<-hRES] at E1 E2 E3 ⊢;clear hRES;have TAKE:Hid (∀ W,SK W kp mb t.L t.puts->Calls jpx 88 #[.pointer (some ⟨kp,0,none⟩), .agg (cellsOf pk).toArray, .int .i64 n] W fun e w'=>e= .returned (.tuple #[.agg (cellsOf (ye t.L pk n).k).toArray, .bool (yZ t.L pk n)])/\SK w' kp mb (yN t.L pk n) t.puts/\Two kp mb W w'):=fun W z=>jdY z lp (by omega)
 have OPN:Hid (∀ (W:World) (k:List UInt8),k.length=32->Ot (P3 g kp mb) w W->Calls jpx 89 #[.agg (cellsOf k).toArray, .slice A m1 c1, .slice B m2 c2] W (JJ (J5 k data body) (J4 k data body) W)):=fun W k lk z=>jdQ lk (hM W z).1.1 (hM W z).1.2 hm1 hm2 (hM W z).2.1
 have SKP:Hid (∀ (W:World) (t1:Rz) (up:Int),Sq W g 114 t1.s kp q->SK W kp mb t1.L t1.puts->t1.s.ok->t1.L.length<=8->t1.puts<=4000000000000000000->0<=up/\up<=1000000->Ot (P3 g kp mb) w W->Calls jpx 90 #[.pointer (some ⟨g,0,none⟩), .int .i64 up] W fun e w'=>e= .returned (.int .i64 (qO t1.s up))/\Sq w' g 114 (jX t1 up).s kp q/\SK w' kp mb (jX t1 up).L (jX t1 up).puts/\Ot (P3 g kp mb) W w'):=fun W t1 up z1 z2 z3 z4 z5 z6 z7=>jdL z1 z2 z3 z4 z5 z6 (hM W z7).2.1
 have FOL:Hid (∀ (W:World) (s1:Rt),Sq W g 114 s1 kp q->s1.ok->Ot (P3 g kp mb) w W->Calls jpx 91 #[.pointer (some ⟨g,0,none⟩), .agg (cellsOf pk).toArray] W fun e w'=>e= .returned (.int .i64 (YG s1 pk))/\Sq w' g 114 (za s1 pk) kp q/\W.grownBy w' (some g)):=fun W s1 z1 z2 z3=>jeV z1 z2 lp (hM W z3).2.1 (hM W z3).2.2
 have STP:Hid (∀ (W:World) (s1:Rt),Sq W g 114 s1 kp q->s1.ok->Ot (P3 g kp mb) w W->Calls jpx 46 #[.pointer (some ⟨g,165,none⟩)] W fun e w'=>e= .returned (.agg (cellsOf (jM s1.rc qd)).toArray)/\Sq w' g 114 (yX s1) kp q/\W.grownBy w' (some g)):=fun W s1 z1 z2 z3=>by
  unfold Sq at z1 ⊢;rw [s1.C_recv] at z1;rw [(yX s1).C_recv];have:=Zz (p:=s1.P_ri) (q:=s1.R_rm kp q) z1 (Rt.L_ri z2) z2.rc z2.rm (hM W z3).2.1;exact this
 obtain ⟨hd0,hd32,hd33⟩:=jc8 lp prev n;replace hd0:=Hj (fun _:Unit=>hd0);replace hd32:=Hj hd32;replace hd33:=Hj hd33;obtain ⟨HD,hHD⟩:∃ x,x=hdC pk prev n:=⟨_,rfl⟩;rw [<-hHD] at hd0 hd32 hd33 ⊢;clear hHD;clear hM;have C_pk:(cellsOf pk).length=32:=by rw [ja,lp]
 obtain ⟨kk,hkk⟩:∃ x,x=(ye t.L pk n).k:=⟨_,rfl⟩;obtain ⟨is,his⟩:∃ x,x=yZ t.L pk n:=⟨_,rfl⟩;obtain ⟨L2,hL2⟩:∃ x,x=yN t.L pk n:=⟨_,rfl⟩;rw [<-hkk] at TAKE lkk E1;rw [<-his] at TAKE E1 E2 E3 nO;rw [<-hL2] at TAKE E1 nO;clear hkk his hL2;have S_kk:(cellsOf kk).toArray.size=32:=by simp [ja,lkk]
 have O_kk:=ji kk;have hal:∀ w,(jpI 23).run jpx w= .ok (.agg (cellsOf (jqn 32 0)).toArray) w:=fun w=>by rw [jU];exact j2 w
 have L_zk:(jqn 32 (0:UInt8)).length=32:=rfl;generalize jqn 32 (0:UInt8)=zk at *;have S_zk:(cellsOf zk).toArray.size=32:=by simp [ja,L_zk]
 have gl:=h.lt;have kl:=hk.cb.lt;have ml:=hk.mp.lt;have hmf:∀ (fn:Fn) (first cap:Array Value) (w:World),(Instr.makeFunc fn first cap).run jpx w= .ok (.func fn first cap) w:=fun _ _ _ _=>rfl
 obtain ⟨r,hr⟩:=ex_ w.heap.size;have B0:Hid (Cb (w.alloc (.cells HD.toArray 47)) r 47 HD/\Ext w (w.alloc (.cells HD.toArray 47))):=by rw [hr];exact ⟨Cb.new _ _ _,(jnQ w).alloc _⟩
 replace h:=Hj h;replace hk:=Hj hk;go_enter Tryz.func52,Tryz.ntmps52
 go_upto_region 1 with fail;refine jg (fun W=>Cb W r 47 HD/\Ext w W) B0.out ?_;rw [<-hr];have wr_:w.heap.size<=r:=jre hr.symm;clear B0;replace hr:=Hj hr;rintro w0 ⟨k6,x0⟩;have rl:=k6.lt;have P0:Hid (∀ u,Tq w0.heap.size kp mb w0 u->Sq u g 114 t.s kp q/\Cb u r 47 HD/\Ot (P3 g kp mb) w u):=fun u x=>by
  have hS:=h.out.ext x0;exact ⟨hS.keep (x.2.2.2.2 _ hS.lt nk nm),x.block k6 rl (by omega) (by omega),⟨x.1.trans x0.os,x.2.1.trans x0.tape,x.2.2.1.trans x0.output,jp0 x0.size x.2.2.2.1,fun i hi hn=>(x.2.2.2.2 i (jpq hi x0.size) (fun z=>hn (.inr (.inl z))) (fun z=>hn (.inr (.inr z)))).trans (x0.block i hi)⟩⟩
 have S1:Hid (SK w0.drew kp mb t.L t.puts):=(hk.out.ext x0).ext (jnQ _).drew;have F0:Hid (∀ u,Tq w0.heap.size kp mb w0 u->u.cell? ⟨g,199,none⟩=some (.pointer (some ⟨kp,0,none⟩))/\u.cell? ⟨r,33,none⟩=some (.int .i64 n)):=fun u x=>⟨(P0.out u x).1.kpc ok,(P0.out u x).2.1.cell hd33.out⟩
 have F1:Hid (∀ u,Tq w0.heap.size kp mb w0 u->∀ j v,(cellsOf pk)[j]? =some v->u.cell? ⟨r,0+j,none⟩=some v):=fun u x=>(P0.out u x).2.1.mid (hd0.out ()) rfl
 clear k6 x0 h hk;go_cut [10,11] (fun s10 s11 wx=>∃ g10:Nat,s10= .pointer (some ⟨g10,0,none⟩)/\s11= .bool is/\Tq w0.heap.size kp mb w0 wx/\SK wx kp mb L2 t.puts/\wx.heap[g10]? =some (.cells (cellsOf kk).toArray 23 (0,0))/\w0.heap.size<=g10)
 case first=>
  have T0:Hid (∀ u,Tq w0.heap.size kp mb w0.drew u->Tq w0.heap.size kp mb w0 u):=fun u x=>Tq.trans (Tq.of_ext (jnQ w0).drew (jpo _)) x
  refine qgT (R:=Tq w0.heap.size kp mb) (Tq.refl _ _ _) (fun _ _ _=>Tq.trans) (.rd 0 (.rd 1 (.rd 2 (.rd 3 (.rd 4 (.rd 5 (.rd 6 (.rd 7 (.alt 8 (.rd 9 (.rd 10 (.rd 11 (.alt 12 (.alt 13 (.rd 14 .nil) .stop) .stop)))) (.alt 12 (.alt 8 (.rd 9 (.rd 10 (.rd 11 (.alt 13 (.rd 14 .nil) .stop)))) .stop) .stop)))))))))) 15 ?_;repeat ((first | refine qtR _ (fun w' e=>F0.out w' (T0.out w' e)) ?_ | refine qtS ?_);go_frame)
  refine qtV rfl (fun w'=>∀ q_ v,(cellsOf pk)[q_]? =some v->w'.cell? ⟨r,0+q_,none⟩=some v) (fun w' e=>F1.out w' (T0.out w' e)) (.agg (cellsOf pk).toArray) (fun w' hF=>jy rfl rfl hF rfl rfl (by rw [C_pk];rfl)) ?_;go_frame
  repeat ((first | refine qtR _ (fun w' e=>F0.out w' (T0.out w' e)) ?_ | refine qtS ?_);go_frame)
  have X:Hid (Tq w0.heap.size kp mb w0 w0.drew):=Tq.of_ext (jnQ w0).drew (jpo _);have z0:w0.heap.size<=w0.drew.heap.size:=jpo _;generalize w0.drew=WC at *;repeat' (first
   | exact yD
   | (refine qc (i:=8) _ rfl ?_ ?_ (fun K1 hK1=> ?_)
      (·rfl)
      rotate_left;go_simp;refine (TAKE.out _ S1.out).mono ?_;rintro e0 WD ⟨rfl,s2,t2⟩;refine hK1.out _ _ (Tq.of_two t2 z0) ?_;clear hK1 K1;(try replace hA:=Hj (t2.block hA.out (by omega) (by omega)));replace X:=Hj (X.out.trans (Tq.of_two t2 z0));have z1:=jp0 z0 t2.2.2.2.1;have S2:=Hj s2;clear z0 s2 t2 S1;have z0:=z1;clear z1;generalize WD=WC at *;(try go_frame);repeat ((first | refine vN ?_ | refine qtS ?_);go_frame)
      skip)
   | (refine qc (i:=12) _ rfl ?_ ?_ (fun K1 hK1=> ?_)
      (·rfl)
      rotate_left;go_simp;have e:Ext WC (WC.alloc (jqY (cellsOf zk).toArray 23)):=(jnQ WC).alloc _;obtain ⟨g10,hg10⟩:∃ g,g=WC.heap.size:=⟨_,rfl⟩;have hA:=Hj (jqq WC (jqY (cellsOf zk).toArray 23));rw [<-hg10] at hA ⊢;have lg10:w0.heap.size<=g10:=by rw [hg10];exact z0
      refine hK1.out _ (WC.alloc (jqY (cellsOf zk).toArray 23)) (Tq.of_ext e z0) ?_;clear hK1 K1;replace X:=Hj (X.out.trans (Tq.of_ext e z0));(try replace S1:=Hj (S1.out.ext e));(try replace S2:=Hj (S2.out.ext e));have z1:=jp0 z0 e.size;clear z0 e;have z0:=z1;clear z1;replace hg10:=Hj hg10;generalize WC.alloc (jqY (cellsOf zk).toArray 23)=WC at *;(try go_frame);repeat ((first | refine vN ?_ | refine qtS ?_);go_frame)
      skip)
   | (refine qc (i:=13) _ rfl ?_ ?_ (fun K1 hK1=> ?_)
      (·rfl)
      rotate_left;refine jrf _ _ _ rfl g10 (cellsOf kk).toArray rfl rfl 23 (cellsOf zk).toArray hA.out (by rw [S_kk];rfl) (by rw [S_kk];exact S_zk) O_kk ?_;refine hK1.out _ _ (Tq.row _ _ lg10) ?_;clear hK1 K1;replace X:=Hj (X.out.trans (Tq.row WC (cellsOf kk).toArray lg10));replace S2:Hid (SK (WC.setRow g10 (cellsOf kk).toArray) kp mb L2 t.puts):=S2.out.stay (jqy _ _ _ _ (by omega)) (jqy _ _ _ _ (by omega));replace hA:Hid ((WC.setRow g10 (cellsOf kk).toArray).heap[g10]? =some (.cells (cellsOf kk).toArray 23 (0,0))):=jqc _ _ _ _ _ _ hA.out;generalize WC.setRow g10 (cellsOf kk).toArray=WC at *;(try simp only [jpR]);repeat ((first | refine vN ?_ | refine qtS ?_);go_frame)
      skip)
   | (refine yC ?_
      go_wp2_with fail;go_meet
      exact ⟨g10,rfl,rfl,X.out,S2.out,hA.out,lg10⟩))
 case rest=>
  obtain ⟨g10,rfl,rfl,tq,hK,k10,z10⟩:=hcut;obtain ⟨hS,k6,hO⟩:=P0.out wc tq;clear P0 F0 F1 S1 TAKE tq;rcases is with _ | _
  ·rw [nO.out rfl] at hK;replace E2:=Hj (E2.out rfl);replace E3:=Hj (E3.out rfl);clear E1 nO k10 O_kk S_kk;have FG:Hid (∀ u,Ext wc.drew u->u.cell? ⟨g,96,none⟩=some (.bool t.s.ho)):=fun u x=>(hS.ext ((jnQ wc).drew.trans x)).ho ok
   have FH:Hid (∀ u,Ext wc.drew u->(∀ j v,(cellsOf pk)[j]? =some v->u.cell? ⟨r,0+j,none⟩=some v)/\(∀ j v,(cellsOf t.s.ot)[j]? =some v->u.cell? ⟨g,97+j,none⟩=some v)):=fun u x=>⟨(k6.ext ((jnQ wc).drew.trans x)).mid (hd0.out ()) rfl,(hS.ext ((jnQ wc).drew.trans x)).at_ot ok⟩
   have HV:Hid (Sq wc.drew g 114 t.s kp q/\SK wc.drew kp mb t.L t.puts/\Cb wc.drew r 47 HD/\Ot (P3 g kp mb) w wc.drew):=⟨hS.ext (jnQ wc).drew,hK.ext (jnQ wc).drew,k6.ext (jnQ wc).drew,hO.drew⟩;have C_ot:(cellsOf t.s.ot).length=32:=by rw [ja,ok.ot]
   clear hS hK k6 hO;go_upto_region 5 with fail;obtain ⟨hob,hhob⟩:∃ x,x=t.s.ho:=⟨_,rfl⟩;rw [<-hhob] at FG A1 A2 A3 A4;rcases hob with _ | _
   ·have HN:Hid (¬(false=true/\pk=t.s.ot)):=fun z=>absurd z.1 (by decide)
    clear hhob FH;refine qgE [0,1,2,3,4,5,6,7,8,9,10,11,12,13] [] ?_;repeat ((first | refine qR _ (fun w' e=>FG.out w' e) ?_ | refine qS ?_);go_frame)
    refine jp ?_;generalize wc.drew=V at *;clear FG C_ot;go_upto_region 6 with fail;have FG:Hid (∀ u,Ext V.drew u->u.cell? ⟨g,165,none⟩=some (.bool t.s.ri)/\u.cell? ⟨g,198,none⟩=some (.int .i64 t.s.rm)/\u.cell? ⟨r,32,none⟩=some (.int .i64 prev)):=fun u x=>⟨(HV.out.1.ext ((jnQ V).drew.trans x)).ri ok,(HV.out.1.ext ((jnQ V).drew.trans x)).rm ok,(HV.out.2.2.1.ext ((jnQ V).drew.trans x)).cell hd32.out⟩
    replace HV:Hid (Sq V.drew g 114 t.s kp q/\SK V.drew kp mb t.L t.puts/\Cb V.drew r 47 HD/\Ot (P3 g kp mb) w V.drew):=⟨HV.out.1.ext (jnQ V).drew,HV.out.2.1.ext (jnQ V).drew,HV.out.2.2.1.ext (jnQ V).drew,HV.out.2.2.2.drew⟩;by_cases hc:t.s.ri=true/\t.s.rm < prev
    ·obtain ⟨hc1,hc2⟩:=hc;have d2:decide (t.s.rm < prev)=true:=decide_eq_true hc2;rw [hc1] at FG;replace A2:=Hj (A2.out HN.out hc1 hc2);replace A3:=Hj (A3.out HN.out hc1 hc2);have f32:Hid (V.drew.cell? ⟨r,32,none⟩=some (.int .i64 prev)):=(FG.out _ (jnQ _)).2.2;have SK1:=Hj (SKP.out V.drew t prev HV.out.1 HV.out.2.1 ok l8 (by omega) hpr HV.out.2.2.2);clear A1 A4 hc1 hc2;refine qgE [0,1,2,3,4,5,6,7,8,9,10,11,12,13,14] [] ?_;repeat ((first | refine qR _ (fun w' e=>FG.out w' e) ?_ | refine qS ?_);go_frame)
     refine jp ?_;generalize V.drew=V at *;have f32':=f32.out;clear FG d2;go_wp2_with fail;refine SK1.out.mono ?_;rintro e V3 ⟨rfl,hS3,hK3,hO3⟩;have hO4:=HV.out.2.2.2.trans hO3;have k63:=HV.out.2.2.1.ot hO3 (by unfold P3;omega);clear SK1 f32 f32' HV hO3;obtain ⟨se,hse⟩:∃ x,x=qO t.s prev:=⟨_,rfl⟩;rw [<-hse] at A2 A3 ⊢;by_cases hs:se=0
     ·replace A3:=Hj (A3.out hs);have ok2:(jX t prev).s.ok:=Rt.ok_skip ok hpr;have l82:(jX t prev).L.length<=8:=Z5 l8;have hp2:(jX t prev).puts<=1000000100:=by have:=(jnD t prev).2;omega
      subst hs;obtain ⟨t2,ht2⟩:∃ x,x=jX t prev:=⟨_,rfl⟩;rw [<-ht2] at A3 ok2 l82 hp2 hS3 hK3;have HA:=A3;have HV:Hid (Sq V3 g 114 t2.s kp q/\SK V3 kp mb t2.L t2.puts/\Cb V3 r 47 HD/\Ot (P3 g kp mb) w V3):=⟨hS3,hK3,k63,hO4⟩;clear A2 A3 hS3 hK3 k63 hO4 ht2 hse;go_upto_region 10 with fail;generalize V3=V at *;have f0:Hid (∀ j v,(cellsOf pk)[j]? =some v->V.cell? ⟨r,0+j,none⟩=some v):=HV.out.2.2.1.mid (hd0.out ()) rfl;have FO:=Hj (FOL.out V t2.s HV.out.1 ok2 HV.out.2.2.2);clear FOL;go_wp2_with (first | ((with_reducible refine jI (o:=⟨some 75,_,_,_,_,_⟩) (ty:=23) (g:=r) (off:=0) (ys:=cellsOf pk) ?_ rfl ?_ ?_ jqD ?_ ?_ ?_);(·rfl);(·rfl);(·exact f0.out);(·rfl);(·rw [C_pk];rfl);go_frame))
      refine FO.out.mono ?_;rintro e V2 ⟨rfl,hS2,gr2⟩;have hK2:=HV.out.2.1.stay (gr2.block _ HV.out.2.1.cb.lt (fun z=>nk (jpD z).symm)) (gr2.block _ HV.out.2.1.mp.lt (fun z=>nm (jpD z).symm));have k62:=HV.out.2.2.1.ot (Ot.of_grown (p:=P3 g kp mb) gr2 (.inl rfl)) (by unfold P3;omega);have hO2:=HV.out.2.2.2.trans (Ot.of_grown gr2 (.inl rfl));clear FO HV f0 gr2;obtain ⟨fe,hfe⟩:∃ x,x=YG t2.s pk:=⟨_,rfl⟩;rw [<-hfe] at HA ⊢;by_cases he:fe=0
      ·have HT:=Hj (E3.out (by rw [HA.out];exact he));rw [HA.out] at HT;have okf:=Rt.ok_fol ok2 lp;subst he;obtain ⟨t1,ht1⟩:∃ x:Rz,x=⟨za t2.s pk,t2.L,t2.puts⟩:=⟨_,rfl⟩;rw [<-ht1] at HT;have ok1:t1.s.ok:=by rw [ht1];exact okf
       have l81:t1.L.length<=8:=by rw [ht1];exact l82
       have hp1:t1.puts<=1000000100:=by rw [ht1];exact hp2
       have HV:Hid (Sq V2 g 114 t1.s kp q/\SK V2 kp mb t1.L t1.puts/\Cb V2 r 47 HD/\Ot (P3 g kp mb) w V2):=by rw [ht1];exact ⟨hS2,hK2,k62,hO2⟩
       clear hS2 hK2 k62 hO2 E2 E3 HA hfe okf ht1 ok2 l82 hp2;go_upto_region 13 with fail;generalize V2=V at *;have hV:=HV.out;obtain ⟨B1,B2,B3⟩:=jnA t1 n;have T1:Hid (∀ x:Rz×Int,opB t1 n=x->x.2≠0->RES=(x.1,[],x.2)):=fun x e z=>by rw [HT.out];unfold zj;rw [e,if_pos z]
       have T2:Hid (∀ x:Rz×Int,opB t1 n=x->x.2=0->RES=(x.1,J5 (opK t1 n) data body,J4 (opK t1 n) data body)):=fun x e z=>by rw [HT.out];unfold zj;rw [e,if_neg (fun q=>q z)]
       have f1:=hV.1.ri ok1;have f2:=hV.1.rm ok1;have f3:=hV.2.2.1.cell hd33.out;have FF:Hid (∀ u,Ext V.drew u->u.cell? ⟨g,165,none⟩=some (.bool t1.s.ri)/\u.cell? ⟨g,198,none⟩=some (.int .i64 t1.s.rm)/\u.cell? ⟨r,33,none⟩=some (.int .i64 n)):=fun u x=>⟨(hV.1.ext ((jnQ V).drew.trans x)).ri ok1,(hV.1.ext ((jnQ V).drew.trans x)).rm ok1,(hV.2.2.1.ext ((jnQ V).drew.trans x)).cell hd33.out⟩
       have HD2:Hid (Sq V.drew g 114 t1.s kp q/\SK V.drew kp mb t1.L t1.puts/\Cb V.drew r 47 HD/\Ot (P3 g kp mb) w V.drew):=⟨hV.1.ext (jnQ V).drew,hV.2.1.ext (jnQ V).drew,hV.2.2.1.ext (jnQ V).drew,hV.2.2.2.drew⟩;clear hV HV f1 f2 f3;have SK1:=Hj (SKP.out V.drew t1 n HD2.out.1 HD2.out.2.1 ok1 l81 (by omega) hn HD2.out.2.2.2);obtain ⟨ri1,hri1⟩:∃ x,x=t1.s.ri:=⟨_,rfl⟩;rw [<-hri1] at FF B1 B2 B3;rcases ri1 with _ | _
       ·have q1:=Hj (T1.out _ (B1 (.inl rfl)) (by show (5:Int)≠0;decide));clear B1 B2 B3 T1 T2 SK1 hri1;refine qgE [0,1,2,3,4,5,6,7,8,9,10,11,12,13,14,15] [] ?_;repeat ((first | refine qR _ (fun w' e=>FF.out w' e) ?_ | refine qS ?_);go_frame)
        refine jp ?_;generalize V.drew=U at *;clear FF;go_wp2_with fail;go_ret2;exact ⟨none,0,0,by rw [q1.out];rfl,by rw [q1.out];exact Own.nil _ _,by rw [q1.out];exact HD2.out.1,by rw [q1.out];exact HD2.out.2.1,HD2.out.2.2.2⟩
       by_cases hlt:n < t1.s.rm
       ·have d1:decide (n < t1.s.rm)=true:=decide_eq_true hlt;have q1:=Hj (T1.out _ (B1 (.inr hlt)) (by show (5:Int)≠0;decide));clear B1 B2 B3 T1 T2 SK1 hri1;refine qgE [0,1,2,3,4,5,6,7,8,9,10,11,12,13,14,15] [] ?_;repeat ((first | refine qR _ (fun w' e=>FF.out w' e) ?_ | refine qS ?_);go_frame)
        refine jp ?_;generalize V.drew=U at *;clear FF;go_wp2_with fail;go_ret2;exact ⟨none,0,0,by rw [q1.out];rfl,by rw [q1.out];exact Own.nil _ _,by rw [q1.out];exact HD2.out.1,by rw [q1.out];exact HD2.out.2.1,HD2.out.2.2.2⟩
       have d1:decide (n < t1.s.rm)=false:=decide_eq_false hlt;have nB: ¬(true=false\/n < t1.s.rm):=fun z=>by rcases z with z | z;exact absurd z (by decide);exact hlt z
       replace B2:=Hj (B2 nB);replace B3:=Hj (B3 nB);clear B1 hri1 nB;refine qgE [0,1,2,3,4,5,6,7,8,9,10,11,12,13,14,15] [] ?_;repeat ((first | refine qR _ (fun w' e=>FF.out w' e) ?_ | refine qS ?_);go_frame)
       refine jp ?_;generalize V.drew=U at *;have f3:=(FF.out U (jnQ _)).2.2;clear FF d1;go_wp2_with fail;refine SK1.out.mono ?_;rintro e u2 ⟨rfl,hS2,hK2,hO2⟩;have hO3:=HD2.out.2.2.2.trans hO2;have k62:=HD2.out.2.2.1.ot hO2 (by unfold P3;omega);clear SK1 f3 HD2 hO2;obtain ⟨se,hse⟩:∃ x,x=qO t1.s n:=⟨_,rfl⟩;rw [<-hse] at B2 B3 ⊢;by_cases he:se=0
       ·have q1:=Hj (T2.out _ (B3.out he) rfl);have ok2:=Rt.ok_skip (t:=t1) ok1 hn;have ST1:=Hj (STP.out u2 _ hS2 ok2 hO3);have LKm:(jM (jX t1 n).s.rc qd).length=32:=jR _ _;have OK1:Hid (opK t1 n=jM (jX t1 n).s.rc qd):=rfl;subst he;clear B2 B3 T1 T2 hse;obtain ⟨mk,hmk⟩:∃ x,x=jM (jX t1 n).s.rc qd:=⟨_,rfl⟩;rw [<-hmk] at ST1 LKm OK1;replace hmk:=Hj hmk;replace hK2:=Hj hK2;replace hO3:=Hj hO3;clear hS2 k62;go_wp2_with fail;refine ST1.out.mono ?_;rintro e u3 ⟨rfl,hS3,gr3⟩;have hO4:=hO3.out.trans (Ot.of_grown gr3 (.inl rfl));have hK3:=hK2.out.stay (gr3.block _ hK2.out.cb.lt (fun z=>nk (jpD z).symm)) (gr3.block _ hK2.out.mp.lt (fun z=>nm (jpD z).symm));have OP:=Hj (OPN.out u3 mk LKm hO4);replace hS3:=Hj hS3;replace hK3:=Hj hK3;replace hO4:=Hj hO4;clear ST1 hK2 hO3 gr3;go_wp2_with fail;refine OP.out.mono ?_;rintro e u4 ⟨A5,n5,c5,rfl,o5,x5⟩;replace o5:=Hj (o5.lower hO4.out.size);have F:=Hj (jqS (hS3.out.ext x5) (jqS (hK3.out.ext x5) (hO4.out.trans (Ot.of_ext x5))));clear OP hS3 hK3 hO4 x5;go_wp2_with fail;go_ret2;exact ⟨A5,n5,c5,by rw [q1.out,OK1.out];rfl,by rw [q1.out,OK1.out];exact o5.out,by rw [q1.out];exact F.out.1,by rw [q1.out];exact F.out.2.1,F.out.2.2⟩
       ·have q1:=Hj (T1.out _ (B2.out he) he);have hbn:(se !=0)=true:=bne_iff_ne.2 he;have es:jX t1 n=t1:=(yu t1 n).1 (by rw [<-hse];exact he);rw [es] at hS2 hK2;have F:=Hj (jqS hS2 (jqS hK2 hO3));clear B2 B3 T1 T2 hS2 hK2 hO3 k62 es hse;go_wp2_with fail;go_ret2;exact ⟨none,0,0,by rw [q1.out];rfl,by rw [q1.out];exact Own.nil _ _,by rw [q1.out];exact F.out.1,by rw [q1.out];exact F.out.2.1,F.out.2.2⟩
      ·have q1:=Hj (E2.out (by rw [HA.out];exact he));rw [HA.out] at q1;have hbn:(fe !=0)=true:=bne_iff_ne.2 he;have F:=Hj (jqS hS2 (jqS hK2 hO2));clear hS2 hK2 k62 hO2 E2 E3 HA hfe;go_wp2_with fail;go_ret2;exact ⟨none,0,0,by rw [q1.out];rfl,by rw [q1.out];exact Own.nil _ _,by rw [q1.out];exact F.out.1,by rw [q1.out];exact F.out.2.1,F.out.2.2⟩
     ·have q1:=Hj (E2.out (by rw [A2.out hs];exact hs));rw [A2.out hs] at q1;have hbn:(se !=0)=true:=bne_iff_ne.2 hs;have es:jX t prev=t:=(yu t prev).1 (by rw [<-hse];exact hs);rw [es] at hS3 hK3;have F:=Hj (jqS hS3 (jqS hK3 hO4));clear hS3 hK3 hO4 k63 E2 E3 A2 A3 es hse;go_wp2_with fail;go_ret2;exact ⟨none,0,0,by rw [q1.out];rfl,by rw [q1.out];exact Own.nil _ _,by rw [q1.out];exact F.out.1,by rw [q1.out];exact F.out.2.1,F.out.2.2⟩
    ·have HA:=Hj (A4.out HN.out hc);have ok2:=ok;have l82:=l8;have hp2:t.puts<=1000000100:=by omega
     clear A1 A2 A3 A4;obtain ⟨rib,hrib⟩:∃ x,x=t.s.ri:=⟨_,rfl⟩;rw [<-hrib] at FG hc;rcases rib with _ | _
     ·clear hc hrib;refine qgE [0,1,2,3,4,5,6,7,8,9,10,11,12,13,14] [] ?_;repeat ((first | refine qR _ (fun w' e=>FG.out w' e) ?_ | refine qS ?_);go_frame)
      refine jp ?_;generalize V.drew=V at *;clear FG;go_upto_region 10 with fail;generalize opA t pk prev=oa at HA E2 E3;generalize ht2:t=t2 at HA HV ok2 l82 hp2;have f0:Hid (∀ j v,(cellsOf pk)[j]? =some v->V.cell? ⟨r,0+j,none⟩=some v):=HV.out.2.2.1.mid (hd0.out ()) rfl;have FO:=Hj (FOL.out V t2.s HV.out.1 ok2 HV.out.2.2.2);clear FOL;go_wp2_with (first | ((with_reducible refine jI (o:=⟨some 75,_,_,_,_,_⟩) (ty:=23) (g:=r) (off:=0) (ys:=cellsOf pk) ?_ rfl ?_ ?_ jqD ?_ ?_ ?_);(·rfl);(·rfl);(·exact f0.out);(·rfl);(·rw [C_pk];rfl);go_frame))
      refine FO.out.mono ?_;rintro e V2 ⟨rfl,hS2,gr2⟩;have hK2:=HV.out.2.1.stay (gr2.block _ HV.out.2.1.cb.lt (fun z=>nk (jpD z).symm)) (gr2.block _ HV.out.2.1.mp.lt (fun z=>nm (jpD z).symm));have k62:=HV.out.2.2.1.ot (Ot.of_grown (p:=P3 g kp mb) gr2 (.inl rfl)) (by unfold P3;omega);have hO2:=HV.out.2.2.2.trans (Ot.of_grown gr2 (.inl rfl));clear FO HV f0 gr2;obtain ⟨fe,hfe⟩:∃ x,x=YG t2.s pk:=⟨_,rfl⟩;rw [<-hfe] at HA ⊢;by_cases he:fe=0
      ·have HT:=Hj (E3.out (by rw [HA.out];exact he));rw [HA.out] at HT;have okf:=Rt.ok_fol ok2 lp;subst he;obtain ⟨t1,ht1⟩:∃ x:Rz,x=⟨za t2.s pk,t2.L,t2.puts⟩:=⟨_,rfl⟩;rw [<-ht1] at HT;have ok1:t1.s.ok:=by rw [ht1];exact okf
       have l81:t1.L.length<=8:=by rw [ht1];exact l82
       have hp1:t1.puts<=1000000100:=by rw [ht1];exact hp2
       have HV:Hid (Sq V2 g 114 t1.s kp q/\SK V2 kp mb t1.L t1.puts/\Cb V2 r 47 HD/\Ot (P3 g kp mb) w V2):=by rw [ht1];exact ⟨hS2,hK2,k62,hO2⟩
       clear hS2 hK2 k62 hO2 E2 E3 HA hfe okf ht1 ok2 l82 hp2;go_upto_region 13 with fail;generalize V2=V at *;have hV:=HV.out;obtain ⟨B1,B2,B3⟩:=jnA t1 n;have T1:Hid (∀ x:Rz×Int,opB t1 n=x->x.2≠0->RES=(x.1,[],x.2)):=fun x e z=>by rw [HT.out];unfold zj;rw [e,if_pos z]
       have T2:Hid (∀ x:Rz×Int,opB t1 n=x->x.2=0->RES=(x.1,J5 (opK t1 n) data body,J4 (opK t1 n) data body)):=fun x e z=>by rw [HT.out];unfold zj;rw [e,if_neg (fun q=>q z)]
       have f1:=hV.1.ri ok1;have f2:=hV.1.rm ok1;have f3:=hV.2.2.1.cell hd33.out;have FF:Hid (∀ u,Ext V.drew u->u.cell? ⟨g,165,none⟩=some (.bool t1.s.ri)/\u.cell? ⟨g,198,none⟩=some (.int .i64 t1.s.rm)/\u.cell? ⟨r,33,none⟩=some (.int .i64 n)):=fun u x=>⟨(hV.1.ext ((jnQ V).drew.trans x)).ri ok1,(hV.1.ext ((jnQ V).drew.trans x)).rm ok1,(hV.2.2.1.ext ((jnQ V).drew.trans x)).cell hd33.out⟩
       have HD2:Hid (Sq V.drew g 114 t1.s kp q/\SK V.drew kp mb t1.L t1.puts/\Cb V.drew r 47 HD/\Ot (P3 g kp mb) w V.drew):=⟨hV.1.ext (jnQ V).drew,hV.2.1.ext (jnQ V).drew,hV.2.2.1.ext (jnQ V).drew,hV.2.2.2.drew⟩;clear hV HV f1 f2 f3;have SK1:=Hj (SKP.out V.drew t1 n HD2.out.1 HD2.out.2.1 ok1 l81 (by omega) hn HD2.out.2.2.2);obtain ⟨ri1,hri1⟩:∃ x,x=t1.s.ri:=⟨_,rfl⟩;rw [<-hri1] at FF B1 B2 B3;rcases ri1 with _ | _
       ·have q1:=Hj (T1.out _ (B1 (.inl rfl)) (by show (5:Int)≠0;decide));clear B1 B2 B3 T1 T2 SK1 hri1;refine qgE [0,1,2,3,4,5,6,7,8,9,10,11,12,13,14,15] [] ?_;repeat ((first | refine qR _ (fun w' e=>FF.out w' e) ?_ | refine qS ?_);go_frame)
        refine jp ?_;generalize V.drew=U at *;clear FF;go_wp2_with fail;go_ret2;exact ⟨none,0,0,by rw [q1.out];rfl,by rw [q1.out];exact Own.nil _ _,by rw [q1.out];exact HD2.out.1,by rw [q1.out];exact HD2.out.2.1,HD2.out.2.2.2⟩
       by_cases hlt:n < t1.s.rm
       ·have d1:decide (n < t1.s.rm)=true:=decide_eq_true hlt;have q1:=Hj (T1.out _ (B1 (.inr hlt)) (by show (5:Int)≠0;decide));clear B1 B2 B3 T1 T2 SK1 hri1;refine qgE [0,1,2,3,4,5,6,7,8,9,10,11,12,13,14,15] [] ?_;repeat ((first | refine qR _ (fun w' e=>FF.out w' e) ?_ | refine qS ?_);go_frame)
        refine jp ?_;generalize V.drew=U at *;clear FF;go_wp2_with fail;go_ret2;exact ⟨none,0,0,by rw [q1.out];rfl,by rw [q1.out];exact Own.nil _ _,by rw [q1.out];exact HD2.out.1,by rw [q1.out];exact HD2.out.2.1,HD2.out.2.2.2⟩
       have d1:decide (n < t1.s.rm)=false:=decide_eq_false hlt;have nB: ¬(true=false\/n < t1.s.rm):=fun z=>by rcases z with z | z;exact absurd z (by decide);exact hlt z
       replace B2:=Hj (B2 nB);replace B3:=Hj (B3 nB);clear B1 hri1 nB;refine qgE [0,1,2,3,4,5,6,7,8,9,10,11,12,13,14,15] [] ?_;repeat ((first | refine qR _ (fun w' e=>FF.out w' e) ?_ | refine qS ?_);go_frame)
       refine jp ?_;generalize V.drew=U at *;have f3:=(FF.out U (jnQ _)).2.2;clear FF d1;go_wp2_with fail;refine SK1.out.mono ?_;rintro e u2 ⟨rfl,hS2,hK2,hO2⟩;have hO3:=HD2.out.2.2.2.trans hO2;have k62:=HD2.out.2.2.1.ot hO2 (by unfold P3;omega);clear SK1 f3 HD2 hO2;obtain ⟨se,hse⟩:∃ x,x=qO t1.s n:=⟨_,rfl⟩;rw [<-hse] at B2 B3 ⊢;by_cases he:se=0
       ·have q1:=Hj (T2.out _ (B3.out he) rfl);have ok2:=Rt.ok_skip (t:=t1) ok1 hn;have ST1:=Hj (STP.out u2 _ hS2 ok2 hO3);have LKm:(jM (jX t1 n).s.rc qd).length=32:=jR _ _;have OK1:Hid (opK t1 n=jM (jX t1 n).s.rc qd):=rfl;subst he;clear B2 B3 T1 T2 hse;obtain ⟨mk,hmk⟩:∃ x,x=jM (jX t1 n).s.rc qd:=⟨_,rfl⟩;rw [<-hmk] at ST1 LKm OK1;replace hmk:=Hj hmk;replace hK2:=Hj hK2;replace hO3:=Hj hO3;clear hS2 k62;go_wp2_with fail;refine ST1.out.mono ?_;rintro e u3 ⟨rfl,hS3,gr3⟩;have hO4:=hO3.out.trans (Ot.of_grown gr3 (.inl rfl));have hK3:=hK2.out.stay (gr3.block _ hK2.out.cb.lt (fun z=>nk (jpD z).symm)) (gr3.block _ hK2.out.mp.lt (fun z=>nm (jpD z).symm));have OP:=Hj (OPN.out u3 mk LKm hO4);replace hS3:=Hj hS3;replace hK3:=Hj hK3;replace hO4:=Hj hO4;clear ST1 hK2 hO3 gr3;go_wp2_with fail;refine OP.out.mono ?_;rintro e u4 ⟨A5,n5,c5,rfl,o5,x5⟩;replace o5:=Hj (o5.lower hO4.out.size);have F:=Hj (jqS (hS3.out.ext x5) (jqS (hK3.out.ext x5) (hO4.out.trans (Ot.of_ext x5))));clear OP hS3 hK3 hO4 x5;go_wp2_with fail;go_ret2;exact ⟨A5,n5,c5,by rw [q1.out,OK1.out];rfl,by rw [q1.out,OK1.out];exact o5.out,by rw [q1.out];exact F.out.1,by rw [q1.out];exact F.out.2.1,F.out.2.2⟩
       ·have q1:=Hj (T1.out _ (B2.out he) he);have hbn:(se !=0)=true:=bne_iff_ne.2 he;have es:jX t1 n=t1:=(yu t1 n).1 (by rw [<-hse];exact he);rw [es] at hS2 hK2;have F:=Hj (jqS hS2 (jqS hK2 hO3));clear B2 B3 T1 T2 hS2 hK2 hO3 k62 es hse;go_wp2_with fail;go_ret2;exact ⟨none,0,0,by rw [q1.out];rfl,by rw [q1.out];exact Own.nil _ _,by rw [q1.out];exact F.out.1,by rw [q1.out];exact F.out.2.1,F.out.2.2⟩
      ·have q1:=Hj (E2.out (by rw [HA.out];exact he));rw [HA.out] at q1;have hbn:(fe !=0)=true:=bne_iff_ne.2 he;have F:=Hj (jqS hS2 (jqS hK2 hO2));clear hS2 hK2 k62 hO2 E2 E3 HA hfe;go_wp2_with fail;go_ret2;exact ⟨none,0,0,by rw [q1.out];rfl,by rw [q1.out];exact Own.nil _ _,by rw [q1.out];exact F.out.1,by rw [q1.out];exact F.out.2.1,F.out.2.2⟩
     ·have d2:decide (t.s.rm < prev)=false:=decide_eq_false (fun z=>hc ⟨rfl,z⟩);clear hc hrib;refine qgE [0,1,2,3,4,5,6,7,8,9,10,11,12,13,14] [] ?_;repeat ((first | refine qR _ (fun w' e=>FG.out w' e) ?_ | refine qS ?_);go_frame)
      refine jp ?_;generalize V.drew=V at *;clear FG d2;go_upto_region 10 with fail;generalize opA t pk prev=oa at HA E2 E3;generalize ht2:t=t2 at HA HV ok2 l82 hp2;have f0:Hid (∀ j v,(cellsOf pk)[j]? =some v->V.cell? ⟨r,0+j,none⟩=some v):=HV.out.2.2.1.mid (hd0.out ()) rfl;have FO:=Hj (FOL.out V t2.s HV.out.1 ok2 HV.out.2.2.2);clear FOL;go_wp2_with (first | ((with_reducible refine jI (o:=⟨some 75,_,_,_,_,_⟩) (ty:=23) (g:=r) (off:=0) (ys:=cellsOf pk) ?_ rfl ?_ ?_ jqD ?_ ?_ ?_);(·rfl);(·rfl);(·exact f0.out);(·rfl);(·rw [C_pk];rfl);go_frame))
      refine FO.out.mono ?_;rintro e V2 ⟨rfl,hS2,gr2⟩;have hK2:=HV.out.2.1.stay (gr2.block _ HV.out.2.1.cb.lt (fun z=>nk (jpD z).symm)) (gr2.block _ HV.out.2.1.mp.lt (fun z=>nm (jpD z).symm));have k62:=HV.out.2.2.1.ot (Ot.of_grown (p:=P3 g kp mb) gr2 (.inl rfl)) (by unfold P3;omega);have hO2:=HV.out.2.2.2.trans (Ot.of_grown gr2 (.inl rfl));clear FO HV f0 gr2;obtain ⟨fe,hfe⟩:∃ x,x=YG t2.s pk:=⟨_,rfl⟩;rw [<-hfe] at HA ⊢;by_cases he:fe=0
      ·have HT:=Hj (E3.out (by rw [HA.out];exact he));rw [HA.out] at HT;have okf:=Rt.ok_fol ok2 lp;subst he;obtain ⟨t1,ht1⟩:∃ x:Rz,x=⟨za t2.s pk,t2.L,t2.puts⟩:=⟨_,rfl⟩;rw [<-ht1] at HT;have ok1:t1.s.ok:=by rw [ht1];exact okf
       have l81:t1.L.length<=8:=by rw [ht1];exact l82
       have hp1:t1.puts<=1000000100:=by rw [ht1];exact hp2
       have HV:Hid (Sq V2 g 114 t1.s kp q/\SK V2 kp mb t1.L t1.puts/\Cb V2 r 47 HD/\Ot (P3 g kp mb) w V2):=by rw [ht1];exact ⟨hS2,hK2,k62,hO2⟩
       clear hS2 hK2 k62 hO2 E2 E3 HA hfe okf ht1 ok2 l82 hp2;go_upto_region 13 with fail;generalize V2=V at *;have hV:=HV.out;obtain ⟨B1,B2,B3⟩:=jnA t1 n;have T1:Hid (∀ x:Rz×Int,opB t1 n=x->x.2≠0->RES=(x.1,[],x.2)):=fun x e z=>by rw [HT.out];unfold zj;rw [e,if_pos z]
       have T2:Hid (∀ x:Rz×Int,opB t1 n=x->x.2=0->RES=(x.1,J5 (opK t1 n) data body,J4 (opK t1 n) data body)):=fun x e z=>by rw [HT.out];unfold zj;rw [e,if_neg (fun q=>q z)]
       have f1:=hV.1.ri ok1;have f2:=hV.1.rm ok1;have f3:=hV.2.2.1.cell hd33.out;have FF:Hid (∀ u,Ext V.drew u->u.cell? ⟨g,165,none⟩=some (.bool t1.s.ri)/\u.cell? ⟨g,198,none⟩=some (.int .i64 t1.s.rm)/\u.cell? ⟨r,33,none⟩=some (.int .i64 n)):=fun u x=>⟨(hV.1.ext ((jnQ V).drew.trans x)).ri ok1,(hV.1.ext ((jnQ V).drew.trans x)).rm ok1,(hV.2.2.1.ext ((jnQ V).drew.trans x)).cell hd33.out⟩
       have HD2:Hid (Sq V.drew g 114 t1.s kp q/\SK V.drew kp mb t1.L t1.puts/\Cb V.drew r 47 HD/\Ot (P3 g kp mb) w V.drew):=⟨hV.1.ext (jnQ V).drew,hV.2.1.ext (jnQ V).drew,hV.2.2.1.ext (jnQ V).drew,hV.2.2.2.drew⟩;clear hV HV f1 f2 f3;have SK1:=Hj (SKP.out V.drew t1 n HD2.out.1 HD2.out.2.1 ok1 l81 (by omega) hn HD2.out.2.2.2);obtain ⟨ri1,hri1⟩:∃ x,x=t1.s.ri:=⟨_,rfl⟩;rw [<-hri1] at FF B1 B2 B3;rcases ri1 with _ | _
       ·have q1:=Hj (T1.out _ (B1 (.inl rfl)) (by show (5:Int)≠0;decide));clear B1 B2 B3 T1 T2 SK1 hri1;refine qgE [0,1,2,3,4,5,6,7,8,9,10,11,12,13,14,15] [] ?_;repeat ((first | refine qR _ (fun w' e=>FF.out w' e) ?_ | refine qS ?_);go_frame)
        refine jp ?_;generalize V.drew=U at *;clear FF;go_wp2_with fail;go_ret2;exact ⟨none,0,0,by rw [q1.out];rfl,by rw [q1.out];exact Own.nil _ _,by rw [q1.out];exact HD2.out.1,by rw [q1.out];exact HD2.out.2.1,HD2.out.2.2.2⟩
       by_cases hlt:n < t1.s.rm
       ·have d1:decide (n < t1.s.rm)=true:=decide_eq_true hlt;have q1:=Hj (T1.out _ (B1 (.inr hlt)) (by show (5:Int)≠0;decide));clear B1 B2 B3 T1 T2 SK1 hri1;refine qgE [0,1,2,3,4,5,6,7,8,9,10,11,12,13,14,15] [] ?_;repeat ((first | refine qR _ (fun w' e=>FF.out w' e) ?_ | refine qS ?_);go_frame)
        refine jp ?_;generalize V.drew=U at *;clear FF;go_wp2_with fail;go_ret2;exact ⟨none,0,0,by rw [q1.out];rfl,by rw [q1.out];exact Own.nil _ _,by rw [q1.out];exact HD2.out.1,by rw [q1.out];exact HD2.out.2.1,HD2.out.2.2.2⟩
       have d1:decide (n < t1.s.rm)=false:=decide_eq_false hlt;have nB: ¬(true=false\/n < t1.s.rm):=fun z=>by rcases z with z | z;exact absurd z (by decide);exact hlt z
       replace B2:=Hj (B2 nB);replace B3:=Hj (B3 nB);clear B1 hri1 nB;refine qgE [0,1,2,3,4,5,6,7,8,9,10,11,12,13,14,15] [] ?_;repeat ((first | refine qR _ (fun w' e=>FF.out w' e) ?_ | refine qS ?_);go_frame)
       refine jp ?_;generalize V.drew=U at *;have f3:=(FF.out U (jnQ _)).2.2;clear FF d1;go_wp2_with fail;refine SK1.out.mono ?_;rintro e u2 ⟨rfl,hS2,hK2,hO2⟩;have hO3:=HD2.out.2.2.2.trans hO2;have k62:=HD2.out.2.2.1.ot hO2 (by unfold P3;omega);clear SK1 f3 HD2 hO2;obtain ⟨se,hse⟩:∃ x,x=qO t1.s n:=⟨_,rfl⟩;rw [<-hse] at B2 B3 ⊢;by_cases he:se=0
       ·have q1:=Hj (T2.out _ (B3.out he) rfl);have ok2:=Rt.ok_skip (t:=t1) ok1 hn;have ST1:=Hj (STP.out u2 _ hS2 ok2 hO3);have LKm:(jM (jX t1 n).s.rc qd).length=32:=jR _ _;have OK1:Hid (opK t1 n=jM (jX t1 n).s.rc qd):=rfl;subst he;clear B2 B3 T1 T2 hse;obtain ⟨mk,hmk⟩:∃ x,x=jM (jX t1 n).s.rc qd:=⟨_,rfl⟩;rw [<-hmk] at ST1 LKm OK1;replace hmk:=Hj hmk;replace hK2:=Hj hK2;replace hO3:=Hj hO3;clear hS2 k62;go_wp2_with fail;refine ST1.out.mono ?_;rintro e u3 ⟨rfl,hS3,gr3⟩;have hO4:=hO3.out.trans (Ot.of_grown gr3 (.inl rfl));have hK3:=hK2.out.stay (gr3.block _ hK2.out.cb.lt (fun z=>nk (jpD z).symm)) (gr3.block _ hK2.out.mp.lt (fun z=>nm (jpD z).symm));have OP:=Hj (OPN.out u3 mk LKm hO4);replace hS3:=Hj hS3;replace hK3:=Hj hK3;replace hO4:=Hj hO4;clear ST1 hK2 hO3 gr3;go_wp2_with fail;refine OP.out.mono ?_;rintro e u4 ⟨A5,n5,c5,rfl,o5,x5⟩;replace o5:=Hj (o5.lower hO4.out.size);have F:=Hj (jqS (hS3.out.ext x5) (jqS (hK3.out.ext x5) (hO4.out.trans (Ot.of_ext x5))));clear OP hS3 hK3 hO4 x5;go_wp2_with fail;go_ret2;exact ⟨A5,n5,c5,by rw [q1.out,OK1.out];rfl,by rw [q1.out,OK1.out];exact o5.out,by rw [q1.out];exact F.out.1,by rw [q1.out];exact F.out.2.1,F.out.2.2⟩
       ·have q1:=Hj (T1.out _ (B2.out he) he);have hbn:(se !=0)=true:=bne_iff_ne.2 he;have es:jX t1 n=t1:=(yu t1 n).1 (by rw [<-hse];exact he);rw [es] at hS2 hK2;have F:=Hj (jqS hS2 (jqS hK2 hO3));clear B2 B3 T1 T2 hS2 hK2 hO3 k62 es hse;go_wp2_with fail;go_ret2;exact ⟨none,0,0,by rw [q1.out];rfl,by rw [q1.out];exact Own.nil _ _,by rw [q1.out];exact F.out.1,by rw [q1.out];exact F.out.2.1,F.out.2.2⟩
      ·have q1:=Hj (E2.out (by rw [HA.out];exact he));rw [HA.out] at q1;have hbn:(fe !=0)=true:=bne_iff_ne.2 he;have F:=Hj (jqS hS2 (jqS hK2 hO2));clear hS2 hK2 k62 hO2 E2 E3 HA hfe;go_wp2_with fail;go_ret2;exact ⟨none,0,0,by rw [q1.out];rfl,by rw [q1.out];exact Own.nil _ _,by rw [q1.out];exact F.out.1,by rw [q1.out];exact F.out.2.1,F.out.2.2⟩
   by_cases hpk:pk=t.s.ot
   ·have hb:(!decide (pk=t.s.ot))=false:=by rw [decide_eq_true hpk];rfl
    have HT:=Hj (E3.out (by rw [A1.out rfl hpk]));rw [A1.out rfl hpk] at HT;replace hpk:=Hj (fun _:Unit=>hpk);replace hb:=Hj hb;clear A1 A2 A3 A4 E2 E3 hhob;refine qgE [0,1,2,3,4,5,6,7,8,9,10,11,12,13] [] ?_;repeat ((first | refine qR _ (fun w' e=>FG.out w' e) ?_ | refine qS ?_);go_frame)
    refine qV rfl (fun w'=>∀ q_ v,(cellsOf pk)[q_]? =some v->w'.cell? ⟨r,0+q_,none⟩=some v) (fun w' e=>(FH.out w' e).1) (.agg (cellsOf pk).toArray) (fun w' hF=>jy rfl rfl hF rfl rfl (by rw [C_pk];rfl)) ?_;go_frame
    repeat ((first | refine qR0 ?_ | refine qS ?_);go_frame)
    refine qV rfl (fun w'=>∀ q_ v,(cellsOf t.s.ot)[q_]? =some v->w'.cell? ⟨g,97+q_,none⟩=some v) (fun w' e=>(FH.out w' e).2) (.agg (cellsOf t.s.ot).toArray) (fun w' hF=>jy rfl rfl hF rfl rfl (by rw [C_ot];rfl)) ?_;go_frame
    refine qV rfl (fun _=>True) (fun _ _=>trivial) (.bool false) (fun w' _=>J9 hb.out lp ok.ot rfl rfl rfl) ?_;go_frame
    repeat ((first | refine qR0 ?_ | refine qS ?_);go_frame)
    refine jp ?_;generalize wc.drew=V at *;clear FG FH C_ot hb;go_upto_region 13 with fail;have ok1:=ok;have l81:=l8;have hp1:t.puts<=1000000100:=by omega
    generalize ht1:t=t1 at HT HV ok1 l81 hp1;have hV:=HV.out;obtain ⟨B1,B2,B3⟩:=jnA t1 n;have T1:Hid (∀ x:Rz×Int,opB t1 n=x->x.2≠0->RES=(x.1,[],x.2)):=fun x e z=>by rw [HT.out];unfold zj;rw [e,if_pos z]
    have T2:Hid (∀ x:Rz×Int,opB t1 n=x->x.2=0->RES=(x.1,J5 (opK t1 n) data body,J4 (opK t1 n) data body)):=fun x e z=>by rw [HT.out];unfold zj;rw [e,if_neg (fun q=>q z)]
    have f1:=hV.1.ri ok1;have f2:=hV.1.rm ok1;have f3:=hV.2.2.1.cell hd33.out;have FF:Hid (∀ u,Ext V.drew u->u.cell? ⟨g,165,none⟩=some (.bool t1.s.ri)/\u.cell? ⟨g,198,none⟩=some (.int .i64 t1.s.rm)/\u.cell? ⟨r,33,none⟩=some (.int .i64 n)):=fun u x=>⟨(hV.1.ext ((jnQ V).drew.trans x)).ri ok1,(hV.1.ext ((jnQ V).drew.trans x)).rm ok1,(hV.2.2.1.ext ((jnQ V).drew.trans x)).cell hd33.out⟩
    have HD2:Hid (Sq V.drew g 114 t1.s kp q/\SK V.drew kp mb t1.L t1.puts/\Cb V.drew r 47 HD/\Ot (P3 g kp mb) w V.drew):=⟨hV.1.ext (jnQ V).drew,hV.2.1.ext (jnQ V).drew,hV.2.2.1.ext (jnQ V).drew,hV.2.2.2.drew⟩;clear hV HV f1 f2 f3;have SK1:=Hj (SKP.out V.drew t1 n HD2.out.1 HD2.out.2.1 ok1 l81 (by omega) hn HD2.out.2.2.2);obtain ⟨ri1,hri1⟩:∃ x,x=t1.s.ri:=⟨_,rfl⟩;rw [<-hri1] at FF B1 B2 B3;rcases ri1 with _ | _
    ·have q1:=Hj (T1.out _ (B1 (.inl rfl)) (by show (5:Int)≠0;decide));clear B1 B2 B3 T1 T2 SK1 hri1;refine qgE [0,1,2,3,4,5,6,7,8,9,10,11,12,13,14,15] [] ?_;repeat ((first | refine qR _ (fun w' e=>FF.out w' e) ?_ | refine qS ?_);go_frame)
     refine jp ?_;generalize V.drew=U at *;clear FF;go_wp2_with fail;go_ret2;exact ⟨none,0,0,by rw [q1.out];rfl,by rw [q1.out];exact Own.nil _ _,by rw [q1.out];exact HD2.out.1,by rw [q1.out];exact HD2.out.2.1,HD2.out.2.2.2⟩
    by_cases hlt:n < t1.s.rm
    ·have d1:decide (n < t1.s.rm)=true:=decide_eq_true hlt;have q1:=Hj (T1.out _ (B1 (.inr hlt)) (by show (5:Int)≠0;decide));clear B1 B2 B3 T1 T2 SK1 hri1;refine qgE [0,1,2,3,4,5,6,7,8,9,10,11,12,13,14,15] [] ?_;repeat ((first | refine qR _ (fun w' e=>FF.out w' e) ?_ | refine qS ?_);go_frame)
     refine jp ?_;generalize V.drew=U at *;clear FF;go_wp2_with fail;go_ret2;exact ⟨none,0,0,by rw [q1.out];rfl,by rw [q1.out];exact Own.nil _ _,by rw [q1.out];exact HD2.out.1,by rw [q1.out];exact HD2.out.2.1,HD2.out.2.2.2⟩
    have d1:decide (n < t1.s.rm)=false:=decide_eq_false hlt;have nB: ¬(true=false\/n < t1.s.rm):=fun z=>by rcases z with z | z;exact absurd z (by decide);exact hlt z
    replace B2:=Hj (B2 nB);replace B3:=Hj (B3 nB);clear B1 hri1 nB;refine qgE [0,1,2,3,4,5,6,7,8,9,10,11,12,13,14,15] [] ?_;repeat ((first | refine qR _ (fun w' e=>FF.out w' e) ?_ | refine qS ?_);go_frame)
    refine jp ?_;generalize V.drew=U at *;have f3:=(FF.out U (jnQ _)).2.2;clear FF d1;go_wp2_with fail;refine SK1.out.mono ?_;rintro e u2 ⟨rfl,hS2,hK2,hO2⟩;have hO3:=HD2.out.2.2.2.trans hO2;have k62:=HD2.out.2.2.1.ot hO2 (by unfold P3;omega);clear SK1 f3 HD2 hO2;obtain ⟨se,hse⟩:∃ x,x=qO t1.s n:=⟨_,rfl⟩;rw [<-hse] at B2 B3 ⊢;by_cases he:se=0
    ·have q1:=Hj (T2.out _ (B3.out he) rfl);have ok2:=Rt.ok_skip (t:=t1) ok1 hn;have ST1:=Hj (STP.out u2 _ hS2 ok2 hO3);have LKm:(jM (jX t1 n).s.rc qd).length=32:=jR _ _;have OK1:Hid (opK t1 n=jM (jX t1 n).s.rc qd):=rfl;subst he;clear B2 B3 T1 T2 hse;obtain ⟨mk,hmk⟩:∃ x,x=jM (jX t1 n).s.rc qd:=⟨_,rfl⟩;rw [<-hmk] at ST1 LKm OK1;replace hmk:=Hj hmk;replace hK2:=Hj hK2;replace hO3:=Hj hO3;clear hS2 k62;go_wp2_with fail;refine ST1.out.mono ?_;rintro e u3 ⟨rfl,hS3,gr3⟩;have hO4:=hO3.out.trans (Ot.of_grown gr3 (.inl rfl));have hK3:=hK2.out.stay (gr3.block _ hK2.out.cb.lt (fun z=>nk (jpD z).symm)) (gr3.block _ hK2.out.mp.lt (fun z=>nm (jpD z).symm));have OP:=Hj (OPN.out u3 mk LKm hO4);replace hS3:=Hj hS3;replace hK3:=Hj hK3;replace hO4:=Hj hO4;clear ST1 hK2 hO3 gr3;go_wp2_with fail;refine OP.out.mono ?_;rintro e u4 ⟨A5,n5,c5,rfl,o5,x5⟩;replace o5:=Hj (o5.lower hO4.out.size);have F:=Hj (jqS (hS3.out.ext x5) (jqS (hK3.out.ext x5) (hO4.out.trans (Ot.of_ext x5))));clear OP hS3 hK3 hO4 x5;go_wp2_with fail;go_ret2;exact ⟨A5,n5,c5,by rw [q1.out,OK1.out];rfl,by rw [q1.out,OK1.out];exact o5.out,by rw [q1.out];exact F.out.1,by rw [q1.out];exact F.out.2.1,F.out.2.2⟩
    ·have q1:=Hj (T1.out _ (B2.out he) he);have hbn:(se !=0)=true:=bne_iff_ne.2 he;have es:jX t1 n=t1:=(yu t1 n).1 (by rw [<-hse];exact he);rw [es] at hS2 hK2;have F:=Hj (jqS hS2 (jqS hK2 hO3));clear B2 B3 T1 T2 hS2 hK2 hO3 k62 es hse;go_wp2_with fail;go_ret2;exact ⟨none,0,0,by rw [q1.out];rfl,by rw [q1.out];exact Own.nil _ _,by rw [q1.out];exact F.out.1,by rw [q1.out];exact F.out.2.1,F.out.2.2⟩
   ·have hb:(!decide (pk=t.s.ot))=true:=by rw [decide_eq_false hpk];rfl
    have HN:Hid (¬(true=true/\pk=t.s.ot)):=fun z=>hpk z.2
    replace hb:=Hj hb;clear hhob hpk;refine qgE [0,1,2,3,4,5,6,7,8,9,10,11,12,13] [] ?_;repeat ((first | refine qR _ (fun w' e=>FG.out w' e) ?_ | refine qS ?_);go_frame)
    refine qV rfl (fun w'=>∀ q_ v,(cellsOf pk)[q_]? =some v->w'.cell? ⟨r,0+q_,none⟩=some v) (fun w' e=>(FH.out w' e).1) (.agg (cellsOf pk).toArray) (fun w' hF=>jy rfl rfl hF rfl rfl (by rw [C_pk];rfl)) ?_;go_frame
    repeat ((first | refine qR0 ?_ | refine qS ?_);go_frame)
    refine qV rfl (fun w'=>∀ q_ v,(cellsOf t.s.ot)[q_]? =some v->w'.cell? ⟨g,97+q_,none⟩=some v) (fun w' e=>(FH.out w' e).2) (.agg (cellsOf t.s.ot).toArray) (fun w' hF=>jy rfl rfl hF rfl rfl (by rw [C_ot];rfl)) ?_;go_frame
    refine qV rfl (fun _=>True) (fun _ _=>trivial) (.bool true) (fun w' _=>J9 hb.out lp ok.ot rfl rfl rfl) ?_;go_frame
    repeat ((first | refine qR0 ?_ | refine qS ?_);go_frame)
    refine jp ?_;generalize wc.drew=V at *;clear FG FH C_ot hb;go_upto_region 6 with fail;have FG:Hid (∀ u,Ext V.drew u->u.cell? ⟨g,165,none⟩=some (.bool t.s.ri)/\u.cell? ⟨g,198,none⟩=some (.int .i64 t.s.rm)/\u.cell? ⟨r,32,none⟩=some (.int .i64 prev)):=fun u x=>⟨(HV.out.1.ext ((jnQ V).drew.trans x)).ri ok,(HV.out.1.ext ((jnQ V).drew.trans x)).rm ok,(HV.out.2.2.1.ext ((jnQ V).drew.trans x)).cell hd32.out⟩
    replace HV:Hid (Sq V.drew g 114 t.s kp q/\SK V.drew kp mb t.L t.puts/\Cb V.drew r 47 HD/\Ot (P3 g kp mb) w V.drew):=⟨HV.out.1.ext (jnQ V).drew,HV.out.2.1.ext (jnQ V).drew,HV.out.2.2.1.ext (jnQ V).drew,HV.out.2.2.2.drew⟩;by_cases hc:t.s.ri=true/\t.s.rm < prev
    ·obtain ⟨hc1,hc2⟩:=hc;have d2:decide (t.s.rm < prev)=true:=decide_eq_true hc2;rw [hc1] at FG;replace A2:=Hj (A2.out HN.out hc1 hc2);replace A3:=Hj (A3.out HN.out hc1 hc2);have f32:Hid (V.drew.cell? ⟨r,32,none⟩=some (.int .i64 prev)):=(FG.out _ (jnQ _)).2.2;have SK1:=Hj (SKP.out V.drew t prev HV.out.1 HV.out.2.1 ok l8 (by omega) hpr HV.out.2.2.2);clear A1 A4 hc1 hc2;refine qgE [0,1,2,3,4,5,6,7,8,9,10,11,12,13,14] [] ?_;repeat ((first | refine qR _ (fun w' e=>FG.out w' e) ?_ | refine qS ?_);go_frame)
     refine jp ?_;generalize V.drew=V at *;have f32':=f32.out;clear FG d2;go_wp2_with fail;refine SK1.out.mono ?_;rintro e V3 ⟨rfl,hS3,hK3,hO3⟩;have hO4:=HV.out.2.2.2.trans hO3;have k63:=HV.out.2.2.1.ot hO3 (by unfold P3;omega);clear SK1 f32 f32' HV hO3;obtain ⟨se,hse⟩:∃ x,x=qO t.s prev:=⟨_,rfl⟩;rw [<-hse] at A2 A3 ⊢;by_cases hs:se=0
     ·replace A3:=Hj (A3.out hs);have ok2:(jX t prev).s.ok:=Rt.ok_skip ok hpr;have l82:(jX t prev).L.length<=8:=Z5 l8;have hp2:(jX t prev).puts<=1000000100:=by have:=(jnD t prev).2;omega
      subst hs;obtain ⟨t2,ht2⟩:∃ x,x=jX t prev:=⟨_,rfl⟩;rw [<-ht2] at A3 ok2 l82 hp2 hS3 hK3;have HA:=A3;have HV:Hid (Sq V3 g 114 t2.s kp q/\SK V3 kp mb t2.L t2.puts/\Cb V3 r 47 HD/\Ot (P3 g kp mb) w V3):=⟨hS3,hK3,k63,hO4⟩;clear A2 A3 hS3 hK3 k63 hO4 ht2 hse;go_upto_region 10 with fail;generalize V3=V at *;have f0:Hid (∀ j v,(cellsOf pk)[j]? =some v->V.cell? ⟨r,0+j,none⟩=some v):=HV.out.2.2.1.mid (hd0.out ()) rfl;have FO:=Hj (FOL.out V t2.s HV.out.1 ok2 HV.out.2.2.2);clear FOL;go_wp2_with (first | ((with_reducible refine jI (o:=⟨some 75,_,_,_,_,_⟩) (ty:=23) (g:=r) (off:=0) (ys:=cellsOf pk) ?_ rfl ?_ ?_ jqD ?_ ?_ ?_);(·rfl);(·rfl);(·exact f0.out);(·rfl);(·rw [C_pk];rfl);go_frame))
      refine FO.out.mono ?_;rintro e V2 ⟨rfl,hS2,gr2⟩;have hK2:=HV.out.2.1.stay (gr2.block _ HV.out.2.1.cb.lt (fun z=>nk (jpD z).symm)) (gr2.block _ HV.out.2.1.mp.lt (fun z=>nm (jpD z).symm));have k62:=HV.out.2.2.1.ot (Ot.of_grown (p:=P3 g kp mb) gr2 (.inl rfl)) (by unfold P3;omega);have hO2:=HV.out.2.2.2.trans (Ot.of_grown gr2 (.inl rfl));clear FO HV f0 gr2;obtain ⟨fe,hfe⟩:∃ x,x=YG t2.s pk:=⟨_,rfl⟩;rw [<-hfe] at HA ⊢;by_cases he:fe=0
      ·have HT:=Hj (E3.out (by rw [HA.out];exact he));rw [HA.out] at HT;have okf:=Rt.ok_fol ok2 lp;subst he;obtain ⟨t1,ht1⟩:∃ x:Rz,x=⟨za t2.s pk,t2.L,t2.puts⟩:=⟨_,rfl⟩;rw [<-ht1] at HT;have ok1:t1.s.ok:=by rw [ht1];exact okf
       have l81:t1.L.length<=8:=by rw [ht1];exact l82
       have hp1:t1.puts<=1000000100:=by rw [ht1];exact hp2
       have HV:Hid (Sq V2 g 114 t1.s kp q/\SK V2 kp mb t1.L t1.puts/\Cb V2 r 47 HD/\Ot (P3 g kp mb) w V2):=by rw [ht1];exact ⟨hS2,hK2,k62,hO2⟩
       clear hS2 hK2 k62 hO2 E2 E3 HA hfe okf ht1 ok2 l82 hp2;go_upto_region 13 with fail;generalize V2=V at *;have hV:=HV.out;obtain ⟨B1,B2,B3⟩:=jnA t1 n;have T1:Hid (∀ x:Rz×Int,opB t1 n=x->x.2≠0->RES=(x.1,[],x.2)):=fun x e z=>by rw [HT.out];unfold zj;rw [e,if_pos z]
       have T2:Hid (∀ x:Rz×Int,opB t1 n=x->x.2=0->RES=(x.1,J5 (opK t1 n) data body,J4 (opK t1 n) data body)):=fun x e z=>by rw [HT.out];unfold zj;rw [e,if_neg (fun q=>q z)]
       have f1:=hV.1.ri ok1;have f2:=hV.1.rm ok1;have f3:=hV.2.2.1.cell hd33.out;have FF:Hid (∀ u,Ext V.drew u->u.cell? ⟨g,165,none⟩=some (.bool t1.s.ri)/\u.cell? ⟨g,198,none⟩=some (.int .i64 t1.s.rm)/\u.cell? ⟨r,33,none⟩=some (.int .i64 n)):=fun u x=>⟨(hV.1.ext ((jnQ V).drew.trans x)).ri ok1,(hV.1.ext ((jnQ V).drew.trans x)).rm ok1,(hV.2.2.1.ext ((jnQ V).drew.trans x)).cell hd33.out⟩
       have HD2:Hid (Sq V.drew g 114 t1.s kp q/\SK V.drew kp mb t1.L t1.puts/\Cb V.drew r 47 HD/\Ot (P3 g kp mb) w V.drew):=⟨hV.1.ext (jnQ V).drew,hV.2.1.ext (jnQ V).drew,hV.2.2.1.ext (jnQ V).drew,hV.2.2.2.drew⟩;clear hV HV f1 f2 f3;have SK1:=Hj (SKP.out V.drew t1 n HD2.out.1 HD2.out.2.1 ok1 l81 (by omega) hn HD2.out.2.2.2);obtain ⟨ri1,hri1⟩:∃ x,x=t1.s.ri:=⟨_,rfl⟩;rw [<-hri1] at FF B1 B2 B3;rcases ri1 with _ | _
       ·have q1:=Hj (T1.out _ (B1 (.inl rfl)) (by show (5:Int)≠0;decide));clear B1 B2 B3 T1 T2 SK1 hri1;refine qgE [0,1,2,3,4,5,6,7,8,9,10,11,12,13,14,15] [] ?_;repeat ((first | refine qR _ (fun w' e=>FF.out w' e) ?_ | refine qS ?_);go_frame)
        refine jp ?_;generalize V.drew=U at *;clear FF;go_wp2_with fail;go_ret2;exact ⟨none,0,0,by rw [q1.out];rfl,by rw [q1.out];exact Own.nil _ _,by rw [q1.out];exact HD2.out.1,by rw [q1.out];exact HD2.out.2.1,HD2.out.2.2.2⟩
       by_cases hlt:n < t1.s.rm
       ·have d1:decide (n < t1.s.rm)=true:=decide_eq_true hlt;have q1:=Hj (T1.out _ (B1 (.inr hlt)) (by show (5:Int)≠0;decide));clear B1 B2 B3 T1 T2 SK1 hri1;refine qgE [0,1,2,3,4,5,6,7,8,9,10,11,12,13,14,15] [] ?_;repeat ((first | refine qR _ (fun w' e=>FF.out w' e) ?_ | refine qS ?_);go_frame)
        refine jp ?_;generalize V.drew=U at *;clear FF;go_wp2_with fail;go_ret2;exact ⟨none,0,0,by rw [q1.out];rfl,by rw [q1.out];exact Own.nil _ _,by rw [q1.out];exact HD2.out.1,by rw [q1.out];exact HD2.out.2.1,HD2.out.2.2.2⟩
       have d1:decide (n < t1.s.rm)=false:=decide_eq_false hlt;have nB: ¬(true=false\/n < t1.s.rm):=fun z=>by rcases z with z | z;exact absurd z (by decide);exact hlt z
       replace B2:=Hj (B2 nB);replace B3:=Hj (B3 nB);clear B1 hri1 nB;refine qgE [0,1,2,3,4,5,6,7,8,9,10,11,12,13,14,15] [] ?_;repeat ((first | refine qR _ (fun w' e=>FF.out w' e) ?_ | refine qS ?_);go_frame)
       refine jp ?_;generalize V.drew=U at *;have f3:=(FF.out U (jnQ _)).2.2;clear FF d1;go_wp2_with fail;refine SK1.out.mono ?_;rintro e u2 ⟨rfl,hS2,hK2,hO2⟩;have hO3:=HD2.out.2.2.2.trans hO2;have k62:=HD2.out.2.2.1.ot hO2 (by unfold P3;omega);clear SK1 f3 HD2 hO2;obtain ⟨se,hse⟩:∃ x,x=qO t1.s n:=⟨_,rfl⟩;rw [<-hse] at B2 B3 ⊢;by_cases he:se=0
       ·have q1:=Hj (T2.out _ (B3.out he) rfl);have ok2:=Rt.ok_skip (t:=t1) ok1 hn;have ST1:=Hj (STP.out u2 _ hS2 ok2 hO3);have LKm:(jM (jX t1 n).s.rc qd).length=32:=jR _ _;have OK1:Hid (opK t1 n=jM (jX t1 n).s.rc qd):=rfl;subst he;clear B2 B3 T1 T2 hse;obtain ⟨mk,hmk⟩:∃ x,x=jM (jX t1 n).s.rc qd:=⟨_,rfl⟩;rw [<-hmk] at ST1 LKm OK1;replace hmk:=Hj hmk;replace hK2:=Hj hK2;replace hO3:=Hj hO3;clear hS2 k62;go_wp2_with fail;refine ST1.out.mono ?_;rintro e u3 ⟨rfl,hS3,gr3⟩;have hO4:=hO3.out.trans (Ot.of_grown gr3 (.inl rfl));have hK3:=hK2.out.stay (gr3.block _ hK2.out.cb.lt (fun z=>nk (jpD z).symm)) (gr3.block _ hK2.out.mp.lt (fun z=>nm (jpD z).symm));have OP:=Hj (OPN.out u3 mk LKm hO4);replace hS3:=Hj hS3;replace hK3:=Hj hK3;replace hO4:=Hj hO4;clear ST1 hK2 hO3 gr3;go_wp2_with fail;refine OP.out.mono ?_;rintro e u4 ⟨A5,n5,c5,rfl,o5,x5⟩;replace o5:=Hj (o5.lower hO4.out.size);have F:=Hj (jqS (hS3.out.ext x5) (jqS (hK3.out.ext x5) (hO4.out.trans (Ot.of_ext x5))));clear OP hS3 hK3 hO4 x5;go_wp2_with fail;go_ret2;exact ⟨A5,n5,c5,by rw [q1.out,OK1.out];rfl,by rw [q1.out,OK1.out];exact o5.out,by rw [q1.out];exact F.out.1,by rw [q1.out];exact F.out.2.1,F.out.2.2⟩
       ·have q1:=Hj (T1.out _ (B2.out he) he);have hbn:(se !=0)=true:=bne_iff_ne.2 he;have es:jX t1 n=t1:=(yu t1 n).1 (by rw [<-hse];exact he);rw [es] at hS2 hK2;have F:=Hj (jqS hS2 (jqS hK2 hO3));clear B2 B3 T1 T2 hS2 hK2 hO3 k62 es hse;go_wp2_with fail;go_ret2;exact ⟨none,0,0,by rw [q1.out];rfl,by rw [q1.out];exact Own.nil _ _,by rw [q1.out];exact F.out.1,by rw [q1.out];exact F.out.2.1,F.out.2.2⟩
      ·have q1:=Hj (E2.out (by rw [HA.out];exact he));rw [HA.out] at q1;have hbn:(fe !=0)=true:=bne_iff_ne.2 he;have F:=Hj (jqS hS2 (jqS hK2 hO2));clear hS2 hK2 k62 hO2 E2 E3 HA hfe;go_wp2_with fail;go_ret2;exact ⟨none,0,0,by rw [q1.out];rfl,by rw [q1.out];exact Own.nil _ _,by rw [q1.out];exact F.out.1,by rw [q1.out];exact F.out.2.1,F.out.2.2⟩
     ·have q1:=Hj (E2.out (by rw [A2.out hs];exact hs));rw [A2.out hs] at q1;have hbn:(se !=0)=true:=bne_iff_ne.2 hs;have es:jX t prev=t:=(yu t prev).1 (by rw [<-hse];exact hs);rw [es] at hS3 hK3;have F:=Hj (jqS hS3 (jqS hK3 hO4));clear hS3 hK3 hO4 k63 E2 E3 A2 A3 es hse;go_wp2_with fail;go_ret2;exact ⟨none,0,0,by rw [q1.out];rfl,by rw [q1.out];exact Own.nil _ _,by rw [q1.out];exact F.out.1,by rw [q1.out];exact F.out.2.1,F.out.2.2⟩
    ·have HA:=Hj (A4.out HN.out hc);have ok2:=ok;have l82:=l8;have hp2:t.puts<=1000000100:=by omega
     clear A1 A2 A3 A4;obtain ⟨rib,hrib⟩:∃ x,x=t.s.ri:=⟨_,rfl⟩;rw [<-hrib] at FG hc;rcases rib with _ | _
     ·clear hc hrib;refine qgE [0,1,2,3,4,5,6,7,8,9,10,11,12,13,14] [] ?_;repeat ((first | refine qR _ (fun w' e=>FG.out w' e) ?_ | refine qS ?_);go_frame)
      refine jp ?_;generalize V.drew=V at *;clear FG;go_upto_region 10 with fail;generalize opA t pk prev=oa at HA E2 E3;generalize ht2:t=t2 at HA HV ok2 l82 hp2;have f0:Hid (∀ j v,(cellsOf pk)[j]? =some v->V.cell? ⟨r,0+j,none⟩=some v):=HV.out.2.2.1.mid (hd0.out ()) rfl;have FO:=Hj (FOL.out V t2.s HV.out.1 ok2 HV.out.2.2.2);clear FOL;go_wp2_with (first | ((with_reducible refine jI (o:=⟨some 75,_,_,_,_,_⟩) (ty:=23) (g:=r) (off:=0) (ys:=cellsOf pk) ?_ rfl ?_ ?_ jqD ?_ ?_ ?_);(·rfl);(·rfl);(·exact f0.out);(·rfl);(·rw [C_pk];rfl);go_frame))
      refine FO.out.mono ?_;rintro e V2 ⟨rfl,hS2,gr2⟩;have hK2:=HV.out.2.1.stay (gr2.block _ HV.out.2.1.cb.lt (fun z=>nk (jpD z).symm)) (gr2.block _ HV.out.2.1.mp.lt (fun z=>nm (jpD z).symm));have k62:=HV.out.2.2.1.ot (Ot.of_grown (p:=P3 g kp mb) gr2 (.inl rfl)) (by unfold P3;omega);have hO2:=HV.out.2.2.2.trans (Ot.of_grown gr2 (.inl rfl));clear FO HV f0 gr2;obtain ⟨fe,hfe⟩:∃ x,x=YG t2.s pk:=⟨_,rfl⟩;rw [<-hfe] at HA ⊢;by_cases he:fe=0
      ·have HT:=Hj (E3.out (by rw [HA.out];exact he));rw [HA.out] at HT;have okf:=Rt.ok_fol ok2 lp;subst he;obtain ⟨t1,ht1⟩:∃ x:Rz,x=⟨za t2.s pk,t2.L,t2.puts⟩:=⟨_,rfl⟩;rw [<-ht1] at HT;have ok1:t1.s.ok:=by rw [ht1];exact okf
       have l81:t1.L.length<=8:=by rw [ht1];exact l82
       have hp1:t1.puts<=1000000100:=by rw [ht1];exact hp2
       have HV:Hid (Sq V2 g 114 t1.s kp q/\SK V2 kp mb t1.L t1.puts/\Cb V2 r 47 HD/\Ot (P3 g kp mb) w V2):=by rw [ht1];exact ⟨hS2,hK2,k62,hO2⟩
       clear hS2 hK2 k62 hO2 E2 E3 HA hfe okf ht1 ok2 l82 hp2;go_upto_region 13 with fail;generalize V2=V at *;have hV:=HV.out;obtain ⟨B1,B2,B3⟩:=jnA t1 n;have T1:Hid (∀ x:Rz×Int,opB t1 n=x->x.2≠0->RES=(x.1,[],x.2)):=fun x e z=>by rw [HT.out];unfold zj;rw [e,if_pos z]
       have T2:Hid (∀ x:Rz×Int,opB t1 n=x->x.2=0->RES=(x.1,J5 (opK t1 n) data body,J4 (opK t1 n) data body)):=fun x e z=>by rw [HT.out];unfold zj;rw [e,if_neg (fun q=>q z)]
       have f1:=hV.1.ri ok1;have f2:=hV.1.rm ok1;have f3:=hV.2.2.1.cell hd33.out;have FF:Hid (∀ u,Ext V.drew u->u.cell? ⟨g,165,none⟩=some (.bool t1.s.ri)/\u.cell? ⟨g,198,none⟩=some (.int .i64 t1.s.rm)/\u.cell? ⟨r,33,none⟩=some (.int .i64 n)):=fun u x=>⟨(hV.1.ext ((jnQ V).drew.trans x)).ri ok1,(hV.1.ext ((jnQ V).drew.trans x)).rm ok1,(hV.2.2.1.ext ((jnQ V).drew.trans x)).cell hd33.out⟩
       have HD2:Hid (Sq V.drew g 114 t1.s kp q/\SK V.drew kp mb t1.L t1.puts/\Cb V.drew r 47 HD/\Ot (P3 g kp mb) w V.drew):=⟨hV.1.ext (jnQ V).drew,hV.2.1.ext (jnQ V).drew,hV.2.2.1.ext (jnQ V).drew,hV.2.2.2.drew⟩;clear hV HV f1 f2 f3;have SK1:=Hj (SKP.out V.drew t1 n HD2.out.1 HD2.out.2.1 ok1 l81 (by omega) hn HD2.out.2.2.2);obtain ⟨ri1,hri1⟩:∃ x,x=t1.s.ri:=⟨_,rfl⟩;rw [<-hri1] at FF B1 B2 B3;rcases ri1 with _ | _
       ·have q1:=Hj (T1.out _ (B1 (.inl rfl)) (by show (5:Int)≠0;decide));clear B1 B2 B3 T1 T2 SK1 hri1;refine qgE [0,1,2,3,4,5,6,7,8,9,10,11,12,13,14,15] [] ?_;repeat ((first | refine qR _ (fun w' e=>FF.out w' e) ?_ | refine qS ?_);go_frame)
        refine jp ?_;generalize V.drew=U at *;clear FF;go_wp2_with fail;go_ret2;exact ⟨none,0,0,by rw [q1.out];rfl,by rw [q1.out];exact Own.nil _ _,by rw [q1.out];exact HD2.out.1,by rw [q1.out];exact HD2.out.2.1,HD2.out.2.2.2⟩
       by_cases hlt:n < t1.s.rm
       ·have d1:decide (n < t1.s.rm)=true:=decide_eq_true hlt;have q1:=Hj (T1.out _ (B1 (.inr hlt)) (by show (5:Int)≠0;decide));clear B1 B2 B3 T1 T2 SK1 hri1;refine qgE [0,1,2,3,4,5,6,7,8,9,10,11,12,13,14,15] [] ?_;repeat ((first | refine qR _ (fun w' e=>FF.out w' e) ?_ | refine qS ?_);go_frame)
        refine jp ?_;generalize V.drew=U at *;clear FF;go_wp2_with fail;go_ret2;exact ⟨none,0,0,by rw [q1.out];rfl,by rw [q1.out];exact Own.nil _ _,by rw [q1.out];exact HD2.out.1,by rw [q1.out];exact HD2.out.2.1,HD2.out.2.2.2⟩
       have d1:decide (n < t1.s.rm)=false:=decide_eq_false hlt;have nB: ¬(true=false\/n < t1.s.rm):=fun z=>by rcases z with z | z;exact absurd z (by decide);exact hlt z
       replace B2:=Hj (B2 nB);replace B3:=Hj (B3 nB);clear B1 hri1 nB;refine qgE [0,1,2,3,4,5,6,7,8,9,10,11,12,13,14,15] [] ?_;repeat ((first | refine qR _ (fun w' e=>FF.out w' e) ?_ | refine qS ?_);go_frame)
       refine jp ?_;generalize V.drew=U at *;have f3:=(FF.out U (jnQ _)).2.2;clear FF d1;go_wp2_with fail;refine SK1.out.mono ?_;rintro e u2 ⟨rfl,hS2,hK2,hO2⟩;have hO3:=HD2.out.2.2.2.trans hO2;have k62:=HD2.out.2.2.1.ot hO2 (by unfold P3;omega);clear SK1 f3 HD2 hO2;obtain ⟨se,hse⟩:∃ x,x=qO t1.s n:=⟨_,rfl⟩;rw [<-hse] at B2 B3 ⊢;by_cases he:se=0
       ·have q1:=Hj (T2.out _ (B3.out he) rfl);have ok2:=Rt.ok_skip (t:=t1) ok1 hn;have ST1:=Hj (STP.out u2 _ hS2 ok2 hO3);have LKm:(jM (jX t1 n).s.rc qd).length=32:=jR _ _;have OK1:Hid (opK t1 n=jM (jX t1 n).s.rc qd):=rfl;subst he;clear B2 B3 T1 T2 hse;obtain ⟨mk,hmk⟩:∃ x,x=jM (jX t1 n).s.rc qd:=⟨_,rfl⟩;rw [<-hmk] at ST1 LKm OK1;replace hmk:=Hj hmk;replace hK2:=Hj hK2;replace hO3:=Hj hO3;clear hS2 k62;go_wp2_with fail;refine ST1.out.mono ?_;rintro e u3 ⟨rfl,hS3,gr3⟩;have hO4:=hO3.out.trans (Ot.of_grown gr3 (.inl rfl));have hK3:=hK2.out.stay (gr3.block _ hK2.out.cb.lt (fun z=>nk (jpD z).symm)) (gr3.block _ hK2.out.mp.lt (fun z=>nm (jpD z).symm));have OP:=Hj (OPN.out u3 mk LKm hO4);replace hS3:=Hj hS3;replace hK3:=Hj hK3;replace hO4:=Hj hO4;clear ST1 hK2 hO3 gr3;go_wp2_with fail;refine OP.out.mono ?_;rintro e u4 ⟨A5,n5,c5,rfl,o5,x5⟩;replace o5:=Hj (o5.lower hO4.out.size);have F:=Hj (jqS (hS3.out.ext x5) (jqS (hK3.out.ext x5) (hO4.out.trans (Ot.of_ext x5))));clear OP hS3 hK3 hO4 x5;go_wp2_with fail;go_ret2;exact ⟨A5,n5,c5,by rw [q1.out,OK1.out];rfl,by rw [q1.out,OK1.out];exact o5.out,by rw [q1.out];exact F.out.1,by rw [q1.out];exact F.out.2.1,F.out.2.2⟩
       ·have q1:=Hj (T1.out _ (B2.out he) he);have hbn:(se !=0)=true:=bne_iff_ne.2 he;have es:jX t1 n=t1:=(yu t1 n).1 (by rw [<-hse];exact he);rw [es] at hS2 hK2;have F:=Hj (jqS hS2 (jqS hK2 hO3));clear B2 B3 T1 T2 hS2 hK2 hO3 k62 es hse;go_wp2_with fail;go_ret2;exact ⟨none,0,0,by rw [q1.out];rfl,by rw [q1.out];exact Own.nil _ _,by rw [q1.out];exact F.out.1,by rw [q1.out];exact F.out.2.1,F.out.2.2⟩
      ·have q1:=Hj (E2.out (by rw [HA.out];exact he));rw [HA.out] at q1;have hbn:(fe !=0)=true:=bne_iff_ne.2 he;have F:=Hj (jqS hS2 (jqS hK2 hO2));clear hS2 hK2 k62 hO2 E2 E3 HA hfe;go_wp2_with fail;go_ret2;exact ⟨none,0,0,by rw [q1.out];rfl,by rw [q1.out];exact Own.nil _ _,by rw [q1.out];exact F.out.1,by rw [q1.out];exact F.out.2.1,F.out.2.2⟩
     ·have d2:decide (t.s.rm < prev)=false:=decide_eq_false (fun z=>hc ⟨rfl,z⟩);clear hc hrib;refine qgE [0,1,2,3,4,5,6,7,8,9,10,11,12,13,14] [] ?_;repeat ((first | refine qR _ (fun w' e=>FG.out w' e) ?_ | refine qS ?_);go_frame)
      refine jp ?_;generalize V.drew=V at *;clear FG d2;go_upto_region 10 with fail;generalize opA t pk prev=oa at HA E2 E3;generalize ht2:t=t2 at HA HV ok2 l82 hp2;have f0:Hid (∀ j v,(cellsOf pk)[j]? =some v->V.cell? ⟨r,0+j,none⟩=some v):=HV.out.2.2.1.mid (hd0.out ()) rfl;have FO:=Hj (FOL.out V t2.s HV.out.1 ok2 HV.out.2.2.2);clear FOL;go_wp2_with (first | ((with_reducible refine jI (o:=⟨some 75,_,_,_,_,_⟩) (ty:=23) (g:=r) (off:=0) (ys:=cellsOf pk) ?_ rfl ?_ ?_ jqD ?_ ?_ ?_);(·rfl);(·rfl);(·exact f0.out);(·rfl);(·rw [C_pk];rfl);go_frame))
      refine FO.out.mono ?_;rintro e V2 ⟨rfl,hS2,gr2⟩;have hK2:=HV.out.2.1.stay (gr2.block _ HV.out.2.1.cb.lt (fun z=>nk (jpD z).symm)) (gr2.block _ HV.out.2.1.mp.lt (fun z=>nm (jpD z).symm));have k62:=HV.out.2.2.1.ot (Ot.of_grown (p:=P3 g kp mb) gr2 (.inl rfl)) (by unfold P3;omega);have hO2:=HV.out.2.2.2.trans (Ot.of_grown gr2 (.inl rfl));clear FO HV f0 gr2;obtain ⟨fe,hfe⟩:∃ x,x=YG t2.s pk:=⟨_,rfl⟩;rw [<-hfe] at HA ⊢;by_cases he:fe=0
      ·have HT:=Hj (E3.out (by rw [HA.out];exact he));rw [HA.out] at HT;have okf:=Rt.ok_fol ok2 lp;subst he;obtain ⟨t1,ht1⟩:∃ x:Rz,x=⟨za t2.s pk,t2.L,t2.puts⟩:=⟨_,rfl⟩;rw [<-ht1] at HT;have ok1:t1.s.ok:=by rw [ht1];exact okf
       have l81:t1.L.length<=8:=by rw [ht1];exact l82
       have hp1:t1.puts<=1000000100:=by rw [ht1];exact hp2
       have HV:Hid (Sq V2 g 114 t1.s kp q/\SK V2 kp mb t1.L t1.puts/\Cb V2 r 47 HD/\Ot (P3 g kp mb) w V2):=by rw [ht1];exact ⟨hS2,hK2,k62,hO2⟩
       clear hS2 hK2 k62 hO2 E2 E3 HA hfe okf ht1 ok2 l82 hp2;go_upto_region 13 with fail;generalize V2=V at *;have hV:=HV.out;obtain ⟨B1,B2,B3⟩:=jnA t1 n;have T1:Hid (∀ x:Rz×Int,opB t1 n=x->x.2≠0->RES=(x.1,[],x.2)):=fun x e z=>by rw [HT.out];unfold zj;rw [e,if_pos z]
       have T2:Hid (∀ x:Rz×Int,opB t1 n=x->x.2=0->RES=(x.1,J5 (opK t1 n) data body,J4 (opK t1 n) data body)):=fun x e z=>by rw [HT.out];unfold zj;rw [e,if_neg (fun q=>q z)]
       have f1:=hV.1.ri ok1;have f2:=hV.1.rm ok1;have f3:=hV.2.2.1.cell hd33.out;have FF:Hid (∀ u,Ext V.drew u->u.cell? ⟨g,165,none⟩=some (.bool t1.s.ri)/\u.cell? ⟨g,198,none⟩=some (.int .i64 t1.s.rm)/\u.cell? ⟨r,33,none⟩=some (.int .i64 n)):=fun u x=>⟨(hV.1.ext ((jnQ V).drew.trans x)).ri ok1,(hV.1.ext ((jnQ V).drew.trans x)).rm ok1,(hV.2.2.1.ext ((jnQ V).drew.trans x)).cell hd33.out⟩
       have HD2:Hid (Sq V.drew g 114 t1.s kp q/\SK V.drew kp mb t1.L t1.puts/\Cb V.drew r 47 HD/\Ot (P3 g kp mb) w V.drew):=⟨hV.1.ext (jnQ V).drew,hV.2.1.ext (jnQ V).drew,hV.2.2.1.ext (jnQ V).drew,hV.2.2.2.drew⟩;clear hV HV f1 f2 f3;have SK1:=Hj (SKP.out V.drew t1 n HD2.out.1 HD2.out.2.1 ok1 l81 (by omega) hn HD2.out.2.2.2);obtain ⟨ri1,hri1⟩:∃ x,x=t1.s.ri:=⟨_,rfl⟩;rw [<-hri1] at FF B1 B2 B3;rcases ri1 with _ | _
       ·have q1:=Hj (T1.out _ (B1 (.inl rfl)) (by show (5:Int)≠0;decide));clear B1 B2 B3 T1 T2 SK1 hri1;refine qgE [0,1,2,3,4,5,6,7,8,9,10,11,12,13,14,15] [] ?_;repeat ((first | refine qR _ (fun w' e=>FF.out w' e) ?_ | refine qS ?_);go_frame)
        refine jp ?_;generalize V.drew=U at *;clear FF;go_wp2_with fail;go_ret2;exact ⟨none,0,0,by rw [q1.out];rfl,by rw [q1.out];exact Own.nil _ _,by rw [q1.out];exact HD2.out.1,by rw [q1.out];exact HD2.out.2.1,HD2.out.2.2.2⟩
       by_cases hlt:n < t1.s.rm
       ·have d1:decide (n < t1.s.rm)=true:=decide_eq_true hlt;have q1:=Hj (T1.out _ (B1 (.inr hlt)) (by show (5:Int)≠0;decide));clear B1 B2 B3 T1 T2 SK1 hri1;refine qgE [0,1,2,3,4,5,6,7,8,9,10,11,12,13,14,15] [] ?_;repeat ((first | refine qR _ (fun w' e=>FF.out w' e) ?_ | refine qS ?_);go_frame)
        refine jp ?_;generalize V.drew=U at *;clear FF;go_wp2_with fail;go_ret2;exact ⟨none,0,0,by rw [q1.out];rfl,by rw [q1.out];exact Own.nil _ _,by rw [q1.out];exact HD2.out.1,by rw [q1.out];exact HD2.out.2.1,HD2.out.2.2.2⟩
       have d1:decide (n < t1.s.rm)=false:=decide_eq_false hlt;have nB: ¬(true=false\/n < t1.s.rm):=fun z=>by rcases z with z | z;exact absurd z (by decide);exact hlt z
       replace B2:=Hj (B2 nB);replace B3:=Hj (B3 nB);clear B1 hri1 nB;refine qgE [0,1,2,3,4,5,6,7,8,9,10,11,12,13,14,15] [] ?_;repeat ((first | refine qR _ (fun w' e=>FF.out w' e) ?_ | refine qS ?_);go_frame)
       refine jp ?_;generalize V.drew=U at *;have f3:=(FF.out U (jnQ _)).2.2;clear FF d1;go_wp2_with fail;refine SK1.out.mono ?_;rintro e u2 ⟨rfl,hS2,hK2,hO2⟩;have hO3:=HD2.out.2.2.2.trans hO2;have k62:=HD2.out.2.2.1.ot hO2 (by unfold P3;omega);clear SK1 f3 HD2 hO2;obtain ⟨se,hse⟩:∃ x,x=qO t1.s n:=⟨_,rfl⟩;rw [<-hse] at B2 B3 ⊢;by_cases he:se=0
       ·have q1:=Hj (T2.out _ (B3.out he) rfl);have ok2:=Rt.ok_skip (t:=t1) ok1 hn;have ST1:=Hj (STP.out u2 _ hS2 ok2 hO3);have LKm:(jM (jX t1 n).s.rc qd).length=32:=jR _ _;have OK1:Hid (opK t1 n=jM (jX t1 n).s.rc qd):=rfl;subst he;clear B2 B3 T1 T2 hse;obtain ⟨mk,hmk⟩:∃ x,x=jM (jX t1 n).s.rc qd:=⟨_,rfl⟩;rw [<-hmk] at ST1 LKm OK1;replace hmk:=Hj hmk;replace hK2:=Hj hK2;replace hO3:=Hj hO3;clear hS2 k62;go_wp2_with fail;refine ST1.out.mono ?_;rintro e u3 ⟨rfl,hS3,gr3⟩;have hO4:=hO3.out.trans (Ot.of_grown gr3 (.inl rfl));have hK3:=hK2.out.stay (gr3.block _ hK2.out.cb.lt (fun z=>nk (jpD z).symm)) (gr3.block _ hK2.out.mp.lt (fun z=>nm (jpD z).symm));have OP:=Hj (OPN.out u3 mk LKm hO4);replace hS3:=Hj hS3;replace hK3:=Hj hK3;replace hO4:=Hj hO4;clear ST1 hK2 hO3 gr3;go_wp2_with fail;refine OP.out.mono ?_;rintro e u4 ⟨A5,n5,c5,rfl,o5,x5⟩;replace o5:=Hj (o5.lower hO4.out.size);have F:=Hj (jqS (hS3.out.ext x5) (jqS (hK3.out.ext x5) (hO4.out.trans (Ot.of_ext x5))));clear OP hS3 hK3 hO4 x5;go_wp2_with fail;go_ret2;exact ⟨A5,n5,c5,by rw [q1.out,OK1.out];rfl,by rw [q1.out,OK1.out];exact o5.out,by rw [q1.out];exact F.out.1,by rw [q1.out];exact F.out.2.1,F.out.2.2⟩
       ·have q1:=Hj (T1.out _ (B2.out he) he);have hbn:(se !=0)=true:=bne_iff_ne.2 he;have es:jX t1 n=t1:=(yu t1 n).1 (by rw [<-hse];exact he);rw [es] at hS2 hK2;have F:=Hj (jqS hS2 (jqS hK2 hO3));clear B2 B3 T1 T2 hS2 hK2 hO3 k62 es hse;go_wp2_with fail;go_ret2;exact ⟨none,0,0,by rw [q1.out];rfl,by rw [q1.out];exact Own.nil _ _,by rw [q1.out];exact F.out.1,by rw [q1.out];exact F.out.2.1,F.out.2.2⟩
      ·have q1:=Hj (E2.out (by rw [HA.out];exact he));rw [HA.out] at q1;have hbn:(fe !=0)=true:=bne_iff_ne.2 he;have F:=Hj (jqS hS2 (jqS hK2 hO2));clear hS2 hK2 k62 hO2 E2 E3 HA hfe;go_wp2_with fail;go_ret2;exact ⟨none,0,0,by rw [q1.out];rfl,by rw [q1.out];exact Own.nil _ _,by rw [q1.out];exact F.out.1,by rw [q1.out];exact F.out.2.1,F.out.2.2⟩
  ·have q1:=Hj (E1.out rfl);have OP:=Hj (OPN.out wc kk lkk hO);replace k10:=Hj k10;have P1:=Hj (jqS hS (jqS hK hO));clear E1 E2 E3 A1 A2 A3 A4 nO hS hK k6 hO;go_wp2_with (first | ((with_reducible refine js (o:=⟨some 29,_,_,_,_,_⟩) ?_ 23 _ rfl g10 ?_ 23 (cellsOf kk).toArray (0,0) _ ?_ jqD ?_ ?_ ?_);(·rfl);(·rfl);(·exact k10.out);(·rfl);(·rw [S_kk];rfl);go_frame))
   refine OP.out.mono ?_;rintro e u4 ⟨A5,n5,c5,rfl,o5,x5⟩;replace o5:=Hj (o5.lower P1.out.2.2.size);have F:=Hj (jqS (P1.out.1.ext x5) (jqS (P1.out.2.1.ext x5) (P1.out.2.2.trans (Ot.of_ext x5))));clear OP P1 x5;go_wp2_with fail;go_ret2;exact ⟨A5,n5,c5,by rw [q1.out];rfl,by rw [q1.out];exact o5.out,by rw [q1.out];exact F.out.1,by rw [q1.out];exact F.out.2.1,F.out.2.2⟩
structure SS (w:World) (sg kp mb gs:Nat) (t:Rz):Prop where
 sq:Sq w sg 116 t.s kp [.pointer (some ⟨gs,0,none⟩)]
 sk:SK w kp mb t.L t.puts
 ok:t.s.ok
 l8:t.L.length<=8
section
variable {w w':World}{sg kp mb gs:Nat}{t:Rz}
theorem SS.ext (h:SS w sg kp mb gs t) (e:Ext w w'):SS w' sg kp mb gs t:=⟨h.sq.ext e,h.sk.ext e,h.ok,h.l8⟩
theorem SS.stay (h:SS w sg kp mb gs t) (h1:w'.heap[sg]? =w.heap[sg]?) (h2:w'.heap[kp]? =w.heap[kp]?) (h3:w'.heap[mb]? =w.heap[mb]?):SS w' sg kp mb gs t:=⟨h.sq.keep h1,h.sk.stay h2 h3,h.ok,h.l8⟩
theorem SS.ne (h:SS w sg kp mb gs t):sg≠kp/\sg≠mb:=by
 have hs:=h.sq;refine ⟨zt hs h.sk.cb (by decide),fun e=> ?_⟩;obtain ⟨es,c,z⟩:=h.sk.mp.obj;unfold Sq Cb at hs;rw [e,z] at hs
 cases hs
theorem SS.sl (h:SS w sg kp mb gs t):sg < w.heap.size:=h.sq.lt
theorem SS.kl (h:SS w sg kp mb gs t):kp < w.heap.size:=h.sk.cb.lt
theorem SS.ml (h:SS w sg kp mb gs t):mb < w.heap.size:=h.sk.mp.lt
end
def zT:List Value:=cellsOf (jqn 32 0)++(cellsOf (jqn 64 0)++([.bool false]++(cellsOf (jqn 32 0)++([.bool false, .bool false]++(cellsOf (jqn 32 0)++([.int .i64 0, .int .i64 0, .bool false]++(cellsOf (jqn 32 0)++ [.int .i64 0, .pointer none])))))))
theorem jcP:zT.length=200:=by simp [zT,ja]
theorem JC (w:World):(jpI 114).run jpx w= .ok (.agg zT.toArray) w:=by kernel_rfl
theorem Sq.all (w:World) (g:Nat){T:jpC}{s:Rt}{kp:Nat}{q:List Value}(h:Sq w g T s kp q):∀ j v,(s.C kp)[j]? =some v->w.cell? ⟨g,0+j,none⟩=some v:=Cb.mid (p:= []) (y:=s.C kp) (q:=q) h rfl rfl
theorem Sq.there0 {w:World}{g:Nat}{T:jpC}{s:Rt}{kp:Nat}{q:List Value}(h:Sq w g T s kp q) (ok:s.ok):w.there g 0 200:=Cb.there h (by rw [jpG,Rt.C_len ok];omega)
theorem Sq.put_all {w:World}{g:Nat}{T:jpC}{s s':Rt}{kp kp':Nat}{q:List Value}(h:Sq w g T s kp q) (ok:s.ok) (ok':s'.ok):Sq (w.setCells g 0 (s'.C kp')) g T s' kp' q:=Cb.put (p:= []) (y:=s.C kp) (q:=q) (z:=s'.C kp') h rfl rfl (by rw [Rt.C_len ok,Rt.C_len ok'])
theorem Sq.nil {w:World}{g:Nat}{T:jpC}{s:Rt}{kp:Nat}:Sq w g T s kp []↔Cb w g T (s.C kp):=by unfold Sq;rw [List.append_nil]
theorem Rt.C_size {s:Rt}(h:s.ok) (kp:Nat):(s.C kp).toArray.size=200:=by rw [jqu,Rt.C_len h]
theorem Rt.C_one (s:Rt) (kp:Nat):(s.C kp).toArray.all (·.oneCell')=true:=qC (s.one kp)
theorem jhY {t:Rz}(ok:t.s.ok) (l8:t.L.length<=8){pk:List UInt8}(lp:pk.length=32){prev n:Int}(hpr:0<=prev/\prev<=1000000) (hn:0<=n/\n<=1000000) (data body:List UInt8):
 (vZ t pk prev n data body).1.s.ok/\(vZ t pk prev n data body).1.L.length<=8/\(vZ t pk prev n data body).1.puts<=t.puts+16:=by
 obtain ⟨E1,E2,E3⟩:=QI t pk prev n data body;rcases hk:yZ t.L pk n with _ | _
 ·have hA:(opA t pk prev).1.s.ok/\(opA t pk prev).1.L.length<=8/\(opA t pk prev).1.puts<=t.puts+8:=by
   obtain ⟨A1,A2,A3,A4⟩:=jcu t pk prev;have sp:=jnD t prev;by_cases c1:t.s.ho=true/\pk=t.s.ot
   ·rw [A1 c1.1 c1.2];exact ⟨ok,l8,by dsimp only;omega⟩
   by_cases c2:t.s.ri=true/\t.s.rm < prev
   ·by_cases c3:qO t.s prev=0
    ·rw [A3 c1 c2.1 c2.2 c3];exact ⟨Rt.ok_fol (Rt.ok_skip ok hpr) lp,Z5 l8,sp.2⟩
    ·rw [A2 c1 c2.1 c2.2 c3];exact ⟨ok,l8,by dsimp only;omega⟩
   ·rw [A4 c1 c2];exact ⟨Rt.ok_fol ok lp,l8,by dsimp only;omega⟩
  by_cases h2:(opA t pk prev).2=0
  ·rw [E3 hk h2];generalize (opA t pk prev).1=t1 at *;obtain ⟨h3,h4,h5⟩:=hA;have hB:(opB t1 n).1.s.ok/\(opB t1 n).1.L.length<=8/\(opB t1 n).1.puts<=t1.puts+8:=by
    obtain ⟨B1,B2,B3⟩:=jnA t1 n;have sp:=jnD t1 n;by_cases c1:t1.s.ri=false\/n < t1.s.rm
    ·rw [B1 c1];exact ⟨h3,h4,by dsimp only;omega⟩
    by_cases c2:qO t1.s n=0
    ·rw [B3 c1 c2];have o:=Rt.ok_skip h3 hn;refine ⟨⟨o.root,o.own,o.ot,o.sc,jR _ _,o.sm,o.bf,?_⟩,Z5 h4,sp.2⟩;have e:(jX t1 n).s.rm=n:=by unfold jX;rw [if_pos c2]
     show 0<=(jX t1 n).s.rm+1/\(jX t1 n).s.rm+1<=4000000
     rw [e];omega
    ·rw [B2 c1 c2];exact ⟨h3,h4,by dsimp only;omega⟩
   unfold zj
   split
   ·exact ⟨hB.1,hB.2.1,by dsimp only;omega⟩
   ·exact ⟨hB.1,hB.2.1,by dsimp only;omega⟩
  ·rw [E2 hk h2];exact ⟨hA.1,hA.2.1,by dsimp only;omega⟩
 ·rw [E1 hk];refine ⟨ok,jp0 (List.length_filter_le _ _) l8,by dsimp only;omega⟩
theorem jip {t:Rz}(ok:t.s.ok) (l8:t.L.length<=8){bs pk:List UInt8}(lp:pk.length=32) (prev n:Int) (body:List UInt8):
 (zf t bs pk prev n body).s.ok/\(zf t bs pk prev n body).L.length<=8/\(zf t bs pk prev n body).puts<=t.puts+16:=by
 unfold zf
 split
 ·rename_i h
  unfold yt at h
  split at h
  ·rename_i hk
   obtain ⟨a,b,rfl,rfl,h1,h2⟩:=QH hk;exact jhY ok l8 lp (by omega) (by omega) _ _
  ·cases h
 ·exact ⟨ok,l8,by omega⟩
theorem jc1 {w:World}{A:Option Addr}{m c:Nat}{bs pk:List UInt8}{p n:Int}(h:Bs w A m c bs) (hm:m<=1000000) (lp:pk.length=32):
 Calls jpx 45 #[.slice A m c, .agg (hdC pk p n).toArray] w (JJ (yF bs pk p n) (jo4 p n) w):=by
 have L_h:=yz lp p n;rcases hk:okH p n with _ | _
 ·have HB:Hid (∀ W,Calls jpx 78 #[.agg (hdC pk p n).toArray] W fun e w'=>e= .returned (.tuple #[.slice none 0 0, .int .i64 1])/\Ext W w'):=fun W=>Qc lp hk
  have F:yF bs pk p n= []/\jo4 p n=1:=by unfold yF jo4;rw [hk];exact ⟨rfl,rfl⟩
  rw [F.1,F.2];clear F hk;generalize hdC pk p n=hd at *;have S_h:hd.toArray.size=34:=by rw [jqu,L_h]
  obtain ⟨r,hr⟩:=ex_ w.heap.size;have B0:Hid (Cb (w.alloc (.cells hd.toArray 47)) r 47 hd/\Ext w (w.alloc (.cells hd.toArray 47))):=by rw [hr];exact ⟨Cb.new _ _ _,(jnQ w).alloc _⟩
  go_enter Tryz.func45,Tryz.ntmps45
  go_upto_region 1 with fail;refine jg (fun W=>Cb W r 47 hd/\Ext w W) B0.out ?_;rw [<-hr];clear B0;replace hr:=Hj hr;rintro w0 ⟨k0,x0⟩;replace k0:=Hj k0;replace x0:=Hj x0;go_wp2_with (first | ((with_reducible refine js (o:=⟨some 9,_,_,_,_,_⟩) ?_ 47 _ rfl r ?_ 47 hd.toArray (0,0) _ ?_ jrm ?_ ?_ ?_);(·rfl);(·rfl);(·exact k0.out);(·rfl);(·rw [S_h];rfl);go_frame))
  refine (HB.out _).mono ?_;rintro e w1 ⟨rfl,x1⟩;have F:=Hj (x0.out.trans x1);clear HB x0 k0 x1;go_wp2_with fail;go_ret2;exact ⟨none,0,0,rfl,Own.nil _ _,F.out⟩
 ·obtain ⟨a,b,rfl,rfl,ha,hb⟩:=QH hk;have HB:Hid (∀ W,Calls jpx 78 #[.agg (hdC pk (a:Int) (b:Int)).toArray] W (YP (zq pk a b) 0 W)):=fun W=>QF lp ha hb
  have F:yF bs pk a b=qz [bs,zq pk a b]/\jo4 a b=0:=by unfold yF jo4 qb;rw [hk];exact ⟨rfl,rfl⟩
  rw [F.1,F.2];clear F hk;have JL:(qz [bs,zq pk a b]).length<=100000000:=by rw [Zf,Zd lp,h.len];omega
  have JO:Hid (∀ (W:World) (C:Option Addr),Rw W C 2 2 [bs,zq pk a b]->Calls jpx 79 #[.slice C 2 2] W (YA (qz [bs,zq pk a b]) W)):=fun W C r=>jdc r JL
  clear JL;generalize zq pk (a:Nat) b=HL at *;generalize hdC pk (a:Int) (b:Int)=hd at *;have S_h:hd.toArray.size=34:=by rw [jqu,L_h]
  obtain ⟨r,hr⟩:=ex_ w.heap.size;have B0:Hid (Cb (w.alloc (.cells hd.toArray 47)) r 47 hd/\Ext w (w.alloc (.cells hd.toArray 47))):=by rw [hr];exact ⟨Cb.new _ _ _,(jnQ w).alloc _⟩
  replace h:=Hj h;go_enter Tryz.func45,Tryz.ntmps45
  go_upto_region 1 with fail;refine jg (fun W=>Cb W r 47 hd/\Ext w W) B0.out ?_;rw [<-hr];clear B0;replace hr:=Hj hr;rintro w0 ⟨k0,x0⟩;replace k0:=Hj k0;replace x0:=Hj x0;go_wp2_with (first | ((with_reducible refine js (o:=⟨some 9,_,_,_,_,_⟩) ?_ 47 _ rfl r ?_ 47 hd.toArray (0,0) _ ?_ jrm ?_ ?_ ?_);(·rfl);(·rfl);(·exact k0.out);(·rfl);(·rw [S_h];rfl);go_frame))
  refine (HB.out _).mono ?_;rintro e w1 ⟨A1,n1,c1,rfl,b1,x1⟩;have x2:=Hj (x0.out.trans x1);have R1:=Hj (jfT (t:=33) (h.out.ext x2.out) b1);have J1:=Hj (JO.out _ _ R1.out);have x3:=Hj (x2.out.alloc (.cells #[.slice A m c, .slice A1 n1 c1] 33));clear HB x0 k0 x1 b1 JO R1 x2;go_wp2_with fail;refine J1.out.mono ?_;rintro e w3 ⟨A3,n3,c3,rfl,b3,x4⟩;have F:=Hj (x3.out.trans x4);replace b3:=Hj (b3.lower (B':=w.heap.size) x3.out.size);clear J1 x3 x4;go_wp2_with fail;go_ret2;exact ⟨A3,n3,c3,rfl,b3.out,F.out⟩
def yH (s:Rt) (p bs text:List UInt8):List UInt8:=if qW s p text=0 then qA (jM (qN s p).sc qd) (qb bs (qN s p).pub (qN s p).bf (qN s p).sm) text else []
def yI (s:Rt) (p text:List UInt8):List Value:=if qW s p text=0 then hdC (qN s p).pub (qN s p).bf (qN s p).sm else hdC (jqn 32 0) 0 0
def yj (s:Rt) (p text:List UInt8):Rt:=if qW s p text=0 then jW (qN s p) else s
def yg (s:Rt) (text:List UInt8) (k:Nat):Nat:=if (s.si=false/\s.mt=false)\/300 < text.length\/s.mt=false then k else k+1
theorem Jp (w:World):(jpI 47).run jpx w= .ok (.agg (hdC (jqn 32 0) 0 0).toArray) w:=by kernel_rfl
theorem jeu:Tryz.prog.built 47 []=some (hdC (jqn 32 0) 0 0).toArray:=by kernel_rfl
theorem Jq {k:List UInt8}{p n:Int}(hk:k.length=32):Tryz.prog.built 47 [(0, .agg (cellsOf k).toArray),(1, .int .i64 p),(2, .int .i64 n)]=some (hdC k p n).toArray:=by
 have h:∃ pl:Nat->Option (Nat×Nat),(pl 0=some (0,32)/\pl 1=some (32,1)/\pl 2=some (33,1))/\∀ ps,Tryz.prog.built 47 ps=jqo pl (hdC (jqn 32 0) 0 0).toArray ps:=⟨(#[(0,32),(32,1),(33,1)][·]?),⟨rfl,rfl,rfl⟩,fun ps=>by kernel_rfl⟩;obtain ⟨pl,⟨h0,h1,h2⟩,hp⟩:=h;have hz:(cellsOf (jqn 32 0)).length=32:=by rw [ja,jrh]
 rw [hp];unfold hdC;generalize cellsOf (jqn 32 0)=Z at *;have lk:(cellsOf k).length=32:=by rw [ja,hk]
 rw [qK h0 (by simp [qo,lk]) (by simp [hz])];have e0:jp9 (Z++ [jpA .i64 0, .int .i64 0]) 0 (jqp (cellsOf k).toArray).cells.toList=cellsOf k++ [.int .i64 0, .int .i64 0]:=qB (p:= []) (y:=Z) rfl (by rw [hz];simp [qo,lk]);rw [e0,qK h1 rfl (by simp [lk])];have e1:jp9 (cellsOf k++ [jpA .i64 0, .int .i64 0]) 32 (jpA .i64 p).cells.toList=cellsOf k++([.int .i64 p]++ [.int .i64 0]):=qB (p:=cellsOf k) (y:= [jpA .i64 0]) (q:= [jpA .i64 0]) lk rfl;rw [e1,qK h2 rfl (by simp [lk])];have e2:jp9 (cellsOf k++([jpA .i64 p]++ [.int .i64 0])) 33 (jpA .i64 n).cells.toList=(cellsOf k++ [.int .i64 p])++([.int .i64 n]++ []):=by
  rw [<-jqd];exact qB (p:=cellsOf k++ [jpA .i64 p]) (y:= [jpA .i64 0]) (q:= []) (by simp [lk]) rfl
 rw [e2];simp [jqo]
theorem qG (w:World) (r:Nat) (C:Array Value):w.grownBy (w.setRow r C) (some r):=⟨rfl,rfl,rfl,by simp,fun i _ hne=>jqy _ _ _ _ (fun q=>hne (by rw [q]))⟩
theorem YZ {pk:List UInt8}{p n:Int}:(hdC pk p n).toArray.all (·.oneCell')=true:=qC fun v hv=>by
 rcases jpH.1 hv with q | q
 ·exact JT _ v q
 ·simp at q;rcases q with rfl | rfl <;> rfl
theorem SrcSt.cb {w:World}{lo g k:Nat}{xs:List UInt8}(h:SrcSt w lo g xs k):∃ L:List Value,Cb w g 143 L:=by
 rcases h.2 with ⟨A,n,c,rt,h,_,_⟩ | h
 ·exact ⟨_,h.1⟩
 ·exact ⟨_,h.1⟩
theorem SrcSt.ne_sk {w:World}{lo g k kp mb:Nat}{xs:List UInt8}{L:List Ke}{p:Int}(h:SrcSt w lo g xs k) (k':SK w kp mb L p):g≠kp/\g≠mb:=by
 obtain ⟨L',hL⟩:=h.cb;refine ⟨zt hL k'.cb (by decide),fun e=> ?_⟩;obtain ⟨es,c,z⟩:=k'.mp.obj;unfold Cb at hL;rw [e,z] at hL
 cases hL
theorem Rt.pub_len {s:Rt}(ok:s.ok):s.pub.length=32:=by unfold Rt.pub;rw [List.length_drop,ok.own]
theorem Sq.at_pub {w:World}{g:Nat}{T:jpC}{s:Rt}{kp:Nat}{q:List Value}(h:Sq w g T s kp q) (ok:s.ok):∀ j v,(cellsOf s.pub)[j]? =some v->w.cell? ⟨g,64+j,none⟩=some v:=by
 have e:s.C kp++q=(s.P_own++cellsOf (s.own.take 32))++(cellsOf s.pub++s.R_own kp q):=by
  rw [s.C_own,jqd,<-jqd (cellsOf (s.own.take 32)),<-Yr];unfold Rt.pub;rw [List.take_append_drop]
 exact Cb.mid h e (by rw [jpG,Rt.L_own ok,ja,jps,ok.own];rfl)
theorem Sq.last {w:World}{g:Nat}{T:jpC}{s:Rt}{kp:Nat}{v:Value}(h:Sq w g T s kp [v]) (ok:s.ok):w.cell? ⟨g,200,none⟩=some v:=Cb.cell h (by
 rw [jqr (by rw [Rt.C_len ok];omega),Rt.C_len ok];rfl)
theorem jdP {s:Rt}(ok:s.ok){p:List UInt8}(lp:p.length=64):(qN s p).ok:=by
 unfold qN
 split
 ·exact Rt.ok_turn ok lp
 ·exact ok
theorem jiz {s:Rt}(ok:s.ok){p:List UInt8}(lp:p.length=64) (text:List UInt8):(yj s p text).ok:=by
 unfold yj
 split
 ·rename_i h
  have o:=jdP ok lp;have hk:okH (qN s p).bf (qN s p).sm=true:=by
   unfold qW at h
   split at h
   ·cases h
   ·split at h
    ·cases h
    ·split at h
     ·rename_i z;exact absurd h z.2
     ·split at h
      ·rename_i z;exact z
      ·cases h
  obtain ⟨a,b,e1,e2,h1,h2⟩:=QH hk;refine ⟨o.root,o.own,o.ot,jR _ _,o.rc,?_,o.bf,o.rm⟩
  show 0<=(qN s p).sm+1/\(qN s p).sm+1<=4000000
  omega
 ·exact ok
theorem jdK {w:World}{sg kp mb gs lo k:Nat}{t:Rz}{A B:Option Addr}{m1 c1 m2 c2:Nat}{bs text xs:List UInt8}(h:SS w sg kp mb gs t) (hs:SrcSt w lo gs xs k) (hk:k < 1000000) (hgs:gs < sg) (hm1:m1<=900000)
 {tg tp:jpC×Nat×Nat} (hG:Gl w tg) (hP:Gp w tp) (hq:1 < lo) (hM:∀ u,Two sg gs w u->Bs u A m1 c1 bs/\Bs u B m2 c2 text):
 Calls jpx 21 #[.pointer (some ⟨sg,0,none⟩), .slice A m1 c1, .slice B m2 c2] w fun e w'=>∃ A' n' c',e= .returned (.tuple #[.agg (yI t.s (j3 (jO xs k)) text).toArray, .slice A' n' c', .int .i64 (qW t.s (j3 (jO xs k)) text)])/\Own w.heap.size w' A' n' c' (yH t.s (j3 (jO xs k)) bs text)/\SS w' sg kp mb gs ⟨yj t.s (j3 (jO xs k)) text,t.L,t.puts⟩/\SrcSt w' lo gs xs (yg t.s text k)/\Two sg gs w w':=by
 have hlo:=hs.1;obtain ⟨nk,nm⟩:=h.ne;obtain ⟨ngk,ngm⟩:=hs.ne_sk h.sk;have sl:=h.sl;have kl:=h.kl;have ml:=h.ml;have gl:=hG.lt;have pl:=hP.lt;have ok:=h.ok;have l8:=h.l8;have hsl:=hs.lt;have lb:=(hM w (Two.refl _ _ _)).1.len;have lt_:=(hM w (Two.refl _ _ _)).2.len;have lt2:=(hM w (Two.refl _ _ _)).2.le;have lt3:=(hM w (Two.refl _ _ _)).2.cap;obtain ⟨p,hp⟩:=ex_ (j3 (jO xs k));have L_p:p.length=64:=by rw [hp];exact yU _
 have TRN:Hid (∀ (W:World) (g:Nat),Sq W g 114 t.s kp []->SrcSt W lo gs xs k->gs < g->Gl W tg->Gp W tp->Calls jpx 44 #[.pointer (some ⟨g,0,none⟩), .pointer (some ⟨gs,0,none⟩)] W fun e w'=>e= .returned (.int .i64 (qh t.s p))/\Sq w' g 114 (qg t.s p) kp []/\SrcSt w' lo gs xs (k+1)/\Two g gs W w'):=fun W g z1 z2 z3 z4 z5=>by
  rw [hp];exact ZO z1 ok z2 hk z3 z4 z5 hq
 rw [<-hp];clear hp;have GG:Hid (∀ u,Two sg gs w u->Gl u tg/\Gp u tp):=fun u x=>⟨x.block hG (by omega) (by omega),x.block hP (by omega) (by omega)⟩
 have DAT:Hid (∀ (W:World) (pk:List UInt8) (a b:Int),pk.length=32->Two sg gs w W->Calls jpx 45 #[.slice A m1 c1, .agg (hdC pk a b).toArray] W (JJ (yF bs pk a b) (jo4 a b) W)):=fun W pk a b lk z=>jc1 (hM W z).1 (by omega) lk
 have CLO:Hid (∀ (W:World) (ks:List UInt8) (A1:Option Addr) (n1 d1:Nat) (dl:List UInt8),ks.length=32->Two sg gs w W->Bs W A1 n1 d1 dl->n1<=1000000->m2<=1000000->Calls jpx 47 #[.agg (cellsOf ks).toArray, .slice A1 n1 d1, .slice B m2 c2] W (YA (qA ks dl text) W)):=fun W ks A1 n1 d1 dl z1 z2 z3 z4 z5=>jc0 z1 z3 (hM W z2).2 z4 z5 (GG.out W z2).1
 have STP:Hid (∀ (W:World) (g:Nat) (s1:Rt),Sq W g 114 s1 kp []->s1.ok->Two sg gs w W->Calls jpx 46 #[.pointer (some ⟨g,130,none⟩)] W fun e w'=>e= .returned (.agg (cellsOf (jM s1.sc qd)).toArray)/\Sq w' g 114 (jW s1) kp []/\W.grownBy w' (some g)):=fun W g s1 z1 z2 z3=>by
  unfold Sq at z1 ⊢;rw [s1.C_send] at z1;rw [(jW s1).C_send];have:=Zz (p:=s1.P_si) (q:=s1.R_sm kp []) z1 (Rt.L_si z2) z2.sc z2.sm (GG.out W z3).1;exact this
 have okS:=jiz ok L_p text;have okT:=jdP ok L_p;have R7:Hid (t.s.si=false->t.s.mt=false->qW t.s p text=7/\yH t.s p bs text= []/\yI t.s p text=hdC (jqn 32 0) 0 0/\yj t.s p text=t.s/\yg t.s text k=k):=fun z1 z2=>by
  have e:qW t.s p text=7:=by unfold qW;rw [if_pos ⟨z1,z2⟩]
  refine ⟨e,by unfold yH;rw [e];rfl,by unfold yI;rw [e];rfl,by unfold yj;rw [e];rfl,by unfold yg;rw [if_pos (.inl ⟨z1,z2⟩)]⟩
 have R1:Hid (¬(t.s.si=false/\t.s.mt=false)->300 < m2->qW t.s p text=1/\yH t.s p bs text= []/\yI t.s p text=hdC (jqn 32 0) 0 0/\yj t.s p text=t.s/\yg t.s text k=k):=fun z1 z2=>by
  have e:qW t.s p text=1:=by unfold qW;rw [if_neg z1,if_pos (by omega)]
  refine ⟨e,by unfold yH;rw [e];rfl,by unfold yI;rw [e];rfl,by unfold yj;rw [e];rfl,by unfold yg;rw [if_pos (.inr (.inl (by omega)))]⟩
 have RT:Hid (¬(t.s.si=false/\t.s.mt=false)-> ¬ 300 < m2->t.s.mt=true->qh t.s p≠0->qW t.s p text=qh t.s p/\yH t.s p bs text= []/\yI t.s p text=hdC (jqn 32 0) 0 0/\yj t.s p text=t.s/\yg t.s text k=k+1):=fun z1 z2 z3 z4=>by
  have e:qW t.s p text=qh t.s p:=by unfold qW;rw [if_neg z1,if_neg (by omega),if_pos ⟨z3,z4⟩]
  refine ⟨e,by unfold yH;rw [e,if_neg z4],by unfold yI;rw [e,if_neg z4],by unfold yj;rw [e,if_neg z4],by unfold yg;rw [if_neg (by rintro (z | z | z);exact z1 z;omega;rw [z3] at z;cases z)]⟩
 have RR:Hid (¬(t.s.si=false/\t.s.mt=false)-> ¬ 300 < m2-> ¬(t.s.mt=true/\qh t.s p≠0)->(okH (qN t.s p).bf (qN t.s p).sm=false->qW t.s p text=1/\yH t.s p bs text= []/\yI t.s p text=hdC (jqn 32 0) 0 0/\yj t.s p text=t.s)/\(okH (qN t.s p).bf (qN t.s p).sm=true->qW t.s p text=0/\yH t.s p bs text=qA (jM (qN t.s p).sc qd) (qb bs (qN t.s p).pub (qN t.s p).bf (qN t.s p).sm) text/\yI t.s p text=hdC (qN t.s p).pub (qN t.s p).bf (qN t.s p).sm/\yj t.s p text=jW (qN t.s p))):=fun z1 z2 z3=>by
  have e:qW t.s p text=if okH (qN t.s p).bf (qN t.s p).sm then 0 else 1:=by unfold qW;rw [if_neg z1,if_neg (by omega),if_neg z3]
  refine ⟨fun z=> ?_,fun z=> ?_⟩
  ·rw [z] at e;have e:qW t.s p text=1:=e;refine ⟨e,by unfold yH;rw [e];rfl,by unfold yI;rw [e];rfl,by unfold yj;rw [e];rfl⟩
  ·rw [z] at e;have e:qW t.s p text=0:=e;refine ⟨e,by unfold yH;rw [if_pos e],by unfold yI;rw [if_pos e],by unfold yj;rw [if_pos e]⟩
 have KT:Hid (¬(t.s.si=false/\t.s.mt=false)-> ¬ 300 < m2->(t.s.mt=true->yg t.s text k=k+1)/\(t.s.mt=false->yg t.s text k=k)):=fun z1 z2=>⟨fun z=>by unfold yg;rw [if_neg (by rintro (q | q | q);exact z1 q;omega;rw [z] at q;cases q)],fun z=>by unfold yg;rw [if_pos (.inr (.inr z))]⟩
 have TT:Hid ((t.s.mt=true->qN t.s p=qg t.s p)/\(t.s.mt=false->qN t.s p=t.s)):=⟨fun z=>by unfold qN;rw [z];rfl,fun z=>by unfold qN;rw [z];rfl⟩;generalize qW t.s p text=vE at *;generalize yH t.s p bs text=vB at *;generalize yI t.s p text=vH at *;generalize yj t.s p text=vS at *;generalize yg t.s text k=vK at *;have hal:=Jp;have BZ:=Hj jeu;have L_hz:(hdC (jqn 32 0) 0 0).length=34:=yz rfl _ _;have O_hz:(hdC (jqn 32 0) 0 0).toArray.all (·.oneCell')=true:=YZ;have haS:=JC;have L_zs:=jcP;generalize zT=ZT at *;have S_zs:ZT.toArray.size=200:=by rw [jqu,L_zs]
 have halK:∀ w,(jpI 23).run jpx w= .ok (.agg (cellsOf (jqn 32 0)).toArray) w:=fun w=>by rw [jU];exact j2 w
 have L_zk:(jqn 32 (0:UInt8)).length=32:=rfl;obtain ⟨ZH,hZH⟩:∃ x,x=hdC (jqn 32 0) 0 0:=⟨_,rfl⟩;rw [<-hZH] at hal BZ L_hz O_hz R7 R1 RT RR;clear hZH;generalize jqn 32 (0:UInt8)=zk at *;have S_zk:(cellsOf zk).toArray.size=32:=by simp [ja,L_zk]
 have S_hz:ZH.toArray.size=34:=by rw [jqu,L_hz]
 obtain ⟨r,hr⟩:=ex_ w.heap.size;have B0:Hid (Cb (w.alloc (.cells ZH.toArray 47)) r 47 ZH/\Ext w (w.alloc (.cells ZH.toArray 47))):=by rw [hr];exact ⟨Cb.new _ _ _,(jnQ w).alloc _⟩
 clear hM hG hP;go_enter Tryz.func21,Tryz.ntmps21
 go_upto_region 1 with fail;refine jg (fun W=>Cb W r 47 ZH/\Ext w W) B0.out ?_;rw [<-hr];have wr_:w.heap.size<=r:=jre hr.symm;clear B0;replace hr:=Hj hr;rintro w0 ⟨k6,x0⟩;have rl:=k6.lt;have h0:=h.ext x0;have s0:=hs.ext x0;have f1:=h0.sq.si ok;have f2:=h0.sq.mt ok;obtain ⟨si,hsi⟩:∃ x,x=t.s.si:=⟨_,rfl⟩;obtain ⟨mt,hmt⟩:∃ x,x=t.s.mt:=⟨_,rfl⟩;rw [<-hsi] at f1 R7 R1 RT RR KT;rw [<-hmt] at f2 R7 R1 RT RR KT TT;replace hsi:=Hj hsi;replace hmt:=Hj hmt;have RET:Hid (Ext w (w0.setRow r ZH.toArray)/\SS (w0.setRow r ZH.toArray) sg kp mb gs t/\SrcSt (w0.setRow r ZH.toArray) lo gs xs k):=⟨jqb x0 wr_ _,h0.stay (jqy _ _ _ _ (by omega)) (jqy _ _ _ _ (by omega)) (jqy _ _ _ _ (by omega)),s0.row (by omega)⟩;rcases mt with _ | _
 ·rcases si with _ | _
  ·have q1:=Hj (R7.out rfl rfl);clear R7 R1 RT RR KT TT h0 s0 x0 h hs;go_wp2_with (first
    | (refine jm rfl _ _ rfl ZH.toArray (by simp only [jqE,jqF];exact BZ.out) ?_;go_frame)
    | (refine ws_ rfl 47 rfl r ZH.toArray rfl rfl k6 (by rw [S_hz];rfl) rfl O_hz ?_;simp only [jpR]))
   (try simp only [jqV,Exit.then]);refine jqW (qL rfl _ _ r 47 ZH.toArray (0,0) _ _ _ rfl rfl rfl (jqc _ _ _ _ _ _ k6) rfl rfl (by rw [S_hz];rfl)) rfl ?_;exact ⟨none,0,0,by rw [q1.out.1,q1.out.2.2.1];rfl,by rw [q1.out.2.1];exact Own.nil _ _,by rw [q1.out.2.2.2.1];exact RET.out.2.1,by rw [q1.out.2.2.2.2];exact RET.out.2.2,Two.of_ext RET.out.1⟩
  have nN: ¬(true=false/\false=false):=fun z=>by cases z.1
  by_cases hl:300 < m2
  ·have d1:decide ((300:Int) < (m2:Int))=true:=decide_eq_true (by omega);have q1:=Hj (R1.out nN hl);clear R7 R1 RT RR KT TT h0 s0 x0 h hs;go_wp2_with (first
    | (refine jm rfl _ _ rfl ZH.toArray (by simp only [jqE,jqF];exact BZ.out) ?_;go_frame)
    | (refine ws_ rfl 47 rfl r ZH.toArray rfl rfl k6 (by rw [S_hz];rfl) rfl O_hz ?_;simp only [jpR]))
   (try simp only [jqV,Exit.then]);refine jqW (qL rfl _ _ r 47 ZH.toArray (0,0) _ _ _ rfl rfl rfl (jqc _ _ _ _ _ _ k6) rfl rfl (by rw [S_hz];rfl)) rfl ?_;exact ⟨none,0,0,by rw [q1.out.1,q1.out.2.2.1];rfl,by rw [q1.out.2.1];exact Own.nil _ _,by rw [q1.out.2.2.2.1];exact RET.out.2.1,by rw [q1.out.2.2.2.2];exact RET.out.2.2,Two.of_ext RET.out.1⟩
  have d1:decide ((300:Int) < (m2:Int))=false:=decide_eq_false (by omega);have KK:Hid (vK=k):=(KT.out nN hl).2 rfl;have RV:=Hj (RR.out nN hl (fun z=>by cases z.1));rw [TT.out.2 rfl] at RV;clear R7 R1 RT RR KT TT RET okT;have SC:=Rt.C_size ok kp;have OC:=Rt.C_one t.s kp;have LC:=Rt.C_len ok kp;have all:=Hj (h0.sq.all w0 sg);have Y:Hid (Cb ((w0.alloc (.cells ZT.toArray 114)).setRow w0.heap.size (t.s.C kp).toArray) w0.heap.size 114 (t.s.C kp)/\Ext w0 ((w0.alloc (.cells ZT.toArray 114)).setRow w0.heap.size (t.s.C kp).toArray)):=⟨Cb.set (Cb.new _ _ _),Ext.newRow _ _ _⟩;go_upto_region 6 with (first
   | ((with_reducible refine jI (o:=⟨some 38,_,_,_,_,_⟩) (ty:=114) (g:=sg) (off:=0) (ys:=t.s.C kp) ?_ rfl ?_ ?_ jrn ?_ ?_ ?_);(·rfl);(·rfl);(·exact all.out);(·rfl);(·rw [LC];rfl);go_frame)
   | (refine ws_ rfl 114 rfl w0.heap.size (t.s.C kp).toArray rfl rfl (jqq _ _) (by rw [SC];rfl) (by rw [SC,S_zs]) OC ?_;simp only [jpR]))
  obtain ⟨g,hg⟩:∃ x,x=w0.heap.size:=⟨_,rfl⟩;refine jg (fun W=>Cb W w0.heap.size 114 (t.s.C kp)/\Ext w0 W) Y.out ?_;rw [<-hg];have wg:w0.heap.size<=g:=jre hg.symm;clear Y all;replace hg:=Hj hg;rintro w2 ⟨k9,x2⟩;have w0s:=x0.size;have c129:=(Sq.nil.2 k9).mt ok;rw [<-hmt.out] at c129;have HV:Hid (Sq w2 g 114 t.s kp []/\SS w2 sg kp mb gs t/\SrcSt w2 lo gs xs k/\Cb w2 r 47 ZH/\Two sg gs w w2):=⟨Sq.nil.2 k9,h0.ext x2,s0.ext x2,k6.ext x2,Two.of_ext (x0.trans x2)⟩;clear k9 h0 s0 k6 x0 x2 h hs f1 f2;go_upto_region 10 with fail;have ok1:=ok;generalize hs1:t.s=s1 at RV HV ok1;generalize hk1:k=k1 at HV KK;generalize w2=V at *;have PV:Hid (∀ u,V.grownBy u (some g)->SS u sg kp mb gs t/\SrcSt u lo gs xs k1/\Cb u r 47 ZH/\Two sg gs w u):=fun u x=>by
   obtain ⟨_,a1,a2,a3,a4⟩:=HV.out;have hb:∀ i,i < V.heap.size->i≠g->u.heap[i]? =V.heap[i]? :=fun i hi hne=>x.block i hi (fun z=>hne (jpD z))
   exact ⟨a1.stay (hb _ a1.sl (by omega)) (hb _ a1.kl (by omega)) (hb _ a1.ml (by omega)),a2.other x (.inr (by omega)),(hb _ a3.lt (by omega)).trans a3,⟨x.os.trans a4.1,x.tape.trans a4.2.1,x.output.trans a4.2.2.1,jp0 a4.2.2.2.1 x.size,fun i hi h1 h2=>(hb i (jpq hi a4.2.2.2.1) (by omega)).trans (a4.2.2.2.2 i hi h1 h2)⟩⟩
  have hSg:=HV.out.1;have lgV:=hSg.lt;have Lp1:=Rt.pub_len ok1;have c1_:=hSg.bf ok1;have c2_:=hSg.sm ok1;have mp1:=Hj (hSg.at_pub ok1);have HB1:=Hj (Jq (p:=s1.bf) (n:=s1.sm) Lp1);have O_H1:(hdC s1.pub s1.bf s1.sm).toArray.all (·.oneCell')=true:=YZ;have L_H1:=yz Lp1 s1.bf s1.sm;have D1:=Hj (fun W z=>DAT.out W s1.pub s1.bf s1.sm Lp1 z);have DLn:=JN bs Lp1 s1.bf s1.sm;rw [lb] at DLn;obtain ⟨H1,hH1⟩:∃ x,x=hdC s1.pub s1.bf s1.sm:=⟨_,rfl⟩;rw [<-hH1] at HB1 O_H1 L_H1 D1 RV;clear hH1 DAT;have S_H1:H1.toArray.size=34:=by rw [jqu,L_H1]
  have Y:Hid (Cb ((V.alloc (.cells ZH.toArray 47)).setRow V.heap.size H1.toArray) V.heap.size 47 H1/\Ext V ((V.alloc (.cells ZH.toArray 47)).setRow V.heap.size H1.toArray)):=⟨Cb.set (Cb.new _ _ _),Ext.newRow _ _ _⟩;replace hSg:=Hj hSg;clear HV;go_upto_region 11 with (first
   | ((with_reducible refine jI (o:=⟨some 52,_,_,_,_,_⟩) (ty:=23) (g:=g) (off:=64) (ys:=cellsOf s1.pub) ?_ rfl ?_ ?_ jqD ?_ ?_ ?_);(·rfl);(·rfl);(·exact mp1.out);(·rfl);(·rw [(ja _).trans Lp1];rfl);go_frame)
   | ((with_reducible refine jm (o:=⟨some 58, .build 47 _,_,_,_,_⟩) ?_ 47 _ rfl H1.toArray ?_ ?_);(·rfl);(·simp only [jqE,jqA,jqF];exact HB1.out);go_frame)
   | (refine ws_ rfl 47 rfl V.heap.size H1.toArray rfl rfl (jqq _ _) (by rw [S_H1];rfl) (by rw [S_H1,S_hz]) O_H1 ?_;simp only [jpR]))
  obtain ⟨r11,hr11⟩:∃ x,x=V.heap.size:=⟨_,rfl⟩;refine jg (fun W=>Cb W V.heap.size 47 H1/\Ext V W) Y.out ?_;rw [<-hr11];have wr11:V.heap.size<=r11:=jre hr11.symm;clear Y c1_ c2_ mp1 HB1;replace hr11:=Hj hr11;rintro w4 ⟨k11,x4⟩;have D2:=Hj (D1.out w4 (PV.out w4 (jD x4)).2.2.2);have l11:=k11.lt;have hSg4:=hSg.out.ext x4;have PV4:Hid (∀ u,w4.grownBy u (some g)->SS u sg kp mb gs t/\SrcSt u lo gs xs k1/\Cb u r 47 ZH/\Two sg gs w u/\Cb u r11 47 H1):=fun u x=>by
   obtain ⟨b1,b2,b3,b4⟩:=PV.out u (jt (jD x4) x);exact ⟨b1,b2,b3,b4,(x.block _ k11.lt (fun z=>by have:=jpD z;omega)).trans k11⟩
  replace k11:=Hj k11;clear PV D1 x4 hSg;go_wp2_with (first | ((with_reducible refine js (o:=⟨some 61,_,_,_,_,_⟩) ?_ 47 _ rfl r11 ?_ 47 H1.toArray (0,0) _ ?_ jrm ?_ ?_ ?_);(·rfl);(·rfl);(·exact k11.out);(·rfl);(·rw [S_H1];rfl);go_frame))
  refine D2.out.mono ?_;rintro e w5 ⟨A1,n1,d1_,rfl,o1,x5⟩;have n1l:n1<=1000000:=by rw [<-o1.len];omega
  have PV5:Hid (∀ u,w5.grownBy u (some g)->SS u sg kp mb gs t/\SrcSt u lo gs xs k1/\Cb u r 47 ZH/\Two sg gs w u/\Cb u r11 47 H1):=fun u x=>PV4.out u (jt (jD x5) x)
  have hSg5:=hSg4.ext x5;have w45:=x5.size;clear D2 PV4 hSg4 x5 k11;rcases hko:okH s1.bf s1.sm with _ | _
  ·have q1:=Hj (RV.out.1 hko);obtain ⟨b1,b2,b3,b4,_⟩:=PV5.out w5 (jpZ _ _);have de:jo4 s1.bf s1.sm=1:=by unfold jo4;rw [hko];rfl
   rw [de];have RET2:Hid (SS (w5.setRow r ZH.toArray) sg kp mb gs t/\SrcSt (w5.setRow r ZH.toArray) lo gs xs k1/\Two sg gs w (w5.setRow r ZH.toArray)):=⟨b1.stay (jqy _ _ _ _ (by omega)) (jqy _ _ _ _ (by omega)) (jqy _ _ _ _ (by omega)),b2.row (by omega),⟨b4.1,b4.2.1,b4.2.2.1,by simpa using b4.2.2.2.1,fun i hi h1 h2=>(jqy _ _ _ _ (by omega)).trans (b4.2.2.2.2 i hi h1 h2)⟩⟩;clear RV PV5 o1 hSg5 b1 b2 b4 hko de;go_wp2_with (first
    | (refine jm rfl _ _ rfl ZH.toArray (by simp only [jqE,jqF];exact BZ.out) ?_;go_frame)
    | (refine ws_ rfl 47 rfl r ZH.toArray rfl rfl b3 (by rw [S_hz];rfl) rfl O_hz ?_;simp only [jpR]))
   (try simp only [jqV,Exit.then]);refine jqW (qL rfl _ _ r 47 ZH.toArray (0,0) _ _ _ rfl rfl rfl (jqc _ _ _ _ _ _ b3) rfl rfl (by rw [S_hz];rfl)) rfl ?_;exact ⟨none,0,0,by rw [q1.out.1,q1.out.2.2.1];rfl,by rw [q1.out.2.1];exact Own.nil _ _,by first | (rw [q1.out.2.2.2];exact RET2.out.1) | (rw [q1.out.2.2.2,<-hs1];exact RET2.out.1),by rw [KK.out];exact RET2.out.2.1,RET2.out.2.2⟩
  ·have q1:=Hj (RV.out.2 hko);have de:jo4 s1.bf s1.sm=0:=by unfold jo4;rw [hko];rfl
   have db:yF bs s1.pub s1.bf s1.sm=qb bs s1.pub s1.bf s1.sm:=by unfold yF;rw [hko];rfl
   rw [de];rw [db] at o1;rw [q1.out.2.2.2] at okS;obtain ⟨b1,b2,b3,b4,b5⟩:=PV5.out w5 (jpZ _ _);have ST1:=Hj (STP.out w5 g s1 hSg5 ok1 b4);have Lmk:=jR s1.sc qd;have C1:=Hj (fun W A1 n1 d1 z2 z3 z4 z5=>CLO.out W (jM s1.sc qd) A1 n1 d1 (qb bs s1.pub s1.bf s1.sm) Lmk z2 z3 z4 z5);have QB:Hid (vB=qA (jM s1.sc qd) (qb bs s1.pub s1.bf s1.sm) text):=q1.out.2.1;have QE:Hid (vE=0/\vH=H1):=⟨q1.out.1,q1.out.2.2.1⟩;have QS:Hid (∀ _:Unit,vS=jW s1):=fun _=>q1.out.2.2.2
   clear q1 RV hko de db STP CLO b1 b2 b3 b4 b5;generalize qA (jM s1.sc qd) (qb bs s1.pub s1.bf s1.sm) text=SB at *;generalize qb bs s1.pub s1.bf s1.sm=dl at *;generalize jM s1.sc qd=mk at *;have S_mk:(cellsOf mk).toArray.size=32:=by simp [ja,Lmk]
   have O_mk:=ji mk;have o1l:=o1;have w0w4:g < w4.heap.size:=by omega
   have w5s:w4.heap.size<=w5.heap.size:=w45;replace o1:=Hj o1;clear hSg5 o1l;go_wp2_with fail;refine ST1.out.mono ?_;rintro e w6 ⟨rfl,hS6,gr6⟩;have Y:Hid (Cb ((w6.alloc (.cells (cellsOf zk).toArray 23)).setRow w6.heap.size (cellsOf mk).toArray) w6.heap.size 23 (cellsOf mk)/\Ext w6 ((w6.alloc (.cells (cellsOf zk).toArray 23)).setRow w6.heap.size (cellsOf mk).toArray)):=⟨Cb.set (Cb.new _ _ _),Ext.newRow _ _ _⟩;have o6:Own w4.heap.size w6 A1 n1 d1_ dl:=o1.out.kept gr6 (by
    cases hq:jrb (.slice A1 n1 d1_) with
    | none=>exact .inl rfl
    | some gg=>
      right
      have:=(jrc o1.out gg hq).1;intro z;have:=jpD z;omega)
   replace hS6:=Hj hS6;replace gr6:=Hj gr6;clear ST1 o1;go_upto_region 15 with (refine ws_ rfl 23 rfl w6.heap.size (cellsOf mk).toArray rfl rfl (jqq _ _) (by rw [S_mk];rfl) (by rw [S_mk,S_zk]) O_mk ?_;simp only [jpR])
   obtain ⟨r14,hr14⟩:∃ x,x=w6.heap.size:=⟨_,rfl⟩;refine jg (fun W=>Cb W w6.heap.size 23 (cellsOf mk)/\Ext w6 W) Y.out ?_;rw [<-hr14];have wr14:w6.heap.size<=r14:=jre hr14.symm;clear Y;replace hr14:=Hj hr14;rintro w7 ⟨k14,x7⟩;have s56:=gr6.out.size;obtain ⟨b1,b2,b3,b4,b5⟩:=PV5.out w7 (jt gr6.out (jD x7));have hS7:=hS6.out.ext x7;have o7:=o6.ext x7;have SC7:=Rt.C_size okS kp;have OC7:=Rt.C_one (jW s1) kp;have TH:=Hj (b1.sq.there0 ok);have PUT:=b1.sq.put_all ok okS (kp':=kp);have l14:=k14.lt;have F8:Hid (SS (w7.setCells sg 0 ((jW s1).C kp)) sg kp mb gs ⟨jW s1,t.L,t.puts⟩/\SrcSt (w7.setCells sg 0 ((jW s1).C kp)) lo gs xs k1/\Cb (w7.setCells sg 0 ((jW s1).C kp)) r 47 ZH/\Two sg gs w (w7.setCells sg 0 ((jW s1).C kp))/\Cb (w7.setCells sg 0 ((jW s1).C kp)) r11 47 H1/\Cb (w7.setCells sg 0 ((jW s1).C kp)) r14 23 (cellsOf mk)/\Own w4.heap.size (w7.setCells sg 0 ((jW s1).C kp)) A1 n1 d1_ dl):=by
    have gs_:w7.grownBy (w7.setCells sg 0 ((jW s1).C kp)) (some sg):=ju;have hb:∀ i,i < w7.heap.size->i≠sg->(w7.setCells sg 0 ((jW s1).C kp)).heap[i]? =w7.heap[i]? :=fun i hi hne=>gs_.block i hi (fun z=>hne (jpD z))
    have w4s:sg < w4.heap.size:=by omega
    exact ⟨⟨PUT,b1.sk.stay (hb _ b1.kl (fun z=>nk z.symm)) (hb _ b1.ml (fun z=>nm z.symm)),okS,l8⟩,b2.other gs_ (.inr hgs),(hb _ b3.lt (by omega)).trans b3,⟨gs_.os.trans b4.1,gs_.tape.trans b4.2.1,gs_.output.trans b4.2.2.1,jp0 b4.2.2.2.1 gs_.size,fun i hi h1 h2=>(hb i (jpq hi b4.2.2.2.1) h1).trans (b4.2.2.2.2 i hi h1 h2)⟩,(hb _ b5.lt (by omega)).trans b5,(hb _ k14.lt (by omega)).trans k14,o7.kept gs_ (by
     cases hq:jrb (.slice A1 n1 d1_) with
     | none=>exact .inl rfl
     | some gg=>
       right
       have:=(jrc o7 gg hq).1;intro z;have:=jpD z;omega)⟩
   have k9:Hid (Cb w7 g 114 ((jW s1).C kp)):=Sq.nil.1 hS7;have w7s:w7.heap.size<=(w7.setCells sg 0 ((jW s1).C kp)).heap.size:=(ju (w:=w7) (g:=sg) (o:=0) (vs:=(jW s1).C kp)).size;have w67:=x7.size;clear PV5 gr6 hS6 o6 k14 x7 b1 b2 b3 b4 b5 hS7 o7 PUT;generalize (jW s1).C kp=CC at *;go_upto_region 16 with (first
    | ((with_reducible refine js (o:=⟨some 72,_,_,_,_,_⟩) ?_ 114 _ rfl g ?_ 114 CC.toArray (0,0) _ ?_ jrn ?_ ?_ ?_);(·rfl);(·rfl);(·exact k9.out);(·rfl);(·rw [SC7];rfl);go_frame)
    | ((with_reducible refine jrj (op:=⟨none, .store 114 (.tmp 74) (.tmp 72),_,_,_,_⟩) ?_ 114 _ _ rfl sg 0 CC.toArray ?_ ?_ ?_ ?_ ?_ ?_);(·rfl);(·rfl);(·rfl);(·rw [SC7];exact TH.out);(·rw [SC7];rfl);(·exact OC7);go_frame))
   refine jg (fun W=>(SS W sg kp mb gs ⟨jW s1,t.L,t.puts⟩/\SrcSt W lo gs xs k1/\Cb W r 47 ZH/\Two sg gs w W/\Cb W r11 47 H1/\Cb W r14 23 (cellsOf mk)/\Own w4.heap.size W A1 n1 d1_ dl)/\w7.heap.size<=W.heap.size) ⟨F8.out,w7s⟩ ?_;clear F8 k9 TH SC7 OC7 w7s;rintro w8 ⟨⟨a1,a2,a3,a4,a5,a6,a7⟩,w78⟩;have QQ:Hid (∀ u,w8.drew.grownBy u (some r)->SS u sg kp mb gs ⟨jW s1,t.L,t.puts⟩/\SrcSt u lo gs xs k1/\Two sg gs w u/\Cb u r11 47 H1/\Cb u r14 23 (cellsOf mk)):=fun u x=>by
    have hb:∀ i,i < w8.heap.size->i≠r->u.heap[i]? =w8.heap[i]? :=fun i hi hne=>x.block i hi (fun z=>hne (jpD z))
    exact ⟨a1.stay (hb _ a1.sl (by omega)) (hb _ a1.kl (by omega)) (hb _ a1.ml (by omega)),a2.other (w:=w8) ⟨x.os,x.tape,x.output,x.size,x.block⟩ (.inr (by omega)),⟨x.os.trans a4.1,x.tape.trans a4.2.1,x.output.trans a4.2.2.1,jp0 a4.2.2.2.1 x.size,fun i hi h1 h2=>(hb i (jpq hi a4.2.2.2.1) (by omega)).trans (a4.2.2.2.2 i hi h1 h2)⟩,(hb _ a5.lt (by omega)).trans a5,(hb _ a6.lt (by omega)).trans a6⟩
   have K3:Hid (Cb w8.drew r 47 ZH):=a3;have CL:=Hj (C1.out w8.drew A1 n1 d1_ (QQ.out _ (jpZ _ _)).2.2.1 (a7.bs.ext (jnQ _).drew) n1l (by omega));have r8:w.heap.size<=w8.drew.heap.size:=a4.2.2.2.1;clear a1 a2 a3 a4 a5 a6 a7 C1;refine qgW r [0,1,2,3,4,5,6,7] [4,5] ?_;refine qV rfl (fun w'=>w'.heap[r11]? =some (.cells H1.toArray 47 (0,0))) (fun w' e=>(QQ.out w' e).2.2.2.1) (.agg H1.toArray) (fun w' hF=>jd rfl rfl hF rfl rfl (by rw [S_H1];rfl)) ?_;go_frame
   refine qV rfl (fun w'=>w'.heap[r14]? =some (.cells (cellsOf mk).toArray 23 (0,0))) (fun w' e=>(QQ.out w' e).2.2.2.2) (.agg (cellsOf mk).toArray) (fun w' hF=>jd rfl rfl hF rfl rfl (by rw [S_mk];rfl)) ?_;go_frame
   repeat ((first | refine qR0 ?_ | refine qS ?_);go_frame)
   have ZZ:Hid (w8.drew.grownBy w8.drew (some r)):=jpZ _ _;generalize w8.drew=V8 at *;have r8l:=K3.out.lt;refine qD fun K hK=> ?_
   go_simp;refine CL.out.mono ?_;rintro e w9 ⟨A9,n9,c9,rfl,o9,x9⟩;refine hK.out _ _ (jD x9) ?_;clear hK K;try go_frame
   replace K3:=Hj (K3.out.ext x9);have ON:Hid (∀ gg,jrb (.slice A9 n9 c9)=some gg->V8.heap.size<=gg):=fun gg hq=>(jrc o9 gg hq).1
   replace o9:=Hj (o9.lower (B':=w.heap.size) r8);have G9:=Hj (jD (r:=some r) x9);clear CL x9;repeat ((first | refine qR0 ?_ | refine qS ?_);go_frame)
   refine qD fun K hK=> ?_
   refine jrf _ _ _ rfl r H1.toArray rfl rfl 47 ZH.toArray K3.out (by rw [S_H1];rfl) (by rw [S_H1,S_hz]) O_H1 ?_;refine hK.out _ _ (qG _ _ _) ?_;clear hK K;try simp only [jpR]
   repeat ((first | refine qR0 ?_ | refine qS ?_);go_frame)
   refine jp ?_;have FIN:=Hj (QQ.out _ (jt G9.out (qG w9 r H1.toArray)));have OFIN:Hid (Own w.heap.size (w9.setRow r H1.toArray) A9 n9 c9 SB):=o9.out.kept (qG w9 r H1.toArray) (by
    cases hq:jrb (.slice A9 n9 c9) with
    | none=>exact .inl rfl
    | some gg=>
      right
      have:=ON.out gg hq;intro z;have:=jpD z;omega)
   go_wp2_with fail;(try simp only [jqV,Exit.then]);refine jqW (qL rfl _ _ r 47 H1.toArray (0,0) _ _ _ rfl rfl rfl (jqc _ _ _ _ _ _ K3.out) rfl rfl (by rw [S_H1];rfl)) rfl ?_;exact ⟨A9,n9,c9,by rw [QE.out.1,QE.out.2];rfl,by rw [QB.out];exact OFIN.out,by rw [QS.out ()];exact FIN.out.1,by rw [KK.out];exact FIN.out.2.1,FIN.out.2.2.1⟩
 ·by_cases hl:300 < m2
  ·have d1:decide ((300:Int) < (m2:Int))=true:=decide_eq_true (by omega);have q1:=Hj (R1.out (fun z=>by cases z.2) hl);clear R7 RT RR KT TT h0 s0 x0 h hs R1;rcases si with _ | _
   ·skip
    go_wp2_with (first
     | (refine jm rfl _ _ rfl ZH.toArray (by simp only [jqE,jqF];exact BZ.out) ?_;go_frame)
     | (refine ws_ rfl 47 rfl r ZH.toArray rfl rfl k6 (by rw [S_hz];rfl) rfl O_hz ?_;simp only [jpR]))
    (try simp only [jqV,Exit.then]);refine jqW (qL rfl _ _ r 47 ZH.toArray (0,0) _ _ _ rfl rfl rfl (jqc _ _ _ _ _ _ k6) rfl rfl (by rw [S_hz];rfl)) rfl ?_;exact ⟨none,0,0,by rw [q1.out.1,q1.out.2.2.1];rfl,by rw [q1.out.2.1];exact Own.nil _ _,by rw [q1.out.2.2.2.1];exact RET.out.2.1,by rw [q1.out.2.2.2.2];exact RET.out.2.2,Two.of_ext RET.out.1⟩
   ·skip
    go_wp2_with (first
     | (refine jm rfl _ _ rfl ZH.toArray (by simp only [jqE,jqF];exact BZ.out) ?_;go_frame)
     | (refine ws_ rfl 47 rfl r ZH.toArray rfl rfl k6 (by rw [S_hz];rfl) rfl O_hz ?_;simp only [jpR]))
    (try simp only [jqV,Exit.then]);refine jqW (qL rfl _ _ r 47 ZH.toArray (0,0) _ _ _ rfl rfl rfl (jqc _ _ _ _ _ _ k6) rfl rfl (by rw [S_hz];rfl)) rfl ?_;exact ⟨none,0,0,by rw [q1.out.1,q1.out.2.2.1];rfl,by rw [q1.out.2.1];exact Own.nil _ _,by rw [q1.out.2.2.2.1];exact RET.out.2.1,by rw [q1.out.2.2.2.2];exact RET.out.2.2,Two.of_ext RET.out.1⟩
  have d1:decide ((300:Int) < (m2:Int))=false:=decide_eq_false (by omega);have KK:Hid (vK=k+1):=(KT.out (fun z=>by cases z.2) hl).1 rfl;have RTt:=Hj (RT.out (fun z=>by cases z.2) hl rfl);have RRt:=Hj (RR.out (fun z=>by cases z.2) hl);rw [TT.out.1 rfl] at RRt okT;clear R7 R1 RT RR KT TT RET;have SC:=Rt.C_size ok kp;have OC:=Rt.C_one t.s kp;have LC:=Rt.C_len ok kp;have all:=Hj (h0.sq.all w0 sg);have Y:Hid (Cb ((w0.alloc (.cells ZT.toArray 114)).setRow w0.heap.size (t.s.C kp).toArray) w0.heap.size 114 (t.s.C kp)/\Ext w0 ((w0.alloc (.cells ZT.toArray 114)).setRow w0.heap.size (t.s.C kp).toArray)):=⟨Cb.set (Cb.new _ _ _),Ext.newRow _ _ _⟩;rcases si with _ | _
  ·skip
   go_upto_region 6 with (first
    | ((with_reducible refine jI (o:=⟨some 38,_,_,_,_,_⟩) (ty:=114) (g:=sg) (off:=0) (ys:=t.s.C kp) ?_ rfl ?_ ?_ jrn ?_ ?_ ?_);(·rfl);(·rfl);(·exact all.out);(·rfl);(·rw [LC];rfl);go_frame)
    | (refine ws_ rfl 114 rfl w0.heap.size (t.s.C kp).toArray rfl rfl (jqq _ _) (by rw [SC];rfl) (by rw [SC,S_zs]) OC ?_;simp only [jpR]))
   obtain ⟨g,hg⟩:∃ x,x=w0.heap.size:=⟨_,rfl⟩;refine jg (fun W=>Cb W w0.heap.size 114 (t.s.C kp)/\Ext w0 W) Y.out ?_;rw [<-hg];have wg:w0.heap.size<=g:=jre hg.symm;clear Y all;replace hg:=Hj hg;rintro w2 ⟨k9,x2⟩;have w0s:=x0.size;have gl2:=k9.lt;have c129:=(Sq.nil.2 k9).mt ok;rw [<-hmt.out] at c129;have c200:=(h0.sq.ext x2).last ok;have g2:=GG.out w2 (Two.of_ext (x0.trans x2));have TR:=Hj (TRN.out w2 g (Sq.nil.2 k9) (s0.ext x2) (by omega) g2.1 g2.2);have H2:Hid (SS w2 sg kp mb gs t/\Cb w2 r 47 ZH/\Ext w w2):=⟨h0.ext x2,k6.ext x2,x0.trans x2⟩;clear k9 h0 s0 k6 x0 x2 h hs f1 f2 TRN g2;go_wp2_with fail;refine TR.out.mono ?_;rintro e w3 ⟨rfl,hS3,s3,t3⟩;have b3:=t3.2.2.2.2;obtain ⟨h2,k2,x2⟩:=H2.out;have h3:SS w3 sg kp mb gs t:=h2.stay (b3 _ h2.sl (by omega) (by omega)) (b3 _ h2.kl (by omega) (fun z=>ngk z.symm)) (b3 _ h2.ml (by omega) (fun z=>ngm z.symm));have k3:Cb w3 r 47 ZH:=(b3 _ k2.lt (by omega) (by omega)).trans k2;have T3:Two sg gs w w3:=⟨t3.1.trans x2.os,t3.2.1.trans x2.tape,t3.2.2.1.trans x2.output,jp0 x2.size t3.2.2.2.1,fun i hi h1 h2'=>(b3 i (jpq hi x2.size) (by omega) h2').trans (x2.block i hi)⟩;clear TR H2 c129 c200 t3 b3 h2 k2 x2;obtain ⟨te,hte⟩:∃ x,x=qh t.s p:=⟨_,rfl⟩;rw [<-hte] at RTt RRt ⊢;by_cases he:te=0
   ·have RV:=Hj (RRt.out (fun z=>z.2 he));obtain ⟨k1,hk1⟩:∃ x,x=k+1:=⟨_,rfl⟩;rw [<-hk1] at KK s3;subst he;obtain ⟨s1,hs1⟩:∃ x,x=qg t.s p:=⟨_,rfl⟩;rw [<-hs1] at RV hS3 okT;have HV:Hid (Sq w3 g 114 s1 kp []/\SS w3 sg kp mb gs t/\SrcSt w3 lo gs xs k1/\Cb w3 r 47 ZH/\Two sg gs w w3):=⟨hS3,h3,s3,k3,T3⟩;have ok1:=okT;clear hS3 h3 s3 k3 T3 hs1 hk1 hte RTt RRt okT;go_upto_region 10 with fail;generalize w3=V at *;have PV:Hid (∀ u,V.grownBy u (some g)->SS u sg kp mb gs t/\SrcSt u lo gs xs k1/\Cb u r 47 ZH/\Two sg gs w u):=fun u x=>by
     obtain ⟨_,a1,a2,a3,a4⟩:=HV.out;have hb:∀ i,i < V.heap.size->i≠g->u.heap[i]? =V.heap[i]? :=fun i hi hne=>x.block i hi (fun z=>hne (jpD z))
     exact ⟨a1.stay (hb _ a1.sl (by omega)) (hb _ a1.kl (by omega)) (hb _ a1.ml (by omega)),a2.other x (.inr (by omega)),(hb _ a3.lt (by omega)).trans a3,⟨x.os.trans a4.1,x.tape.trans a4.2.1,x.output.trans a4.2.2.1,jp0 a4.2.2.2.1 x.size,fun i hi h1 h2=>(hb i (jpq hi a4.2.2.2.1) (by omega)).trans (a4.2.2.2.2 i hi h1 h2)⟩⟩
    have hSg:=HV.out.1;have lgV:=hSg.lt;have Lp1:=Rt.pub_len ok1;have c1_:=hSg.bf ok1;have c2_:=hSg.sm ok1;have mp1:=Hj (hSg.at_pub ok1);have HB1:=Hj (Jq (p:=s1.bf) (n:=s1.sm) Lp1);have O_H1:(hdC s1.pub s1.bf s1.sm).toArray.all (·.oneCell')=true:=YZ;have L_H1:=yz Lp1 s1.bf s1.sm;have D1:=Hj (fun W z=>DAT.out W s1.pub s1.bf s1.sm Lp1 z);have DLn:=JN bs Lp1 s1.bf s1.sm;rw [lb] at DLn;obtain ⟨H1,hH1⟩:∃ x,x=hdC s1.pub s1.bf s1.sm:=⟨_,rfl⟩;rw [<-hH1] at HB1 O_H1 L_H1 D1 RV;clear hH1 DAT;have S_H1:H1.toArray.size=34:=by rw [jqu,L_H1]
    have Y:Hid (Cb ((V.alloc (.cells ZH.toArray 47)).setRow V.heap.size H1.toArray) V.heap.size 47 H1/\Ext V ((V.alloc (.cells ZH.toArray 47)).setRow V.heap.size H1.toArray)):=⟨Cb.set (Cb.new _ _ _),Ext.newRow _ _ _⟩;replace hSg:=Hj hSg;clear HV;go_upto_region 11 with (first
     | ((with_reducible refine jI (o:=⟨some 52,_,_,_,_,_⟩) (ty:=23) (g:=g) (off:=64) (ys:=cellsOf s1.pub) ?_ rfl ?_ ?_ jqD ?_ ?_ ?_);(·rfl);(·rfl);(·exact mp1.out);(·rfl);(·rw [(ja _).trans Lp1];rfl);go_frame)
     | ((with_reducible refine jm (o:=⟨some 58, .build 47 _,_,_,_,_⟩) ?_ 47 _ rfl H1.toArray ?_ ?_);(·rfl);(·simp only [jqE,jqA,jqF];exact HB1.out);go_frame)
     | (refine ws_ rfl 47 rfl V.heap.size H1.toArray rfl rfl (jqq _ _) (by rw [S_H1];rfl) (by rw [S_H1,S_hz]) O_H1 ?_;simp only [jpR]))
    obtain ⟨r11,hr11⟩:∃ x,x=V.heap.size:=⟨_,rfl⟩;refine jg (fun W=>Cb W V.heap.size 47 H1/\Ext V W) Y.out ?_;rw [<-hr11];have wr11:V.heap.size<=r11:=jre hr11.symm;clear Y c1_ c2_ mp1 HB1;replace hr11:=Hj hr11;rintro w4 ⟨k11,x4⟩;have D2:=Hj (D1.out w4 (PV.out w4 (jD x4)).2.2.2);have l11:=k11.lt;have hSg4:=hSg.out.ext x4;have PV4:Hid (∀ u,w4.grownBy u (some g)->SS u sg kp mb gs t/\SrcSt u lo gs xs k1/\Cb u r 47 ZH/\Two sg gs w u/\Cb u r11 47 H1):=fun u x=>by
     obtain ⟨b1,b2,b3,b4⟩:=PV.out u (jt (jD x4) x);exact ⟨b1,b2,b3,b4,(x.block _ k11.lt (fun z=>by have:=jpD z;omega)).trans k11⟩
    replace k11:=Hj k11;clear PV D1 x4 hSg;go_wp2_with (first | ((with_reducible refine js (o:=⟨some 61,_,_,_,_,_⟩) ?_ 47 _ rfl r11 ?_ 47 H1.toArray (0,0) _ ?_ jrm ?_ ?_ ?_);(·rfl);(·rfl);(·exact k11.out);(·rfl);(·rw [S_H1];rfl);go_frame))
    refine D2.out.mono ?_;rintro e w5 ⟨A1,n1,d1_,rfl,o1,x5⟩;have n1l:n1<=1000000:=by rw [<-o1.len];omega
    have PV5:Hid (∀ u,w5.grownBy u (some g)->SS u sg kp mb gs t/\SrcSt u lo gs xs k1/\Cb u r 47 ZH/\Two sg gs w u/\Cb u r11 47 H1):=fun u x=>PV4.out u (jt (jD x5) x)
    have hSg5:=hSg4.ext x5;have w45:=x5.size;clear D2 PV4 hSg4 x5 k11;rcases hko:okH s1.bf s1.sm with _ | _
    ·have q1:=Hj (RV.out.1 hko);obtain ⟨b1,b2,b3,b4,_⟩:=PV5.out w5 (jpZ _ _);have de:jo4 s1.bf s1.sm=1:=by unfold jo4;rw [hko];rfl
     rw [de];have RET2:Hid (SS (w5.setRow r ZH.toArray) sg kp mb gs t/\SrcSt (w5.setRow r ZH.toArray) lo gs xs k1/\Two sg gs w (w5.setRow r ZH.toArray)):=⟨b1.stay (jqy _ _ _ _ (by omega)) (jqy _ _ _ _ (by omega)) (jqy _ _ _ _ (by omega)),b2.row (by omega),⟨b4.1,b4.2.1,b4.2.2.1,by simpa using b4.2.2.2.1,fun i hi h1 h2=>(jqy _ _ _ _ (by omega)).trans (b4.2.2.2.2 i hi h1 h2)⟩⟩;clear RV PV5 o1 hSg5 b1 b2 b4 hko de;go_wp2_with (first
      | (refine jm rfl _ _ rfl ZH.toArray (by simp only [jqE,jqF];exact BZ.out) ?_;go_frame)
      | (refine ws_ rfl 47 rfl r ZH.toArray rfl rfl b3 (by rw [S_hz];rfl) rfl O_hz ?_;simp only [jpR]))
     (try simp only [jqV,Exit.then]);refine jqW (qL rfl _ _ r 47 ZH.toArray (0,0) _ _ _ rfl rfl rfl (jqc _ _ _ _ _ _ b3) rfl rfl (by rw [S_hz];rfl)) rfl ?_;exact ⟨none,0,0,by rw [q1.out.1,q1.out.2.2.1];rfl,by rw [q1.out.2.1];exact Own.nil _ _,by first | (rw [q1.out.2.2.2];exact RET2.out.1) | (rw [q1.out.2.2.2,<-hs1];exact RET2.out.1),by rw [KK.out];exact RET2.out.2.1,RET2.out.2.2⟩
    ·have q1:=Hj (RV.out.2 hko);have de:jo4 s1.bf s1.sm=0:=by unfold jo4;rw [hko];rfl
     have db:yF bs s1.pub s1.bf s1.sm=qb bs s1.pub s1.bf s1.sm:=by unfold yF;rw [hko];rfl
     rw [de];rw [db] at o1;rw [q1.out.2.2.2] at okS;obtain ⟨b1,b2,b3,b4,b5⟩:=PV5.out w5 (jpZ _ _);have ST1:=Hj (STP.out w5 g s1 hSg5 ok1 b4);have Lmk:=jR s1.sc qd;have C1:=Hj (fun W A1 n1 d1 z2 z3 z4 z5=>CLO.out W (jM s1.sc qd) A1 n1 d1 (qb bs s1.pub s1.bf s1.sm) Lmk z2 z3 z4 z5);have QB:Hid (vB=qA (jM s1.sc qd) (qb bs s1.pub s1.bf s1.sm) text):=q1.out.2.1;have QE:Hid (vE=0/\vH=H1):=⟨q1.out.1,q1.out.2.2.1⟩;have QS:Hid (∀ _:Unit,vS=jW s1):=fun _=>q1.out.2.2.2
     clear q1 RV hko de db STP CLO b1 b2 b3 b4 b5;generalize qA (jM s1.sc qd) (qb bs s1.pub s1.bf s1.sm) text=SB at *;generalize qb bs s1.pub s1.bf s1.sm=dl at *;generalize jM s1.sc qd=mk at *;have S_mk:(cellsOf mk).toArray.size=32:=by simp [ja,Lmk]
     have O_mk:=ji mk;have o1l:=o1;have w0w4:g < w4.heap.size:=by omega
     have w5s:w4.heap.size<=w5.heap.size:=w45;replace o1:=Hj o1;clear hSg5 o1l;go_wp2_with fail;refine ST1.out.mono ?_;rintro e w6 ⟨rfl,hS6,gr6⟩;have Y:Hid (Cb ((w6.alloc (.cells (cellsOf zk).toArray 23)).setRow w6.heap.size (cellsOf mk).toArray) w6.heap.size 23 (cellsOf mk)/\Ext w6 ((w6.alloc (.cells (cellsOf zk).toArray 23)).setRow w6.heap.size (cellsOf mk).toArray)):=⟨Cb.set (Cb.new _ _ _),Ext.newRow _ _ _⟩;have o6:Own w4.heap.size w6 A1 n1 d1_ dl:=o1.out.kept gr6 (by
      cases hq:jrb (.slice A1 n1 d1_) with
      | none=>exact .inl rfl
      | some gg=>
        right
        have:=(jrc o1.out gg hq).1;intro z;have:=jpD z;omega)
     replace hS6:=Hj hS6;replace gr6:=Hj gr6;clear ST1 o1;go_upto_region 15 with (refine ws_ rfl 23 rfl w6.heap.size (cellsOf mk).toArray rfl rfl (jqq _ _) (by rw [S_mk];rfl) (by rw [S_mk,S_zk]) O_mk ?_;simp only [jpR])
     obtain ⟨r14,hr14⟩:∃ x,x=w6.heap.size:=⟨_,rfl⟩;refine jg (fun W=>Cb W w6.heap.size 23 (cellsOf mk)/\Ext w6 W) Y.out ?_;rw [<-hr14];have wr14:w6.heap.size<=r14:=jre hr14.symm;clear Y;replace hr14:=Hj hr14;rintro w7 ⟨k14,x7⟩;have s56:=gr6.out.size;obtain ⟨b1,b2,b3,b4,b5⟩:=PV5.out w7 (jt gr6.out (jD x7));have hS7:=hS6.out.ext x7;have o7:=o6.ext x7;have SC7:=Rt.C_size okS kp;have OC7:=Rt.C_one (jW s1) kp;have TH:=Hj (b1.sq.there0 ok);have PUT:=b1.sq.put_all ok okS (kp':=kp);have l14:=k14.lt;have F8:Hid (SS (w7.setCells sg 0 ((jW s1).C kp)) sg kp mb gs ⟨jW s1,t.L,t.puts⟩/\SrcSt (w7.setCells sg 0 ((jW s1).C kp)) lo gs xs k1/\Cb (w7.setCells sg 0 ((jW s1).C kp)) r 47 ZH/\Two sg gs w (w7.setCells sg 0 ((jW s1).C kp))/\Cb (w7.setCells sg 0 ((jW s1).C kp)) r11 47 H1/\Cb (w7.setCells sg 0 ((jW s1).C kp)) r14 23 (cellsOf mk)/\Own w4.heap.size (w7.setCells sg 0 ((jW s1).C kp)) A1 n1 d1_ dl):=by
      have gs_:w7.grownBy (w7.setCells sg 0 ((jW s1).C kp)) (some sg):=ju;have hb:∀ i,i < w7.heap.size->i≠sg->(w7.setCells sg 0 ((jW s1).C kp)).heap[i]? =w7.heap[i]? :=fun i hi hne=>gs_.block i hi (fun z=>hne (jpD z))
      have w4s:sg < w4.heap.size:=by omega
      exact ⟨⟨PUT,b1.sk.stay (hb _ b1.kl (fun z=>nk z.symm)) (hb _ b1.ml (fun z=>nm z.symm)),okS,l8⟩,b2.other gs_ (.inr hgs),(hb _ b3.lt (by omega)).trans b3,⟨gs_.os.trans b4.1,gs_.tape.trans b4.2.1,gs_.output.trans b4.2.2.1,jp0 b4.2.2.2.1 gs_.size,fun i hi h1 h2=>(hb i (jpq hi b4.2.2.2.1) h1).trans (b4.2.2.2.2 i hi h1 h2)⟩,(hb _ b5.lt (by omega)).trans b5,(hb _ k14.lt (by omega)).trans k14,o7.kept gs_ (by
       cases hq:jrb (.slice A1 n1 d1_) with
       | none=>exact .inl rfl
       | some gg=>
         right
         have:=(jrc o7 gg hq).1;intro z;have:=jpD z;omega)⟩
     have k9:Hid (Cb w7 g 114 ((jW s1).C kp)):=Sq.nil.1 hS7;have w7s:w7.heap.size<=(w7.setCells sg 0 ((jW s1).C kp)).heap.size:=(ju (w:=w7) (g:=sg) (o:=0) (vs:=(jW s1).C kp)).size;have w67:=x7.size;clear PV5 gr6 hS6 o6 k14 x7 b1 b2 b3 b4 b5 hS7 o7 PUT;generalize (jW s1).C kp=CC at *;go_upto_region 16 with (first
      | ((with_reducible refine js (o:=⟨some 72,_,_,_,_,_⟩) ?_ 114 _ rfl g ?_ 114 CC.toArray (0,0) _ ?_ jrn ?_ ?_ ?_);(·rfl);(·rfl);(·exact k9.out);(·rfl);(·rw [SC7];rfl);go_frame)
      | ((with_reducible refine jrj (op:=⟨none, .store 114 (.tmp 74) (.tmp 72),_,_,_,_⟩) ?_ 114 _ _ rfl sg 0 CC.toArray ?_ ?_ ?_ ?_ ?_ ?_);(·rfl);(·rfl);(·rfl);(·rw [SC7];exact TH.out);(·rw [SC7];rfl);(·exact OC7);go_frame))
     refine jg (fun W=>(SS W sg kp mb gs ⟨jW s1,t.L,t.puts⟩/\SrcSt W lo gs xs k1/\Cb W r 47 ZH/\Two sg gs w W/\Cb W r11 47 H1/\Cb W r14 23 (cellsOf mk)/\Own w4.heap.size W A1 n1 d1_ dl)/\w7.heap.size<=W.heap.size) ⟨F8.out,w7s⟩ ?_;clear F8 k9 TH SC7 OC7 w7s;rintro w8 ⟨⟨a1,a2,a3,a4,a5,a6,a7⟩,w78⟩;have QQ:Hid (∀ u,w8.drew.grownBy u (some r)->SS u sg kp mb gs ⟨jW s1,t.L,t.puts⟩/\SrcSt u lo gs xs k1/\Two sg gs w u/\Cb u r11 47 H1/\Cb u r14 23 (cellsOf mk)):=fun u x=>by
      have hb:∀ i,i < w8.heap.size->i≠r->u.heap[i]? =w8.heap[i]? :=fun i hi hne=>x.block i hi (fun z=>hne (jpD z))
      exact ⟨a1.stay (hb _ a1.sl (by omega)) (hb _ a1.kl (by omega)) (hb _ a1.ml (by omega)),a2.other (w:=w8) ⟨x.os,x.tape,x.output,x.size,x.block⟩ (.inr (by omega)),⟨x.os.trans a4.1,x.tape.trans a4.2.1,x.output.trans a4.2.2.1,jp0 a4.2.2.2.1 x.size,fun i hi h1 h2=>(hb i (jpq hi a4.2.2.2.1) (by omega)).trans (a4.2.2.2.2 i hi h1 h2)⟩,(hb _ a5.lt (by omega)).trans a5,(hb _ a6.lt (by omega)).trans a6⟩
     have K3:Hid (Cb w8.drew r 47 ZH):=a3;have CL:=Hj (C1.out w8.drew A1 n1 d1_ (QQ.out _ (jpZ _ _)).2.2.1 (a7.bs.ext (jnQ _).drew) n1l (by omega));have r8:w.heap.size<=w8.drew.heap.size:=a4.2.2.2.1;clear a1 a2 a3 a4 a5 a6 a7 C1;refine qgW r [0,1,2,3,4,5,6,7] [4,5] ?_;refine qV rfl (fun w'=>w'.heap[r11]? =some (.cells H1.toArray 47 (0,0))) (fun w' e=>(QQ.out w' e).2.2.2.1) (.agg H1.toArray) (fun w' hF=>jd rfl rfl hF rfl rfl (by rw [S_H1];rfl)) ?_;go_frame
     refine qV rfl (fun w'=>w'.heap[r14]? =some (.cells (cellsOf mk).toArray 23 (0,0))) (fun w' e=>(QQ.out w' e).2.2.2.2) (.agg (cellsOf mk).toArray) (fun w' hF=>jd rfl rfl hF rfl rfl (by rw [S_mk];rfl)) ?_;go_frame
     repeat ((first | refine qR0 ?_ | refine qS ?_);go_frame)
     have ZZ:Hid (w8.drew.grownBy w8.drew (some r)):=jpZ _ _;generalize w8.drew=V8 at *;have r8l:=K3.out.lt;refine qD fun K hK=> ?_
     go_simp;refine CL.out.mono ?_;rintro e w9 ⟨A9,n9,c9,rfl,o9,x9⟩;refine hK.out _ _ (jD x9) ?_;clear hK K;try go_frame
     replace K3:=Hj (K3.out.ext x9);have ON:Hid (∀ gg,jrb (.slice A9 n9 c9)=some gg->V8.heap.size<=gg):=fun gg hq=>(jrc o9 gg hq).1
     replace o9:=Hj (o9.lower (B':=w.heap.size) r8);have G9:=Hj (jD (r:=some r) x9);clear CL x9;repeat ((first | refine qR0 ?_ | refine qS ?_);go_frame)
     refine qD fun K hK=> ?_
     refine jrf _ _ _ rfl r H1.toArray rfl rfl 47 ZH.toArray K3.out (by rw [S_H1];rfl) (by rw [S_H1,S_hz]) O_H1 ?_;refine hK.out _ _ (qG _ _ _) ?_;clear hK K;try simp only [jpR]
     repeat ((first | refine qR0 ?_ | refine qS ?_);go_frame)
     refine jp ?_;have FIN:=Hj (QQ.out _ (jt G9.out (qG w9 r H1.toArray)));have OFIN:Hid (Own w.heap.size (w9.setRow r H1.toArray) A9 n9 c9 SB):=o9.out.kept (qG w9 r H1.toArray) (by
      cases hq:jrb (.slice A9 n9 c9) with
      | none=>exact .inl rfl
      | some gg=>
        right
        have:=ON.out gg hq;intro z;have:=jpD z;omega)
     go_wp2_with fail;(try simp only [jqV,Exit.then]);refine jqW (qL rfl _ _ r 47 H1.toArray (0,0) _ _ _ rfl rfl rfl (jqc _ _ _ _ _ _ K3.out) rfl rfl (by rw [S_H1];rfl)) rfl ?_;exact ⟨A9,n9,c9,by rw [QE.out.1,QE.out.2];rfl,by rw [QB.out];exact OFIN.out,by rw [QS.out ()];exact FIN.out.1,by rw [KK.out];exact FIN.out.2.1,FIN.out.2.2.1⟩
   ·have q1:=Hj (RTt.out he);have hbn:(te !=0)=true:=bne_iff_ne.2 he;have RET2:Hid (SS (w3.setRow r ZH.toArray) sg kp mb gs t/\SrcSt (w3.setRow r ZH.toArray) lo gs xs (k+1)/\Two sg gs w (w3.setRow r ZH.toArray)):=⟨h3.stay (jqy _ _ _ _ (by omega)) (jqy _ _ _ _ (by omega)) (jqy _ _ _ _ (by omega)),s3.row (by omega),⟨T3.1,T3.2.1,T3.2.2.1,by simpa using T3.2.2.2.1,fun i hi h1 h2=>(jqy _ _ _ _ (by omega)).trans (T3.2.2.2.2 i hi h1 h2)⟩⟩;clear RTt RRt hS3 h3 s3 T3 hte;go_wp2_with (first
     | (refine jm rfl _ _ rfl ZH.toArray (by simp only [jqE,jqF];exact BZ.out) ?_;go_frame)
     | (refine ws_ rfl 47 rfl r ZH.toArray rfl rfl k3 (by rw [S_hz];rfl) rfl O_hz ?_;simp only [jpR]))
    (try simp only [jqV,Exit.then]);refine jqW (qL rfl _ _ r 47 ZH.toArray (0,0) _ _ _ rfl rfl rfl (jqc _ _ _ _ _ _ k3) rfl rfl (by rw [S_hz];rfl)) rfl ?_;exact ⟨none,0,0,by rw [q1.out.1,q1.out.2.2.1];rfl,by rw [q1.out.2.1];exact Own.nil _ _,by rw [q1.out.2.2.2.1];exact RET2.out.1,by rw [q1.out.2.2.2.2];exact RET2.out.2.1,RET2.out.2.2⟩
  ·skip
   go_upto_region 6 with (first
    | ((with_reducible refine jI (o:=⟨some 38,_,_,_,_,_⟩) (ty:=114) (g:=sg) (off:=0) (ys:=t.s.C kp) ?_ rfl ?_ ?_ jrn ?_ ?_ ?_);(·rfl);(·rfl);(·exact all.out);(·rfl);(·rw [LC];rfl);go_frame)
    | (refine ws_ rfl 114 rfl w0.heap.size (t.s.C kp).toArray rfl rfl (jqq _ _) (by rw [SC];rfl) (by rw [SC,S_zs]) OC ?_;simp only [jpR]))
   obtain ⟨g,hg⟩:∃ x,x=w0.heap.size:=⟨_,rfl⟩;refine jg (fun W=>Cb W w0.heap.size 114 (t.s.C kp)/\Ext w0 W) Y.out ?_;rw [<-hg];have wg:w0.heap.size<=g:=jre hg.symm;clear Y all;replace hg:=Hj hg;rintro w2 ⟨k9,x2⟩;have w0s:=x0.size;have gl2:=k9.lt;have c129:=(Sq.nil.2 k9).mt ok;rw [<-hmt.out] at c129;have c200:=(h0.sq.ext x2).last ok;have g2:=GG.out w2 (Two.of_ext (x0.trans x2));have TR:=Hj (TRN.out w2 g (Sq.nil.2 k9) (s0.ext x2) (by omega) g2.1 g2.2);have H2:Hid (SS w2 sg kp mb gs t/\Cb w2 r 47 ZH/\Ext w w2):=⟨h0.ext x2,k6.ext x2,x0.trans x2⟩;clear k9 h0 s0 k6 x0 x2 h hs f1 f2 TRN g2;go_wp2_with fail;refine TR.out.mono ?_;rintro e w3 ⟨rfl,hS3,s3,t3⟩;have b3:=t3.2.2.2.2;obtain ⟨h2,k2,x2⟩:=H2.out;have h3:SS w3 sg kp mb gs t:=h2.stay (b3 _ h2.sl (by omega) (by omega)) (b3 _ h2.kl (by omega) (fun z=>ngk z.symm)) (b3 _ h2.ml (by omega) (fun z=>ngm z.symm));have k3:Cb w3 r 47 ZH:=(b3 _ k2.lt (by omega) (by omega)).trans k2;have T3:Two sg gs w w3:=⟨t3.1.trans x2.os,t3.2.1.trans x2.tape,t3.2.2.1.trans x2.output,jp0 x2.size t3.2.2.2.1,fun i hi h1 h2'=>(b3 i (jpq hi x2.size) (by omega) h2').trans (x2.block i hi)⟩;clear TR H2 c129 c200 t3 b3 h2 k2 x2;obtain ⟨te,hte⟩:∃ x,x=qh t.s p:=⟨_,rfl⟩;rw [<-hte] at RTt RRt ⊢;by_cases he:te=0
   ·have RV:=Hj (RRt.out (fun z=>z.2 he));obtain ⟨k1,hk1⟩:∃ x,x=k+1:=⟨_,rfl⟩;rw [<-hk1] at KK s3;subst he;obtain ⟨s1,hs1⟩:∃ x,x=qg t.s p:=⟨_,rfl⟩;rw [<-hs1] at RV hS3 okT;have HV:Hid (Sq w3 g 114 s1 kp []/\SS w3 sg kp mb gs t/\SrcSt w3 lo gs xs k1/\Cb w3 r 47 ZH/\Two sg gs w w3):=⟨hS3,h3,s3,k3,T3⟩;have ok1:=okT;clear hS3 h3 s3 k3 T3 hs1 hk1 hte RTt RRt okT;go_upto_region 10 with fail;generalize w3=V at *;have PV:Hid (∀ u,V.grownBy u (some g)->SS u sg kp mb gs t/\SrcSt u lo gs xs k1/\Cb u r 47 ZH/\Two sg gs w u):=fun u x=>by
     obtain ⟨_,a1,a2,a3,a4⟩:=HV.out;have hb:∀ i,i < V.heap.size->i≠g->u.heap[i]? =V.heap[i]? :=fun i hi hne=>x.block i hi (fun z=>hne (jpD z))
     exact ⟨a1.stay (hb _ a1.sl (by omega)) (hb _ a1.kl (by omega)) (hb _ a1.ml (by omega)),a2.other x (.inr (by omega)),(hb _ a3.lt (by omega)).trans a3,⟨x.os.trans a4.1,x.tape.trans a4.2.1,x.output.trans a4.2.2.1,jp0 a4.2.2.2.1 x.size,fun i hi h1 h2=>(hb i (jpq hi a4.2.2.2.1) (by omega)).trans (a4.2.2.2.2 i hi h1 h2)⟩⟩
    have hSg:=HV.out.1;have lgV:=hSg.lt;have Lp1:=Rt.pub_len ok1;have c1_:=hSg.bf ok1;have c2_:=hSg.sm ok1;have mp1:=Hj (hSg.at_pub ok1);have HB1:=Hj (Jq (p:=s1.bf) (n:=s1.sm) Lp1);have O_H1:(hdC s1.pub s1.bf s1.sm).toArray.all (·.oneCell')=true:=YZ;have L_H1:=yz Lp1 s1.bf s1.sm;have D1:=Hj (fun W z=>DAT.out W s1.pub s1.bf s1.sm Lp1 z);have DLn:=JN bs Lp1 s1.bf s1.sm;rw [lb] at DLn;obtain ⟨H1,hH1⟩:∃ x,x=hdC s1.pub s1.bf s1.sm:=⟨_,rfl⟩;rw [<-hH1] at HB1 O_H1 L_H1 D1 RV;clear hH1 DAT;have S_H1:H1.toArray.size=34:=by rw [jqu,L_H1]
    have Y:Hid (Cb ((V.alloc (.cells ZH.toArray 47)).setRow V.heap.size H1.toArray) V.heap.size 47 H1/\Ext V ((V.alloc (.cells ZH.toArray 47)).setRow V.heap.size H1.toArray)):=⟨Cb.set (Cb.new _ _ _),Ext.newRow _ _ _⟩;replace hSg:=Hj hSg;clear HV;go_upto_region 11 with (first
     | ((with_reducible refine jI (o:=⟨some 52,_,_,_,_,_⟩) (ty:=23) (g:=g) (off:=64) (ys:=cellsOf s1.pub) ?_ rfl ?_ ?_ jqD ?_ ?_ ?_);(·rfl);(·rfl);(·exact mp1.out);(·rfl);(·rw [(ja _).trans Lp1];rfl);go_frame)
     | ((with_reducible refine jm (o:=⟨some 58, .build 47 _,_,_,_,_⟩) ?_ 47 _ rfl H1.toArray ?_ ?_);(·rfl);(·simp only [jqE,jqA,jqF];exact HB1.out);go_frame)
     | (refine ws_ rfl 47 rfl V.heap.size H1.toArray rfl rfl (jqq _ _) (by rw [S_H1];rfl) (by rw [S_H1,S_hz]) O_H1 ?_;simp only [jpR]))
    obtain ⟨r11,hr11⟩:∃ x,x=V.heap.size:=⟨_,rfl⟩;refine jg (fun W=>Cb W V.heap.size 47 H1/\Ext V W) Y.out ?_;rw [<-hr11];have wr11:V.heap.size<=r11:=jre hr11.symm;clear Y c1_ c2_ mp1 HB1;replace hr11:=Hj hr11;rintro w4 ⟨k11,x4⟩;have D2:=Hj (D1.out w4 (PV.out w4 (jD x4)).2.2.2);have l11:=k11.lt;have hSg4:=hSg.out.ext x4;have PV4:Hid (∀ u,w4.grownBy u (some g)->SS u sg kp mb gs t/\SrcSt u lo gs xs k1/\Cb u r 47 ZH/\Two sg gs w u/\Cb u r11 47 H1):=fun u x=>by
     obtain ⟨b1,b2,b3,b4⟩:=PV.out u (jt (jD x4) x);exact ⟨b1,b2,b3,b4,(x.block _ k11.lt (fun z=>by have:=jpD z;omega)).trans k11⟩
    replace k11:=Hj k11;clear PV D1 x4 hSg;go_wp2_with (first | ((with_reducible refine js (o:=⟨some 61,_,_,_,_,_⟩) ?_ 47 _ rfl r11 ?_ 47 H1.toArray (0,0) _ ?_ jrm ?_ ?_ ?_);(·rfl);(·rfl);(·exact k11.out);(·rfl);(·rw [S_H1];rfl);go_frame))
    refine D2.out.mono ?_;rintro e w5 ⟨A1,n1,d1_,rfl,o1,x5⟩;have n1l:n1<=1000000:=by rw [<-o1.len];omega
    have PV5:Hid (∀ u,w5.grownBy u (some g)->SS u sg kp mb gs t/\SrcSt u lo gs xs k1/\Cb u r 47 ZH/\Two sg gs w u/\Cb u r11 47 H1):=fun u x=>PV4.out u (jt (jD x5) x)
    have hSg5:=hSg4.ext x5;have w45:=x5.size;clear D2 PV4 hSg4 x5 k11;rcases hko:okH s1.bf s1.sm with _ | _
    ·have q1:=Hj (RV.out.1 hko);obtain ⟨b1,b2,b3,b4,_⟩:=PV5.out w5 (jpZ _ _);have de:jo4 s1.bf s1.sm=1:=by unfold jo4;rw [hko];rfl
     rw [de];have RET2:Hid (SS (w5.setRow r ZH.toArray) sg kp mb gs t/\SrcSt (w5.setRow r ZH.toArray) lo gs xs k1/\Two sg gs w (w5.setRow r ZH.toArray)):=⟨b1.stay (jqy _ _ _ _ (by omega)) (jqy _ _ _ _ (by omega)) (jqy _ _ _ _ (by omega)),b2.row (by omega),⟨b4.1,b4.2.1,b4.2.2.1,by simpa using b4.2.2.2.1,fun i hi h1 h2=>(jqy _ _ _ _ (by omega)).trans (b4.2.2.2.2 i hi h1 h2)⟩⟩;clear RV PV5 o1 hSg5 b1 b2 b4 hko de;go_wp2_with (first
      | (refine jm rfl _ _ rfl ZH.toArray (by simp only [jqE,jqF];exact BZ.out) ?_;go_frame)
      | (refine ws_ rfl 47 rfl r ZH.toArray rfl rfl b3 (by rw [S_hz];rfl) rfl O_hz ?_;simp only [jpR]))
     (try simp only [jqV,Exit.then]);refine jqW (qL rfl _ _ r 47 ZH.toArray (0,0) _ _ _ rfl rfl rfl (jqc _ _ _ _ _ _ b3) rfl rfl (by rw [S_hz];rfl)) rfl ?_;exact ⟨none,0,0,by rw [q1.out.1,q1.out.2.2.1];rfl,by rw [q1.out.2.1];exact Own.nil _ _,by first | (rw [q1.out.2.2.2];exact RET2.out.1) | (rw [q1.out.2.2.2,<-hs1];exact RET2.out.1),by rw [KK.out];exact RET2.out.2.1,RET2.out.2.2⟩
    ·have q1:=Hj (RV.out.2 hko);have de:jo4 s1.bf s1.sm=0:=by unfold jo4;rw [hko];rfl
     have db:yF bs s1.pub s1.bf s1.sm=qb bs s1.pub s1.bf s1.sm:=by unfold yF;rw [hko];rfl
     rw [de];rw [db] at o1;rw [q1.out.2.2.2] at okS;obtain ⟨b1,b2,b3,b4,b5⟩:=PV5.out w5 (jpZ _ _);have ST1:=Hj (STP.out w5 g s1 hSg5 ok1 b4);have Lmk:=jR s1.sc qd;have C1:=Hj (fun W A1 n1 d1 z2 z3 z4 z5=>CLO.out W (jM s1.sc qd) A1 n1 d1 (qb bs s1.pub s1.bf s1.sm) Lmk z2 z3 z4 z5);have QB:Hid (vB=qA (jM s1.sc qd) (qb bs s1.pub s1.bf s1.sm) text):=q1.out.2.1;have QE:Hid (vE=0/\vH=H1):=⟨q1.out.1,q1.out.2.2.1⟩;have QS:Hid (∀ _:Unit,vS=jW s1):=fun _=>q1.out.2.2.2
     clear q1 RV hko de db STP CLO b1 b2 b3 b4 b5;generalize qA (jM s1.sc qd) (qb bs s1.pub s1.bf s1.sm) text=SB at *;generalize qb bs s1.pub s1.bf s1.sm=dl at *;generalize jM s1.sc qd=mk at *;have S_mk:(cellsOf mk).toArray.size=32:=by simp [ja,Lmk]
     have O_mk:=ji mk;have o1l:=o1;have w0w4:g < w4.heap.size:=by omega
     have w5s:w4.heap.size<=w5.heap.size:=w45;replace o1:=Hj o1;clear hSg5 o1l;go_wp2_with fail;refine ST1.out.mono ?_;rintro e w6 ⟨rfl,hS6,gr6⟩;have Y:Hid (Cb ((w6.alloc (.cells (cellsOf zk).toArray 23)).setRow w6.heap.size (cellsOf mk).toArray) w6.heap.size 23 (cellsOf mk)/\Ext w6 ((w6.alloc (.cells (cellsOf zk).toArray 23)).setRow w6.heap.size (cellsOf mk).toArray)):=⟨Cb.set (Cb.new _ _ _),Ext.newRow _ _ _⟩;have o6:Own w4.heap.size w6 A1 n1 d1_ dl:=o1.out.kept gr6 (by
      cases hq:jrb (.slice A1 n1 d1_) with
      | none=>exact .inl rfl
      | some gg=>
        right
        have:=(jrc o1.out gg hq).1;intro z;have:=jpD z;omega)
     replace hS6:=Hj hS6;replace gr6:=Hj gr6;clear ST1 o1;go_upto_region 15 with (refine ws_ rfl 23 rfl w6.heap.size (cellsOf mk).toArray rfl rfl (jqq _ _) (by rw [S_mk];rfl) (by rw [S_mk,S_zk]) O_mk ?_;simp only [jpR])
     obtain ⟨r14,hr14⟩:∃ x,x=w6.heap.size:=⟨_,rfl⟩;refine jg (fun W=>Cb W w6.heap.size 23 (cellsOf mk)/\Ext w6 W) Y.out ?_;rw [<-hr14];have wr14:w6.heap.size<=r14:=jre hr14.symm;clear Y;replace hr14:=Hj hr14;rintro w7 ⟨k14,x7⟩;have s56:=gr6.out.size;obtain ⟨b1,b2,b3,b4,b5⟩:=PV5.out w7 (jt gr6.out (jD x7));have hS7:=hS6.out.ext x7;have o7:=o6.ext x7;have SC7:=Rt.C_size okS kp;have OC7:=Rt.C_one (jW s1) kp;have TH:=Hj (b1.sq.there0 ok);have PUT:=b1.sq.put_all ok okS (kp':=kp);have l14:=k14.lt;have F8:Hid (SS (w7.setCells sg 0 ((jW s1).C kp)) sg kp mb gs ⟨jW s1,t.L,t.puts⟩/\SrcSt (w7.setCells sg 0 ((jW s1).C kp)) lo gs xs k1/\Cb (w7.setCells sg 0 ((jW s1).C kp)) r 47 ZH/\Two sg gs w (w7.setCells sg 0 ((jW s1).C kp))/\Cb (w7.setCells sg 0 ((jW s1).C kp)) r11 47 H1/\Cb (w7.setCells sg 0 ((jW s1).C kp)) r14 23 (cellsOf mk)/\Own w4.heap.size (w7.setCells sg 0 ((jW s1).C kp)) A1 n1 d1_ dl):=by
      have gs_:w7.grownBy (w7.setCells sg 0 ((jW s1).C kp)) (some sg):=ju;have hb:∀ i,i < w7.heap.size->i≠sg->(w7.setCells sg 0 ((jW s1).C kp)).heap[i]? =w7.heap[i]? :=fun i hi hne=>gs_.block i hi (fun z=>hne (jpD z))
      have w4s:sg < w4.heap.size:=by omega
      exact ⟨⟨PUT,b1.sk.stay (hb _ b1.kl (fun z=>nk z.symm)) (hb _ b1.ml (fun z=>nm z.symm)),okS,l8⟩,b2.other gs_ (.inr hgs),(hb _ b3.lt (by omega)).trans b3,⟨gs_.os.trans b4.1,gs_.tape.trans b4.2.1,gs_.output.trans b4.2.2.1,jp0 b4.2.2.2.1 gs_.size,fun i hi h1 h2=>(hb i (jpq hi b4.2.2.2.1) h1).trans (b4.2.2.2.2 i hi h1 h2)⟩,(hb _ b5.lt (by omega)).trans b5,(hb _ k14.lt (by omega)).trans k14,o7.kept gs_ (by
       cases hq:jrb (.slice A1 n1 d1_) with
       | none=>exact .inl rfl
       | some gg=>
         right
         have:=(jrc o7 gg hq).1;intro z;have:=jpD z;omega)⟩
     have k9:Hid (Cb w7 g 114 ((jW s1).C kp)):=Sq.nil.1 hS7;have w7s:w7.heap.size<=(w7.setCells sg 0 ((jW s1).C kp)).heap.size:=(ju (w:=w7) (g:=sg) (o:=0) (vs:=(jW s1).C kp)).size;have w67:=x7.size;clear PV5 gr6 hS6 o6 k14 x7 b1 b2 b3 b4 b5 hS7 o7 PUT;generalize (jW s1).C kp=CC at *;go_upto_region 16 with (first
      | ((with_reducible refine js (o:=⟨some 72,_,_,_,_,_⟩) ?_ 114 _ rfl g ?_ 114 CC.toArray (0,0) _ ?_ jrn ?_ ?_ ?_);(·rfl);(·rfl);(·exact k9.out);(·rfl);(·rw [SC7];rfl);go_frame)
      | ((with_reducible refine jrj (op:=⟨none, .store 114 (.tmp 74) (.tmp 72),_,_,_,_⟩) ?_ 114 _ _ rfl sg 0 CC.toArray ?_ ?_ ?_ ?_ ?_ ?_);(·rfl);(·rfl);(·rfl);(·rw [SC7];exact TH.out);(·rw [SC7];rfl);(·exact OC7);go_frame))
     refine jg (fun W=>(SS W sg kp mb gs ⟨jW s1,t.L,t.puts⟩/\SrcSt W lo gs xs k1/\Cb W r 47 ZH/\Two sg gs w W/\Cb W r11 47 H1/\Cb W r14 23 (cellsOf mk)/\Own w4.heap.size W A1 n1 d1_ dl)/\w7.heap.size<=W.heap.size) ⟨F8.out,w7s⟩ ?_;clear F8 k9 TH SC7 OC7 w7s;rintro w8 ⟨⟨a1,a2,a3,a4,a5,a6,a7⟩,w78⟩;have QQ:Hid (∀ u,w8.drew.grownBy u (some r)->SS u sg kp mb gs ⟨jW s1,t.L,t.puts⟩/\SrcSt u lo gs xs k1/\Two sg gs w u/\Cb u r11 47 H1/\Cb u r14 23 (cellsOf mk)):=fun u x=>by
      have hb:∀ i,i < w8.heap.size->i≠r->u.heap[i]? =w8.heap[i]? :=fun i hi hne=>x.block i hi (fun z=>hne (jpD z))
      exact ⟨a1.stay (hb _ a1.sl (by omega)) (hb _ a1.kl (by omega)) (hb _ a1.ml (by omega)),a2.other (w:=w8) ⟨x.os,x.tape,x.output,x.size,x.block⟩ (.inr (by omega)),⟨x.os.trans a4.1,x.tape.trans a4.2.1,x.output.trans a4.2.2.1,jp0 a4.2.2.2.1 x.size,fun i hi h1 h2=>(hb i (jpq hi a4.2.2.2.1) (by omega)).trans (a4.2.2.2.2 i hi h1 h2)⟩,(hb _ a5.lt (by omega)).trans a5,(hb _ a6.lt (by omega)).trans a6⟩
     have K3:Hid (Cb w8.drew r 47 ZH):=a3;have CL:=Hj (C1.out w8.drew A1 n1 d1_ (QQ.out _ (jpZ _ _)).2.2.1 (a7.bs.ext (jnQ _).drew) n1l (by omega));have r8:w.heap.size<=w8.drew.heap.size:=a4.2.2.2.1;clear a1 a2 a3 a4 a5 a6 a7 C1;refine qgW r [0,1,2,3,4,5,6,7] [4,5] ?_;refine qV rfl (fun w'=>w'.heap[r11]? =some (.cells H1.toArray 47 (0,0))) (fun w' e=>(QQ.out w' e).2.2.2.1) (.agg H1.toArray) (fun w' hF=>jd rfl rfl hF rfl rfl (by rw [S_H1];rfl)) ?_;go_frame
     refine qV rfl (fun w'=>w'.heap[r14]? =some (.cells (cellsOf mk).toArray 23 (0,0))) (fun w' e=>(QQ.out w' e).2.2.2.2) (.agg (cellsOf mk).toArray) (fun w' hF=>jd rfl rfl hF rfl rfl (by rw [S_mk];rfl)) ?_;go_frame
     repeat ((first | refine qR0 ?_ | refine qS ?_);go_frame)
     have ZZ:Hid (w8.drew.grownBy w8.drew (some r)):=jpZ _ _;generalize w8.drew=V8 at *;have r8l:=K3.out.lt;refine qD fun K hK=> ?_
     go_simp;refine CL.out.mono ?_;rintro e w9 ⟨A9,n9,c9,rfl,o9,x9⟩;refine hK.out _ _ (jD x9) ?_;clear hK K;try go_frame
     replace K3:=Hj (K3.out.ext x9);have ON:Hid (∀ gg,jrb (.slice A9 n9 c9)=some gg->V8.heap.size<=gg):=fun gg hq=>(jrc o9 gg hq).1
     replace o9:=Hj (o9.lower (B':=w.heap.size) r8);have G9:=Hj (jD (r:=some r) x9);clear CL x9;repeat ((first | refine qR0 ?_ | refine qS ?_);go_frame)
     refine qD fun K hK=> ?_
     refine jrf _ _ _ rfl r H1.toArray rfl rfl 47 ZH.toArray K3.out (by rw [S_H1];rfl) (by rw [S_H1,S_hz]) O_H1 ?_;refine hK.out _ _ (qG _ _ _) ?_;clear hK K;try simp only [jpR]
     repeat ((first | refine qR0 ?_ | refine qS ?_);go_frame)
     refine jp ?_;have FIN:=Hj (QQ.out _ (jt G9.out (qG w9 r H1.toArray)));have OFIN:Hid (Own w.heap.size (w9.setRow r H1.toArray) A9 n9 c9 SB):=o9.out.kept (qG w9 r H1.toArray) (by
      cases hq:jrb (.slice A9 n9 c9) with
      | none=>exact .inl rfl
      | some gg=>
        right
        have:=ON.out gg hq;intro z;have:=jpD z;omega)
     go_wp2_with fail;(try simp only [jqV,Exit.then]);refine jqW (qL rfl _ _ r 47 H1.toArray (0,0) _ _ _ rfl rfl rfl (jqc _ _ _ _ _ _ K3.out) rfl rfl (by rw [S_H1];rfl)) rfl ?_;exact ⟨A9,n9,c9,by rw [QE.out.1,QE.out.2];rfl,by rw [QB.out];exact OFIN.out,by rw [QS.out ()];exact FIN.out.1,by rw [KK.out];exact FIN.out.2.1,FIN.out.2.2.1⟩
   ·have q1:=Hj (RTt.out he);have hbn:(te !=0)=true:=bne_iff_ne.2 he;have RET2:Hid (SS (w3.setRow r ZH.toArray) sg kp mb gs t/\SrcSt (w3.setRow r ZH.toArray) lo gs xs (k+1)/\Two sg gs w (w3.setRow r ZH.toArray)):=⟨h3.stay (jqy _ _ _ _ (by omega)) (jqy _ _ _ _ (by omega)) (jqy _ _ _ _ (by omega)),s3.row (by omega),⟨T3.1,T3.2.1,T3.2.2.1,by simpa using T3.2.2.2.1,fun i hi h1 h2=>(jqy _ _ _ _ (by omega)).trans (T3.2.2.2.2 i hi h1 h2)⟩⟩;clear RTt RRt hS3 h3 s3 T3 hte;go_wp2_with (first
     | (refine jm rfl _ _ rfl ZH.toArray (by simp only [jqE,jqF];exact BZ.out) ?_;go_frame)
     | (refine ws_ rfl 47 rfl r ZH.toArray rfl rfl k3 (by rw [S_hz];rfl) rfl O_hz ?_;simp only [jpR]))
    (try simp only [jqV,Exit.then]);refine jqW (qL rfl _ _ r 47 ZH.toArray (0,0) _ _ _ rfl rfl rfl (jqc _ _ _ _ _ _ k3) rfl rfl (by rw [S_hz];rfl)) rfl ?_;exact ⟨none,0,0,by rw [q1.out.1,q1.out.2.2.1];rfl,by rw [q1.out.2.1];exact Own.nil _ _,by rw [q1.out.2.2.2.1];exact RET2.out.1,by rw [q1.out.2.2.2.2];exact RET2.out.2.1,RET2.out.2.2⟩
end
section
open Go.ChangeShapes Go.WideShapes Go.ChangeAt Go.RowKit Go.Deep
set_option maxRecDepth 100000 in
theorem jop {A:Option Addr}{n c:Nat}{ks bs:List UInt8}{w:World}(hk:ks.length=32) (h:Bs w A n c bs) (hn:n<=100000000):
 Calls jpx 62 #[.agg (cellsOf ks).toArray, .slice A n c] w (YA (ks++bs) w):=by
 have KB:Hid (Bs (w.alloc (jqY (cellsOf ks).toArray 23)) (some ⟨w.heap.size,0,none⟩) 32 32 ks):=Ky.bs (Ky.boxed w hk);have HB:=Hj (h.ext ((jnQ w).alloc (jqY (cellsOf ks).toArray 23)));have E0:Hid (Ext w (w.alloc (jqY (cellsOf ks).toArray 23))):=(jnQ w).alloc _;have c1:=h.le;have c2:=h.cap;clear h;go_enter Tryz.func62,Tryz.ntmps62
 go_upto_region 1 with fail;refine jg (fun W=>Bs W (some ⟨w.heap.size,0,none⟩) 32 32 ks/\Bs W A n c bs/\Ext w W) ⟨KB.out,HB.out,E0.out⟩ ?_;clear KB HB E0;rintro w0 ⟨kb,hb,e0⟩;replace kb:=Hj kb;replace hb:=Hj hb;replace e0:=Hj e0;have o0:=Hj (Own.nil w0.heap.size w0);go_wp2_with (first
  | (at_builtin;(with_reducible refine jJ rfl (B:=w0.heap.size) (s:= .const (.slice none 0 0)) (x:= .tmp 6) rfl rfl rfl o0.out kb.out (by omega) (jpo _) ?_);intro A1 c1' w1 o1 g1 b1;replace o1:=Hj o1;clear g1;replace b1:Hid (Ext w0 w1):=b1;rw [show 0+32=32 from rfl] at *;go_frame)
  | (at_builtin;(with_reducible refine jJ rfl (B:=w0.heap.size) (s:= .tmp 8) (x:= .tmp 9) rfl rfl rfl o1.out (hb.out.ext b1.out) (by omega) b1.out.size ?_);intro A2 c2' w2 o2 g2 b2;replace o2:=Hj o2;clear g2;replace b2:Hid (Ext w0 w2):=jpn b1.out b2;go_frame))
 go_ret;exact ⟨_,_,_,rfl,World.ownsRow.mono o2.out e0.out.size,e0.out.trans b2.out⟩
theorem jn5 {o:Oper}{a:Act}{w:World}{x:Operand}{K:Array Value}(ho:o.op= .field 160 x 0) (hx:a.eval x= .agg K) (hK:K.size=32):(jpY a.eval o).run jpx w= .ok (.value (.agg K)) w:=by
 have hr:(Instr.field 160 (.agg K) 0).run jpx w=(Sem.run jpx (part 23 K 0) w):=by
  simp [Instr.field,jql Tryz.underlying160,asAgg]
 have hp:(part 23 K 0).run jpx w= .ok (.agg K) w:=by
  obtain ⟨i,hi,hz0,hz1,hz2⟩:=info_parts jfG;have he:K.extract 0 32=K:=by rw [<-hK];exact Array.extract_size
  simp [part,isAgg,jql jqD,sizeOf,typeInfo,hi,hz1,he]
 unfold jpY;simp only [ho,hx,jqi,hr,hp,jqk,jqj]
set_option maxRecDepth 100000 in
theorem joD {A:Option Addr}{n c:Nat}{l:List (List UInt8)}{ks:List UInt8}{w:World}(hk:ks.length=32) (h:Rw w A n c l) (hm:(qz l).length<=100000000){tg:jpC×Nat×Nat}(hG:Gl w tg):
 Calls jpx 60 #[.agg (cellsOf ks).toArray, .slice A n c] w fun e w'=>e= .returned (.agg (cellsOf (jC ks (qz l))).toArray)/\Ext w w':=by
 have MADE:Hid (∀ (W:World),Ext w W->Calls jpx 69 #[.agg (cellsOf ks).toArray, .slice A n c] W fun e w'=>e= .returned (.agg (cellsOf (jC ks (qz l))).toArray)/\Ext W w'):=fun W e=>jn8 hk (h.ext e) hm (hG.kept e hG.lt)
 clear hG h;have ML:=qr ks (qz l);generalize jC ks (qz l)=D at *;have KS:(cellsOf ks).toArray.size=32:=by simp [ja,hk]
 have DS:(cellsOf D).toArray.size=32:=by simp [ja,ML]
 have D1:=ji D;have hal:=j2;have hz0:=j7;generalize jr=Z at *;have B0:Hid (Ky ((w.alloc (jqY (cellsOf ks).toArray 23)).alloc (jqY Z 23)) w.heap.size ks):=⟨jQ _ _ _,hk⟩;have B1:Hid (((w.alloc (jqY (cellsOf ks).toArray 23)).alloc (jqY Z 23)).heap[w.heap.size+1]? =some (.cells Z 23 (0,0))):=jK _ _ _;go_enter Tryz.func60,Tryz.ntmps60
 go_wp2_with (refine wl_ rfl 23 rfl w.heap.size rfl B0.out.1 rfl rfl (by rw [KS];rfl) ?_;go_frame)
 refine (MADE.out _ (((jnQ w).alloc _).alloc _)).mono ?_;rintro e w1 ⟨rfl,e1⟩;have r1:=Hj ((e1.block _ (jh B1.out)).trans B1.out);have x1:Hid (Ext w w1):=(((jnQ w).alloc _).alloc _).trans e1;clear MADE B0 B1 e1;go_wp2_with (first
  | (refine vQ rfl (jn5 rfl rfl DS) ?_;go_frame)
  | (refine ws_ rfl 23 rfl (w.heap.size+1) (cellsOf D).toArray rfl rfl r1.out (by rw [DS];rfl) (by rw [DS];exact hz0) D1 ?_;go_frame))
 (try simp only [jqV,Exit.then]);refine jqW (jqX rfl _ _ (w.heap.size+1) 23 (cellsOf D).toArray (0,0) _ rfl (jqc _ _ _ _ _ _ r1.out) rfl rfl (by rw [DS];rfl)) rfl ?_;exact ⟨rfl,jqb x1.out (Nat.le_succ _) _⟩
end
section
open Go.ChangeShapes Go.WideShapes Go.ChangeAt Go.RowKit Go.Deep Go.Maps
theorem jdJ {w:World}{sg kp mb gs:Nat}{t:Rz}{A B:Option Addr}{m1 c1 m2 c2:Nat}{bs body pk:List UInt8}{prev n:Int}(h:SS w sg kp mb gs t) (hp:t.puts<=1000000000) (hb:Bs w A m1 c1 bs) (hb':Bs w B m2 c2 body) (hm1:m1<=900000) (hm2:m2<=1000000) (lp:pk.length=32)
 {tg tp:jpC×Nat×Nat} (hG:Gl w tg) (hP:Gp w tp):
 Calls jpx 23 #[.pointer (some ⟨sg,0,none⟩), .slice A m1 c1, .agg (hdC pk prev n).toArray, .slice B m2 c2] w fun e w'=>∃ A' n' c' kp' mb',e= .returned (.tuple #[.slice A' n' c', .int .i64 (yt t bs pk prev n body)])/\Own w.heap.size w' A' n' c' (Ym t bs pk prev n body)/\SS w' sg kp' mb' gs (zf t bs pk prev n body)/\w.grownBy w' (some sg)/\((kp'=kp/\mb'=mb)\/(w.heap.size<=kp'/\w.heap.size<=mb')):=by
 have DA:Hid (∀ W,Ext w W->Calls jpx 45 #[.slice A m1 c1, .agg (hdC pk prev n).toArray] W (YP (yF bs pk prev n) (jo4 prev n) W)):=fun W e=>jem (hb.ext e) (by omega) lp
 have DL:=JN bs lp prev n;rw [hb.len] at DL;have L_h:=yz lp prev n;obtain ⟨sokR,l8R,_⟩:=jip h.ok h.l8 (bs:=bs) lp prev n body;have RB:Hid (okH prev n=false->jo4 prev n=1/\yt t bs pk prev n body=1/\Ym t bs pk prev n body= []/\zf t bs pk prev n body=t):=fun z=>by
  have e:yt t bs pk prev n body=1:=by unfold yt;rw [z];rfl
  refine ⟨by unfold jo4;rw [z];rfl,e,by unfold Ym;rw [e];rfl,by unfold zf;rw [e];rfl⟩
 have RO:Hid (okH prev n=true->jo4 prev n=0/\yF bs pk prev n=qb bs pk prev n/\yt t bs pk prev n body=(vZ t pk prev n (qb bs pk prev n) body).2.2):=fun z=>⟨by unfold jo4;rw [z];rfl,by unfold yF;rw [z];rfl,by unfold yt;rw [z];rfl⟩
 have R0:Hid (okH prev n=true->(vZ t pk prev n (qb bs pk prev n) body).2.2=0->Ym t bs pk prev n body=(vZ t pk prev n (qb bs pk prev n) body).2.1/\zf t bs pk prev n body=(vZ t pk prev n (qb bs pk prev n) body).1):=fun z z2=>by
  have e:yt t bs pk prev n body=0:=by unfold yt;rw [z];exact z2
  exact ⟨by unfold Ym;rw [if_pos e],by unfold zf;rw [if_pos e]⟩
 have R1:Hid (okH prev n=true->(vZ t pk prev n (qb bs pk prev n) body).2.2≠0->Ym t bs pk prev n body= []/\zf t bs pk prev n body=t):=fun z z2=>by
  have e:yt t bs pk prev n body≠0:=by unfold yt;rw [z];exact z2
  exact ⟨by unfold Ym;rw [if_neg e],by unfold zf;rw [if_neg e]⟩
 obtain ⟨nk,nm⟩:=h.ne;have sl:=h.sl;have kl:=h.kl;have ml:=h.ml;have gl:=hG.lt;have pl:=hP.lt;have P0:Hid (∀ u,Ext w u->SS u sg kp mb gs t/\Bs u B m2 c2 body/\Gl u tg/\Gp u tp):=fun u x=>⟨h.ext x,hb'.ext x,hG.kept x hG.lt,hP.ext x⟩
 have ok:=h.ok;have l8:=h.l8;obtain ⟨RE,hRE⟩:∃ x,x=yt t bs pk prev n body:=⟨_,rfl⟩;obtain ⟨RT,hRT⟩:∃ x,x=Ym t bs pk prev n body:=⟨_,rfl⟩;obtain ⟨RS,hRS⟩:∃ x,x=zf t bs pk prev n body:=⟨_,rfl⟩;rw [<-hRE] at RB RO ⊢;rw [<-hRT] at RB R0 R1 ⊢;rw [<-hRS] at RB R0 R1 sokR l8R ⊢;clear hRE hRT hRS h hb' hG hP hb;obtain ⟨r,hr⟩:=ex_ w.heap.size;obtain ⟨HD,hHD⟩:∃ x,x=hdC pk prev n:=⟨_,rfl⟩;rw [<-hHD] at DA L_h ⊢;replace hHD:=Hj (fun _:Unit=>hHD);have S_h:HD.toArray.size=34:=by rw [jqu,L_h]
 have B0:Hid (Cb (w.alloc (.cells HD.toArray 47)) r 47 HD/\Ext w (w.alloc (.cells HD.toArray 47))):=by rw [hr];exact ⟨Cb.new _ _ _,(jnQ w).alloc _⟩
 go_enter Tryz.func23,Tryz.ntmps23
 go_upto_region 1 with fail;refine jg (fun W=>Cb W r 47 HD/\Ext w W) B0.out ?_;rw [<-hr];have wr_:w.heap.size<=r:=jre hr.symm;clear B0;replace hr:=Hj hr;rintro w0 ⟨k6,x0⟩;have D0:=Hj (DA.out w0 x0);replace k6:=Hj k6;replace x0:=Hj x0;clear DA;go_wp2_with (first | ((with_reducible refine js (o:=⟨some 16,_,_,_,_,_⟩) ?_ 47 _ rfl r ?_ 47 HD.toArray (0,0) _ ?_ jrm ?_ ?_ ?_);(·rfl);(·rfl);(·exact k6.out);(·rfl);(·rw [S_h];rfl);go_frame))
 refine D0.out.mono ?_;rintro e w1 ⟨A1,n1,d1,rfl,b1,x1⟩;have x01:=Hj (x0.out.trans x1);have k61:=k6.out.ext x1;clear D0 k6 x0 x1;rcases hk:okH prev n with _ | _
 ·obtain ⟨e1,e2,e3,e4⟩:=RB.out hk;have F:=(P0.out w1 x01.out).1;rw [e1];have GR:=Hj (jD (r:=some sg) x01.out);have F2:Hid (SS w1 sg kp mb gs RS):=by rw [e4];exact F
  replace e2:=Hj e2;replace e3:=Hj e3;clear e1 e4 F RB RO R0 R1 P0 b1 k61 hk;go_wp2_with fail;go_ret2;exact ⟨none,0,0,kp,mb,by rw [e2.out];rfl,by rw [e3.out];exact Own.nil _ _,F2.out,GR.out, .inl ⟨rfl,rfl⟩⟩
 obtain ⟨e1,e2,e3⟩:=RO.out hk;replace R0:=Hj (R0.out hk);replace R1:=Hj (R1.out hk);obtain ⟨pa,na,rfl,rfl,hpa,hna⟩:=QH hk;rw [e1];rw [e2] at b1 DL;replace b1:=Hj b1;have n1l:n1<=1000000:=by rw [<-b1.out.len];omega
 replace e3:=Hj e3;generalize qb bs pk (pa:Int) (na:Int)=dl at *;clear e1 e2 hk RB RO DL;obtain ⟨h1,_,_,_⟩:=P0.out w1 x01.out;have LC:=Rt.C_len ok kp;have SC:=Rt.C_size ok kp;have OC:=Rt.C_one t.s kp;have all:=Hj (h1.sq.all w1 sg);have hal:=JC;have L_z:=jcP;generalize zT=ZT at *;have S_z:ZT.toArray.size=200:=by rw [jqu,L_z]
 have Y:Hid (Cb ((w1.alloc (.cells ZT.toArray 114)).setRow w1.heap.size (t.s.C kp).toArray) w1.heap.size 114 (t.s.C kp)/\Ext w1 ((w1.alloc (.cells ZT.toArray 114)).setRow w1.heap.size (t.s.C kp).toArray)):=⟨Cb.set (Cb.new _ _ _),Ext.newRow _ _ _⟩;go_upto_region 5 with (first
  | ((with_reducible refine jI (o:=⟨some 26,_,_,_,_,_⟩) (ty:=114) (g:=sg) (off:=0) (ys:=t.s.C kp) ?_ rfl ?_ ?_ jrn ?_ ?_ ?_);(·rfl);(·rfl);(·exact all.out);(·rfl);(·rw [LC];rfl);go_frame)
  | (refine ws_ rfl 114 rfl w1.heap.size (t.s.C kp).toArray rfl rfl (jqq _ _) (by rw [SC];rfl) (by rw [SC,S_z]) OC ?_;simp only [jpR]))
 obtain ⟨g,hg⟩:∃ x,x=w1.heap.size:=⟨_,rfl⟩;refine jg (fun W=>Cb W w1.heap.size 114 (t.s.C kp)/\Ext w1 W) Y.out ?_;rw [<-hg];have wg:w1.heap.size<=g:=jre hg.symm;clear Y all;replace hg:=Hj hg;rintro w2 ⟨k12,x2⟩;have ww1:w.heap.size<=w1.heap.size:=x01.out.size;have g2l:=k12.lt;obtain ⟨h2,_,_,_⟩:=P0.out w2 (x01.out.trans x2);have f199:=h2.sq.kpc ok;have CP:=Hj (jdN h2.sk (by have:=h2.l8;omega));replace k12:=Hj k12;replace x2:=Hj x2;clear h1 h2;go_wp2_with fail;refine CP.out.mono ?_;rintro e w3 ⟨g',b',rfl,lg',lb',s3,x3⟩;have z199:=(Sq.nil.2 (k12.out.ext x3)).frozen 199;have c199:=(Sq.nil.2 (k12.out.ext x3)).kpc ok;replace s3:=Hj s3;replace x3:=Hj x3;clear CP f199;go_upto_region 6 with fail;have hQ:=Hj ((Sq.nil.2 (k12.out.ext x3.out)).set_kp ok g');have hst:g≠g':=zt (k12.out.ext x3.out) s3.out.cb (by decide);have hgb:g < w3.heap.size:=jpq g2l x3.out.size;have hsk:Hid (SK (w3.setCell ⟨g,199,none⟩ (.pointer (some ⟨g',0,none⟩))) g' b' t.L t.puts):=s3.out.stay (jP.block _ s3.out.cb.lt (fun z=>by have:=jpD z;omega)) (jP.block _ s3.out.mp.lt (fun z=>by have:=jpD z;omega));have x5:Hid (Ext w1 (w3.setCell ⟨g,199,none⟩ (.pointer (some ⟨g',0,none⟩)))):=Hj (JQ (x2.out.trans x3.out) jP wg);refine jg (fun W=>Sq W g 114 t.s g' []/\SK W g' b' t.L t.puts/\Ext w1 W) ⟨hQ.out,hsk.out,x5.out⟩ ?_;have wg2:w1.heap.size<=g':=jp0 x2.out.size lg';have wb2:w1.heap.size<=b':=jp0 x2.out.size lb';clear hQ hsk x5 c199 z199 k12 x2 s3 x3 hst;rintro w4 ⟨hS,hK,x4⟩;have OPM:∀ u,Ot (P3 g g' b') w4 u->(Bs u A1 n1 d1 dl/\Bs u B m2 c2 body)/\Gl u tg/\Gp u tp:=fun u x=>by
  have y:=Ot.ext x4 x (fun i hi=>by rcases hi with rfl | rfl | rfl <;> assumption);obtain ⟨_,q2,q3,q4⟩:=P0.out u (x01.out.trans y);exact ⟨⟨b1.out.ext y,q2⟩,q3,q4⟩
 have OPN:=Hj (jdF hS hK ok l8 hp (data:=dl) (body:=body) (prev:=(pa:Int)) (n:=(na:Int)) OPM n1l hm2 lp (by omega) (by omega));rw [<-hHD.out ()] at OPN;have k64:=Hj (k61.ext x4);clear hS hK OPM k61 b1;obtain ⟨OS,hOS⟩:∃ x,x=vZ t pk (pa:Int) (na:Int) dl body:=⟨_,rfl⟩;rw [<-hOS] at OPN R0 R1 e3;clear hOS;obtain ⟨ts,tx,er⟩:=OS;dsimp only at *;go_wp2_with (first | ((with_reducible refine js (o:=⟨some 36,_,_,_,_,_⟩) ?_ 47 _ rfl r ?_ 47 HD.toArray (0,0) _ ?_ jrm ?_ ?_ ?_);(·rfl);(·rfl);(·exact k64.out);(·rfl);(·rw [S_h];rfl);go_frame))
 refine OPN.out.mono ?_;rintro e w5 ⟨A5,n5,c5,rfl,o5,hS5,hK5,hO5⟩;have y5:=Ot.ext x4 hO5 (fun i hi=>by rcases hi with rfl | rfl | rfl <;> assumption);replace o5:=Hj (o5.lower (B':=w.heap.size) (jp0 ww1 x4.size));clear OPN k64 hO5;have h5:=(P0.out w5 (x01.out.trans y5)).1;by_cases he:er=0
 ·obtain ⟨q1,q2⟩:=R0.out he;replace q1:=Hj q1;rw [q2] at sokR l8R;have q3:=Hj (fun _:Unit=>q2);subst he;replace e3:=Hj e3.out;have SC5:=Rt.C_size sokR g';have OC5:=Rt.C_one ts.s g';have TH:=Hj (h5.sq.there0 ok);have PUT:=h5.sq.put_all ok sokR (kp':=g');have hsg:sg < w1.heap.size:=jpq sl ww1;have F:Hid (SS (w5.setCells sg 0 (ts.s.C g')) sg g' b' gs ts):=⟨PUT,hK5.stay (ju.block _ hK5.cb.lt (fun z=>by have:=jpD z;omega)) (ju.block _ hK5.mp.lt (fun z=>by have:=jpD z;omega)),sokR,l8R⟩;have GR:Hid (w.grownBy (w5.setCells sg 0 (ts.s.C g')) (some sg)):=jt (jD (x01.out.trans y5)) ju;have OW:Hid (Own w.heap.size (w5.setCells sg 0 (ts.s.C g')) A5 n5 c5 tx):=o5.out.kept ju (by
   cases hq:jrb (.slice A5 n5 c5) with
   | none=>exact .inl rfl
   | some gg=>
     right
     have:=(jrc o5.out gg hq).1;intro z;have:=jpD z;omega)
  have k5:Hid (Cb w5 g 114 (ts.s.C g')):=Sq.nil.1 hS5;clear R0 R1 P0 h5 hS5 hK5 y5 o5 PUT q2;generalize ts.s.C g'=CC at *;go_wp2_with (first
   | ((with_reducible refine js (o:=⟨some 45,_,_,_,_,_⟩) ?_ 114 _ rfl g ?_ 114 CC.toArray (0,0) _ ?_ jrn ?_ ?_ ?_);(·rfl);(·rfl);(·exact k5.out);(·rfl);(·rw [SC5];rfl);go_frame)
   | ((with_reducible refine jrj (op:=⟨none, .store 114 (.tmp 47) (.tmp 45),_,_,_,_⟩) ?_ 114 _ _ rfl sg 0 CC.toArray ?_ ?_ ?_ ?_ ?_ ?_);(·rfl);(·rfl);(·rfl);(·rw [SC5];exact TH.out);(·rw [SC5];rfl);(·exact OC5);go_frame))
  go_ret2;exact ⟨A5,n5,c5,g',b',by rw [e3.out];rfl,by rw [q1.out];exact OW.out,by rw [q3.out ()];exact F.out,GR.out, .inr ⟨jp0 ww1 wg2,jp0 ww1 wb2⟩⟩
 ·obtain ⟨q1,q2⟩:=R1.out he;have hbn:(er !=0)=true:=bne_iff_ne.2 he;replace q1:=Hj q1;have GR:Hid (w.grownBy w5 (some sg)):=jD (x01.out.trans y5);have F:Hid (SS w5 sg kp mb gs RS):=by rw [q2];exact h5
  clear R0 R1 P0 h5 hS5 hK5 y5 o5 q2;go_wp2_with fail;go_ret2;exact ⟨none,0,0,kp,mb,by rw [e3.out];rfl,by rw [q1.out];exact Own.nil _ _,F.out,GR.out, .inl ⟨rfl,rfl⟩⟩
def ZU (root pk:List UInt8):Rt:=⟨root,jqn 64 0,true,pk,false,false,jqn 32 0,0,0,false,jqn 32 0,0⟩
def YB (root own:List UInt8):Rt:=⟨root,own,false,jqn 32 0,false,false,jqn 32 0,0,0,false,jqn 32 0,0⟩
theorem jiT {root pk:List UInt8}(h1:root.length=32) (h2:pk.length=32):(ZU root pk).ok:=⟨h1,rfl,h2,rfl,rfl,⟨jrl 0,(by decide:(0:Int)<=4000000)⟩,⟨jrl 0,(by decide:(0:Int)<=4000000)⟩,⟨jrl 0,(by decide:(0:Int)<=4000000)⟩⟩
theorem jiS {root own:List UInt8}(h1:root.length=32) (h2:own.length=64):(YB root own).ok:=⟨h1,h2,rfl,rfl,rfl,⟨jrl 0,(by decide:(0:Int)<=4000000)⟩,⟨jrl 0,(by decide:(0:Int)<=4000000)⟩,⟨jrl 0,(by decide:(0:Int)<=4000000)⟩⟩
theorem jd0:∃ pl:Nat->Option (Nat×Nat),(pl 0=some (0,32)/\pl 1=some (32,64)/\pl 2=some (96,1)/\pl 3=some (97,32)/\pl 8=some (199,1))/\∀ ps,Tryz.prog.built 114 ps=jqo pl zT.toArray ps:=⟨(#[(0,32),(32,64),(96,1),(97,32),(129,1),(130,34),(164,1),(165,34),(199,1)][·]?),⟨rfl,rfl,rfl,rfl,rfl⟩,fun ps=>by kernel_rfl⟩
theorem jcY {root pk:List UInt8}(h1:root.length=32) (h2:pk.length=32) (kp:Nat):Tryz.prog.built 114 [(0, .agg (cellsOf root).toArray),(2, .bool true),(3, .agg (cellsOf pk).toArray),(8, .pointer (some ⟨kp,0,none⟩))]=some ((ZU root pk).C kp).toArray:=by
 obtain ⟨pl,⟨p0,p1,p2,p3,p8⟩,hp⟩:=jd0;rw [hp];have lr:(cellsOf root).length=32:=by rw [ja,h1]
 have lk:(cellsOf pk).length=32:=by rw [ja,h2]
 have lz:(cellsOf (jqn 32 0)).length=32:=by rw [ja,jrh]
 have ly:(cellsOf (jqn 64 0)).length=64:=by rw [ja,jrh]
 unfold zT ZU Rt.C;dsimp only;generalize cellsOf (jqn 32 0)=Z at *;generalize cellsOf (jqn 64 0)=Y at *;generalize cellsOf root=R at *;generalize cellsOf pk=K at *;rw [qK p0 (by simp [qo,lr]) (by simp [lz,ly] <;> omega)];have e0:jp9 (Z++(Y++([jri false]++(Z++([jri false, .bool false]++(Z++([jpA .i64 0, .int .i64 0, .bool false]++(Z++ [jpA .i64 0, .pointer none])))))))) 0 (jqp R.toArray).cells.toList=(R++Y)++([jri false]++(Z++([jri false, .bool false]++(Z++([jpA .i64 0, .int .i64 0, .bool false]++(Z++ [jpA .i64 0, .pointer none])))))):=by
  refine (qB (p:= []) (y:=Z) rfl (by rw [lz];simp [qo,lr])).trans ?_;simp [qo]
 rw [e0,qK p2 rfl (by simp [lr,ly] <;> omega)];have e2:jp9 ((R++Y)++([jri false]++(Z++([jri false, .bool false]++(Z++([jpA .i64 0, .int .i64 0, .bool false]++(Z++ [jpA .i64 0, .pointer none]))))))) 96 (jri true).cells.toList=((R++Y)++ [jri true])++(Z++([jri false, .bool false]++(Z++([jpA .i64 0, .int .i64 0, .bool false]++(Z++ [jpA .i64 0, .pointer none]))))):=by
  refine (qB (off:=96) (p:=R++Y) (y:= [jri false]) (z:= [jri true]) (by simp [lr,ly]) rfl).trans ?_;simp [Value.cells]
 rw [e2,qK p3 (by simp [qo,lk]) (by simp [lr,ly,lz] <;> omega)];have e3:jp9 (((R++Y)++ [jri true])++(Z++([jri false, .bool false]++(Z++([jpA .i64 0, .int .i64 0, .bool false]++(Z++ [jpA .i64 0, .pointer none])))))) 97 (jqp K.toArray).cells.toList=(R++(Y++([jri true]++(K++([jri false, .bool false]++(Z++([jpA .i64 0, .int .i64 0, .bool false]++(Z++ [jpA .i64 0]))))))))++([jro none]++ []):=by
  refine (qB (off:=97) (p:=(R++Y)++ [jri true]) (y:=Z) (by simp [lr,ly]) (by rw [lz];simp [qo,lk])).trans ?_;simp [qo]
 rw [e3,qK p8 rfl (by simp [lr,ly,lz,lk] <;> omega)];have e8:jp9 ((R++(Y++([jri true]++(K++([jri false, .bool false]++(Z++([jpA .i64 0, .int .i64 0, .bool false]++(Z++ [jpA .i64 0]))))))))++([jro none]++ [])) 199 (jro (some ⟨kp,0,none⟩)).cells.toList=R++(Y++([jri true]++(K++([jri false, .bool false]++(Z++([jpA .i64 0, .int .i64 0, .bool false]++(Z++ [jpA .i64 0, .pointer (some ⟨kp,0,none⟩)]))))))):=by
  refine (qB (off:=199) (p:=R++(Y++([jri true]++(K++([jri false, .bool false]++(Z++([jpA .i64 0, .int .i64 0, .bool false]++(Z++ [jpA .i64 0])))))))) (y:= [jro none]) (q:= []) (z:= [jro (some ⟨kp,0,none⟩)]) (by simp [lr,ly,lz,lk]) rfl).trans ?_;simp [Value.cells]
 rw [e8]
 rfl
theorem jbX {root own:List UInt8}(h1:root.length=32) (h2:own.length=64) (kp:Nat):Tryz.prog.built 114 [(0, .agg (cellsOf root).toArray),(1, .agg (cellsOf own).toArray),(8, .pointer (some ⟨kp,0,none⟩))]=some ((YB root own).C kp).toArray:=by
 obtain ⟨pl,⟨p0,p1,p2,p3,p8⟩,hp⟩:=jd0;rw [hp];have lr:(cellsOf root).length=32:=by rw [ja,h1]
 have lk:(cellsOf own).length=64:=by rw [ja,h2]
 have lz:(cellsOf (jqn 32 0)).length=32:=by rw [ja,jrh]
 have ly:(cellsOf (jqn 64 0)).length=64:=by rw [ja,jrh]
 unfold zT YB Rt.C;dsimp only;generalize cellsOf (jqn 32 0)=Z at *;generalize cellsOf (jqn 64 0)=Y at *;generalize cellsOf root=R at *;generalize cellsOf own=K at *;rw [qK p0 (by simp [qo,lr]) (by simp [lz,ly] <;> omega)];have e0:jp9 (Z++(Y++([jri false]++(Z++([jri false, .bool false]++(Z++([jpA .i64 0, .int .i64 0, .bool false]++(Z++ [jpA .i64 0, .pointer none])))))))) 0 (jqp R.toArray).cells.toList=R++(Y++([jri false]++(Z++([jri false, .bool false]++(Z++([jpA .i64 0, .int .i64 0, .bool false]++(Z++ [jpA .i64 0, .pointer none]))))))):=by
  refine (qB (p:= []) (y:=Z) rfl (by rw [lz];simp [qo,lr])).trans ?_;simp [qo]
 rw [e0,qK p1 (by simp [qo,lk]) (by simp [lr,ly] <;> omega)];have e1:jp9 (R++(Y++([jri false]++(Z++([jri false, .bool false]++(Z++([jpA .i64 0, .int .i64 0, .bool false]++(Z++ [jpA .i64 0, .pointer none])))))))) 32 (jqp K.toArray).cells.toList=(R++(K++([jri false]++(Z++([jri false, .bool false]++(Z++([jpA .i64 0, .int .i64 0, .bool false]++(Z++ [jpA .i64 0]))))))))++([jro none]++ []):=by
  refine (qB (p:=R) (y:=Y) lr (by rw [ly];simp [qo,lk])).trans ?_;simp [qo]
 rw [e1,qK p8 rfl (by simp [lr,ly,lz,lk] <;> omega)];have e8:jp9 ((R++(K++([jri false]++(Z++([jri false, .bool false]++(Z++([jpA .i64 0, .int .i64 0, .bool false]++(Z++ [jpA .i64 0]))))))))++([jro none]++ [])) 199 (jro (some ⟨kp,0,none⟩)).cells.toList=R++(K++([jri false]++(Z++([jri false, .bool false]++(Z++([jpA .i64 0, .int .i64 0, .bool false]++(Z++ [jpA .i64 0, .pointer (some ⟨kp,0,none⟩)]))))))):=by
  refine (qB (off:=199) (p:=R++(K++([jri false]++(Z++([jri false, .bool false]++(Z++([jpA .i64 0, .int .i64 0, .bool false]++(Z++ [jpA .i64 0])))))))) (y:= [jro none]) (q:= []) (z:= [jro (some ⟨kp,0,none⟩)]) (by simp [lr,ly,lz,lk]) rfl).trans ?_;simp [Value.cells]
 rw [e8]
 rfl
theorem Qi {C:List Value}(h:C.length=200) (v:Value) (hv:v.cells= #[v]):Tryz.prog.built 116 [(0, .agg C.toArray),(1,v)]=some (C++ [v]).toArray:=by
 have h':∃ pl:Nat->Option (Nat×Nat),(pl 0=some (0,200)/\pl 1=some (200,1))/\∀ ps,Tryz.prog.built 116 ps=jqo pl (zT++ [jro none]).toArray ps:=⟨(#[(0,200),(200,1)][·]?),⟨rfl,rfl⟩,fun ps=>by kernel_rfl⟩;obtain ⟨pl,⟨p0,p1⟩,hp⟩:=h';rw [hp];have lz:=jcP;generalize zT=Z at *;rw [qK p0 (by simp [qo,h]) (by simp [lz])];have e0:jp9 (Z++ [jro none]) 0 (jqp C.toArray).cells.toList=C++ [jro none]:=(qB (p:= []) (y:=Z) rfl (by rw [lz];simp [qo,h])).trans (by simp [qo]);rw [e0,qK p1 (by rw [hv];rfl) (by simp [h])];have e1:jp9 (C++ [jro none]) 200 v.cells.toList=C++ [v]:=by
  rw [hv];exact ZP h rfl
 rw [e1]
 rfl
theorem Z9 {w:World}{gs:Nat}{root own:List UInt8}(lr:root.length=32) (lo_:own.length=64):
 Calls jpx 36 #[.agg (cellsOf root).toArray, .agg (cellsOf own).toArray, .pointer (some ⟨gs,0,none⟩)] w fun e w'=>∃ sg kp mb,e= .returned (.pointer (some ⟨sg,0,none⟩))/\(w.heap.size<=sg/\w.heap.size<=kp/\w.heap.size<=mb)/\SS w' sg kp mb gs ⟨YB root own,[],0⟩/\Ext w w':=by
 have NW:Hid (∀ W:World,Calls jpx 59 #[] W fun e w'=>∃ g b,e= .returned (.pointer (some ⟨g,0,none⟩))/\W.heap.size<=g/\W.heap.size<=b/\SK w' g b [] 0/\Ext W w'):=fun W=>jaQ
 have BU:=Hj (fun kp=>jbX lr lo_ kp);have ok:=jiS lr lo_;have BS:=Hj (fun kp=>Qi (Rt.C_len ok kp) (.pointer (some ⟨gs,0,none⟩)) rfl);have S_r:(cellsOf root).toArray.size=32:=by simp [ja,lr]
 have S_o:(cellsOf own).toArray.size=64:=by simp [ja,lo_]
 obtain ⟨A0,hA0⟩:∃ x,x=YB root own:=⟨_,rfl⟩;rw [<-hA0] at BU ok BS ⊢;clear hA0;obtain ⟨r,hr⟩:=ex_ w.heap.size;have B0:Hid (Cb ((w.alloc (.cells (cellsOf root).toArray 23)).alloc (.cells (cellsOf own).toArray 31)) r 23 (cellsOf root)/\Cb ((w.alloc (.cells (cellsOf root).toArray 23)).alloc (.cells (cellsOf own).toArray 31)) (r+1) 31 (cellsOf own)/\Ext w ((w.alloc (.cells (cellsOf root).toArray 23)).alloc (.cells (cellsOf own).toArray 31))):=by rw [hr];exact ⟨jQ _ _ _,jK _ _ _,((jnQ w).alloc _).alloc _⟩
 go_enter Tryz.func36,Tryz.ntmps36
 go_upto_region 1 with fail;refine jg (fun W=>Cb W r 23 (cellsOf root)/\Cb W (r+1) 31 (cellsOf own)/\Ext w W) B0.out ?_;rw [<-hr];clear B0;replace hr:=Hj hr;rintro w0 ⟨k3,k4,x0⟩;have P0:Hid (∀ u,Ext w0.drew u->Cb u r 23 (cellsOf root)/\Cb u (r+1) 31 (cellsOf own)/\Ext w u):=fun u x=>⟨k3.ext ((jnQ w0).drew.trans x),k4.ext ((jnQ w0).drew.trans x),(x0.trans (jnQ w0).drew).trans x⟩
 clear k3 k4 x0;refine qgE [0,1,4,2,3,5,6,7] [2,6] ?_;refine qV rfl (fun w'=>w'.heap[r]? =some (.cells (cellsOf root).toArray 23 (0,0))) (fun w' e=>(P0.out w' e).1) (.agg (cellsOf root).toArray) (fun w' hF=>jd rfl rfl hF rfl rfl (by rw [S_r];rfl)) ?_;go_frame
 refine qV rfl (fun w'=>w'.heap[(r+1)]? =some (.cells (cellsOf own).toArray 31 (0,0))) (fun w' e=>(P0.out w' e).2.1) (.agg (cellsOf own).toArray) (fun w' hF=>jd rfl rfl hF rfl rfl (by rw [S_o];rfl)) ?_;go_frame
 repeat ((first | refine qR0 ?_ | refine qS ?_);go_frame)
 have X0:=Hj (P0.out w0.drew (jnQ _)).2.2;generalize w0.drew=V at *;refine qD fun K hK=> ?_
 go_simp;refine (NW.out V).mono ?_;rintro e w1 ⟨kp,mb,rfl,lk,lm,s1,x1⟩;refine hK.out _ _ x1 ?_;clear hK K;try go_frame
 refine qV rfl (fun _=>True) (fun _ _=>trivial) (.agg (A0.C kp).toArray) (fun w' _=>qe rfl (by simp only [jqE,jqA,jqF];exact BU.out kp)) ?_;go_frame
 repeat ((first | refine qR0 ?_ | refine qS ?_);go_frame)
 refine qV rfl (fun _=>True) (fun _ _=>trivial) (.agg (A0.C kp++ [jro (some ⟨gs,0,none⟩)]).toArray) (fun w' _=>qe rfl (by simp only [jqE,jqA,jqF];exact BS.out kp)) ?_;go_frame
 have X1:=Hj (X0.out.trans x1);replace s1:=Hj s1;have v1:=X0.out.size;clear x1 P0 NW X0;refine qD fun K hK=> ?_
 go_simp;refine hK.out _ _ ((jnQ w1).alloc _) ?_;clear hK K;try go_frame
 repeat ((first | refine qR0 ?_ | refine qS ?_);go_frame)
 refine jp ?_;have F:Hid (SS (w1.alloc (.cells (A0.C kp++ [jro (some ⟨gs,0,none⟩)]).toArray 116)) w1.heap.size kp mb gs ⟨A0,[],0⟩/\Ext w (w1.alloc (.cells (A0.C kp++ [jro (some ⟨gs,0,none⟩)]).toArray 116))):=⟨⟨Cb.new _ _ _,s1.out.ext ((jnQ w1).alloc _),ok,jpp _⟩,X1.out.alloc _⟩;go_wp2_with fail;go_ret;exact ⟨w1.heap.size,kp,mb,rfl,⟨X1.out.size,jp0 v1 lk,jp0 v1 lm⟩,F.out.1,F.out.2⟩
theorem jbe {w:World}{lo gs k:Nat}{root pk xs:List UInt8}(lr:root.length=32) (lp:pk.length=32) (hs:SrcSt w lo gs xs k) (hk:k < 1000000){tg tp:jpC×Nat×Nat}(hG:Gl w tg) (hP:Gp w tp) (hq:1 < lo):
 Calls jpx 26 #[.agg (cellsOf root).toArray, .agg (cellsOf pk).toArray, .pointer (some ⟨gs,0,none⟩)] w fun e w'=>SrcSt w' lo gs xs (k+1)/\w.grownBy w' (some gs)/\((qh (ZU root pk) (j3 (jO xs k))=0/\∃ sg kp mb,e= .returned (.tuple #[.pointer (some ⟨sg,0,none⟩), .int .i64 0])/\(w.heap.size<=sg/\w.heap.size<=kp/\w.heap.size<=mb)/\SS w' sg kp mb gs ⟨qg (ZU root pk) (j3 (jO xs k)),[],0⟩)\/(qh (ZU root pk) (j3 (jO xs k))≠0/\e= .returned (.tuple #[.pointer none, .int .i64 (qh (ZU root pk) (j3 (jO xs k)))]))):=by
 have NW:Hid (∀ W:World,Calls jpx 59 #[] W fun e w'=>∃ g b,e= .returned (.pointer (some ⟨g,0,none⟩))/\W.heap.size<=g/\W.heap.size<=b/\SK w' g b [] 0/\Ext W w'):=fun W=>jaQ
 have BU:=Hj (fun kp=>jcY lr lp kp);have ok:=jiT lr lp;have hlo:=hs.1;have hsl:=hs.lt;have S_r:(cellsOf root).toArray.size=32:=by simp [ja,lr]
 have S_p:(cellsOf pk).toArray.size=32:=by simp [ja,lp]
 obtain ⟨p,hp⟩:=ex_ (j3 (jO xs k));have L_p:p.length=64:=by rw [hp];exact yU _
 obtain ⟨A0,hA0⟩:∃ x,x=ZU root pk:=⟨_,rfl⟩;rw [<-hA0] at BU ok ⊢;have TRN:Hid (∀ (W:World) (g kp:Nat),Sq W g 114 A0 kp []->SrcSt W lo gs xs k->gs < g->Gl W tg->Gp W tp->Calls jpx 44 #[.pointer (some ⟨g,0,none⟩), .pointer (some ⟨gs,0,none⟩)] W fun e w'=>e= .returned (.int .i64 (qh A0 p))/\Sq w' g 114 (qg A0 p) kp []/\SrcSt w' lo gs xs (k+1)/\Two g gs W w'):=fun W g kp z1 z2 z3 z4 z5=>by
  rw [hp];exact ZO z1 ok z2 hk z3 z4 z5 hq
 rw [<-hp];have okT:=Rt.ok_turn ok L_p;clear hA0 hp;have SCn:Hid (∀ kp,(A0.C kp).toArray.size=200):=fun kp=>Rt.C_size ok kp
 have OCn:Hid (∀ kp,(A0.C kp).toArray.all (·.oneCell')=true):=fun kp=>Rt.C_one A0 kp
 have haS:=JC;have L_zs:=jcP;generalize zT=ZT at *;have S_zs:ZT.toArray.size=200:=by rw [jqu,L_zs]
 obtain ⟨r,hr⟩:=ex_ w.heap.size;have B0:Hid (Cb ((w.alloc (.cells (cellsOf root).toArray 23)).alloc (.cells (cellsOf pk).toArray 23)) r 23 (cellsOf root)/\Cb ((w.alloc (.cells (cellsOf root).toArray 23)).alloc (.cells (cellsOf pk).toArray 23)) (r+1) 23 (cellsOf pk)/\Ext w ((w.alloc (.cells (cellsOf root).toArray 23)).alloc (.cells (cellsOf pk).toArray 23))):=by rw [hr];exact ⟨jQ _ _ _,jK _ _ _,((jnQ w).alloc _).alloc _⟩
 go_enter Tryz.func26,Tryz.ntmps26
 go_upto_region 1 with fail;refine jg (fun W=>Cb W r 23 (cellsOf root)/\Cb W (r+1) 23 (cellsOf pk)/\Ext w W) B0.out ?_;rw [<-hr];clear B0;replace hr:=Hj hr;rintro w0 ⟨k3,k4,x0⟩;have P0:Hid (∀ u,Below w0.heap.size w0 u->Cb u r 23 (cellsOf root)/\Cb u (r+1) 23 (cellsOf pk)/\Ext w u):=fun u x=>⟨k3.kept x k3.lt,k4.kept x k4.lt,Ext.trans x0 x⟩
 have w0s:=x0.size;clear k3 k4 x0;go_cut [8] (fun s8 wx=>∃ g8 kp mb:Nat,s8= .pointer (some ⟨g8,0,none⟩)/\Below w0.heap.size w0 wx/\wx.heap[g8]? =some (.cells (A0.C kp).toArray 114 (0,0))/\(w0.heap.size<=g8/\w0.heap.size<=kp/\w0.heap.size<=mb)/\SK wx kp mb [] 0)
 case first=>
  refine qgT (R:=Below w0.heap.size) (jpm _) (fun _ _ _=>jpn) (.rd 0 (.rd 1 (.alt 2 (.rd 3 (.alt 4 (.alt 5 .nil .stop) .stop)) (.alt 4 (.alt 2 (.rd 3 (.alt 5 .nil .stop)) .stop) .stop)))) 6 ?_;refine qtV rfl (fun w'=>w'.heap[r]? =some (.cells (cellsOf root).toArray 23 (0,0))) (fun w' e=>(P0.out w' (Ext.trans (jnQ _).drew e)).1) (.agg (cellsOf root).toArray) (fun w' hF=>jd rfl rfl hF rfl rfl (by rw [S_r];rfl)) ?_;go_frame
  refine qtV rfl (fun w'=>w'.heap[(r+1)]? =some (.cells (cellsOf pk).toArray 23 (0,0))) (fun w' e=>(P0.out w' (Ext.trans (jnQ _).drew e)).2.1) (.agg (cellsOf pk).toArray) (fun w' hF=>jd rfl rfl hF rfl rfl (by rw [S_p];rfl)) ?_;go_frame
  repeat ((first | refine vN ?_ | refine qtS ?_);go_frame)
  have SE:Hid (Ext w0 w0.drew):=(jnQ w0).drew;generalize w0.drew=WC at *;repeat' (first
   | exact yD
   | (refine qc (i:=2) _ rfl ?_ ?_ (fun K1 hK1=> ?_)
      (·rfl)
      rotate_left;go_simp;refine (NW.out WC).mono ?_;rintro e0 WD ⟨kp,mb,rfl,lk,lm,sk,e⟩;refine hK1.out _ _ (e.mono SE.out.size) ?_;clear hK1 K1;have zk:=jp0 SE.out.size lk;have zm:=jp0 SE.out.size lm;(try have ng:kp≠g8:=by have:=jh hL.out;omega);(try have nh:mb≠g8:=by have:=jh hL.out;omega);(try replace hL:=Hj ((e.block _ (jh hL.out)).trans hL.out));replace SE:=Hj (SE.out.trans e);have SKx:=Hj sk;clear e sk lk lm;generalize WD=WC at *;(try go_frame);refine JX (fun _=>True) (fun _ _=>trivial) _ (v:= .agg (A0.C kp).toArray) rfl (by rfl) (fun w' _=>qe rfl (by simp only [jqE,jqA,jqF];exact BU.out kp)) ?_;(try go_frame)
      skip)
   | (refine qc (i:=4) _ rfl ?_ ?_ (fun K1 hK1=> ?_)
      (·rfl)
      rotate_left;go_simp;have e:Ext WC (WC.alloc (jqY ZT.toArray 114)):=(jnQ WC).alloc _;obtain ⟨g8,hg8⟩:∃ g,g=WC.heap.size:=⟨_,rfl⟩;have hL:=Hj (jqq WC (jqY ZT.toArray 114));rw [<-hg8] at hL ⊢;have lg8:w0.heap.size<=g8:=by rw [hg8];exact SE.out.size
      refine hK1.out _ _ (e.mono SE.out.size) ?_;clear hK1 K1;(try have ng:kp≠g8:=by have:=SKx.out.cb.lt;omega);(try have nh:mb≠g8:=by have:=SKx.out.mp.lt;omega);(try replace SKx:=Hj (SKx.out.ext e));replace hg8:=Hj hg8;replace SE:=Hj (SE.out.trans e);clear e;generalize WC.alloc (jqY ZT.toArray 114)=WC at *;(try go_frame);repeat ((first | refine vN ?_ | refine qtS ?_);go_frame)
      skip)
   | (refine qc (i:=5) _ rfl ?_ ?_ (fun K1 hK1=> ?_)
      (·rfl)
      rotate_left;refine jrf _ _ _ rfl g8 (A0.C kp).toArray rfl rfl 114 ZT.toArray hL.out (by rw [SCn.out kp];rfl) (by rw [SCn.out kp,S_zs]) (OCn.out kp) ?_;refine hK1.out _ _ (jqb (jpm _ _) lg8 _) ?_;clear hK1 K1;replace SE:Hid (Below w0.heap.size w0 (WC.setRow g8 (A0.C kp).toArray)):=jqb SE.out lg8 _;replace SKx:Hid (SK (WC.setRow g8 (A0.C kp).toArray) kp mb [] 0):=SKx.out.stay (jqy _ _ _ _ ng) (jqy _ _ _ _ nh);replace hL:Hid ((WC.setRow g8 (A0.C kp).toArray).heap[g8]? =some (.cells (A0.C kp).toArray 114 (0,0))):=jqc _ _ _ _ _ _ hL.out;generalize WC.setRow g8 (A0.C kp).toArray=WC at *;(try simp only [jpR]);repeat ((first | refine vN ?_ | refine qtS ?_);go_frame)
      skip)
   | (refine yC ?_
      go_wp2_with fail;go_meet
      exact ⟨g8,kp,mb,rfl,SE.out,hL.out,⟨lg8,zk,zm⟩,SKx.out⟩))
 case rest=>
  obtain ⟨g8,kp,mb,rfl,b8,k8,⟨z8,zk,zm⟩,sk⟩:=hcut;have xw:=(P0.out wc b8).2.2;have sk':=sk;have nk:g8≠kp:=zt k8 sk.cb (by decide);have g8l:=jh k8;have TR:=Hj (TRN.out wc g8 kp (Sq.nil.2 k8) (hs.ext xw) (by omega) (hG.kept xw hG.lt) (hP.ext xw));have nm:g8≠mb:=(Sq.ne_sk (q:= []) (Sq.nil.2 k8) sk).2;obtain ⟨ngk,ngm⟩:=(hs.ext xw).ne_sk sk;replace sk:=Hj sk;replace xw:=Hj xw;clear TRN P0 k8 sk' hs hG hP NW BU b8;go_wp2_with fail;refine TR.out.mono ?_;rintro e w3 ⟨rfl,hS3,s3,t3⟩;have sk3:=sk.out.stay (t3.2.2.2.2 _ sk.out.cb.lt (fun z=>nk z.symm) (fun z=>ngk z.symm)) (t3.2.2.2.2 _ sk.out.mp.lt (fun z=>nm z.symm) (fun z=>ngm z.symm));have xo:=xw.out;have GR3:w.grownBy w3 (some gs):=⟨t3.1.trans xo.os,t3.2.1.trans xo.tape,t3.2.2.1.trans xo.output,jp0 xo.size t3.2.2.2.1,fun i hi hne=>(t3.2.2.2.2 i (jpq hi xo.size) (by omega) (fun z=>hne (by rw [z]))).trans (xo.block i hi)⟩;clear TR sk xw t3 xo;obtain ⟨te,hte⟩:∃ x,x=qh A0 p:=⟨_,rfl⟩;rw [<-hte] at ⊢;obtain ⟨AT,hAT⟩:∃ x,x=qg A0 p:=⟨_,rfl⟩;rw [<-hAT] at hS3 okT;by_cases he:te=0
  ·have S_A:=Rt.C_size okT kp;have BS:=Hj (Qi (Rt.C_len okT kp) (.pointer (some ⟨gs,0,none⟩)) rfl);have kr:Hid (Cb w3 g8 114 (AT.C kp)):=Sq.nil.1 hS3;have E0:Hid (qh A0 p=0):=by rw [<-hte];exact he
   have EA:=Hj (fun _:Unit=>hAT);have F:Hid (SS (w3.alloc (.cells (AT.C kp++ [jro (some ⟨gs,0,none⟩)]).toArray 116)) w3.heap.size kp mb gs ⟨AT,[],0⟩/\SrcSt (w3.alloc (.cells (AT.C kp++ [jro (some ⟨gs,0,none⟩)]).toArray 116)) lo gs xs (k+1)/\w.grownBy (w3.alloc (.cells (AT.C kp++ [jro (some ⟨gs,0,none⟩)]).toArray 116)) (some gs)):=⟨⟨Cb.new _ _ _,sk3.ext ((jnQ w3).alloc _),okT,jpp _⟩,s3.ext ((jnQ w3).alloc _),JR GR3 ((jnQ w3).alloc _)⟩;have ws3:=GR3.size;subst he;clear hS3 s3 sk3 GR3 hAT hte;generalize AT.C kp=CC at *;go_wp2_with (first
    | ((with_reducible refine js (o:=⟨some 19,_,_,_,_,_⟩) ?_ 114 _ rfl g8 ?_ 114 CC.toArray (0,0) _ ?_ jrn ?_ ?_ ?_);(·rfl);(·rfl);(·exact kr.out);(·rfl);(·rw [S_A];rfl);go_frame)
    | ((with_reducible refine jm (o:=⟨some 21, .build 116 _,_,_,_,_⟩) ?_ 116 _ rfl (CC++ [jro (some ⟨gs,0,none⟩)]).toArray ?_ ?_);(·rfl);(·simp only [jqE,jqA,jqF];exact BS.out);go_frame))
   go_ret2;exact ⟨F.out.2.1,F.out.2.2, .inl ⟨E0.out,w3.heap.size,kp,mb,rfl,⟨ws3,by omega,by omega⟩,by rw [<-EA.out ()];exact F.out.1⟩⟩
  ·have hbn:(te !=0)=true:=bne_iff_ne.2 he;have F:=Hj (jqS s3 GR3);have E0:Hid (qh A0 p≠0/\te=qh A0 p):=⟨by rw [<-hte];exact he,hte⟩;clear hS3 s3 sk3 GR3 hAT hte;go_wp2_with fail;go_ret2;exact ⟨F.out.1,F.out.2, .inr ⟨E0.out.1,by rw [E0.out.2];rfl⟩⟩
structure Pty where
 s:Nat
 kp:Nat
 mb:Nat
 g:Nat
 lo:Nat
 xs:List UInt8
 k:Nat
 t:Rz
structure Pm (w:World) (a:Pty):Prop where
 ss:SS w a.s a.kp a.mb a.g a.t
 src:SrcSt w a.lo a.g a.xs a.k
 gs:a.g < a.s
 pr:1 < a.lo
def Off (a:Pty) (i:Nat):Prop:=i < a.lo\/a.g < i
structure Duo (w:World) (a b:Pty) (tg tp:jpC×Nat×Nat):Prop where
 pa:Pm w a
 pb:Pm w b
 ne:a.s≠b.s
 ab:Off b a.s/\Off b a.g
 ba:Off a b.s/\Off a b.g
 gl:Gl w tg
 gp:Gp w tp
theorem Duo.swap {w:World}{a b:Pty}{tg tp:jpC×Nat×Nat}(h:Duo w a b tg tp):Duo w b a tg tp:=⟨h.pb,h.pa,h.ne.symm,h.ba,h.ab,h.gl,h.gp⟩
theorem Pm.ext {w w':World}{a:Pty}(h:Pm w a) (e:Ext w w'):Pm w' a:=⟨h.ss.ext e,h.src.ext e,h.gs,h.pr⟩
theorem Duo.ext {w w':World}{a b:Pty}{tg tp:jpC×Nat×Nat}(h:Duo w a b tg tp) (e:Ext w w'):Duo w' a b tg tp:=⟨h.pa.ext e,h.pb.ext e,h.ne,h.ab,h.ba,h.gl.kept e h.gl.lt,h.gp.ext e⟩
theorem SrcSt.two {w w':World}{lo g k i j:Nat}{xs:List UInt8}(h:SrcSt w lo g xs k) (e:Two i j w w') (h1:i < lo\/g < i) (h2:j < lo\/g < j):SrcSt w' lo g xs k:=by
 refine ⟨h.1,?_⟩;have:=h.1.2;rcases h.2 with ⟨A,n,c,rt,h,hb,hA⟩ | h
 ·refine .inl ⟨A,n,c,rt,⟨(e.2.2.2.2 _ h.lt (by omega) (by omega)).trans h.1,h.2⟩,?_,hA⟩;refine ⟨hb.1,hb.2.1,hb.2.2.1,fun h0=> ?_⟩;obtain ⟨b,off,rfl,hbl,hc⟩:=hb.2.2.2 h0;have hq:=hA _ rfl;dsimp only at hq;exact ⟨b,off,rfl,jpq hbl e.2.2.2.1,fun j' hj=>(World.cell?_of_block (e.2.2.2.2 b hbl (show b≠i by omega) (show b≠j by omega))).trans (hc j' hj)⟩
 ·exact .inr ⟨(e.2.2.2.2 _ h.lt (by omega) (by omega)).trans h.1,h.2⟩
theorem Pm.two {w w':World}{a b:Pty}(ha:Pm w a) (hb:Pm w b) (ne:a.s≠b.s) (ab:Off b a.s/\Off b a.g) (e:Two a.s a.g w w'):Pm w' b:=by
 have n1:=hb.ss.ne;obtain ⟨g1,g2⟩:=ha.src.ne_sk hb.ss.sk;obtain ⟨s1,s2⟩:a.s≠b.kp/\a.s≠b.mb:=by
  refine ⟨zt ha.ss.sq hb.ss.sk.cb (by decide),fun z=> ?_⟩;obtain ⟨es,c,q⟩:=hb.ss.sk.mp.obj;have hs:=ha.ss.sq;unfold Sq Cb at hs;rw [z,q] at hs
  cases hs
 have g3:b.s≠a.g:=by
  obtain ⟨L,hL⟩:=ha.src.cb;exact zt hb.ss.sq hL (by decide)
 have hx:=e.2.2.2.2;exact ⟨hb.ss.stay (hx _ hb.ss.sl (fun z=>ne z.symm) g3) (hx _ hb.ss.kl (fun z=>s1 z.symm) (fun z=>g1 z.symm)) (hx _ hb.ss.ml (fun z=>s2 z.symm) (fun z=>g2 z.symm)),hb.src.two e ab.1 ab.2,hb.gs,hb.pr⟩
theorem Two.of_grown {w w':World}{g g':Nat}(h:w.grownBy w' (some g)):Two g g' w w':=⟨h.os,h.tape,h.output,h.size,fun i hi h1 _=>h.block i hi (fun z=>h1 (jpD z))⟩
def Pty.sent (a:Pty) (text:List UInt8):Pty:={a with k:=yg a.t.s text a.k,t:=⟨yj a.t.s (j3 (jO a.xs a.k)) text,a.t.L,a.t.puts⟩}
def Pty.pair (a:Pty):List UInt8:=j3 (jO a.xs a.k)
end
section
open Go.ChangeShapes Go.WideShapes Go.ChangeAt Go.RowKit Go.Deep
def jeb (w:World) (l:List Obj):World:=l.foldl World.alloc w
theorem Ql:∀ (l:List Obj) (w:World),Ext w (jeb w l)
 | [],w=>jnQ w
 | o::l,w=>((jnQ w).alloc o).trans (Ql l (w.alloc o))
theorem QY:∀ (l:List Obj) (w:World) (j:Nat) (o:Obj),l[j]? =some o->(jeb w l).heap[w.heap.size+j]? =some o
 | [],w,j,o,h=>by simp at h
 | p::l,w,0,o,h=>by
   simp at h
   subst h;exact ((Ql l (w.alloc p)).block w.heap.size (by rw [je];omega)).trans (jqq w p)
 | p::l,w,j+1,o,h=>by
   have:=QY l (w.alloc p) j o (by simpa using h);rw [je] at this;rw [show w.heap.size+(j+1)=w.heap.size+1+j by omega];exact this
def jkE (k:Nat):Array Value:=((jp1 16).map fun j=>jpA .i64 (pm k j:Int)).toArray
def jiu (s:Nat):Array Value:=((jp1 10).map fun k=>Value.slice (some ⟨s+k,0,none⟩) 16 16).toArray
def Rws (w:World) (s:Nat):Prop:=s+10 < w.heap.size/\∀ k,k < 10->w.cell? ⟨s+10,k,none⟩=some (.slice (some ⟨s+k,0,none⟩) 16 16)/\∀ j,j < 16->w.cell? ⟨s+k,j,none⟩=some (.int .i64 (pm k j:Int))
def jbI (s:Nat):List Obj:=((jp1 10).map fun k=>jqY (jkE k) 3)++ [jqY (jiu s) 69]
theorem jjB (w:World):Rws (jeb w (jbI w.heap.size)) w.heap.size:=by
 have hl:∀ k,k < 10->(jbI w.heap.size)[k]? =some (jqY (jkE k) 3):=fun k hk=>by
  unfold jbI;rw [jqs (by simp;omega)];simp [hk]
 have h10:(jbI w.heap.size)[10]? =some (jqY (jiu w.heap.size) 69):=by
  unfold jbI;rw [jqr (by simp)];simp
 have hb:=QY _ w 10 _ h10;refine ⟨jh hb,fun k hk=>⟨?_,fun j hj=> ?_⟩⟩
 ·rw [jqe _ _ _ _ _ (0,0) hb];simp [jiu,hk]
 ·rw [jqe _ _ _ _ _ (0,0) (QY _ w k _ (hl k hk))];simp [jkE,hj]
set_option maxRecDepth 100000 in
theorem jbl {w:World}:
 Calls jpx 128 #[] w fun e w'=>∃ s,e= .returned (.slice (some ⟨s+10,0,none⟩) 10 10)/\w.heap.size<=s/\Rws w' s/\Ext w w':=by
 go_enter Tryz.func128,Tryz.ntmps128
 go_wp2_with fail;go_ret;exact ⟨w.heap.size,rfl,jpo _,jjB w,Ql (jbI w.heap.size) w⟩
theorem zH {n x:Nat}{w:World}(hx:x < 4294967296) (h1:1<=n) (h2:n<=31):
 Calls jpx 155 #[.int .u32 (x:Int), .int .i64 (n:Int)] w fun e w'=>e= .returned (.int .u32 (QK n x:Int))/\∃ k,w'=w.drewN k:=by
 have hs:∃ s:Nat,32 - n=s/\s<=31/\n=32 - s/\1<=s:=⟨32 - n,rfl,by omega,by omega,by omega⟩;obtain ⟨s,e1,e2,e3,e4⟩:=hs;have hf:=Hj (jdG (n:=n) (by omega) hx);rw [e1] at hf;have hd:IntKind.i64.wrap (32 - (n:Int))=(s:Int):=by rw [jq0 _ (by omega)];omega
 have hor:∀ a b,a < 4294967296->b < 4294967296->bits .or .u32 ((b:Nat):Int) ((a:Nat):Int)=bits .or .u32 ((a:Nat):Int) ((b:Nat):Int):=fun a b ha hb=>by
  rw [u32_or_nat _ _ hb ha,u32_or_nat _ _ ha hb,Nat.or_comm]
 have HO:=Hj hor;clear hor;have q1:Op.shift .shr .u32 (x:Int) .i64 (n:Int)=pure (.int .u32 ((x:Int) / 2 ^ n)):=by
  have:=shift_shr .u32 .i64 (x:Int) (n:Int) (by omega) (by show (n:Int)<=32;omega);rw [this];simp
 have q2:Op.shift .shl .u32 (x:Int) .i64 (s:Int)=pure (.int .u32 ((x:Int)*2 ^ s % 4294967296)):=by
  have:=shift_shl .u32 .i64 (x:Int) (s:Int) (by omega) (by show (s:Int)<=32;omega);rw [this,jp6];simp
 clear e1 e3;go_enter Tryz.func155,Tryz.ntmps155
 go_wp2_with fail;refine qgE [0,1,2,3,4,5,6,7,8] [] ?_;repeat ((first | refine qR0 ?_ | refine qS ?_);go_frame)
 refine jp ?_;go_wp2_with fail;go_ret;refine ⟨congrArg (fun v=>Ending.returned (jpA .u32 v)) (Eq.trans ?_ hf.out),1,rfl⟩;have p1:(x:Int) / 2 ^ n=((x / 2 ^ n:Nat):Int):=by simp
 have p2:(x:Int)*2 ^ s % 4294967296=((x*2 ^ s % 4294967296:Nat):Int):=by simp
 rw [p1,p2];exact HO.out (x*2 ^ s % 4294967296) (x / 2 ^ n) (jp3 _ (by decide)) (jp4 (Nat.div_le_self _ _) hx)
end
end Go.Proofs.YtakpgbaijkhpmaaGreatDoor
