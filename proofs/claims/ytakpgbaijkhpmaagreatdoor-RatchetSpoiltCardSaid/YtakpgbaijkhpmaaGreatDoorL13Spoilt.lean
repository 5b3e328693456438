/- The law RatchetSpoilt (written by gen13spoilt.py). -/
import Derived.Test.YtakpgbaijkhpmaaGreatDoorPkAO
import Derived.Test.YtakpgbaijkhpmaaGreatDoorPkAG
open Go renaming TypeId→jov,heap_alloc_new→jpj,setRow_heap→jo5,wp_store_row→joe
open Go.Act renaming put→joK
open Go.IntWalk renaming i64_in→jnZ
open Go.Obj renaming cells→jnX
open Go.Proofs.Tryz renaming prog→joq,underlying23→jpw,underlying47→jol
open Go.RowKit.Below renaming trans→q8
open Go.Value renaming pointer→jon
open Int renaming tmod_eq_emod_of_nonneg→jn3
open List renaming length_take→Y9,mem_cons→jox,nil_append→jn7,not_mem_nil→jps,replicate→jpg,size_toArray→jpn
open Nat renaming le_of_eq→jod,le_refl→y4,le_trans→joT,lt_of_lt_of_le→Y7,zero_add→jos,zero_le→Y5
namespace Go.Proofs.YtakpgbaijkhpmaaGreatDoor
set_option maxHeartbeats 64000000
set_option linter.unusedSimpArgs false
set_option linter.unusedVariables false
open Go.ChangeShapes Go.WideShapes Go.ChangeAt Go.RowKit Go.Deep Go.Maps
set_option maxRecDepth 100000
theorem jng {w:World}{shared:List UInt8}(lr:shared.length=32){A:Option Addr}{n d:Nat}{l:List (List UInt8)}(hl:Rw w A n d l){at_:Int}(ha: -9223372036854775808≤at_∧at_≤9223372036854775807){tg tp:jov×Nat×Nat}(hG:Gl w tg) (hP:Gp w tp):
 Calls joq 7 #[.agg (cellsOf shared).toArray, .slice A n d, .int .i64 at_] w fun e w'=>e= .returned (.bool true)∧Ext w w':=by
 have xl:=hl.len
 have xc:=hl.le
 have xm:=hl.cap
 replace hl:=Hj hl
 have AW:Hid (∀ W,Ext w W→Calls joq 15 #[] W fun e w'=>e= .returned (.bool true)∧Ext W w'):=fun W e=>jbd (hG.kept e hG.lt) (hP.ext e)
 have TW:Hid (∀ W,Ext w W→Calls joq 17 #[.agg (cellsOf shared).toArray] W fun e w'=>∃ sa ga la sb gb lb u c pk,e= .returned (.agg #[.pointer (some ⟨sa,0,none⟩), .pointer (some ⟨sb,0,none⟩)])∧Bgn u c pk∧One c pk w' sa ga la sb gb lb 0 (fun t=>HrB u c pk t (fun _=>false) 0) tg tp∧Ext W w'∧(W.heap.size≤sa∧sa < w'.heap.size)∧(W.heap.size≤ga∧ga < w'.heap.size)∧(W.heap.size≤sb∧sb < w'.heap.size)∧(W.heap.size≤gb∧gb < w'.heap.size)):=fun W e=>jnd lr (hG.kept e hG.lt) (hP.ext e)
 have K_:(cellsOf shared).toArray.size=32:=by rw [jpn,ja,lr]
 have YK:Hid (Cb (w.alloc (.cells (cellsOf shared).toArray 23)) w.heap.size 23 (cellsOf shared)):=Cb.new _ _ _
 generalize cellsOf shared=KL at *
 clear hG hP lr
 have hal2:=JD
 obtain ⟨T0,hT0⟩:∃ x,x=jjJ:=⟨_,rfl⟩
 rw [←hT0] at hal2
 have S_T0:T0.toArray.size=2:=by rw [hT0];rfl
 clear hT0
 have hal:=Jp
 have L_hz:(hdC (jpg 32 0) 0 0).length=34:=yz rfl _ _
 generalize hdC (jpg 32 0) 0 0=ZH at *
 have S_hz:ZH.toArray.size=34:=by rw [jpn,L_hz]
 have CV:Hid (∀ (W:World) A n c (ys:List UInt8),Bs W A n c ys→(convert 33 9 (.slice A n c)).run joq W= .ok (.string (vR ys)) W):=fun W A n c ys h=>jfz h
 go_enter Tryz.func7,Tryz.ntmps7
 go_wp2_with fail
 refine (AW.out _ ((Ext.refl w).alloc _)).mono ?_
 rintro e w1 ⟨rfl,e1⟩
 have kk:=Hj (YK.out.ext e1)
 have X1:Hid (Ext w w1):=((Ext.refl w).alloc _).trans e1
 have sz1:=X1.out.size
 clear AW YK e1
 go_wp2_with (first | ((with_reducible refine js (o:=⟨some 23,_,_,_,_,_⟩) ?_ 23 _ rfl w.heap.size ?_ 23 KL.toArray (0,0) _ ?_ jpw ?_ ?_ ?_);(·rfl);(·rfl);(·exact kk.out);(·rfl);(·rw [K_];rfl);go_frame))
 refine (TW.out w1 X1.out).mono ?_
 rintro e w2 ⟨sa,ga,la,sb,gb,lb,u,c,pk,rfl,BG,D1,x2,⟨a1,a2⟩,⟨a3,a4⟩,⟨b1,b2⟩,⟨b3,b4⟩⟩
 have ww2:=x2.size
 have X2:Hid (Ext w w2):=X1.out.trans x2
 have lpk:=D1.lp
 have OO:Hid (#[jon (some ⟨sa,0,none⟩), .pointer (some ⟨sb,0,none⟩)].all (·.oneCell')=true):=qC (L:= [jon (some ⟨sa,0,none⟩), .pointer (some ⟨sb,0,none⟩)]) (fun v hv=>by
  simp only [jox,jps,or_false] at hv
  rcases hv with rfl | rfl <;> rfl)
 have Y:Hid (Cb ((w2.alloc (.cells T0.toArray 28)).setRow w2.heap.size #[.pointer (some ⟨sa,0,none⟩), .pointer (some ⟨sb,0,none⟩)]) w2.heap.size 28 [.pointer (some ⟨sa,0,none⟩), .pointer (some ⟨sb,0,none⟩)]∧Ext w2 ((w2.alloc (.cells T0.toArray 28)).setRow w2.heap.size #[.pointer (some ⟨sa,0,none⟩), .pointer (some ⟨sb,0,none⟩)])):=⟨Cb.set (Cb.new _ _ _),Ext.newRow _ _ _⟩
 replace BG:=Hj BG
 replace D1:=Hj D1
 replace x2:=Hj x2
 clear TW kk X1
 go_upto_region 3 with (refine ws_ rfl 28 rfl w2.heap.size #[.pointer (some ⟨sa,0,none⟩), .pointer (some ⟨sb,0,none⟩)] rfl rfl (jpj _ _) rfl (by rw [S_T0];rfl) OO.out ?_;simp only [joK])
 obtain ⟨r1,hr1⟩:∃ x,x=w2.heap.size:=⟨_,rfl⟩
 refine jg (fun W=>Cb W w2.heap.size 28 [.pointer (some ⟨sa,0,none⟩), .pointer (some ⟨sb,0,none⟩)]∧Ext w2 W) Y.out ?_
 rw [←hr1]
 have wr1:w2.heap.size≤r1:=jod hr1.symm
 clear Y OO hr1
 rintro w3 ⟨k1,x3⟩
 have c0:=k1.cell (j:=0) rfl
 have c1:=k1.cell (j:=1) rfl
 have k1l:=k1.lt
 have D3:Hid (One c pk w3 sa ga la sb gb lb 0 (fun t=>HrB u c pk t (fun _=>false) 0) tg tp):=D1.out.ext x3
 have X3:Hid (Ext w w3):=X2.out.trans x3
 have sz3:=x3.size
 replace k1:=Hj k1
 clear D1 x2 x3 X2 hal2 S_T0 T0
 by_cases h6:6 < n
 ·have u1:decide ((6:Int) < (n:Int))=true:=decide_eq_true (by omega)
  go_wp2_with fail
  go_ret
  exact ⟨rfl,X3.out⟩
 have u1:decide ((6:Int) < (n:Int))=false:=decide_eq_false (by omega)
 by_cases h0:at_ < 0
 ·have u2:decide (at_ < 0)=true:=decide_eq_true h0
  go_wp2_with fail
  go_ret
  exact ⟨rfl,X3.out⟩
 have u2:decide (at_ < 0)=false:=decide_eq_false h0
 obtain ⟨q,hq,hq32⟩:∃ q:Nat,Int.tmod at_ 32=(q:Int)∧q < 32:=by
  refine ⟨(at_ % 32).toNat,?_,by omega⟩
  rw [jn3 (by omega)]
  omega
 clear h0
 go_wp2_with fail
 go_loopw [9] (fun iv wr=>∃ i:Nat,i≤n∧iv= .int .i64 (i:Int)∧One c pk wr sa ga la sb gb lb i (Nx u c pk i) tg tp∧Cb wr r1 28 [.pointer (some ⟨sa,0,none⟩), .pointer (some ⟨sb,0,none⟩)]∧Ext w wr∧w3.heap.size≤wr.heap.size) (fun v _=>n - (intOf v).toNat)
 case atStart=>exact ⟨0,Y5 _,rfl,D3.out.mono (fun t h=>jns h),k1.out,X3.out,y4 _⟩
 case round=>
  obtain ⟨i,hi,rfl,T,kb,X,sz⟩:=hrel
  have c0':=kb.cell (j:=0) rfl
  have c1':=kb.cell (j:=1) rfl
  have kbl:=kb.lt
  clear D3 k1 c0 c1
  by_cases hlt:i < n
  ·have v1:decide ((i:Int) < (n:Int))=true:=decide_eq_true (by omega)
   obtain ⟨bb,off,rfl,hbb,hbc⟩:=hl.out.pos (by omega)
   obtain ⟨Ax,nx,cx,cell,hx⟩:=hbc i hlt
   obtain ⟨xs,hxs⟩:∃ x,x=l.getD i []:=⟨_,rfl⟩
   rw [←hxs] at hx
   have nxl:=hx.len
   have nxc:=hx.le
   have nxm:=hx.cap
   have cellr:=(X.cell hbb).trans cell
   clear hbc
   by_cases h300:300 < nx
   ·have v2:decide ((300:Int) < (nx:Int))=true:=decide_eq_true (by omega)
    replace T:=Hj T
    go_wp2_with fail
    go_ret
    exact ⟨rfl,X⟩
   have v2:decide ((300:Int) < (nx:Int))=false:=decide_eq_false (by omega)
   have BX:Hid (∀ s,Ext w s→Bs s Ax nx cx xs∧s.cell? ⟨bb,off+i,none⟩=some (.slice Ax nx cx)):=fun s e=>⟨hx.ext e,(e.cell hbb).trans cell⟩
   have S_H:(hdC pk 0 (i:Int)).toArray.size=34:=by rw [jpn,yz lpk]
   have O_H:Hid ((hdC pk 0 (i:Int)).toArray.all (·.oneCell')=true):=YZ
   have hi8:i≤8:=by omega
   have szw:=X3.out.size
   obtain ⟨H,hH⟩:∃ x,x=hdC pk 0 (i:Int):=⟨_,rfl⟩
   have SND:Hid (∀ W,Ext w W→One c pk W sa ga la sb gb lb i (Nx u c pk i) tg tp→Calls joq 21 #[.pointer (some ⟨sa,0,none⟩), .slice none 0 0, .slice Ax nx cx] W fun e w'=>∃ (A':Option Addr) (n' c':Nat),e= .returned (.tuple #[.agg H.toArray, .slice A' n' c', .int .i64 0])∧Own W.heap.size w' A' n' c' (jnx c pk i xs)∧One c pk w' sa ga la sb gb lb (i+1) (Nx u c pk i) tg tp∧Two sa ga W w'):=fun W e h=>by
    rw [hH]
    exact jmV h (by omega) (by omega) fun x t=>(BX.out x (Two.ext e t (by omega) (by omega))).1
   have RCV:Hid (∀ (W:World) (Q Q':Rz→Prop) (B:Option Addr) (m2 c2:Nat) (body T:List UInt8) (E:Int),One c pk W sa ga la sb gb lb (i+1) Q tg tp→Bs W B m2 c2 body→m2≤1000000→(∀ t,Q t→t.puts≤1000000000∧yt t [] pk 0 i body=E∧Ym t [] pk 0 i body=T∧Q' (zf t [] pk 0 i body))→Calls joq 23 #[.pointer (some ⟨sb,0,none⟩), .slice none 0 0, .agg H.toArray, .slice B m2 c2] W fun e w'=>∃ (A':Option Addr) (n' c':Nat),e= .returned (.tuple #[.slice A' n' c', .int .i64 E])∧Own W.heap.size w' A' n' c' T∧One c pk w' sa ga la sb gb lb (i+1) Q' tg tp∧W.grownBy w' (some sb)):=fun W Q Q' B m2 c2 body T E h1 h2 h3 h4=>by
    rw [hH]
    exact jmM h1 h2 h3 h4
   rw [←hH] at S_H O_H
   clear hH hx hxs c0' c1' cell
   replace T:=Hj T
   replace kb:=Hj kb
   replace X:=Hj X
   go_upto_region 10 with fail
   go_cut [10,11,12] from 53 to 154 (fun s10 s11 s12 wx=>∃ (r b nb cc:Nat),nb=nx+32∧s10= .pointer (some ⟨r,0,none⟩)∧s11= .slice (some ⟨b,0,none⟩) nb cc∧s12= .int .i64 0∧Tq wr.heap.size sa ga wr wx∧One c pk wx sa ga la sb gb lb (i+1) (Nx u c pk i) tg tp∧Cb wx r 47 H∧wr.heap.size≤r∧wr.heap.size≤b∧r≠b∧Bs wx (some ⟨b,0,none⟩) nb cc (jnx c pk i xs))
   case first=>
    have F0:Hid (∀ s,Tq wr.heap.size sa ga wr s→s.cell? ⟨r1,0,none⟩=some (.pointer (some ⟨sa,0,none⟩))∧s.cell? ⟨bb,off+i,none⟩=some (.slice Ax nx cx)):=fun s x=>
     ⟨Cb.cell (x.block kb.out (by omega) (by omega) (by omega):Cb s r1 28 [.pointer (some ⟨sa,0,none⟩), .pointer (some ⟨sb,0,none⟩)]) (j:=0) rfl,(BX.out s (Tq.ext X.out x (by omega) (by omega) (by omega))).2⟩
    have T0:Hid (∀ s,Tq wr.heap.size sa ga wr.drew s→Tq wr.heap.size sa ga wr s):=fun s x=>Tq.trans (Tq.of_ext (Ext.refl wr).drew (y4 _)) x
    have i1:(i:Int) < (n:Int):=by omega
    have S1:Hid (One c pk wr.drew sa ga la sb gb lb i (Nx u c pk i) tg tp):=T.out.ext (Ext.refl wr).drew
    have XW:Hid (∀ s,Tq wr.heap.size sa ga wr s→Ext w s):=fun s x=>Tq.ext X.out x (by omega) (by omega) (by omega)
    refine qgT (R:=Tq wr.heap.size sa ga) (Tq.refl _ _ _) (fun _ _ _=>Tq.trans) (.rd 0 (.rd 1 (.rd 2 (.rd 3 (.rd 4 (.rd 5 (.alt 6 (.rd 7 (.rd 8 (.rd 9 (.rd 10 (.alt 11 (.alt 12 (.rd 13 (.rd 14 .nil)) .stop) .stop))))) (.alt 11 (.alt 6 (.rd 7 (.rd 8 (.rd 9 (.rd 10 (.alt 12 (.rd 13 (.rd 14 .nil)) .stop))))) .stop) .stop)))))))) 15 ?_
    repeat ((first | refine qtR _ (fun w' e=>F0.out w' (T0.out w' e)) ?_ | refine qtS ?_);go_frame)
    have TX:Hid (Tq wr.heap.size sa ga wr wr.drew):=Tq.of_ext (Ext.refl wr).drew (y4 _)
    have z0:wr.heap.size≤wr.drew.heap.size:=y4 _
    generalize wr.drew=WC at *
    clear T kb X F0 T0
    repeat' (first
     | exact yD
     | (refine qc (i:=6) _ rfl ?_ ?_ (fun K1 hK1=> ?_)
        (·rfl)
        rotate_left
        go_simp
        refine (SND.out _ (XW.out _ TX.out) S1.out).mono ?_
        rintro e0 WD ⟨A6,n6,c6,rfl,O6,s2,t2⟩
        obtain rfl:n6=nx+32:=by rw [←O6.bs.len,jmJ,nxl]
        obtain ⟨b6,rfl,hb6,lb6⟩:=O6.at0 (by omega)
        refine hK1.out _ _ (Tq.of_two t2 z0) ?_
        clear hK1 K1
        (try have hgb:g10≠b6:=by have:=jh hA.out;omega)
        (try replace hA:=Hj (t2.block hA.out (by omega) (by omega)))
        have TX2:=Hj (TX.out.trans (Tq.of_two t2 z0))
        have z1:=joT z0 t2.2.2.2.1
        have hbB:wr.heap.size≤b6:=by omega
        have S2:=Hj s2
        have B2:=Hj O6.bs
        clear z0 s2 t2 S1 TX O6 SND
        have z0:=z1
        have TX:=TX2
        clear z1 TX2
        generalize WD=WC at *
        (try go_frame)
        repeat ((first | refine vN ?_ | refine qtS ?_);go_frame)
        skip)
     | (refine qc (i:=11) _ rfl ?_ ?_ (fun K1 hK1=> ?_)
        (·rfl)
        rotate_left
        go_simp
        have e:Ext WC (WC.alloc (jnX ZH.toArray 47)):=(Ext.refl WC).alloc _
        obtain ⟨g10,hg10⟩:∃ g,g=WC.heap.size:=⟨_,rfl⟩
        have hA:=Hj (jpj WC (jnX ZH.toArray 47))
        rw [←hg10] at hA ⊢
        have lg10:wr.heap.size≤g10:=by rw [hg10];exact z0
        (try have hgb:g10≠b6:=by rw [hg10];omega)
        refine hK1.out _ (WC.alloc (jnX ZH.toArray 47)) (Tq.of_ext e z0) ?_
        clear hK1 K1
        have TX2:=Hj (TX.out.trans (Tq.of_ext e z0))
        (try replace S1:=Hj (S1.out.ext e))
        (try replace S2:=Hj (S2.out.ext e))
        (try replace B2:=Hj (B2.out.ext e))
        have z1:=joT z0 e.size
        (try replace lb6:=Y7 lb6 e.size)
        clear z0 e TX
        have z0:=z1
        have TX:=TX2
        clear z1 TX2
        replace hg10:=Hj hg10
        generalize WC.alloc (jnX ZH.toArray 47)=WC at *
        (try go_frame)
        repeat ((first | refine vN ?_ | refine qtS ?_);go_frame)
        skip)
     | (refine qc (i:=12) _ rfl ?_ ?_ (fun K1 hK1=> ?_)
        (·rfl)
        rotate_left
        refine joe _ _ _ rfl g10 H.toArray rfl rfl 47 ZH.toArray hA.out (by rw [S_H];rfl) (by rw [S_H,S_hz]) O_H.out ?_
        refine hK1.out _ _ (Tq.row _ _ lg10) ?_
        clear hK1 K1
        have t3:=Two.row (g:=g10) (g':=g10) WC H.toArray
        have TX2:=Hj (TX.out.trans (Tq.row WC H.toArray lg10))
        replace S2:=Hj (S2.out.cb hA.out ⟨by decide,by decide⟩ (by omega) (by omega) t3)
        replace B2:=Hj (B2.out.two13 t3 (fun z=>hgb z.symm) (fun z=>hgb z.symm))
        replace hA:Hid ((WC.setRow g10 H.toArray).heap[g10]? =some (.cells H.toArray 47 (0,0))):=jo5 _ _ _ _ _ _ hA.out
        clear TX t3
        have TX:=TX2
        clear TX2 z0 lb6
        generalize WC.setRow g10 H.toArray=WC at *
        (try simp only [joK])
        repeat ((first | refine vN ?_ | refine qtS ?_);go_frame)
        skip)
     | (refine yC ?_
        go_wp2_with fail
        go_meet
        exact ⟨g10,b6,nx+32,c6,rfl,rfl,rfl,rfl,TX.out,S2.out,hA.out,lg10,hbB,hgb,B2.out⟩))
   case rest=>
    obtain ⟨r,b,nb,cc,hnb,rfl,rfl,rfl,tq,D,kH,hr,hb,hrb,hB⟩:=hcut
    have Xc:Hid (Ext w wc):=Tq.ext X.out tq (by omega) (by omega) (by omega)
    have kc:Cb wc r1 28 [.pointer (some ⟨sa,0,none⟩), .pointer (some ⟨sb,0,none⟩)]:=tq.block kb.out (by omega) (by omega) (by omega)
    have szc:=tq.2.2.2.1
    have rl:=kH.lt
    have h32:32≤nb:=by omega
    have h332:nb≤332:=by omega
    have v3:decide ((nb:Int) < 32)=false:=decide_eq_false (by omega)
    have bcc:=hB.le
    have bcm:=hB.cap
    obtain ⟨C,hC⟩:∃ x,x=jnx c pk i xs:=⟨_,rfl⟩
    obtain ⟨j1,hj1⟩:∃ j1:Nat,j1=nb - 1:=⟨_,rfl⟩
    obtain ⟨j,hj⟩:∃ j:Nat,j=nb - 1 - q:=⟨_,rfl⟩
    have OPB:Hid (J4 (mkK c i) (qb [] pk 0 i) (flip C j 0)=4):=by rw [hC];exact jnt (by omega) (by omega)
    have OPS:Hid (J4 (mkK c i) (qb [] pk 0 i) (C.take 31)=3):=jnk (by rw [Y9];omega)
    have OKN:Hid (∀ t,Nx u c pk i t→t.puts≤1000000000∧yt t [] pk 0 i C=0∧Ym t [] pk 0 i C=xs∧Nx u c pk (i+1) (zf t [] pk 0 i C)):=fun t h=>by rw [hC];exact jnv BG.out h hi8 xs
    have bl:b < wc.heap.size:=by obtain ⟨b',o',z,h,_⟩:=hB.2.2.2 (by omega);cases z;exact h
    rw [←hC] at hB
    have jl:j < nb:=by omega
    have ij1:(nb:Int) - 1=(j1:Int):=by omega
    have ij2:(j1:Int) - (q:Int)=(j:Int):=by omega
    have iw1:IntKind.i64.wrap (j1:Int)=(j1:Int):=jnZ _ (by omega)
    have iw2:IntKind.i64.wrap (j:Int)=(j:Int):=jnZ _ (by omega)
    have iw3:IntKind.i64.wrap (q:Int)=(q:Int):=jnZ _ (by omega)
    have i0:(0:Int)≤(j:Int):=by omega
    have i1:(j:Int) < (nb:Int):=by omega
    have i2:((j:Int)).toNat=j:=by omega
    clear hj hj1 hnb tq SND T kb X hC
    replace D:=Hj D
    replace kH:=Hj kH
    replace kc:=Hj kc
    replace hB:=Hj hB
    have s3:=Hj (hB.out.ext ((Ext.refl wc).alloc (.cells #[] 5)))
    go_upto_region 14 with (at_builtin;(with_reducible refine jJ rfl (B:=wc.heap.size) (s:= .tmp 84) (x:= .tmp 85) rfl rfl rfl (Own.empty wc _ (y4 _)) s3.out (by omega) (by simp) ?_);intro A5 c5 w5 o5 g5 b5;simp only [jos,jn7] at o5 ⊢;go_frame)
    have e5:Ext wc w5:=q8 ((Ext.refl wc).alloc _) b5
    clear g5 b5 s3
    have ob:=o5.bs
    obtain ⟨g,rfl,hg,gl⟩:=o5.at0 (by omega)
    have fz:w5.frozen? ⟨g,j,none⟩=false:=by
     rcases o5.2 with ⟨hv,h0⟩ | ⟨g',cap,cur,hv,_,hgg,_⟩
     ·cases hv
     ·injection hv with q1 _ _
      injection q1 with q1
      injection q1 with q1
      subst q1
      exact frozen_of_row w5 g j _ _ hgg
    have cj:w5.cell? ⟨g,j,none⟩=some (.int .u8 (bt C j:Int)):=by
     obtain ⟨b',o',z,_,hc⟩:=ob.pos (by omega)
     cases z
     have:=hc j jl
     rwa [jos] at this
    obtain ⟨y,hy⟩:=ex_ (bt C j^^^2 ^ 0)
    have y256:y < 256:=by rw [hy];exact jni (by omega)
    have fx:bits .xor .u8 (bt C j:Int) 1=(y:Int):=by
     have:=jnl (xs:=C) (j:=j) (k:=0) (by omega)
     rw [hy,←this]
     rfl
    have B6:Hid (Bs (w5.setCell ⟨g,j,none⟩ (.int .u8 (y:Int))) (some ⟨g,0,none⟩) nb c5 (flip C j 0)):=by
     have:=ob.setC jl y256
     rw [hy] at this ⊢
     exact this
    have E6:Hid (Ext wc (w5.setCell ⟨g,j,none⟩ (.int .u8 (y:Int)))):=e5.setCell (show wc.heap.size≤g from hg) _
    have gn:=ob.le
    have gc:=ob.cap
    have bb_:=vL C j
    clear ob o5 e5 hy hg gl
    generalize bt C j=x at *
    go_upto_region 15 with fail
    refine jg (fun W=>Ext wc W∧Bs W (some ⟨g,0,none⟩) nb c5 (flip C j 0)) ⟨E6.out,B6.out⟩ ?_
    clear E6 B6 fz cj fx y256
    rintro w6 ⟨x6,B6⟩
    have D6:=D.out.ext x6
    have k16:=kc.out.ext x6
    have kH6:=kH.out.ext x6
    have b6:=hB.out.ext x6
    have X6:=Hj (Xc.out.trans x6)
    have sz6:=x6.size
    have R6:=Hj (RCV.out w6 (Nx u c pk i) (Nx u c pk i) _ _ _ _ [] 4 D6 B6 (by omega) (fun t h=>jnp BG.out h hi8 OPB.out (by decide)))
    have c1:=k16.cell (j:=1) rfl
    clear D kH kc hB Xc x6 B6 D6 OPB ij1 ij2 iw1 iw2 iw3 i0 i1 i2 jl
    replace k16:=Hj k16
    replace kH6:=Hj kH6
    replace b6:=Hj b6
    go_wp2_with (first | ((with_reducible refine js (o:=⟨some 101,_,_,_,_,_⟩) ?_ 47 _ rfl r ?_ 47 H.toArray (0,0) _ ?_ jol ?_ ?_ ?_);(·rfl);(·rfl);(·exact kH6.out);(·rfl);(·rw [S_H];rfl);go_frame))
    refine R6.out.mono ?_
    rintro e w7 ⟨A7,n7,c7,rfl,_,D7,g7⟩
    have t7:=Two.of_grown (g':=sb) g7
    have sz7:=g7.size
    have P7:Hid (Cb w7.drew r1 28 [.pointer (some ⟨sa,0,none⟩), .pointer (some ⟨sb,0,none⟩)]∧Cb w7.drew r 47 H∧Bs w7.drew (some ⟨b,0,none⟩) nb cc C∧Ext w w7.drew∧One c pk w7.drew sa ga la sb gb lb (i+1) (Nx u c pk i) tg tp):=
     have e:=(Ext.refl w7).drew
     ⟨Cb.ext (t7.block k16.out (by omega) (by omega)) e,Cb.ext (t7.block kH6.out (by omega) (by omega)) e,(b6.out.two13 t7 (by omega) (by omega)).ext e,(JQ X6.out g7 (by omega)).trans e,D7.ext e⟩
    clear R6 t7 g7 D7 k16 kH6 b6 X6 c1
    go_upto_region 16 with fail
    have T3:Hid (∀ s,w7.drew.grownBy s (some sb)→s.cell? ⟨r1,1,none⟩=some (.pointer (some ⟨sb,0,none⟩))∧Cb s r 47 H):=fun s e=>
     have t:=Two.of_grown (g':=sb) e
     ⟨Cb.cell (t.block P7.out.1 (by omega) (by omega):Cb s r1 28 _) (j:=1) rfl,t.block P7.out.2.1 (by omega) (by omega)⟩
    have R8:=Hj (RCV.out w7.drew (Nx u c pk i) (Nx u c pk i) _ _ _ _ [] 3 P7.out.2.2.2.2 (P7.out.2.2.1.take (k:=31) (by omega)) (by omega) (fun t h=>jnp BG.out h hi8 OPS.out (by decide)))
    have s31:(31:Int)≤(cc:Int):=by omega
    have s31':31≤cc:=by omega
    refine qgW sb [0,1,2,3,4,5,6,7,8,9,10] [5] ?_
    have szd:w7.heap.size≤w7.drew.heap.size:=(Ext.refl w7).drew.size
    generalize w7.drew=W at *
    repeat ((first | refine qR _ (fun w' e=>(T3.out w' e).1) ?_ | refine qS ?_);go_frame)
    refine qV rfl (fun w'=>w'.heap[r]? =some (.cells H.toArray 47 (0,0))) (fun w' e=>(T3.out w' e).2) (.agg H.toArray) (fun w' hF=>jd rfl rfl hF rfl rfl (by rw [S_H];rfl)) ?_
    go_frame
    repeat ((first | refine qR0 ?_ | refine qS ?_);go_frame)
    refine qD fun K hK=> ?_
    go_simp
    refine R8.out.mono ?_
    rintro e w8 ⟨A8,n8,c8,rfl,_,D8,g8⟩
    refine hK.out _ _ g8 ?_
    clear hK K
    try go_frame
    repeat ((first | refine qR0 ?_ | refine qS ?_);go_frame)
    refine jp ?_
    have t8:=Two.of_grown (g':=sb) g8
    have sz8:=g8.size
    have k18:Cb w8 r1 28 [.pointer (some ⟨sa,0,none⟩), .pointer (some ⟨sb,0,none⟩)]:=t8.block P7.out.1 (by omega) (by omega)
    have kH8:Cb w8 r 47 H:=t8.block P7.out.2.1 (by omega) (by omega)
    have b8:=P7.out.2.2.1.two13 t8 (by omega) (by omega)
    have X8:Hid (Ext w w8):=JQ P7.out.2.2.2.1 g8 (by omega)
    have R9:=Hj (RCV.out w8 (Nx u c pk i) (Nx u c pk (i+1)) _ _ _ _ xs 0 D8 b8 (by omega) OKN.out)
    have c1:=k18.cell (j:=1) rfl
    replace k18:=Hj k18
    replace kH8:=Hj kH8
    replace b8:=Hj b8
    clear R8 T3 P7 t8 g8 D8 OPS OKN s31 s31'
    go_wp2_with (first | ((with_reducible refine js (o:=⟨some 118,_,_,_,_,_⟩) ?_ 47 _ rfl r ?_ 47 H.toArray (0,0) _ ?_ jol ?_ ?_ ?_);(·rfl);(·rfl);(·exact kH8.out);(·rfl);(·rw [S_H];rfl);go_frame))
    refine R9.out.mono ?_
    rintro e w9 ⟨A9,n9,c9,rfl,O9,D9,g9⟩
    have t9:=Two.of_grown (g':=sb) g9
    have sz9:=g9.size
    have k19:Cb w9 r1 28 [.pointer (some ⟨sa,0,none⟩), .pointer (some ⟨sb,0,none⟩)]:=t9.block k18.out (by omega) (by omega)
    have kH9:Cb w9 r 47 H:=t9.block kH8.out (by omega) (by omega)
    have b9:=b8.out.two13 t9 (by omega) (by omega)
    have X9:Hid (Ext w w9):=JQ X8.out g9 (by omega)
    have R10:=Hj (RCV.out w9 (Nx u c pk (i+1)) (Nx u c pk (i+1)) _ _ _ _ [] 5 D9 b9 (by omega) (fun t h=>jnu h hi8 C))
    have c1':=k19.cell (j:=1) rfl
    replace k19:=Hj k19
    replace kH9:=Hj kH9
    replace O9:=Hj O9
    clear R9 t9 g9 D9 k18 kH8 b8 X8 c1 b9
    go_wp2_with (first | ((with_reducible refine js (o:=⟨some 126,_,_,_,_,_⟩) ?_ 47 _ rfl r ?_ 47 H.toArray (0,0) _ ?_ jol ?_ ?_ ?_);(·rfl);(·rfl);(·exact kH9.out);(·rfl);(·rw [S_H];rfl);go_frame))
    refine R10.out.mono ?_
    rintro e w10 ⟨A10,n10,c10,rfl,_,D10,g10⟩
    have t10:=Two.of_grown (g':=sb) g10
    have sz10:=g10.size
    have X10:Hid (Ext w w10):=JQ X9.out g10 (by omega)
    have R:Hid (One c pk w10.drew sa ga la sb gb lb (i+1) (Nx u c pk (i+1)) tg tp∧Cb w10.drew r1 28 [.pointer (some ⟨sa,0,none⟩), .pointer (some ⟨sb,0,none⟩)]∧Ext w w10.drew):=⟨D10.ext (Ext.refl _).drew,Cb.ext (t10.block k19.out (by omega) (by omega)) (Ext.refl _).drew,X10.out.trans (Ext.refl _).drew⟩
    have b10:=Hj (Bs.own_two O9.out t10 (by omega) (by omega))
    have F:Hid (∀ s,Ext w10.drew s→(convert 33 9 (.slice A9 n9 c9)).run joq s= .ok (.string (vR xs)) s∧(convert 33 9 (.slice Ax nx cx)).run joq s= .ok (.string (vR xs)) s∧s.cell? ⟨bb,off+i,none⟩=some (.slice Ax nx cx)):=fun s e=>
     have e':=(Ext.refl w10).drew.trans e
     ⟨CV.out _ _ _ _ _ (b10.out.ext e'),CV.out _ _ _ _ _ (BX.out s (X10.out.trans e')).1,(BX.out s (X10.out.trans e')).2⟩
    have u7:((vR xs).toList==(vR xs).toList)=true:=by simp
    generalize vR xs=HS at *
    clear R10 t10 g10 D10 k19 kH9 X9 X10 c1' O9 b10 CV RCV BG BX
    have ri:IntKind.i64.wrap ((i:Int)+1)=(i:Int)+1:=jnZ _ (by omega)
    have i5:(i:Int) < (n:Int):=by omega
    go_upto_region 19 with fail
    refine qgE [0,1,2,3,4,5,6,7,8,9,10,11,12,13,14,15,16,17,18,19,20,21,22,23] [] ?_
    repeat ((first | refine qR _ (fun w' e=>F.out w' e) ?_ | refine qS ?_);go_frame)
    refine jp ?_
    have szd:w10.heap.size≤w10.drew.heap.size:=(Ext.refl w10).drew.size
    generalize w10.drew=V at *
    go_wp2_with fail
    go_round
    case rel=>exact ⟨i+1,by omega,by first | rfl | (rw [ri]),R.out.1,R.out.2.1,R.out.2.2,by omega⟩
    case measure=>simp [intOf];omega
  ·have v1:decide ((i:Int) < (n:Int))=false:=decide_eq_false (by omega)
   have KP:=Hj (jmL (N:=0) T (fun t h=>jnr h))
   replace T:=Hj T
   clear c0'
   go_wp2_with fail
   refine KP.out.mono ?_
   rintro e w9 ⟨rfl,x9⟩
   have F:=Hj (X.trans x9)
   clear KP x9 X
   go_wp2_with fail
   go_ret
   exact ⟨rfl,F.out⟩
end Go.Proofs.YtakpgbaijkhpmaaGreatDoor
