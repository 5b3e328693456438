import Derived.Test.YtakpgbaijkhpmaaGreatDoorPkAH
import Derived.Test.YtakpgbaijkhpmaaGreatDoorPkAI
import Derived.Test.YtakpgbaijkhpmaaGreatDoorPkAJ
import Derived.Test.YtakpgbaijkhpmaaGreatDoorPkAB
import Derived.Deep.DeepCutAuto
import Derived.Test.YtakpgbaijkhpmaaGreatDoorPkAA
open Bool renaming and_eq_true→jpK
open Classical renaming byContradiction→jpM
open Go renaming Program→jpB,TypeId→jpC,below_setRow→jqb,bodyPost_ret→jqW,cell_of_row→jqe,heap_alloc_new→jqq,results_cell_row→jqX,setRow_heap→jqc,setRow_other→jqy,splice→jp9,wpList_store_mid→jrj,wp_store_row→jrf,zeroValue→jpI
open Go.Act renaming put→jpR
open Go.Exit renaming inBlock→jqV
open Go.Instr renaming fill→jqo
open Go.IntWalk renaming i64_in→jq0
open Go.Obj renaming cells→jqY
open Go.Proofs.Tryz renaming prog→jpx,underlying182→jqG,underlying23→jqD,underlying47→jrm
open Go.RowKit.Below renaming heap_setCell→jp7,refl→jpm,trans→jpn
open Go.Value renaming agg→jqp,bool→jri,int→jpA
open Go.World.grownBy renaming refl→jpZ
open Int renaming le_refl→jrl
open List renaming getD→jpr,length_append→jpG,length_map→jqH,length_replicate→jrh,length_take→jps,map_append→jqw,map_cons→jqA,map_nil→jqF,map_toArray→jqE,mem_append→jpH,mem_cons→jpE,mem_cons_self→jqB,mem_map→jpN,mem_singleton→jpF,not_mem_nil→jqz,replicate→jqn,size_toArray→jqu,take_left'→jqv,take_of_length_le→jqm,take_succ_eq_append_getElem→jq6
open List.Nodup renaming length_le_of_subset→jpJ
open Nat renaming le_of_eq→jre,le_refl→jpo,le_trans→jp0,lt_of_lt_of_le→jpq,mul_comm→jqI,zero_add→jpz,zero_le→jpp
open Option.some renaming inj→jpD
namespace Go.Proofs.YtakpgbaijkhpmaaGreatDoor
set_option maxHeartbeats 64000000
set_option linter.unusedSimpArgs false
set_option linter.unusedVariables false
set_option maxRecDepth 100000
section
open Go.ChangeShapes Go.WideShapes Go.ChangeAt Go.RowKit Go.Deep
def jE (x:List UInt8):List UInt8:=kL (jY (jC [] x) 9)
theorem YH (x:List UInt8):(jE x).length=32:=zx _
theorem jaz (x:List UInt8):j3 x=jC [] x++jE x:=rfl
theorem jhh {a b:List UInt8}:zu a (kL (jY b 9))=zu b (kL (jY a 9)):=by
 unfold zu;rw [jcs (yL _ _),jcs (yL _ _),jgr b a (show 9 < P25 by decide+kernel)]
theorem jek (a b:List UInt8):jej (zu (jC [] a) (jE b))=0:=by
 unfold jej;rw [if_neg];intro h;unfold zu jE at h;rw [jcs (yL _ _)] at h;have:=congrArg ofV h;rw [jcs (yL _ _),jje] at this;exact jcn _ _ this
end
section
open Go.ChangeShapes Go.WideShapes Go.ChangeAt Go.RowKit Go.Deep Go.Maps
theorem jbv {k:List UInt8}(h:k.length=32):Tryz.prog.built 111 [(0, .bool true),(1, .agg (cellsOf k).toArray)]=some ([jri true]++(cellsOf k++ [jpA .i64 0])).toArray:=by
 have h':∃ pl:Nat->Option (Nat×Nat),(pl 0=some (0,1)/\pl 1=some (1,32))/\∀ ps,Tryz.prog.built 111 ps=jqo pl ([jri false]++(cellsOf (jqn 32 0)++ [jpA .i64 0])).toArray ps:=⟨(#[(0,1),(1,32),(33,1)][·]?),⟨rfl,rfl⟩,fun ps=>by kernel_rfl⟩;obtain ⟨pl,⟨h0,h1⟩,hp⟩:=h';have lz:(cellsOf (jqn 32 0)).length=32:=by rw [ja,jrh]
 rw [hp];generalize cellsOf (jqn 32 0)=Z at *;have s0:∀ ps,jqo pl ([jri false]++(Z++ [jpA .i64 0])).toArray ((0, .bool true)::ps)=jqo pl ([jri true]++(Z++ [jpA .i64 0])).toArray ps:=fun ps=>(qK h0 rfl (by simp)).trans rfl
 rw [s0,qK h1 (by simp [qo,ja,h]) (by simp [lz])];have e2:jp9 ([jri true]++(Z++ [jpA .i64 0])) 1 (jqp (cellsOf k).toArray).cells.toList= [jri true]++(cellsOf k++ [jpA .i64 0]):=qB (p:= [jri true]) rfl (by rw [lz];simp [qo,ja,h]);rw [e2]
 rfl
theorem jfB {b:Bool}{k:List UInt8}{m:Int}:([jri b]++(cellsOf k++ [jpA .i64 m])).toArray.all (·.oneCell')=true:=qC fun v hv=>by
 simp only [jpH,jpE,jqz,or_false] at hv;rcases hv with rfl | h | rfl
 ·rfl
 ·exact JT _ _ h
 ·rfl
theorem jc2 {b:Bool}{k:List UInt8}{m:Int}(h:k.length=32):([jri b]++(cellsOf k++ [jpA .i64 m])).toArray.size=34:=by simp [ja,h]
theorem Sq.there_send {w:World}{g kp:Nat}{T:jpC}{s:Rt}{q:List Value}(h:Sq w g T s kp q) (ok:s.ok):w.there g 130 34:=Cb.there h (by rw [s.C_send];simp [Rt.L_si ok,ja,ok.sc] <;> omega)
theorem Sq.put_send {w:World}{g kp:Nat}{T:jpC}{s:Rt}{q:List Value}(h:Sq w g T s kp q) (ok:s.ok){k:List UInt8}(hk:k.length=32):Sq (w.setCells g 130 ([jri true]++(cellsOf k++ [jpA .i64 0]))) g T {s with si:=true,sc:=k,sm:=0} kp q:=by
 have e:∀ x:Rt,x.C kp++q=x.P_si++(([jri x.si]++(cellsOf x.sc++ [jpA .i64 x.sm]))++x.R_sm kp q):=fun x=>by rw [x.C_send];simp
 have:=Cb.put h (e s) (Rt.L_si ok) (z:= [jri true]++(cellsOf k++ [jpA .i64 0])) (by simp [ja,hk,ok.sc]);unfold Sq;rw [e];exact this
theorem Sq.there_recv {w:World}{g kp:Nat}{T:jpC}{s:Rt}{q:List Value}(h:Sq w g T s kp q) (ok:s.ok):w.there g 165 34:=Cb.there h (by rw [s.C_recv];simp [Rt.L_ri ok,ja,ok.rc] <;> omega)
theorem Sq.put_recv {w:World}{g kp:Nat}{T:jpC}{s:Rt}{q:List Value}(h:Sq w g T s kp q) (ok:s.ok){k:List UInt8}(hk:k.length=32):Sq (w.setCells g 165 ([jri true]++(cellsOf k++ [jpA .i64 0]))) g T {s with ri:=true,rc:=k,rm:=0} kp q:=by
 have e:∀ x:Rt,x.C kp++q=x.P_ri++(([jri x.ri]++(cellsOf x.rc++ [jpA .i64 x.rm]))++x.R_rm kp q):=fun x=>by rw [x.C_recv];simp
 have:=Cb.put h (e s) (Rt.L_ri ok) (z:= [jri true]++(cellsOf k++ [jpA .i64 0])) (by simp [ja,hk,ok.rc]);unfold Sq;rw [e];exact this
theorem Rt.ok_turn {s:Rt}(h:s.ok){p:List UInt8}(hp:p.length=64):(qg s p).ok:=by
 unfold qg
 split
 ·exact ⟨jR _ _,hp,h.ot,jR _ _,h.rc,⟨jrl 0,(by decide:(0:Int)<=4000000)⟩,h.sm,h.rm⟩
 ·exact h
theorem Rt.ok_fol {s:Rt}(h:s.ok){q:List UInt8}(hp:q.length=32):(za s q).ok:=by
 unfold za
 split
 ·exact ⟨jR _ _,h.own,hp,h.sc,jR _ _,h.sm,h.bf,⟨jrl 0,(by decide:(0:Int)<=4000000)⟩⟩
 ·exact h
theorem ZO {w:World}{g lo gs k kp:Nat}{s:Rt}{q:List Value}{xs:List UInt8}(h:Sq w g 114 s kp q) (ok:s.ok) (hs:SrcSt w lo gs xs k) (hk:k < 1000000) (hgs:gs < g){tg tp:jpC×Nat×Nat}(hG:Gl w tg) (hP:Gp w tp) (hq:1 < lo):
 Calls jpx 44 #[.pointer (some ⟨g,0,none⟩), .pointer (some ⟨gs,0,none⟩)] w fun e w'=>e= .returned (.int .i64 (qh s (j3 (jO xs k))))/\Sq w' g 114 (qg s (j3 (jO xs k))) kp q/\SrcSt w' lo gs xs (k+1)/\Two g gs w w':=by
 have hlo:=hs.1;have P1:=Hj (jdR hs hk hG hP hq);have GK:Hid (∀ W,w.grownBy W (some gs)->Gl W tg/\Gp W tp):=fun W e=>⟨(e.block _ hG.lt (fun z=>by have:=jpD z;omega)).trans hG,(e.block _ hP.lt (fun z=>by have:=jpD z;omega)).trans hP⟩
 obtain ⟨p,hp⟩:=ex_ (j3 (jO xs k));have L_p:p.length=64:=by rw [hp];exact yU _
 rw [<-hp] at P1 ⊢;have okT:=Rt.ok_turn ok L_p;obtain ⟨pa,pb,hpp,lpa,lpb⟩:=jfX L_p;have COM:Hid (∀ W,Gp W tp->Calls jpx 76 #[.agg (cellsOf p).toArray, .agg (cellsOf s.ot).toArray] W fun e w'=>e= .returned (.tuple #[.agg (cellsOf (qE s p)).toArray, .int .i64 (qh s p)])/\Ext W w'):=fun W k=>by
  have:=QA lpa lpb ok.ot k;rw [<-hpp] at this;unfold qE qh qE;rw [show p.take 32=pa by rw [hpp];exact jqv lpa];exact this
 have L_com:(qE s p).length=32:=jae _ _;have T0:Hid (qh s p≠0->qg s p=s):=fun z=>by unfold qg;rw [if_neg z]
 have T1:Hid (qh s p=0->qg s p={s with own:=p,root:=jM (jC s.root (qE s p)) yG,bf:=s.sm,si:=true,sc:=jM (jC s.root (qE s p)) vI,sm:=0,mt:=false}):=fun z=>by unfold qg;rw [if_pos z]
 have ROOT:Hid (∀ W,Gl W tg->Calls jpx 77 #[.agg (cellsOf s.root).toArray, .agg (cellsOf (qE s p)).toArray] W (Qk (jM (jC s.root (qE s p)) yG) (jM (jC s.root (qE s p)) vI) W)):=fun W k=>jaL ok.root L_com k
 have L_k0:=jR (jC s.root (qE s p)) yG;have L_k1:=jR (jC s.root (qE s p)) vI;have OKN:Hid (qh s p=0->({s with own:=p,root:=jM (jC s.root (qE s p)) yG,bf:=s.sm,si:=true,sc:=jM (jC s.root (qE s p)) vI,sm:=0,mt:=false}:Rt).ok):=fun z=>by have:=okT;rw [T1.out z] at this;exact this
 clear hp okT hpp lpa lpb;generalize jM (jC s.root (qE s p)) yG=k0 at *;generalize jM (jC s.root (qE s p)) vI=k1 at *;generalize qE s p=com at *;generalize qh s p=te at *;generalize qg s p=sT at *;have S_k0:(cellsOf k0).toArray.size=32:=by simp [ja,L_k0]
 have O_k0:=ji k0;have S_k1:(cellsOf k1).toArray.size=32:=by simp [ja,L_k1]
 have O_k1:=ji k1;have S_com:(cellsOf com).toArray.size=32:=by simp [ja,L_com]
 have O_com:=ji com;have hal:∀ w,(jpI 23).run jpx w= .ok (.agg (cellsOf (jqn 32 0)).toArray) w:=fun w=>by rw [jU];exact j2 w
 have L_zk:(jqn 32 (0:UInt8)).length=32:=rfl;generalize jqn 32 (0:UInt8)=zk at *;have S_zk:(cellsOf zk).toArray.size=32:=by simp [ja,L_zk]
 have DB:=Hj (jbv L_k1);have S_p:(cellsOf p).toArray.size=64:=by simp [ja,L_p]
 have O_p:=ji p;have halp:=yS;have L_zp:(jqn 64 (0:UInt8)).length=64:=rfl;generalize jqn 64 (0:UInt8)=zp at *;have S_zp:(cellsOf zp).toArray.size=64:=by simp [ja,L_zp]
 have gl:=h.lt;replace h:=Hj h;clear hs hG hP;go_enter Tryz.func44,Tryz.ntmps44
 go_wp2_with fail;refine P1.out.mono ?_;rintro e w1 ⟨rfl,g1,hs1⟩;have a1:Hid (Cb (w1.alloc (.cells (cellsOf zp).toArray 31)) w1.heap.size 31 (cellsOf zp)):=Cb.new _ _ _;have Y:Hid (Cb ((w1.alloc (.cells (cellsOf zp).toArray 31)).setRow w1.heap.size (cellsOf p).toArray) w1.heap.size 31 (cellsOf p)/\Ext w1 ((w1.alloc (.cells (cellsOf zp).toArray 31)).setRow w1.heap.size (cellsOf p).toArray)):=⟨Cb.set a1.out,Ext.newRow _ _ _⟩;have h1:Sq w1 g 114 s kp q:=h.out.other g1 (by omega);have gk1:=GK.out w1 g1;have w1_size:Hid (w.heap.size<=w1.heap.size):=g1.size;clear P1 GK h;go_upto_region 4 with (refine ws_ rfl 31 rfl w1.heap.size (cellsOf p).toArray rfl rfl a1.out (by rw [S_p];rfl) (by rw [S_p,S_zp]) O_p ?_;simp only [jpR])
 obtain ⟨r5,hr5⟩:∃ x,x=w1.heap.size:=⟨_,rfl⟩;refine jg (fun W=>Cb W w1.heap.size 31 (cellsOf p)/\Ext w1 W) Y.out ?_;rw [<-hr5];have w15:w1.heap.size<=r5:=jre hr5.symm;clear Y a1;replace hr5:=Hj hr5;rintro w0 ⟨k5,x0⟩;have P0:Hid (∀ u,Below w0.heap.size w0 u->Cb u r5 31 (cellsOf p)/\Sq u g 114 s kp q/\(Gl u tg/\Gp u tp)/\SrcSt u lo gs xs (k+1)/\Two g gs w u):=fun u x=>by
  have x':Ext w1 u:=Ext.trans x0 x;exact ⟨k5.kept x k5.lt,h1.ext x',⟨gk1.1.kept x' gk1.1.lt,gk1.2.ext x'⟩,hs1.ext x',Two.trans ⟨g1.os,g1.tape,g1.output,g1.size,fun i hi _ hne=>g1.block i hi (fun z=>hne (jpD z))⟩ (Two.of_ext x')⟩
 have OT:Hid (∀ u,Below w0.heap.size w0 u->∀ j v,(cellsOf s.ot)[j]? =some v->u.cell? ⟨g,97+j,none⟩=some v):=fun u x=>(P0.out u x).2.1.at_ot ok
 have RO:Hid (∀ u,Below w0.heap.size w0 u->∀ j v,(cellsOf s.root)[j]? =some v->u.cell? ⟨g,0+j,none⟩=some v):=fun u x=>(P0.out u x).2.1.at_root ok
 have CO:Hid (∀ u,Ext w0 u->Calls jpx 76 #[.agg (cellsOf p).toArray, .agg (cellsOf s.ot).toArray] u fun e w'=>e= .returned (.tuple #[.agg (cellsOf com).toArray, .int .i64 te])/\Ext u w'):=fun u x=>COM.out u (P0.out u x).2.2.1.2
 have C_ot:(cellsOf s.ot).length=32:=by rw [ja,ok.ot]
 have C_ro:(cellsOf s.root).length=32:=by rw [ja,ok.root]
 have r5l:=k5.lt;clear COM k5 x0 h1 gk1 hs1 g1;go_cut [6,7] (fun s6 s7 wx=>∃ g6:Nat,s6= .pointer (some ⟨g6,0,none⟩)/\s7= .int .i64 te/\Below w0.heap.size w0 wx/\wx.heap[g6]? =some (.cells (cellsOf com).toArray 23 (0,0))/\w0.heap.size<=g6)
 case first=>
  refine qgT (R:=Below w0.heap.size) (jpm _) (fun _ _ _=>jpn) (.rd 0 (.rd 1 (.rd 2 (.rd 3 (.rd 4 (.alt 5 (.rd 6 (.rd 7 (.rd 8 (.alt 9 (.alt 10 (.rd 11 .nil) .stop) .stop)))) (.alt 9 (.alt 5 (.rd 6 (.rd 7 (.rd 8 (.alt 10 (.rd 11 .nil) .stop)))) .stop) .stop))))))) 12 ?_;refine qtV rfl (fun w'=>w'.heap[r5]? =some (.cells (cellsOf p).toArray 31 (0,0))) (fun w' e=>(P0.out w' (Ext.trans (jnQ _).drew e)).1) (.agg (cellsOf p).toArray) (fun w' hF=>jd rfl rfl hF rfl rfl (by rw [S_p];rfl)) ?_;go_frame
  repeat ((first | refine vN ?_ | refine qtS ?_);go_frame)
  refine qtV rfl (fun w'=>∀ q_ v,(cellsOf s.ot)[q_]? =some v->w'.cell? ⟨g,97+q_,none⟩=some v) (fun w' e=>OT.out w' (Ext.trans (jnQ _).drew e)) (.agg (cellsOf s.ot).toArray) (fun w' hF=>jy rfl rfl hF rfl rfl (by rw [C_ot];rfl)) ?_;go_frame
  repeat ((first | refine vN ?_ | refine qtS ?_);go_frame)
  have SE:Hid (Ext w0 w0.drew):=(jnQ w0).drew;generalize w0.drew=WC at *;repeat' (first
   | exact yD
   | (refine qc (i:=5) _ rfl ?_ ?_ (fun K1 hK1=> ?_)
      (·rfl)
      rotate_left;go_simp;refine (CO.out WC SE.out).mono ?_;rintro e0 WC ⟨rfl,e⟩;refine hK1.out _ _ (e.mono SE.out.size) ?_;clear hK1 K1;(try replace hL:=Hj ((e.block _ (jh hL.out)).trans hL.out));replace SE:=Hj (SE.out.trans e);clear e;(try go_frame);repeat ((first | refine vN ?_ | refine qtS ?_);go_frame)
      skip)
   | (refine qc (i:=9) _ rfl ?_ ?_ (fun K1 hK1=> ?_)
      (·rfl)
      rotate_left;go_simp;have e:Ext WC (WC.alloc (jqY (cellsOf zk).toArray 23)):=(jnQ WC).alloc _;obtain ⟨g6,hgL⟩:∃ g,g=WC.heap.size:=⟨_,rfl⟩;have hL:=Hj (jqq WC (jqY (cellsOf zk).toArray 23));rw [<-hgL] at hL ⊢;have z_g6:w0.heap.size<=g6:=by rw [hgL];exact SE.out.size
      refine hK1.out _ _ (e.mono SE.out.size) ?_;clear hK1 K1;replace hgL:=Hj hgL;replace SE:=Hj (SE.out.trans e);clear e;generalize WC.alloc (jqY (cellsOf zk).toArray 23)=WC at *;(try go_frame);repeat ((first | refine vN ?_ | refine qtS ?_);go_frame)
      skip)
   | (refine qc (i:=10) _ rfl ?_ ?_ (fun K1 hK1=> ?_)
      (·rfl)
      rotate_left;refine jrf _ _ _ rfl g6 (cellsOf com).toArray rfl rfl 23 (cellsOf zk).toArray hL.out (by rw [S_com];rfl) (by rw [S_com];exact S_zk) O_com ?_;refine hK1.out _ _ (jqb (jpm _ _) z_g6 _) ?_;clear hK1 K1;replace SE:Hid (Below w0.heap.size w0 (WC.setRow g6 (cellsOf com).toArray)):=jqb SE.out z_g6 _;replace hL:Hid ((WC.setRow g6 (cellsOf com).toArray).heap[g6]? =some (.cells (cellsOf com).toArray 23 (0,0))):=jqc _ _ _ _ _ _ hL.out;generalize WC.setRow g6 (cellsOf com).toArray=WC at *;(try simp only [jpR]);repeat ((first | refine vN ?_ | refine qtS ?_);go_frame)
      skip)
   | (refine yC ?_
      go_wp2_with fail;go_meet
      exact ⟨g6,rfl,rfl,SE.out,hL.out,z_g6⟩))
 case rest=>
  obtain ⟨g6,rfl,rfl,b6,k6,z6⟩:=hcut;by_cases he:te=0
  ·replace T1:=T1.out he;have okn:=OKN.out he;subst he;replace T1:=Hj T1;have g6l:=jh k6;have w06:=b6.size;have P6:Hid (∀ u,Below wc.heap.size wc u->Cb u g6 23 (cellsOf com)/\Cb u r5 31 (cellsOf p)/\Sq u g 114 s kp q/\Gl u tg/\SrcSt u lo gs xs (k+1)/\Two g gs w u):=fun u x=>by
    obtain ⟨a1,a2,a3,a4,a5⟩:=P0.out u (jpn b6 (x.mono b6.size));exact ⟨(x.block _ g6l).trans k6,a1,a2,a3.1,a4,a5⟩
   have RO6:Hid (∀ u,Below wc.heap.size wc u->∀ j v,(cellsOf s.root)[j]? =some v->u.cell? ⟨g,0+j,none⟩=some v):=fun u x=>(P6.out u x).2.2.1.at_root ok
   have RT:Hid (∀ u,Ext wc u->Calls jpx 77 #[.agg (cellsOf s.root).toArray, .agg (cellsOf com).toArray] u (Qk k0 k1 u)):=fun u x=>ROOT.out u (P6.out u x).2.2.2.1
   clear P0 OT RO CO ROOT k6 T0 OKN;go_upto_region 7 with fail;go_cut [8,9] (fun s8 s9 wx=>∃ g8 g9:Nat,s8= .pointer (some ⟨g8,0,none⟩)/\s9= .pointer (some ⟨g9,0,none⟩)/\Below wc.heap.size wc wx/\(wx.heap[g8]? =some (.cells (cellsOf k0).toArray 23 (0,0))/\wc.heap.size<=g8)/\(wx.heap[g9]? =some (.cells (cellsOf k1).toArray 23 (0,0))/\wc.heap.size<=g9))
   case first=>
    refine qgT (R:=Below wc.heap.size) (jpm _) (fun _ _ _=>jpn) (.rd 0 (.rd 1 (.rd 2 (.rd 3 (.rd 4 (.alt 5 (.rd 6 (.rd 7 (.rd 8 (.alt 9 (.alt 10 (.alt 11 (.alt 12 .nil .stop) .stop) .stop) (.alt 10 (.alt 9 (.alt 11 (.alt 12 .nil .stop) .stop) .stop) .stop))))) (.alt 9 (.alt 5 (.rd 6 (.rd 7 (.rd 8 (.alt 10 (.alt 11 (.alt 12 .nil .stop) .stop) .stop)))) (.alt 10 (.alt 5 (.rd 6 (.rd 7 (.rd 8 (.alt 11 (.alt 12 .nil .stop) .stop)))) .stop) .stop)) (.alt 10 (.alt 5 (.rd 6 (.rd 7 (.rd 8 (.alt 9 (.alt 11 (.alt 12 .nil .stop) .stop) .stop)))) (.alt 9 (.alt 5 (.rd 6 (.rd 7 (.rd 8 (.alt 11 (.alt 12 .nil .stop) .stop)))) .stop) .stop)) .stop)))))))) 13 ?_;repeat ((first | refine vN ?_ | refine qtS ?_);go_frame)
    refine qtV rfl (fun w'=>∀ q_ v,(cellsOf s.root)[q_]? =some v->w'.cell? ⟨g,0+q_,none⟩=some v) (fun w' e=>RO6.out w' (Ext.trans (jnQ _).drew e)) (.agg (cellsOf s.root).toArray) (fun w' hF=>jy rfl rfl hF rfl rfl (by rw [C_ro];rfl)) ?_;go_frame
    refine qtV rfl (fun w'=>w'.heap[g6]? =some (.cells (cellsOf com).toArray 23 (0,0))) (fun w' e=>(P6.out w' (Ext.trans (jnQ _).drew e)).1) (.agg (cellsOf com).toArray) (fun w' hF=>jd rfl rfl hF rfl rfl (by rw [S_com];rfl)) ?_;go_frame
    repeat ((first | refine vN ?_ | refine qtS ?_);go_frame)
    have SE:Hid (Ext wc wc.drew):=(jnQ wc).drew;generalize wc.drew=WC at *;repeat' (first
     | exact yD
     | (refine qc (i:=5) _ rfl ?_ ?_ (fun K1 hK1=> ?_)
        (·rfl)
        rotate_left;go_simp;refine (RT.out WC SE.out).mono ?_;rintro e0 WC ⟨rfl,e⟩;refine hK1.out _ _ (e.mono SE.out.size) ?_;clear hK1 K1;(try replace h8:=Hj ((e.block _ (jh h8.out)).trans h8.out));(try replace h9:=Hj ((e.block _ (jh h9.out)).trans h9.out));replace SE:=Hj (SE.out.trans e);clear e;(try go_frame);repeat ((first | refine vN ?_ | refine qtS ?_);go_frame)
        skip)
     | (refine qc (i:=9) _ rfl ?_ ?_ (fun K1 hK1=> ?_)
        (·rfl)
        rotate_left;go_simp;have e:Ext WC (WC.alloc (jqY (cellsOf zk).toArray 23)):=(jnQ WC).alloc _;obtain ⟨g8,hgL⟩:∃ g,g=WC.heap.size:=⟨_,rfl⟩;have h8:=Hj (jqq WC (jqY (cellsOf zk).toArray 23));rw [<-hgL] at h8 ⊢;have z_g8:wc.heap.size<=g8:=by rw [hgL];exact SE.out.size
        (try have d_g9_g8:g9≠g8:=by rw [hgL];exact Nat.ne_of_lt (jh h9.out));refine hK1.out _ _ (e.mono SE.out.size) ?_;clear hK1 K1;replace hgL:=Hj hgL;(try replace h9:=Hj ((e.block _ (jh h9.out)).trans h9.out));replace SE:=Hj (SE.out.trans e);clear e;generalize WC.alloc (jqY (cellsOf zk).toArray 23)=WC at *;(try go_frame);repeat ((first | refine vN ?_ | refine qtS ?_);go_frame)
        skip)
     | (refine qc (i:=10) _ rfl ?_ ?_ (fun K1 hK1=> ?_)
        (·rfl)
        rotate_left;go_simp;have e:Ext WC (WC.alloc (jqY (cellsOf zk).toArray 23)):=(jnQ WC).alloc _;obtain ⟨g9,hgL⟩:∃ g,g=WC.heap.size:=⟨_,rfl⟩;have h9:=Hj (jqq WC (jqY (cellsOf zk).toArray 23));rw [<-hgL] at h9 ⊢;have z_g9:wc.heap.size<=g9:=by rw [hgL];exact SE.out.size
        (try have d_g8_g9:g8≠g9:=by rw [hgL];exact Nat.ne_of_lt (jh h8.out));refine hK1.out _ _ (e.mono SE.out.size) ?_;clear hK1 K1;replace hgL:=Hj hgL;(try replace h8:=Hj ((e.block _ (jh h8.out)).trans h8.out));replace SE:=Hj (SE.out.trans e);clear e;generalize WC.alloc (jqY (cellsOf zk).toArray 23)=WC at *;(try go_frame);repeat ((first | refine vN ?_ | refine qtS ?_);go_frame)
        skip)
     | (refine qc (i:=11) _ rfl ?_ ?_ (fun K1 hK1=> ?_)
        (·rfl)
        rotate_left;refine jrf _ _ _ rfl g8 (cellsOf k0).toArray rfl rfl 23 (cellsOf zk).toArray h8.out (by rw [S_k0];rfl) (by rw [S_k0];exact S_zk) O_k0 ?_;refine hK1.out _ _ (jqb (jpm _ _) z_g8 _) ?_;clear hK1 K1;replace SE:Hid (Below wc.heap.size wc (WC.setRow g8 (cellsOf k0).toArray)):=jqb SE.out z_g8 _;replace h8:Hid ((WC.setRow g8 (cellsOf k0).toArray).heap[g8]? =some (.cells (cellsOf k0).toArray 23 (0,0))):=jqc _ _ _ _ _ _ h8.out;(try replace h9:=Hj ((jqy WC g8 g9 (cellsOf k0).toArray (by omega)).trans h9.out));generalize WC.setRow g8 (cellsOf k0).toArray=WC at *;(try simp only [jpR]);repeat ((first | refine vN ?_ | refine qtS ?_);go_frame)
        skip)
     | (refine qc (i:=12) _ rfl ?_ ?_ (fun K1 hK1=> ?_)
        (·rfl)
        rotate_left;refine jrf _ _ _ rfl g9 (cellsOf k1).toArray rfl rfl 23 (cellsOf zk).toArray h9.out (by rw [S_k1];rfl) (by rw [S_k1];exact S_zk) O_k1 ?_;refine hK1.out _ _ (jqb (jpm _ _) z_g9 _) ?_;clear hK1 K1;replace SE:Hid (Below wc.heap.size wc (WC.setRow g9 (cellsOf k1).toArray)):=jqb SE.out z_g9 _;replace h9:Hid ((WC.setRow g9 (cellsOf k1).toArray).heap[g9]? =some (.cells (cellsOf k1).toArray 23 (0,0))):=jqc _ _ _ _ _ _ h9.out;(try replace h8:=Hj ((jqy WC g9 g8 (cellsOf k1).toArray (by omega)).trans h8.out));generalize WC.setRow g9 (cellsOf k1).toArray=WC at *;(try simp only [jpR]);repeat ((first | refine vN ?_ | refine qtS ?_);go_frame)
        skip)
     | (refine yC ?_
        go_wp2_with fail;go_meet
        exact ⟨g8,g9,rfl,rfl,SE.out,⟨h8.out,z_g8⟩,⟨h9.out,z_g9⟩⟩))
   case rest=>
    rename World=>wc2
    obtain ⟨g8,g9,rfl,rfl,b9,⟨k8,z8⟩,⟨k9,z9⟩⟩:=hcut;have h9:=P6.out wc2 b9;obtain ⟨j6,j5,hS,jG,jS,jT⟩:=h9;have g8l:=jh k8;have g9l:=jh k9;have gr5:g < r5:=jpq (jpq gl w1_size.out) w15;have r5w:r5 < wc.heap.size:=jpq r5l w06;clear P6 RO6 RT j6 jG;have hD:Sq wc2.drew g 114 s kp q:=hS;have A0:=hD.put_own ok L_p;have ok1:({s with own:=p}:Rt).ok:=⟨ok.root,L_p,ok.ot,ok.sc,ok.rc,ok.sm,ok.bf,ok.rm⟩;have ok2:({s with own:=p,root:=k0}:Rt).ok:=⟨L_k0,L_p,ok.ot,ok.sc,ok.rc,ok.sm,ok.bf,ok.rm⟩;have ok3:({s with own:=p,root:=k0,bf:=s.sm}:Rt).ok:=⟨L_k0,L_p,ok.ot,ok.sc,ok.rc,ok.sm,ok.sm,ok.rm⟩;have ok4:({s with own:=p,root:=k0,bf:=s.sm,si:=true,sc:=k1,sm:=0}:Rt).ok:=⟨L_k0,L_p,ok.ot,L_k1,ok.rc,⟨jrl 0,(by decide:(0:Int)<=4000000)⟩,ok.sm,ok.rm⟩;have TH0:=Hj (hD.there_own ok);have TH1:Hid ((wc2.drew.setCells g 32 (cellsOf p)).there g 0 32):=A0.there_root ok1;have A1:=Hj (A0.put_root ok1 L_k0);have KK:Hid (∀ u,wc2.drew.grownBy u (some g)->u.heap[r5]? =some (.cells (cellsOf p).toArray 31 (0,0))/\u.heap[g8]? =some (.cells (cellsOf k0).toArray 23 (0,0))/\u.heap[g9]? =some (.cells (cellsOf k1).toArray 23 (0,0))/\SrcSt u lo gs xs (k+1)/\Two g gs w u):=fun u x=>
     ⟨(x.block _ j5.lt (fun z=>by have:=jpD z;omega)).trans j5,(x.block _ g8l (fun z=>by have:=jpD z;omega)).trans k8,(x.block _ g9l (fun z=>by have:=jpD z;omega)).trans k9,jS.other (w:=wc2.drew) x (.inr hgs),Two.trans jT ⟨x.os,x.tape,x.output,x.size,fun i hi h1 _=>x.block i hi (fun z=>h1 (jpD z))⟩⟩
    clear k8 k9 j5 jS jT hS A0 hD;go_upto_region 8 with fail;refine qgW g [0,1,2,3,4,5,6,7,8,9] [6,9] ?_;iterate 2 ((first | refine qR0 ?_ | refine qS ?_);go_frame)
    refine qV rfl (fun w'=>w'.heap[r5]? =some (.cells (cellsOf p).toArray 31 (0,0))) (fun w' e=>(KK.out w' e).1) (.agg (cellsOf p).toArray) (fun w' hF=>jd rfl rfl hF rfl rfl (by rw [S_p];rfl)) ?_;go_frame
    refine qV rfl (fun w'=>w'.heap[g8]? =some (.cells (cellsOf k0).toArray 23 (0,0))) (fun w' e=>(KK.out w' e).2.1) (.agg (cellsOf k0).toArray) (fun w' hF=>jd rfl rfl hF rfl rfl (by rw [S_k0];rfl)) ?_;go_frame
    repeat ((first | refine qR0 ?_ | refine qS ?_);go_frame)
    have ZZ:Hid (wc2.drew.grownBy wc2.drew (some g)):=jpZ _ _;generalize wc2.drew=V at *;refine qD fun K hK=> ?_
    refine wp_store_mid 31 _ _ rfl g 32 (cellsOf p).toArray rfl rfl (by rw [S_p];exact TH0.out) (by rw [S_p];rfl) O_p ?_;refine hK.out _ _ ju ?_;clear hK K;try simp only [jpR]
    replace ZZ:Hid (V.grownBy (V.setCells g 32 (cellsOf p)) (some g)):=ju;repeat ((first | refine qR0 ?_ | refine qS ?_);go_frame)
    refine qD fun K hK=> ?_
    refine wp_store_mid 23 _ _ rfl g 0 (cellsOf k0).toArray rfl rfl (by rw [S_k0];exact TH1.out) (by rw [S_k0];rfl) O_k0 ?_;refine hK.out _ _ ju ?_;clear hK K;try simp only [jpR]
    refine jp ?_;have F1:=Hj (KK.out ((V.setCells g 32 (cellsOf p)).setCells g 0 (cellsOf k0)) (jt ZZ.out ju));refine yf (fun W=>Sq W g 114 {s with own:=p,root:=k0} kp q/\W.heap[g9]? =some (.cells (cellsOf k1).toArray 23 (0,0))/\SrcSt W lo gs xs (k+1)/\Two g gs w W) ⟨A1.out,F1.out.2.2⟩ ?_;clear A1 F1 ZZ TH0 TH1 KK;rintro w3 ⟨hS,k9,jS,jT⟩;have KB:Hid (∀ u,w3.grownBy u (some g)->u.heap[g9]? =some (.cells (cellsOf k1).toArray 23 (0,0))/\SrcSt u lo gs xs (k+1)/\Two g gs w u):=fun u x=>
     ⟨(x.block _ (jh k9) (fun z=>by have:=jpD z;omega)).trans k9,jS.other x (.inr hgs),Two.trans jT ⟨x.os,x.tape,x.output,x.size,fun i hi h1 _=>x.block i hi (fun z=>h1 (jpD z))⟩⟩
    have c1:=hS.sm ok2;have c2:=hS.bf ok2;have z2:=hS.frozen 164;have A2:=Hj (hS.set_bf ok2 s.sm);clear hS k9 jS jT;go_upto_region 10 with fail;refine jg (fun W=>Sq W g 114 {s with own:=p,root:=k0,bf:=s.sm} kp q/\W.heap[g9]? =some (.cells (cellsOf k1).toArray 23 (0,0))/\SrcSt W lo gs xs (k+1)/\Two g gs w W) ⟨A2.out,KB.out _ jP⟩ ?_;clear A2 KB c1 c2 z2;rintro w4 ⟨hS,k9,jS,jT⟩;have TH:=Hj (hS.there_send ok3);have A3:=Hj (hS.put_send ok3 L_k1);have KB:Hid (∀ u,w4.grownBy u (some g)->SrcSt u lo gs xs (k+1)/\Two g gs w u):=fun u x=>
     ⟨jS.other x (.inr hgs),Two.trans jT ⟨x.os,x.tape,x.output,x.size,fun i hi h1 _=>x.block i hi (fun z=>h1 (jpD z))⟩⟩
    replace k9:=Hj k9;clear hS jS jT;have O_d:=jfB (k:=k1) (b:=true) (m:=0);have S_d:=jc2 (b:=true) (m:=0) L_k1;obtain ⟨dC,hdC⟩:∃ x,x= [jri true]++(cellsOf k1++ [jpA .i64 0]):=⟨_,rfl⟩;rw [<-hdC] at DB A3 O_d S_d;clear hdC;go_upto_region 11 with (first
     | ((with_reducible refine js (o:=⟨some 52,_,_,_,_,_⟩) ?_ 23 _ rfl g9 ?_ 23 (cellsOf k1).toArray (0,0) _ ?_ jqD ?_ ?_ ?_);(·rfl);(·rfl);(·exact k9.out);(·rfl);(·rw [S_k1];rfl);go_frame)
     | ((with_reducible refine jm (o:=⟨some 53, .build 111 _,_,_,_,_⟩) ?_ 111 _ rfl dC.toArray ?_ ?_);(·rfl);(·simp only [jqE,jqA,jqF];exact DB.out);go_frame)
     | ((with_reducible refine jrj (op:=⟨none, .store 111 (.tmp 55) (.tmp 53),_,_,_,_⟩) ?_ 111 _ _ rfl g 130 dC.toArray ?_ ?_ ?_ ?_ ?_ ?_);(·rfl);(·rfl);(·rfl);(·rw [S_d];exact TH.out);(·rw [S_d];rfl);(·exact O_d);go_frame))
    refine jg (fun W=>Sq W g 114 {s with own:=p,root:=k0,bf:=s.sm,si:=true,sc:=k1,sm:=0} kp q/\SrcSt W lo gs xs (k+1)/\Two g gs w W) ⟨A3.out,KB.out _ ju⟩ ?_;clear A3 KB TH k9 DB;rintro w5 ⟨hS,jS,jT⟩;have c1:=hS.mt ok4;have z2:=hS.frozen 129;have A4:=Hj (hS.set_mt ok4 false);have F:Hid (SrcSt (w5.setCell ⟨g,129,none⟩ (.bool false)) lo gs xs (k+1)/\Two g gs w (w5.setCell ⟨g,129,none⟩ (.bool false))):=⟨jS.other jP (.inr hgs),Two.trans jT ⟨rfl,rfl,rfl,by simp [World.setCell],fun i hi h1 _=>(jP (w:=w5) (g:=g) (o:=129) (v:= .bool false)).block i hi (fun z=>h1 (jpD z))⟩⟩;clear hS jS jT;go_wp2_with fail;go_ret;exact ⟨rfl,by rw [T1.out];exact A4.out,F.out.1,F.out.2⟩
  ·replace T0:=T0.out he;have hbn:(te !=0)=true:=bne_iff_ne.2 he;have hb0:(te==0)=false:=beq_false_of_ne he;obtain ⟨_,hS,_,jS,jT⟩:=P0.out wc b6;have F:Hid (Sq wc g 114 sT kp q/\SrcSt wc lo gs xs (k+1)/\Two g gs w wc):=⟨by rw [T0];exact hS,jS,jT⟩;clear P0 OT RO CO ROOT k6 T1 OKN hS jS jT T0;go_wp2_with fail;go_ret;exact ⟨rfl,F.out⟩
theorem jeV {w:World}{g kp:Nat}{s:Rt}{q:List Value}{pk:List UInt8}(h:Sq w g 114 s kp q) (ok:s.ok) (lp:pk.length=32){tg tp:jpC×Nat×Nat}(hG:Gl w tg) (hP:Gp w tp):
 Calls jpx 91 #[.pointer (some ⟨g,0,none⟩), .agg (cellsOf pk).toArray] w fun e w'=>e= .returned (.int .i64 (YG s pk))/\Sq w' g 114 (za s pk) kp q/\w.grownBy w' (some g):=by
 obtain ⟨pa,pb,hpp,lpa,lpb⟩:=jfX ok.own;have COM:Hid (∀ W,Gp W tp->Calls jpx 76 #[.agg (cellsOf s.own).toArray, .agg (cellsOf pk).toArray] W fun e w'=>e= .returned (.tuple #[.agg (cellsOf (YY s pk)).toArray, .int .i64 (YG s pk)])/\Ext W w'):=fun W k=>by
  have:=QA lpa lpb lp k;rw [<-hpp] at this;unfold YY YG YY Rt.sec;rw [show s.own.take 32=pa by rw [hpp];exact jqv lpa];exact this
 have L_com:(YY s pk).length=32:=jae _ _;have T0:Hid (YG s pk≠0->za s pk=s):=fun z=>by unfold za;rw [if_neg z]
 have T1:Hid (YG s pk=0->za s pk={s with root:=jM (jC s.root (YY s pk)) yG,ri:=true,rc:=jM (jC s.root (YY s pk)) vI,rm:=0,ho:=true,ot:=pk,mt:=true}):=fun z=>by unfold za;rw [if_pos z]
 have ROOT:Hid (∀ W,Gl W tg->Calls jpx 77 #[.agg (cellsOf s.root).toArray, .agg (cellsOf (YY s pk)).toArray] W (Qk (jM (jC s.root (YY s pk)) yG) (jM (jC s.root (YY s pk)) vI) W)):=fun W k=>jaL ok.root L_com k
 have L_k0:=jR (jC s.root (YY s pk)) yG;have L_k1:=jR (jC s.root (YY s pk)) vI;clear hpp lpa lpb;generalize jM (jC s.root (YY s pk)) yG=k0 at *;generalize jM (jC s.root (YY s pk)) vI=k1 at *;generalize YY s pk=com at *;generalize YG s pk=te at *;generalize za s pk=sT at *;have S_k0:(cellsOf k0).toArray.size=32:=by simp [ja,L_k0]
 have O_k0:=ji k0;have S_k1:(cellsOf k1).toArray.size=32:=by simp [ja,L_k1]
 have O_k1:=ji k1;have S_com:(cellsOf com).toArray.size=32:=by simp [ja,L_com]
 have O_com:=ji com;have hal:∀ w,(jpI 23).run jpx w= .ok (.agg (cellsOf (jqn 32 0)).toArray) w:=fun w=>by rw [jU];exact j2 w
 have L_zk:(jqn 32 (0:UInt8)).length=32:=rfl;generalize jqn 32 (0:UInt8)=zk at *;have S_zk:(cellsOf zk).toArray.size=32:=by simp [ja,L_zk]
 have S_pk:(cellsOf pk).toArray.size=32:=by simp [ja,lp]
 have O_pk:=ji pk;have DB:=Hj (jbv L_k1);have gl:=h.lt;obtain ⟨r,hr⟩:=ex_ w.heap.size;have B0:Hid (Cb (w.alloc (.cells (cellsOf pk).toArray 23)) r 23 (cellsOf pk)/\Ext w (w.alloc (.cells (cellsOf pk).toArray 23))):=by rw [hr];exact ⟨Cb.new _ _ _,(jnQ w).alloc _⟩
 replace h:=Hj h;go_enter Tryz.func91,Tryz.ntmps91
 go_upto_region 1 with fail;refine jg (fun W=>Cb W r 23 (cellsOf pk)/\Ext w W) B0.out ?_;rw [<-hr];have wr_:w.heap.size<=r:=jre hr.symm;clear B0;replace hr:=Hj hr;rintro w0 ⟨k3,x0⟩;have P0:Hid (∀ u,Below w0.heap.size w0 u->Cb u r 23 (cellsOf pk)/\Sq u g 114 s kp q/\(Gl u tg/\Gp u tp)/\Ext w u):=fun u x=>by
  have x':Ext w u:=Ext.trans x0 x;exact ⟨k3.kept x k3.lt,h.out.ext x',⟨hG.kept x' hG.lt,hP.ext x'⟩,x'⟩
 have OT:Hid (∀ u,Below w0.heap.size w0 u->∀ j v,(cellsOf s.own)[j]? =some v->u.cell? ⟨g,32+j,none⟩=some v):=fun u x=>(P0.out u x).2.1.at_own ok
 have CO:Hid (∀ u,Ext w0 u->Calls jpx 76 #[.agg (cellsOf s.own).toArray, .agg (cellsOf pk).toArray] u fun e w'=>e= .returned (.tuple #[.agg (cellsOf com).toArray, .int .i64 te])/\Ext u w'):=fun u x=>COM.out u (P0.out u x).2.2.1.2
 have C_ow:(cellsOf s.own).length=64:=by rw [ja,ok.own]
 have C_ro:(cellsOf s.root).length=32:=by rw [ja,ok.root]
 have rl:=k3.lt;clear COM k3 x0 h hG hP;go_cut [5,6] (fun s6 s7 wx=>∃ g6:Nat,s6= .pointer (some ⟨g6,0,none⟩)/\s7= .int .i64 te/\Below w0.heap.size w0 wx/\wx.heap[g6]? =some (.cells (cellsOf com).toArray 23 (0,0))/\w0.heap.size<=g6)
 case first=>
  refine qgT (R:=Below w0.heap.size) (jpm _) (fun _ _ _=>jpn) (.rd 0 (.rd 1 (.rd 2 (.rd 3 (.rd 4 (.alt 5 (.rd 6 (.rd 7 (.rd 8 (.alt 9 (.alt 10 (.rd 11 .nil) .stop) .stop)))) (.alt 9 (.alt 5 (.rd 6 (.rd 7 (.rd 8 (.alt 10 (.rd 11 .nil) .stop)))) .stop) .stop))))))) 12 ?_;repeat ((first | refine vN ?_ | refine qtS ?_);go_frame)
  refine qtV rfl (fun w'=>∀ q_ v,(cellsOf s.own)[q_]? =some v->w'.cell? ⟨g,32+q_,none⟩=some v) (fun w' e=>OT.out w' (Ext.trans (jnQ _).drew e)) (.agg (cellsOf s.own).toArray) (fun w' hF=>jy rfl rfl hF rfl rfl (by rw [C_ow];rfl)) ?_;go_frame
  refine qtV rfl (fun w'=>w'.heap[r]? =some (.cells (cellsOf pk).toArray 23 (0,0))) (fun w' e=>(P0.out w' (Ext.trans (jnQ _).drew e)).1) (.agg (cellsOf pk).toArray) (fun w' hF=>jd rfl rfl hF rfl rfl (by rw [S_pk];rfl)) ?_;go_frame
  repeat ((first | refine vN ?_ | refine qtS ?_);go_frame)
  have SE:Hid (Ext w0 w0.drew):=(jnQ w0).drew;generalize w0.drew=WC at *;repeat' (first
   | exact yD
   | (refine qc (i:=5) _ rfl ?_ ?_ (fun K1 hK1=> ?_)
      (·rfl)
      rotate_left;go_simp;refine (CO.out WC SE.out).mono ?_;rintro e0 WC ⟨rfl,e⟩;refine hK1.out _ _ (e.mono SE.out.size) ?_;clear hK1 K1;(try replace hL:=Hj ((e.block _ (jh hL.out)).trans hL.out));replace SE:=Hj (SE.out.trans e);clear e;(try go_frame);repeat ((first | refine vN ?_ | refine qtS ?_);go_frame)
      skip)
   | (refine qc (i:=9) _ rfl ?_ ?_ (fun K1 hK1=> ?_)
      (·rfl)
      rotate_left;go_simp;have e:Ext WC (WC.alloc (jqY (cellsOf zk).toArray 23)):=(jnQ WC).alloc _;obtain ⟨g6,hgL⟩:∃ g,g=WC.heap.size:=⟨_,rfl⟩;have hL:=Hj (jqq WC (jqY (cellsOf zk).toArray 23));rw [<-hgL] at hL ⊢;have z_g6:w0.heap.size<=g6:=by rw [hgL];exact SE.out.size
      refine hK1.out _ _ (e.mono SE.out.size) ?_;clear hK1 K1;replace hgL:=Hj hgL;replace SE:=Hj (SE.out.trans e);clear e;generalize WC.alloc (jqY (cellsOf zk).toArray 23)=WC at *;(try go_frame);repeat ((first | refine vN ?_ | refine qtS ?_);go_frame)
      skip)
   | (refine qc (i:=10) _ rfl ?_ ?_ (fun K1 hK1=> ?_)
      (·rfl)
      rotate_left;refine jrf _ _ _ rfl g6 (cellsOf com).toArray rfl rfl 23 (cellsOf zk).toArray hL.out (by rw [S_com];rfl) (by rw [S_com];exact S_zk) O_com ?_;refine hK1.out _ _ (jqb (jpm _ _) z_g6 _) ?_;clear hK1 K1;replace SE:Hid (Below w0.heap.size w0 (WC.setRow g6 (cellsOf com).toArray)):=jqb SE.out z_g6 _;replace hL:Hid ((WC.setRow g6 (cellsOf com).toArray).heap[g6]? =some (.cells (cellsOf com).toArray 23 (0,0))):=jqc _ _ _ _ _ _ hL.out;generalize WC.setRow g6 (cellsOf com).toArray=WC at *;(try simp only [jpR]);repeat ((first | refine vN ?_ | refine qtS ?_);go_frame)
      skip)
   | (refine yC ?_
      go_wp2_with fail;go_meet
      exact ⟨g6,rfl,rfl,SE.out,hL.out,z_g6⟩))
 case rest=>
  obtain ⟨g6,rfl,rfl,b6,k6,z6⟩:=hcut;by_cases he:te=0
  ·replace T1:=T1.out he;subst he;replace T1:=Hj T1;have g6l:=jh k6;have w06:=b6.size;have P6:Hid (∀ u,Below wc.heap.size wc u->Cb u g6 23 (cellsOf com)/\Cb u r 23 (cellsOf pk)/\Sq u g 114 s kp q/\Gl u tg/\Ext w u):=fun u x=>by
    obtain ⟨a1,a2,a3,a4⟩:=P0.out u (jpn b6 (x.mono b6.size));exact ⟨(x.block _ g6l).trans k6,a1,a2,a3.1,a4⟩
   have RO6:Hid (∀ u,Below wc.heap.size wc u->∀ j v,(cellsOf s.root)[j]? =some v->u.cell? ⟨g,0+j,none⟩=some v):=fun u x=>(P6.out u x).2.2.1.at_root ok
   have RT:Hid (∀ u,Ext wc u->Calls jpx 77 #[.agg (cellsOf s.root).toArray, .agg (cellsOf com).toArray] u (Qk k0 k1 u)):=fun u x=>ROOT.out u (P6.out u x).2.2.2.1
   clear P0 OT CO ROOT k6 T0;go_upto_region 4 with fail;go_cut [7,8] (fun s8 s9 wx=>∃ g8 g9:Nat,s8= .pointer (some ⟨g8,0,none⟩)/\s9= .pointer (some ⟨g9,0,none⟩)/\Below wc.heap.size wc wx/\(wx.heap[g8]? =some (.cells (cellsOf k0).toArray 23 (0,0))/\wc.heap.size<=g8)/\(wx.heap[g9]? =some (.cells (cellsOf k1).toArray 23 (0,0))/\wc.heap.size<=g9))
   case first=>
    refine qgT (R:=Below wc.heap.size) (jpm _) (fun _ _ _=>jpn) (.rd 0 (.rd 1 (.rd 2 (.rd 3 (.rd 4 (.alt 5 (.rd 6 (.rd 7 (.rd 8 (.alt 9 (.alt 10 (.alt 11 (.alt 12 .nil .stop) .stop) .stop) (.alt 10 (.alt 9 (.alt 11 (.alt 12 .nil .stop) .stop) .stop) .stop))))) (.alt 9 (.alt 5 (.rd 6 (.rd 7 (.rd 8 (.alt 10 (.alt 11 (.alt 12 .nil .stop) .stop) .stop)))) (.alt 10 (.alt 5 (.rd 6 (.rd 7 (.rd 8 (.alt 11 (.alt 12 .nil .stop) .stop)))) .stop) .stop)) (.alt 10 (.alt 5 (.rd 6 (.rd 7 (.rd 8 (.alt 9 (.alt 11 (.alt 12 .nil .stop) .stop) .stop)))) (.alt 9 (.alt 5 (.rd 6 (.rd 7 (.rd 8 (.alt 11 (.alt 12 .nil .stop) .stop)))) .stop) .stop)) .stop)))))))) 13 ?_;repeat ((first | refine vN ?_ | refine qtS ?_);go_frame)
    refine qtV rfl (fun w'=>∀ q_ v,(cellsOf s.root)[q_]? =some v->w'.cell? ⟨g,0+q_,none⟩=some v) (fun w' e=>RO6.out w' (Ext.trans (jnQ _).drew e)) (.agg (cellsOf s.root).toArray) (fun w' hF=>jy rfl rfl hF rfl rfl (by rw [C_ro];rfl)) ?_;go_frame
    refine qtV rfl (fun w'=>w'.heap[g6]? =some (.cells (cellsOf com).toArray 23 (0,0))) (fun w' e=>(P6.out w' (Ext.trans (jnQ _).drew e)).1) (.agg (cellsOf com).toArray) (fun w' hF=>jd rfl rfl hF rfl rfl (by rw [S_com];rfl)) ?_;go_frame
    repeat ((first | refine vN ?_ | refine qtS ?_);go_frame)
    have SE:Hid (Ext wc wc.drew):=(jnQ wc).drew;generalize wc.drew=WC at *;repeat' (first
     | exact yD
     | (refine qc (i:=5) _ rfl ?_ ?_ (fun K1 hK1=> ?_)
        (·rfl)
        rotate_left;go_simp;refine (RT.out WC SE.out).mono ?_;rintro e0 WC ⟨rfl,e⟩;refine hK1.out _ _ (e.mono SE.out.size) ?_;clear hK1 K1;(try replace h8:=Hj ((e.block _ (jh h8.out)).trans h8.out));(try replace h9:=Hj ((e.block _ (jh h9.out)).trans h9.out));replace SE:=Hj (SE.out.trans e);clear e;(try go_frame);repeat ((first | refine vN ?_ | refine qtS ?_);go_frame)
        skip)
     | (refine qc (i:=9) _ rfl ?_ ?_ (fun K1 hK1=> ?_)
        (·rfl)
        rotate_left;go_simp;have e:Ext WC (WC.alloc (jqY (cellsOf zk).toArray 23)):=(jnQ WC).alloc _;obtain ⟨g8,hgL⟩:∃ g,g=WC.heap.size:=⟨_,rfl⟩;have h8:=Hj (jqq WC (jqY (cellsOf zk).toArray 23));rw [<-hgL] at h8 ⊢;have z_g8:wc.heap.size<=g8:=by rw [hgL];exact SE.out.size
        (try have d_g9_g8:g9≠g8:=by rw [hgL];exact Nat.ne_of_lt (jh h9.out));refine hK1.out _ _ (e.mono SE.out.size) ?_;clear hK1 K1;replace hgL:=Hj hgL;(try replace h9:=Hj ((e.block _ (jh h9.out)).trans h9.out));replace SE:=Hj (SE.out.trans e);clear e;generalize WC.alloc (jqY (cellsOf zk).toArray 23)=WC at *;(try go_frame);repeat ((first | refine vN ?_ | refine qtS ?_);go_frame)
        skip)
     | (refine qc (i:=10) _ rfl ?_ ?_ (fun K1 hK1=> ?_)
        (·rfl)
        rotate_left;go_simp;have e:Ext WC (WC.alloc (jqY (cellsOf zk).toArray 23)):=(jnQ WC).alloc _;obtain ⟨g9,hgL⟩:∃ g,g=WC.heap.size:=⟨_,rfl⟩;have h9:=Hj (jqq WC (jqY (cellsOf zk).toArray 23));rw [<-hgL] at h9 ⊢;have z_g9:wc.heap.size<=g9:=by rw [hgL];exact SE.out.size
        (try have d_g8_g9:g8≠g9:=by rw [hgL];exact Nat.ne_of_lt (jh h8.out));refine hK1.out _ _ (e.mono SE.out.size) ?_;clear hK1 K1;replace hgL:=Hj hgL;(try replace h8:=Hj ((e.block _ (jh h8.out)).trans h8.out));replace SE:=Hj (SE.out.trans e);clear e;generalize WC.alloc (jqY (cellsOf zk).toArray 23)=WC at *;(try go_frame);repeat ((first | refine vN ?_ | refine qtS ?_);go_frame)
        skip)
     | (refine qc (i:=11) _ rfl ?_ ?_ (fun K1 hK1=> ?_)
        (·rfl)
        rotate_left;refine jrf _ _ _ rfl g8 (cellsOf k0).toArray rfl rfl 23 (cellsOf zk).toArray h8.out (by rw [S_k0];rfl) (by rw [S_k0];exact S_zk) O_k0 ?_;refine hK1.out _ _ (jqb (jpm _ _) z_g8 _) ?_;clear hK1 K1;replace SE:Hid (Below wc.heap.size wc (WC.setRow g8 (cellsOf k0).toArray)):=jqb SE.out z_g8 _;replace h8:Hid ((WC.setRow g8 (cellsOf k0).toArray).heap[g8]? =some (.cells (cellsOf k0).toArray 23 (0,0))):=jqc _ _ _ _ _ _ h8.out;(try replace h9:=Hj ((jqy WC g8 g9 (cellsOf k0).toArray (by omega)).trans h9.out));generalize WC.setRow g8 (cellsOf k0).toArray=WC at *;(try simp only [jpR]);repeat ((first | refine vN ?_ | refine qtS ?_);go_frame)
        skip)
     | (refine qc (i:=12) _ rfl ?_ ?_ (fun K1 hK1=> ?_)
        (·rfl)
        rotate_left;refine jrf _ _ _ rfl g9 (cellsOf k1).toArray rfl rfl 23 (cellsOf zk).toArray h9.out (by rw [S_k1];rfl) (by rw [S_k1];exact S_zk) O_k1 ?_;refine hK1.out _ _ (jqb (jpm _ _) z_g9 _) ?_;clear hK1 K1;replace SE:Hid (Below wc.heap.size wc (WC.setRow g9 (cellsOf k1).toArray)):=jqb SE.out z_g9 _;replace h9:Hid ((WC.setRow g9 (cellsOf k1).toArray).heap[g9]? =some (.cells (cellsOf k1).toArray 23 (0,0))):=jqc _ _ _ _ _ _ h9.out;(try replace h8:=Hj ((jqy WC g9 g8 (cellsOf k1).toArray (by omega)).trans h8.out));generalize WC.setRow g9 (cellsOf k1).toArray=WC at *;(try simp only [jpR]);repeat ((first | refine vN ?_ | refine qtS ?_);go_frame)
        skip)
     | (refine yC ?_
        go_wp2_with fail;go_meet
        exact ⟨g8,g9,rfl,rfl,SE.out,⟨h8.out,z_g8⟩,⟨h9.out,z_g9⟩⟩))
   case rest=>
    rename World=>wc2
    obtain ⟨g8,g9,rfl,rfl,b9,⟨k8,z8⟩,⟨k9,z9⟩⟩:=hcut;obtain ⟨j6,j5,hS,jG,jT⟩:=P6.out wc2 b9;have g8l:=jh k8;have g9l:=jh k9;have gr:g < r:=by omega
    have rw_:r < wc.heap.size:=by omega
    have ok2:({s with root:=k0}:Rt).ok:=⟨L_k0,ok.own,ok.ot,ok.sc,ok.rc,ok.sm,ok.bf,ok.rm⟩;have ok3:({s with root:=k0,ri:=true,rc:=k1,rm:=0}:Rt).ok:=⟨L_k0,ok.own,ok.ot,ok.sc,L_k1,ok.sm,ok.bf,⟨jrl 0,(by decide:(0:Int)<=4000000)⟩⟩;have ok4:({s with root:=k0,ri:=true,rc:=k1,rm:=0,ho:=true}:Rt).ok:=⟨L_k0,ok.own,ok.ot,ok.sc,L_k1,ok.sm,ok.bf,⟨jrl 0,(by decide:(0:Int)<=4000000)⟩⟩;have ok5:({s with root:=k0,ri:=true,rc:=k1,rm:=0,ho:=true,ot:=pk}:Rt).ok:=⟨L_k0,ok.own,lp,ok.sc,L_k1,ok.sm,ok.bf,⟨jrl 0,(by decide:(0:Int)<=4000000)⟩⟩;have TH:=Hj (hS.there_root ok);have A1:=Hj (hS.put_root ok L_k0);have KB:Hid (∀ u,wc2.grownBy u (some g)->u.heap[g9]? =some (.cells (cellsOf k1).toArray 23 (0,0))/\Cb u r 23 (cellsOf pk)/\w.grownBy u (some g)):=fun u x=>
     ⟨(x.block _ g9l (fun z=>by have:=jpD z;omega)).trans k9,(x.block _ j5.lt (fun z=>by have:=jpD z;omega)).trans j5,jt (jD jT) x⟩
    replace k8:=Hj k8;clear P6 RO6 RT j6 j5 hS jG jT k9;go_upto_region 6 with (first
     | ((with_reducible refine js (o:=⟨some 31,_,_,_,_,_⟩) ?_ 23 _ rfl g8 ?_ 23 (cellsOf k0).toArray (0,0) _ ?_ jqD ?_ ?_ ?_);(·rfl);(·rfl);(·exact k8.out);(·rfl);(·rw [S_k0];rfl);go_frame)
     | ((with_reducible refine jrj (op:=⟨none, .store 23 (.tmp 33) (.tmp 31),_,_,_,_⟩) ?_ 23 _ _ rfl g 0 (cellsOf k0).toArray ?_ ?_ ?_ ?_ ?_ ?_);(·rfl);(·rfl);(·rfl);(·rw [S_k0];exact TH.out);(·rw [S_k0];rfl);(·exact O_k0);go_frame))
    refine jg (fun W=>Sq W g 114 {s with root:=k0} kp q/\W.heap[g9]? =some (.cells (cellsOf k1).toArray 23 (0,0))/\Cb W r 23 (cellsOf pk)/\w.grownBy W (some g)) ⟨A1.out,KB.out _ ju⟩ ?_;clear A1 KB k8 TH;rintro w4 ⟨hS,k9,j5,jT⟩;have TH:=Hj (hS.there_recv ok2);have A3:=Hj (hS.put_recv ok2 L_k1);have KB:Hid (∀ u,w4.grownBy u (some g)->Cb u r 23 (cellsOf pk)/\w.grownBy u (some g)):=fun u x=>
     ⟨(x.block _ j5.lt (fun z=>by have:=jpD z;omega)).trans j5,jt jT x⟩
    replace k9:=Hj k9;clear hS j5 jT;have O_d:=jfB (k:=k1) (b:=true) (m:=0);have S_d:=jc2 (b:=true) (m:=0) L_k1;obtain ⟨dC,hdC⟩:∃ x,x= [jri true]++(cellsOf k1++ [jpA .i64 0]):=⟨_,rfl⟩;rw [<-hdC] at DB A3 O_d S_d;clear hdC;go_upto_region 7 with (first
     | ((with_reducible refine js (o:=⟨some 35,_,_,_,_,_⟩) ?_ 23 _ rfl g9 ?_ 23 (cellsOf k1).toArray (0,0) _ ?_ jqD ?_ ?_ ?_);(·rfl);(·rfl);(·exact k9.out);(·rfl);(·rw [S_k1];rfl);go_frame)
     | ((with_reducible refine jm (o:=⟨some 36, .build 111 _,_,_,_,_⟩) ?_ 111 _ rfl dC.toArray ?_ ?_);(·rfl);(·simp only [jqE,jqA,jqF];exact DB.out);go_frame)
     | ((with_reducible refine jrj (op:=⟨none, .store 111 (.tmp 38) (.tmp 36),_,_,_,_⟩) ?_ 111 _ _ rfl g 165 dC.toArray ?_ ?_ ?_ ?_ ?_ ?_);(·rfl);(·rfl);(·rfl);(·rw [S_d];exact TH.out);(·rw [S_d];rfl);(·exact O_d);go_frame))
    refine jg (fun W=>Sq W g 114 {s with root:=k0,ri:=true,rc:=k1,rm:=0} kp q/\Cb W r 23 (cellsOf pk)/\w.grownBy W (some g)) ⟨A3.out,KB.out _ ju⟩ ?_;clear A3 KB TH k9 DB;rintro w5 ⟨hS,j5,jT⟩;have hD:Sq w5.drew g 114 {s with root:=k0,ri:=true,rc:=k1,rm:=0} kp q:=hS;have c1:=hD.ho ok3;have z2:=hD.frozen 96;have A4:=hD.set_ho ok3 true;have TH:=Hj (A4.there_ot ok4);have A5:=Hj (A4.put_ot ok4 lp);have KB:Hid (∀ u,w5.drew.grownBy u (some g)->u.heap[r]? =some (.cells (cellsOf pk).toArray 23 (0,0))/\w.grownBy u (some g)):=fun u x=>
     ⟨(x.block _ j5.lt (fun z=>by have:=jpD z;omega)).trans j5,jt (jaj jT) x⟩
    clear hS j5 jT hD A4;refine qgW g [0,1,2,3,4,5,6,7,8] [5,8] ?_;iterate 2 ((first | refine qR0 ?_ | refine qS ?_);go_frame)
    refine qV rfl (fun w'=>w'.heap[r]? =some (.cells (cellsOf pk).toArray 23 (0,0))) (fun w' e=>(KB.out w' e).1) (.agg (cellsOf pk).toArray) (fun w' hF=>jd rfl rfl hF rfl rfl (by rw [S_pk];rfl)) ?_;go_frame
    repeat ((first | refine qR0 ?_ | refine qS ?_);go_frame)
    have ZZ:Hid (w5.drew.grownBy w5.drew (some g)):=jpZ _ _;generalize w5.drew=V at *;refine qD fun K hK=> ?_
    go_simp;refine hK.out _ _ jP ?_;clear hK K;try simp only [jpR]
    replace ZZ:Hid (V.grownBy (V.setCell ⟨g,96,none⟩ (.bool true)) (some g)):=jP;repeat ((first | refine qR0 ?_ | refine qS ?_);go_frame)
    refine qD fun K hK=> ?_
    refine wp_store_mid 23 _ _ rfl g 97 (cellsOf pk).toArray rfl rfl (by rw [S_pk];exact TH.out) (by rw [S_pk];rfl) O_pk ?_;refine hK.out _ _ ju ?_;clear hK K;try simp only [jpR]
    refine jp ?_;have F1:=Hj (KB.out ((V.setCell ⟨g,96,none⟩ (.bool true)).setCells g 97 (cellsOf pk)) (jt ZZ.out ju));refine yf (fun W=>Sq W g 114 {s with root:=k0,ri:=true,rc:=k1,rm:=0,ho:=true,ot:=pk} kp q/\w.grownBy W (some g)) ⟨A5.out,F1.out.2⟩ ?_;clear A5 F1 ZZ TH KB c1 z2;rintro w6 ⟨hS,jT⟩;have c1:=hS.mt ok5;have z2:=hS.frozen 129;have A4:=Hj (hS.set_mt ok5 true);have F:Hid (w.grownBy (w6.setCell ⟨g,129,none⟩ (.bool true)) (some g)):=jt jT jP;clear hS jT;go_wp2_with fail;go_ret;exact ⟨rfl,by rw [T1.out];exact A4.out,F.out⟩
  ·replace T0:=T0.out he;have hbn:(te !=0)=true:=bne_iff_ne.2 he;have hb0:(te==0)=false:=beq_false_of_ne he;obtain ⟨_,hS,_,jT⟩:=P0.out wc b6;have F:Hid (Sq wc g 114 sT kp q/\w.grownBy wc (some g)):=⟨by rw [T0];exact hS,jD jT⟩;clear P0 OT CO ROOT k6 T1 hS jT T0;go_wp2_with fail;go_ret;exact ⟨rfl,F.out⟩
theorem jaQ {w:World}:Calls jpx 59 #[] w fun e w'=>∃ g b,e= .returned (.pointer (some ⟨g,0,none⟩))/\w.heap.size<=g/\w.heap.size<=b/\SK w' g b [] 0/\Ext w w':=by
 have hmm:= @run_makeMap jpx;have hbz:Hid (∀ b,Tryz.prog.built 184 [(0, .map (some b))]=some #[.map (some b), .int .i64 0]):=fun b=>by kernel_rfl
 have S1:Hid (Mp jpx 186 (w.alloc (.map #[] 0)) w.heap.size []/\Ext w (w.alloc (.map #[] 0))):=⟨Mp.made _ _ _,(jnQ w).alloc _⟩;obtain ⟨b,hb⟩:=ex_ w.heap.size;go_enter Tryz.func59,Tryz.ntmps59
 rw [<-hb] at S1;have hbb:=hbz.out b;have sb:w.heap.size<=b:=jre hb.symm;go_wp2_with (refine jm rfl _ _ rfl #[.map (some b), .int .i64 0] (by simp only [jqE,jqA,jqF];first | exact hbb | (rw [<-hb];exact hbb)) ?_;go_frame)
 go_ret;subst hb;have C1:Cb ((w.alloc (.map #[] 0)).alloc (.cells #[.map (some w.heap.size), .int .i64 0] 184)) (w.heap.size+1) 184 [.map (some w.heap.size), .int .i64 0]:=by
  have:=Cb.new (w.alloc (.map #[] 0)) 184 [.map (some w.heap.size), .int .i64 0]
  rwa [show (w.alloc (.map #[] 0)).heap.size=w.heap.size+1 by simp] at this
 refine ⟨_,w.heap.size,rfl,?_,sb,⟨C1,S1.out.1.ext ((jnQ _).alloc _),(fun x hx=>by cases hx),List.Pairwise.nil,(fun x hx=>by cases hx),jrl _⟩,S1.out.2.alloc _⟩;omega
def zKN:List Value:=knC (jqn 32 0) 0
theorem QV:zKN.length=33:=by kernel_rfl
theorem Yw (w:World):(jpI 186).run jpx w= .ok (.agg zKN.toArray) w:=by kernel_rfl
theorem Ys (w:World):(jpI 188).run jpx w= .ok (.agg zKN.toArray) w:=by kernel_rfl
theorem ZP {α:Type}{p y z:List α}{off:Nat}(hp:p.length=off) (hl:y.length=z.length):jp9 (p++y) off z=p++z:=by
 have:=qB (q:= []) hp hl
 simpa using this
theorem jfC {pl:Nat->Option (Nat×Nat)}(h0:pl 0=some (0,32)) (h1:pl 1=some (32,1)){pk:List UInt8}(hp:pk.length=32) (n:Int):jqo pl zKN.toArray [(0, .agg (cellsOf pk).toArray),(1, .int .i64 n)]=some (knC pk n).toArray:=by
 have e:zKN=cellsOf (jqn 32 0)++ [.int .i64 0]:=rfl;have l1:(cellsOf pk).toArray.toList=cellsOf pk:=rfl;rw [qK h0 (by rw [qo,jqu,ja,hp]) (by rw [QV];omega),qo,l1,e,jdV (by rw [ja,ja,hp];rfl)];rw [qK h1 rfl (by rw [jpG,ja,hp];exact jpo _)];rw [show (jpA .i64 n).cells.toList= [.int .i64 n] from rfl,ZP (p:=cellsOf pk) (y:= [jpA .i64 0]) (z:= [jpA .i64 n]) (by rw [ja,hp]) rfl]
 rfl
theorem ZG {pk:List UInt8}(hp:pk.length=32) (n:Int):Tryz.prog.built 186 [(0, .agg (cellsOf pk).toArray),(1, .int .i64 n)]=some (knC pk n).toArray:=by
 have h:∃ pl:Nat->Option (Nat×Nat),pl 0=some (0,32)/\pl 1=some (32,1)/\∀ ps,Tryz.prog.built 186 ps=jqo pl zKN.toArray ps:=⟨(#[(0,32),(32,1)][·]?),rfl,rfl,fun ps=>by kernel_rfl⟩;obtain ⟨pl,h0,h1,h2⟩:=h;rw [h2,jfC h0 h1 hp]
theorem jc4 {pk:List UInt8}(hp:pk.length=32) (n:Int):Tryz.prog.built 188 [(0, .agg (cellsOf pk).toArray),(1, .int .i64 n)]=some (knC pk n).toArray:=by
 have h:∃ pl:Nat->Option (Nat×Nat),pl 0=some (0,32)/\pl 1=some (32,1)/\∀ ps,Tryz.prog.built 188 ps=jqo pl zKN.toArray ps:=⟨(#[(0,32),(32,1)][·]?),rfl,rfl,fun ps=>by kernel_rfl⟩;obtain ⟨pl,h0,h1,h2⟩:=h;rw [h2,jfC h0 h1 hp]
theorem jaY {L:List Ke}{pk:List UInt8}{n:Int}(h:yZ L pk n=false):yN L pk n=L:=by
 unfold yN;rw [List.filter_eq_self.2 fun x hx=> ?_];rw [yZ,List.any_eq_false] at h;have:=h x hx
 simpa using this
theorem y6 {w w':World}{g:Nat}(h:w'.heap[g]? =w.heap[g]?) (o:Nat):w'.cell? ⟨g,o,none⟩=w.cell? ⟨g,o,none⟩:=World.cell?_of_block h
theorem jdY {w:World}{g mb:Nat}{L:List Ke}{puts:Int}(h:SK w g mb L puts){pk:List UInt8}(hp:pk.length=32){n:Int}(hn: -9223372036854775808<=n/\n<=9223372036854775807):
 Calls jpx 88 #[.pointer (some ⟨g,0,none⟩), .agg (cellsOf pk).toArray, .int .i64 n] w fun e w'=>e= .returned (.tuple #[.agg (cellsOf (ye L pk n).k).toArray, .bool (yZ L pk n)])/\SK w' g mb (yN L pk n) puts/\Two g mb w w':=by
 have hal1:=Yw;have hal2:=Ys;have hal3:=j2;have KZ:Hid (Tryz.prog.built 23 []=some jr):=zJ;have BP:=Hj (ZG hp n);have L_ZK:=QV;have S_Z:jr.size=32:=j7;have O_Z:jr.all (·.oneCell')=true:=JI;have S_pk:(cellsOf pk).toArray.size=32:=by simp [ja,hp]
 have L_PC:=yA hp n;have O_PC:=qC (Y4 (pk:=pk) (n:=n));have L_kk:=jfe (pk:=pk) (n:=n) h.ok;have L_EC:=yA L_kk (ye L pk n).wh;have O_EC:=qC (Y4 (pk:=(ye L pk n).k) (n:=(ye L pk n).wh));have S_kk:(cellsOf (ye L pk n).k).toArray.size=32:=by simp [ja,L_kk]
 have O_kk:=qC (JT (ye L pk n).k);have MK:=Hj (jkm (pk:=(ye L pk n).k) (ye L pk n).wh);have C_kk:(cellsOf (ye L pk n).k).length=32:=by rw [ja,L_kk]
 have LK:Hid (∀ s,Ext w s->(Instr.lookup 182 (.map (some mb)) (.agg (knC pk n).toArray) true).run jpx s= .ok (.tuple #[.agg (knC (ye L pk n).k (ye L pk n).wh).toArray, .bool (yZ L pk n)]) s):=fun s e=>(h.ext e).look hp hn
 have DR:Hid (∀ s,Ext w s->∃ w',(Builtin.delete_ #[182,186] 0 #[.map (some mb), .agg (knC pk n).toArray]).run jpx s= .ok (.tuple #[]) w'/\SK w' g mb (yN L pk n) puts/\s.grownBy w' (some mb)):=fun s e=>(h.ext e).drop hp hn 0
 have TN:Hid (yZ L pk n=false->yN L pk n=L/\(ye L pk n).k=jqn 32 0):=fun q=>⟨jaY q,by rw [Zs q]⟩
 have glt:=h.cb.lt;have blt:=h.mp.lt;have gnb:=h.ne;have C0:Hid (∀ s,Ext w s->s.cell? ⟨g,0,none⟩=some (.map (some mb))):=fun s e=>((h.ext e).cb).cell rfl
 have SE:Hid (∀ s,Ext w s->SK s g mb L puts):=fun s e=>h.ext e
 generalize yZ L pk n=is at *;generalize yN L pk n=L2 at *;generalize (ye L pk n).k=kk at *;generalize knC kk (ye L pk n).wh=EC at *;generalize knC pk n=PC at *;clear h hp L_kk;generalize zKN=ZK at *;have S_ZK:ZK.toArray.size=33:=by rw [jqu,L_ZK]
 have S_PC:PC.toArray.size=33:=by rw [jqu,L_PC]
 have S_EC:EC.toArray.size=33:=by rw [jqu,L_EC]
 obtain ⟨r4,hr4⟩:∃ r,r=w.heap.size:=⟨_,rfl⟩;have B0:Hid (Cb ((w.alloc (jqY (cellsOf pk).toArray 23)).alloc (jqY jr 23)) r4 23 (cellsOf pk)/\Cb ((w.alloc (jqY (cellsOf pk).toArray 23)).alloc (jqY jr 23)) (r4+1) 23 jr.toList/\Ext w ((w.alloc (jqY (cellsOf pk).toArray 23)).alloc (jqY jr 23))):=by
  rw [hr4];exact ⟨jQ _ _ _,by unfold Cb;rw [Array.toArray_toList];exact jK _ _ _,((jnQ w).alloc _).alloc _⟩
 go_enter Tryz.func88,Tryz.ntmps88
 go_upto_region 1 with fail;refine jg (fun W=>Cb W r4 23 (cellsOf pk)/\Cb W (r4+1) 23 jr.toList/\Ext w W) B0.out ?_;rw [<-hr4];have wr:w.heap.size<=r4:=jre hr4.symm;clear B0;replace hr4:=Hj hr4;obtain ⟨r6,hr6⟩:∃ r,r=r4+1:=⟨_,rfl⟩;rw [<-hr6];have wr6:r4 < r6:=by omega
 replace hr6:=Hj hr6;rintro w0 ⟨k4,k6,x0⟩;have l6:=k6.lt;have K1:Hid (Cb ((w0.alloc (.cells ZK.toArray 186)).setRow w0.heap.size PC.toArray) r6 23 jr.toList/\Cb ((w0.alloc (.cells ZK.toArray 186)).setRow w0.heap.size PC.toArray) w0.heap.size 186 PC/\Ext w ((w0.alloc (.cells ZK.toArray 186)).setRow w0.heap.size PC.toArray)):=
  ⟨k6.ext (Ext.newRow _ _ _),(Cb.new w0 _ ZK).set,x0.trans (Ext.newRow _ _ _)⟩
 replace k4:=Hj k4;clear k6 x0;go_upto_region 2 with (first
  | ((with_reducible refine js (o:=⟨some 11,_,_,_,_,_⟩) ?_ 23 _ rfl r4 ?_ 23 (cellsOf pk).toArray (0,0) _ ?_ jqD ?_ ?_ ?_);(·rfl);(·rfl);(·exact k4.out);(·rfl);(·rw [S_pk];rfl);go_frame)
  | (refine jm rfl _ _ rfl PC.toArray (by simp only [jqE,jqA,jqF];exact BP.out) ?_;go_frame)
  | (refine ws_ rfl 186 rfl w0.heap.size PC.toArray rfl rfl (jqq _ _) (by rw [S_PC];rfl) (by rw [S_PC,S_ZK]) O_PC ?_;simp only [jpR]))
 refine jg (fun W=>Cb W r6 23 jr.toList/\Cb W w0.heap.size 186 PC/\Ext w W) K1.out ?_;generalize w0.heap.size=r8 at *;clear K1 k4 BP w0;rintro w1 ⟨k6,k8,x1⟩;have l8:=k8.lt;have T1:Hid (∀ s,Below w1.heap.size w1.drew s->s.cell? ⟨g,0,none⟩=some (.map (some mb))/\Cb s r8 186 PC/\Ext w s/\Cb s r6 23 jr.toList):=fun s e=>by
  have e':Ext w1 s:=jpn (Below.drew (jpm _ _)) e;exact ⟨C0.out _ (x1.trans e'),k8.ext e',x1.trans e',k6.ext e'⟩
 have l6':=k6.lt;have wsz:=x1.size;clear k6 k8 x1;have hB:w1.drew.heap.size=w1.heap.size:=rfl;refine qgB w1.heap.size [0,1,2,3,4,5,6,7,8,9,10,11] [9,10] ?_;generalize w1.heap.size=r9 at *;generalize w1.drew=W at *;clear w1;repeat ((first | refine qR _ (fun w' e=>(T1.out w' e).1) ?_ | refine qS ?_);go_frame)
 refine qV rfl (fun w'=>w'.heap[r8]? =some (.cells PC.toArray 186 (0,0))) (fun w' e=>(T1.out w' e).2.1) (.agg PC.toArray) (fun w' hF=>jd rfl rfl hF rfl rfl (by rw [S_PC];rfl)) ?_;go_frame
 refine qV rfl (fun w'=>Ext w w') (fun w' e=>(T1.out w' e).2.2.1) (.tuple #[.agg EC.toArray, .bool is]) (fun w' hF=>ZA rfl rfl rfl (LK.out _ hF)) ?_;go_frame
 repeat ((first | refine qR0 ?_ | refine qS ?_);go_frame)
 refine qD fun K hK=> ?_
 go_simp;refine hK.out _ _ (Below.alloc (jpm _ _) (jre hB.symm) _) ?_;clear hK K;try go_frame
 have c9:Cb (W.alloc (.cells ZK.toArray 188)) r9 188 ZK:=by rw [<-hB];exact Cb.new _ _ _
 have c9':=Hj (c9.set (L':=EC));refine qD fun K hK=> ?_
 refine jrf _ _ _ rfl r9 EC.toArray rfl rfl 188 ZK.toArray c9 (by rw [S_EC];rfl) (by rw [S_EC,S_ZK]) O_EC ?_;refine hK.out _ _ (jqb (jpm _ _) (jpo _) _) ?_;clear hK K;try go_frame
 repeat ((first | refine qR0 ?_ | refine qS ?_);go_frame)
 refine jp ?_;have E2:Below r9 W ((W.alloc (.cells ZK.toArray 188)).setRow r9 EC.toArray):=jqb (Below.alloc (jpm _ _) (jre hB.symm) _) (jpo _) _;refine yf (fun W=>Cb W r6 23 jr.toList/\Cb W r8 186 PC/\Cb W r9 188 EC/\Ext w W) ⟨(T1.out _ E2).2.2.2,(T1.out _ E2).2.1,c9'.out,(T1.out _ E2).2.2.1⟩ ?_;clear T1 E2 hB c9 c9' W;rintro w2 ⟨k6,k8,k9,x2⟩;rcases is with _ | _
 ·obtain ⟨rfl,rfl⟩:=TN.out rfl;have FIN:Hid (SK (w2.setRow r6 jr) g mb L2 puts/\Two g mb w (w2.setRow r6 jr)):=by
   have e:Ext w (w2.setRow r6 jr):=jqb x2 (by omega) _;exact ⟨SE.out _ e,Two.of_ext e⟩
  have k6':w2.heap[r6]? =some (.cells jr 23 (0,0)):=by unfold Cb at k6;rwa [Array.toArray_toList] at k6
  clear SE TN DR C0 LK MK k6 k8 k9 x2;go_wp2_with (first
   | (refine jm rfl _ _ rfl jr (by simp only [jqE,jqF];exact KZ.out) ?_;go_frame)
   | (refine ws_ rfl 23 rfl r6 jr rfl rfl k6' (by rw [S_Z];rfl) rfl O_Z ?_;simp only [jpR]))
  (try simp only [jqV,Exit.then]);refine jqW (qj rfl _ _ r6 23 jr (0,0) _ _ rfl rfl (jqc _ _ _ _ _ _ k6') rfl rfl (by rw [S_Z];rfl)) rfl ?_;exact ⟨rfl,FIN.out.1,FIN.out.2⟩
 ·clear TN LK SE KZ;have T2:Hid (∀ s,w2.drew.grownBy s (some mb)->s.cell? ⟨g,0,none⟩=some (.map (some mb))/\Cb s r8 186 PC):=fun s e=>by
   have hb:∀ i,i < w2.heap.size->i≠mb->s.heap[i]? =w2.heap[i]? :=fun i hi hne=>e.block i hi (fun q=>hne (jpD q))
   exact ⟨(y6 (hb g (jpq glt x2.size) gnb) _).trans (C0.out _ x2),(hb r8 k8.lt (by omega)).trans k8⟩
  have D2:=Hj (DR.out w2.drew x2.drew);have K2:Hid (∀ s,w2.drew.grownBy s (some mb)->Cb s r6 23 jr.toList/\Cb s r9 188 EC/\Two g mb w s):=fun s e=>by
   have hb:∀ i,i < w2.heap.size->i≠mb->s.heap[i]? =w2.heap[i]? :=fun i hi hne=>e.block i hi (fun q=>hne (jpD q))
   refine ⟨(hb r6 k6.lt (by omega)).trans k6,(hb r9 k9.lt (by omega)).trans k9,e.os.trans x2.os,e.tape.trans x2.tape,e.output.trans x2.output,jp0 x2.size e.size,fun i hi h1 h2=>(hb i (jpq hi x2.size) h2).trans (x2.block i hi)⟩
  clear k6 k8 k9 x2 C0 DR;go_upto_region 5 with fail;refine qgW mb [0,1,2,3,4,5] [5] ?_;generalize w2.drew=W at *;clear w2;repeat ((first | refine qR _ (fun w' e=>(T2.out w' e).1) ?_ | refine qS ?_);go_frame)
  refine qV rfl (fun w'=>w'.heap[r8]? =some (.cells PC.toArray 186 (0,0))) (fun w' e=>(T2.out w' e).2) (.agg PC.toArray) (fun w' hF=>jd rfl rfl hF rfl rfl (by rw [S_PC];rfl)) ?_;go_frame
  repeat ((first | refine qR0 ?_ | refine qS ?_);go_frame)
  refine qD fun K hK=> ?_
  obtain ⟨w3,d1,d2,d3⟩:=D2.out;refine jbU rfl rfl rfl d1 ?_;refine hK.out _ _ d3 ?_;clear hK K;try go_frame
  repeat ((first | refine qR0 ?_ | refine qS ?_);go_frame)
  refine jp ?_;refine yf (fun W=>Cb W r6 23 jr.toList/\Cb W r9 188 EC/\Two g mb w W/\SK W g mb L2 puts) ⟨(K2.out _ d3).1,(K2.out _ d3).2.1,(K2.out _ d3).2.2,d2⟩ ?_;clear K2 T2 D2 d1 d2 d3 w3 W;rintro w4 ⟨k6,k9,t4,s4⟩;have M9:Hid (∀ j v,(cellsOf kk)[j]? =some v->w4.cell? ⟨r9,0+j,none⟩=some v):=fun j v hv=>by rw [jpz];exact k9.cell (MK.out j v hv)
  have k6':w4.heap[r6]? =some (.cells jr 23 (0,0)):=by unfold Cb at k6;rwa [Array.toArray_toList] at k6
  have FIN:Hid (SK (w4.setRow r6 (cellsOf kk).toArray) g mb L2 puts/\Two g mb w (w4.setRow r6 (cellsOf kk).toArray)):=
   ⟨s4.stay (jqy _ _ _ _ (by omega)) (jqy _ _ _ _ (by omega)),t4.1,t4.2.1,t4.2.2.1,by have:=t4.2.2.2.1;simpa using this,fun i hi h1 h2=>(jqy _ _ _ _ (by omega)).trans (t4.2.2.2.2 i hi h1 h2)⟩
  clear MK k6 k9 t4 s4;go_wp2_with (first
   | ((with_reducible refine jI (o:=⟨some 32,_,_,_,_,_⟩) (ty:=23) (g:=r9) (off:=0) (ys:=cellsOf kk) ?_ rfl ?_ ?_ jqD ?_ ?_ ?_);(·rfl);(·rfl);(·exact M9.out);(·rfl);(·rw [C_kk];rfl);go_frame)
   | (refine ws_ rfl 23 rfl r6 (cellsOf kk).toArray rfl rfl k6' (by rw [S_kk];rfl) (by rw [S_kk,S_Z]) O_kk ?_;simp only [jpR]))
  (try simp only [jqV,Exit.then]);refine jqW (qj rfl _ _ r6 23 (cellsOf kk).toArray (0,0) _ _ rfl rfl (jqc _ _ _ _ _ _ k6') rfl rfl (by rw [S_kk];rfl)) rfl ?_;exact ⟨rfl,FIN.out.1,FIN.out.2⟩
def Ke.kv (x:Ke):Value:= .agg (knC x.pk x.n).toArray
def Ke.vv (x:Ke):Value:= .agg (knC x.k x.wh).toArray
def OldI (L:List Ke) (puts:Int) (lf:Value->Prop) (fp:List UInt8) (fn wh:Int):Prop:=
 fp.length=32/\(wh=puts\/∃ y∈L,y.pk=fp/\y.n=fn/\y.wh=wh)/\∀ y∈L, ¬ lf y.kv->wh<=y.wh
theorem OldI.start (L:List Ke) (puts:Int):OldI L puts (fun _=>True) (jqn 32 0) 0 puts:=⟨rfl, .inl rfl,fun y _ h=>absurd trivial h⟩
theorem jci {L:List Ke}(ok:∀ x∈L,x.ok) (ap:L.Pairwise fun x y=> ¬(x.pk=y.pk/\x.n=y.n)){x y:Ke}(hx:x∈L) (hy:y∈L) (h:x.kv=y.kv):x=y:=by
 have q:=jch (ok x hx).1 (ok y hy).1 h;clear ok h
 induction L with
 | nil=>cases hx
 | cons z r ih=>
   obtain ⟨a1,a2⟩:=List.pairwise_cons.1 ap;rcases jpE.1 hx with rfl | hx' <;> rcases jpE.1 hy with rfl | hy'
   ·rfl
   ·exact absurd q (a1 _ hy')
   ·exact absurd ⟨q.1.symm,q.2.symm⟩ (a1 _ hx')
   ·exact ih a2 hx' hy'
theorem OldI.less {L:List Ke}{puts:Int}{lf:Value->Prop}{fp:List UInt8}{fn wh:Int}(h:OldI L puts lf fp fn wh) (ok:∀ x∈L,x.ok) (ap:L.Pairwise fun x y=> ¬(x.pk=y.pk/\x.n=y.n)){x:Ke}(hx:x∈L) (hlt:x.wh < wh):OldI L puts (fun key=>lf key/\key≠x.kv) x.pk x.n x.wh:=
 ⟨(ok x hx).1, .inr ⟨x,hx,rfl,rfl,rfl⟩,fun y hy hn=>by
   by_cases q:lf y.kv
   ·have e:y.kv=x.kv:=jpM fun e=>hn ⟨q,e⟩
    rw [jci ok ap hy hx e];omega
   ·have:=h.2.2 y hy q;omega⟩
theorem OldI.more {L:List Ke}{puts:Int}{lf:Value->Prop}{fp:List UInt8}{fn wh:Int}(h:OldI L puts lf fp fn wh) (ok:∀ x∈L,x.ok) (ap:L.Pairwise fun x y=> ¬(x.pk=y.pk/\x.n=y.n)){x:Ke}(hx:x∈L) (hlt: ¬ x.wh < wh):OldI L puts (fun key=>lf key/\key≠x.kv) fp fn wh:=
 ⟨h.1,h.2.1,fun y hy hn=>by
   by_cases q:lf y.kv
   ·have e:y.kv=x.kv:=jpM fun e=>hn ⟨q,e⟩
    rw [jci ok ap hy hx e];omega
   ·exact h.2.2 y hy q⟩
theorem OldI.done {x:Ke}{r:List Ke}{puts:Int}{lf:Value->Prop}{fp:List UInt8}{fn wh:Int}(h:OldI (x::r) puts lf fp fn wh) (inc:(x::r).Pairwise fun x y=>x.wh < y.wh) (lt:∀ y∈x::r,y.wh < puts) (hd:∀ y∈x::r, ¬ lf y.kv):fp=x.pk/\fn=x.n:=by
 have h1:=h.2.2 x (jqB ..) (hd x (jqB ..));have h2:=lt x (jqB ..);rcases h.2.1 with e | ⟨y,hy,rfl,rfl,rfl⟩
 ·omega
 ·rcases jpE.1 hy with rfl | hy
  ·exact ⟨rfl,rfl⟩
  ·have:=(List.pairwise_cons.1 inc).1 y hy;omega
theorem jak (w:World) (g:Nat) (C:Array Value):w.grownBy (w.setRow g C) (some g):=⟨rfl,rfl,rfl,by simp,fun i _ h=>jqy _ _ _ _ (fun q=>h (by rw [q]))⟩
theorem je4 {w:World}{g mb:Nat}{L:List Ke}{puts:Int}(h:SK w g mb L puts){x:Ke}{l:List Ke}(hL:L=x::l):
 Calls jpx 151 #[.pointer (some ⟨g,0,none⟩)] w fun e w'=>e= .returned (.agg (knC x.pk x.n).toArray)/\Ext w w':=by
 have hal1:=Yw;have hal2:=Ys;have L_ZK:=QV;have S_ZK:zKN.toArray.size=33:=by rw [jqu,L_ZK]
 have OK:=Hj h.ok;have AP:=Hj h.apart;have DN:Hid (∀ lf fp fn wh,OldI L puts lf fp fn wh->(∀ y∈L, ¬ lf y.kv)->fp=x.pk/\fn=x.n):=fun lf fp fn wh q hd=>by
  have i1:=h.inc;have i2:=h.lt;subst hL;exact q.done i1 i2 hd
 have C1:=h.cb.cell (j:=1) rfl;have C0:=h.cb.cell (j:=0) rfl;have glt:=h.cb.lt;have HM:Hid (Mp jpx 186 w mb (L.map fun y=>(y.kv,y.vv))):=h.mp;have CE:Hid (∀ s,Ext w s->s.cell? ⟨g,0,none⟩=some (.map (some mb))/\s.cell? ⟨g,1,none⟩=some (.int .i64 puts)):=fun s e=>⟨(e.cell glt).trans C0,(e.cell glt).trans C1⟩
 have blt:=h.mp.lt;clear h hL C0 C1;obtain ⟨r2,hr2⟩:∃ r,r=w.heap.size:=⟨_,rfl⟩;have B0:Hid (Cb ((w.alloc (jqY zKN.toArray 186)).alloc (jqY zKN.toArray 186)) r2 186 zKN/\Cb ((w.alloc (jqY zKN.toArray 186)).alloc (jqY zKN.toArray 186)) (r2+1) 186 (knC (jqn 32 0) 0)/\Ext w ((w.alloc (jqY zKN.toArray 186)).alloc (jqY zKN.toArray 186))):=by
  rw [hr2];exact ⟨jQ _ _ _,jK _ _ _,((jnQ w).alloc _).alloc _⟩
 generalize zKN=ZK at *;go_enter Tryz.func151,Tryz.ntmps151
 go_upto_region 2 with fail;refine jg (fun W=>Cb W r2 186 ZK/\Cb W (r2+1) 186 (knC (jqn 32 0) 0)/\Ext w W) B0.out ?_;rw [<-hr2];have wr2:w.heap.size<=r2:=jre hr2.symm;clear B0;replace hr2:=Hj hr2;obtain ⟨r3,hr3⟩:∃ r,r=r2+1:=⟨_,rfl⟩;rw [<-hr3];have wr3:r2 < r3:=by omega
 replace hr3:=Hj hr3;rintro w0 ⟨k2,k3,x0⟩;obtain ⟨r4,hr4⟩:∃ r,r=w0.heap.size:=⟨_,rfl⟩;have hm0:=HM.out.ext x0;obtain ⟨c0,c1⟩:=CE.out _ x0;have l3:r3 < r4:=by rw [hr4];exact k3.lt
 have wr4:w.heap.size<=r4:=by rw [hr4];exact x0.size
 replace k2:=Hj k2;replace k3:=Hj k3;replace x0:=Hj x0;go_wp2_with (at_range;refine Ji rfl _ rfl yV jqG rfl hm0 hr4.symm ?_;intro w1 m1 x1)
 go_frame
 replace hr4:=Hj hr4;have K2:Hid (∀ s,Ext w0 s->Cb s r2 186 ZK):=fun s e=>k2.out.ext e
 go_loopw [4] (fun wv wr=>∃ (lf:Value->Prop) (cnt:Nat) (fp:List UInt8) (fn wh:Int),wv= .int .i64 wh/\Mr jpx 186 wr mb r4 (L.map fun y=>(y.kv,y.vv)) lf cnt/\Cb wr r2 186 ZK/\Cb wr r3 186 (knC fp fn)/\OldI L puts lf fp fn wh/\Ext w wr) (fun _ wr=>wr.rangeLeft mb r4)
 case atStart=>exact ⟨_,_,_,_,_,rfl,m1,k2.out.ext x1,k3.out.ext x1,OldI.start L puts,x0.out.trans x1⟩
 case round=>
  obtain ⟨lf,cnt,fp,fn,wh,rfl,mr,k2,k3,oi,xr⟩:=hrel;clear m1 K2 c0 c1;have lfp:=oi.1;have hOI:Hid (OldI L puts lf fp fn wh):=oi;have mro:Hid (wr.rangeLeft mb r4=cnt):=mr.left_eq;replace xr:=Hj xr;replace k2:=Hj k2;replace k3:=Hj k3;clear oi;go_wp2_with (at_next;refine JG Ke.kv Ke.vv rfl _ rfl yV rfl mr ?_ ?_)
  ·intro hd;obtain ⟨rfl,rfl⟩:=DN.out _ _ _ _ hOI.out hd;have L_C:=yA lfp x.n;have S_C:(knC x.pk x.n).toArray.size=33:=by rw [jqu,L_C]
   have O_C:=qC (Y4 (pk:=x.pk) (n:=x.n));have FIN:Hid (∀ C,C=knC x.pk x.n->Ending.returned (.agg C.toArray)= .returned (.agg (knC x.pk x.n).toArray)/\Ext w (wr.setRow r2 C.toArray)):=fun C e=>by subst e;exact ⟨rfl,jqb xr.out wr2 _⟩
   obtain ⟨C,hC⟩:=ex_ (knC x.pk x.n);replace FIN:=Hj (FIN.out C hC);rw [<-hC] at k3 L_C S_C O_C;replace hC:=Hj hC;clear mr mro hd OK AP DN hOI HM CE;go_wp2_with (first
    | ((with_reducible refine js (o:=⟨some 28,_,_,_,_,_⟩) ?_ 186 _ rfl r3 ?_ 186 C.toArray (0,0) _ ?_ Tryz.underlying186 ?_ ?_ ?_);(·rfl);(·rfl);(·exact k3.out);(·rfl);(·rw [S_C];rfl);go_frame)
    | (refine ws_ rfl 186 rfl r2 C.toArray rfl rfl k2.out (by rw [S_C];rfl) (by rw [S_C,S_ZK]) O_C ?_;simp only [jpR]))
   (try simp only [jqV,Exit.then]);refine jqW (jqX rfl _ _ r2 186 C.toArray (0,0) _ rfl (jqc _ _ _ _ _ _ k2.out) rfl rfl (by rw [S_C];rfl)) rfl ?_;exact FIN.out
  ·intro y hy hly w3 cnt3 m3 hlt hg hs hen;have hen':(Instr.entry (.pointer (some ⟨r4,0,none⟩))).run jpx w3= .ok (.tuple #[.agg (knC y.pk y.n).toArray, .agg (knC y.k y.wh).toArray]) w3:=hen;have oky:=OK.out y hy;have L_K:=yA oky.1 y.n;have L_V:=yA oky.2.1 y.wh;have S_K:(knC y.pk y.n).toArray.size=33:=by rw [jqu,L_K]
   have S_V:(knC y.k y.wh).toArray.size=33:=by rw [jqu,L_V]
   have O_K:=qC (Y4 (pk:=y.pk) (n:=y.n));have O_V:=qC (Y4 (pk:=y.k) (n:=y.wh));have CW:=jhJ oky.2.1 y.wh;have X3:Hid (Ext w w3):=jpn xr.out ⟨hg.os,hg.tape,hg.output,hg.size,fun i hi=>hg.block i (jpq hi xr.out.size) (fun q=>by have:=jpD q;omega)⟩;have k2':Hid (Cb w3 r2 186 ZK):=(hg.block _ k2.out.lt (fun q=>by have:=jpD q;omega)).trans k2.out;have k3':Hid (Cb w3 r3 186 (knC fp fn)):=(hg.block _ k3.out.lt (fun q=>by have:=jpD q;omega)).trans k3.out;have r4lt:=m3.lt;have SM:Hid (y.wh < wh->OldI L puts (fun key=>lf key/\key≠y.kv) y.pk y.n y.wh):=fun q=>hOI.out.less OK.out AP.out hy q
   have SN:Hid (¬ y.wh < wh->OldI L puts (fun key=>lf key/\key≠y.kv) fp fn wh):=fun q=>hOI.out.more OK.out AP.out hy q
   clear mr hen k2 k3 xr DN hOI hly hs;generalize knC y.k y.wh=YV at *;obtain ⟨YK,hYK⟩:∃ C,C=knC y.pk y.n:=⟨_,rfl⟩;rw [<-hYK] at hen' L_K S_K O_K;replace hYK:=Hj hYK;generalize y.wh=yw at *;have K5:Hid (Cb ((((w3.alloc (.cells ZK.toArray 186)).alloc (.cells ZK.toArray 188)).setRow w3.heap.size YK.toArray).setRow (w3.heap.size+1) YV.toArray) w3.heap.size 186 YK/\Cb ((((w3.alloc (.cells ZK.toArray 186)).alloc (.cells ZK.toArray 188)).setRow w3.heap.size YK.toArray).setRow (w3.heap.size+1) YV.toArray) (w3.heap.size+1) 188 YV/\Ext w3 ((((w3.alloc (.cells ZK.toArray 186)).alloc (.cells ZK.toArray 188)).setRow w3.heap.size YK.toArray).setRow (w3.heap.size+1) YV.toArray)):=by
    have a1:Cb ((w3.alloc (.cells ZK.toArray 186)).alloc (.cells ZK.toArray 188)) w3.heap.size 186 ZK:=jQ _ _ _;have a2:Cb ((w3.alloc (.cells ZK.toArray 186)).alloc (.cells ZK.toArray 188)) (w3.heap.size+1) 188 ZK:=jK _ _ _;exact ⟨(a1.set (L':=YK)).row (by omega),(a2.row (by omega)).set,jqb (jqb (((jnQ w3).alloc _).alloc _) (jpo _) _) (Nat.le_succ _) _⟩
   have a1:Hid (((w3.alloc (.cells ZK.toArray 186)).alloc (.cells ZK.toArray 188)).heap[w3.heap.size]? =some (.cells ZK.toArray 186 (0,0))):=jQ _ _ _;have a2:Hid ((((w3.alloc (.cells ZK.toArray 186)).alloc (.cells ZK.toArray 188)).setRow w3.heap.size YK.toArray).heap[w3.heap.size+1]? =some (.cells ZK.toArray 188 (0,0))):=(jqy _ _ _ _ (by omega)).trans (jK _ _ _);go_upto_region 6 with (first
    | (refine ws_ rfl 186 rfl w3.heap.size YK.toArray rfl rfl a1.out (by rw [S_K];rfl) (by rw [S_K,S_ZK]) O_K ?_;simp only [jpR])
    | (refine ws_ rfl 188 rfl (w3.heap.size+1) YV.toArray rfl rfl a2.out (by rw [S_V];rfl) (by rw [S_V,S_ZK]) O_V ?_;simp only [jpR]))
   refine jg (fun W=>Cb W w3.heap.size 186 YK/\Cb W (w3.heap.size+1) 188 YV/\Ext w3 W) K5.out ?_;clear K5 a1 a2 hen';rintro w4 ⟨k5,k6,x4⟩;have M4:Hid (∀ s,Ext w3 s->Mr jpx 186 s mb r4 (L.map fun y=>(y.kv,y.vv)) (fun key=>lf key/\key≠y.kv) cnt3/\Cb s r2 186 ZK/\Cb s r3 186 (knC fp fn)/\Ext w s):=fun s e=>⟨m3.ext e,k2'.out.ext e,k3'.out.ext e,X3.out.trans e⟩
   have r5lt:r4 < w3.heap.size:=r4lt;generalize w3.heap.size=r5 at *;have Q4:=Hj (M4.out _ x4);clear M4 m3 k2' k3' X3 x4 hg w3 r4lt;have lfp':=yA lfp fn;have S_F:(knC fp fn).toArray.size=33:=by rw [jqu,lfp']
   obtain ⟨q1,q2,q3,q4⟩:=Q4.out;have c6:=k6.cell CW;rcases Decidable.em (yw < wh) with hlw | hlw
   ·have u:decide (yw < wh)=true:=decide_eq_true hlw;have OI:=Hj (SM.out hlw);clear SM SN Q4;have T:Hid (∀ s,w4.drew.grownBy s (some r3)->Cb s r5 186 YK/\s.cell? ⟨r5+1,32,none⟩=some (.int .i64 yw)):=fun s e=>by
     have hb:∀ i,i < w4.heap.size->i≠r3->s.heap[i]? =w4.heap[i]? :=fun i hi hne=>e.block i hi (fun q=>hne (jpD q))
     exact ⟨(hb _ k5.lt (by omega)).trans k5,(y6 (hb _ k6.lt (by omega)) _).trans c6⟩
    have F:Hid (Mr jpx 186 (w4.drew.setRow r3 YK.toArray) mb r4 (L.map fun y=>(y.kv,y.vv)) (fun key=>lf key/\key≠y.kv) cnt3/\Cb (w4.drew.setRow r3 YK.toArray) r2 186 ZK/\Cb (w4.drew.setRow r3 YK.toArray) r3 186 YK/\Ext w (w4.drew.setRow r3 YK.toArray)):=
     ⟨(q1.ext (jnQ _).drew).kept (jak _ _ _) (fun q=>by have:=jpD q;omega) (fun q=>by have:=jpD q;omega),Cb.row (w:=w4.drew) q2 (by omega),Cb.set (w:=w4.drew) q3,jqb q4.drew (by omega) _⟩
    have q3':Hid (w4.drew.heap[r3]? =some (.cells (knC fp fn).toArray 186 (0,0))):=q3;generalize knC fp fn=FC at *;clear q1 q2 q3 q4 k5 k6;go_upto_region 7 with fail;refine qgW r3 [0,1,2,3,4] [3] ?_;generalize w4.drew=W at *;clear w4 c6;refine qV rfl (fun w'=>w'.heap[r5]? =some (.cells YK.toArray 186 (0,0))) (fun w' e=>(T.out w' e).1) (.agg YK.toArray) (fun w' hF=>jd rfl rfl hF rfl rfl (by rw [S_K];rfl)) ?_;go_frame
    repeat ((first | refine qR _ (fun w' e=>(T.out w' e).2) ?_ | refine qS ?_);go_frame)
    refine qD fun K hK=> ?_
    refine jrf _ _ _ rfl r3 YK.toArray rfl rfl 186 FC.toArray q3'.out (by rw [S_K];rfl) (by rw [S_K,S_F]) O_K ?_;refine hK.out _ _ (jak _ _ _) ?_;clear hK K;try go_frame
    repeat ((first | refine qR0 ?_ | refine qS ?_);go_frame)
    refine jp ?_;refine yf (fun W=>Mr jpx 186 W mb r4 (L.map fun y=>(y.kv,y.vv)) (fun key=>lf key/\key≠y.kv) cnt3/\Cb W r2 186 ZK/\Cb W r3 186 YK/\Ext w W) F.out ?_;clear F T q3' W;rintro w5 ⟨f1,f2,f3,f4⟩;rw [hYK.out] at f3;go_wp2_with fail;go_round
    case rel=>exact ⟨_,cnt3,_,_,_,rfl,f1,f2,f3,OI.out,f4⟩
    case measure=>rw [f1.left_eq,mro.out];exact hlt
   ·have u:decide (yw < wh)=false:=decide_eq_false hlw;have OI:=Hj (SN.out hlw);clear SM SN Q4;go_wp2_with fail;go_round
    case rel=>exact ⟨_,cnt3,_,_,_,rfl,q1,q2,q3,OI.out,q4⟩
    case measure=>rw [q1.left_eq,mro.out];exact hlt
theorem jfc {y:Ke}{r:List Ke}(ap:(y::r).Pairwise fun x y=> ¬(x.pk=y.pk/\x.n=y.n)):yN (y::r) y.pk y.n=r:=by
 obtain ⟨a1,a2⟩:=List.pairwise_cons.1 ap;unfold yN;rw [List.filter_cons_of_neg (by simp [Ke.at]),List.filter_eq_self.2 fun x hx=> ?_]
 cases q:x.at y.pk y.n
 ·rfl
 ·obtain ⟨e1,e2⟩:=Ke.at_iff.1 q;exact absurd ⟨e1.symm,e2.symm⟩ (a1 x hx)
theorem SK.add {w:World}{g mb:Nat}{L:List Ke}{puts:Int}(h:SK w g mb L puts){x:Ke}(hx:x.ok) (hf:yZ L x.pk x.n=false) (h8:L.length<=8):
 ∃ w',(Instr.mapUpdate 182 (.map (some mb)) (.agg (knC x.pk x.n).toArray) (.agg (knC x.k x.wh).toArray)).run jpx w= .ok () w'/\Mp jpx 186 w' mb ((L++ [x]).map Ke.ent)/\w.grownBy w' (some mb):=by
 obtain ⟨kl,hkl⟩:=JU hx.1 hx.2.2;have hm:∀ p∈L.map Ke.ent,p.1≠ .agg (knC x.pk x.n).toArray:=fun p hp=>by
  obtain ⟨y,hy,rfl⟩:=jpN.1 hp;rw [yZ,List.any_eq_false] at hf;exact jho (h.ok y hy) hx.1 (by simpa using hf y hy)
 obtain ⟨w1,r1,r2,r3,_⟩:=h.mp.add yV jqG (by rw [jqH];unfold maxLen;omega) hkl hm (.agg (knC x.k x.wh).toArray);exact ⟨w1,r1,by rw [jqw];exact r2,r3⟩
theorem SK.after {w w':World}{g mb:Nat}{L:List Ke}{puts:Int}{x:Ke}(h:SK w g mb L puts) (hx:x.ok) (hw:x.wh=puts) (cb:Cb w' g 184 [.map (some mb), .int .i64 (puts+1)]) (mp:Mp jpx 186 w' mb ((L++ [x]).map Ke.ent)):SK w' g mb (L++ [x]) (puts+1):=
 ⟨cb,mp,fun y hy=>by
   rcases jpH.1 hy with hy | hy
   ·exact h.ok y hy
   ·rw [jpF.1 hy];exact hx,by
   rw [List.pairwise_append];exact ⟨h.inc,List.pairwise_singleton _ _,fun a ha b hb=>by rw [jpF.1 hb,hw];exact h.lt a ha⟩,fun y hy=>by
   rcases jpH.1 hy with hy | hy
   ·have:=h.lt y hy;omega
   ·rw [jpF.1 hy];omega,by have:=h.low;omega⟩
theorem jfa {w:World}{g mb:Nat}{L:List Ke}{puts:Int}(h:SK w g mb L puts){pk k:List UInt8}(hp:pk.length=32) (hk:k.length=32){n:Int}(hn: -9223372036854775808<=n/\n<=9223372036854775807) (h8:L.length<=8) (hq:puts<=4611686018427387904):
 Calls jpx 121 #[.pointer (some ⟨g,0,none⟩), .agg (cellsOf pk).toArray, .int .i64 n, .agg (cellsOf k).toArray] w fun e w'=>e= .returned (.int .i64 (Jt L pk n))/\(∃ p,puts<=p/\p<=puts+1/\(Jt L pk n=0->p=puts+1)/\(Jt L pk n≠0->p=puts)/\SK w' g mb (jcz L ⟨pk,n,k,puts⟩) p)/\Two g mb w w':=by
 have hal1:=Yw;have hal2:=Ys;have BP:=Hj (ZG hp n);have BE:=Hj (jc4 hk puts);have L_ZK:=QV;have S_pk:(cellsOf pk).toArray.size=32:=by simp [ja,hp]
 have S_k:(cellsOf k).toArray.size=32:=by simp [ja,hk]
 have L_PC:=yA hp n;have O_PC:=qC (Y4 (pk:=pk) (n:=n));have L_kk:=jfe (pk:=pk) (n:=n) h.ok;have L_EC:=yA L_kk (ye L pk n).wh;have O_EC:=qC (Y4 (pk:=(ye L pk n).k) (n:=(ye L pk n).wh));have LK:Hid (∀ s,Ext w s->(Instr.lookup 182 (.map (some mb)) (.agg (knC pk n).toArray) true).run jpx s= .ok (.tuple #[.agg (knC (ye L pk n).k (ye L pk n).wh).toArray, .bool (yZ L pk n)]) s):=fun s e=>(h.ext e).look hp hn
 have glt:=h.cb.lt;have blt:=h.mp.lt;have gnb:=h.ne;have low:=h.low;have C0:Hid (∀ s,Ext w s->s.cell? ⟨g,0,none⟩=some (.map (some mb))/\s.cell? ⟨g,1,none⟩=some (.int .i64 puts)):=fun s e=>⟨((h.ext e).cb).cell rfl,((h.ext e).cb).cell rfl⟩
 have SE:Hid (∀ s,Ext w s->SK s g mb L puts):=fun s e=>h.ext e
 obtain ⟨PE,hPE⟩:=ex_ (Jt L pk n);obtain ⟨RL,hRL⟩:=ex_ (jcz L ⟨pk,n,k,puts⟩);rw [<-hPE,<-hRL];have NP:Hid (PE≠0->RL=L):=fun q=>by rw [hRL];unfold jcz;rw [if_neg (by rw [<-hPE];exact q)]
 have HN:Hid (n < 0->PE=1):=fun q=>by rw [hPE];unfold Jt;rw [if_pos q]
 have HT:Hid (¬ n < 0->yZ L pk n=true->PE=9):=fun q r=>by rw [hPE];unfold Jt;rw [if_neg q,if_pos r]
 have HZ:Hid (¬ n < 0->yZ L pk n=false->PE=0/\RL=jeS L ⟨pk,n,k,puts⟩):=fun q r=>by
  have:Jt L pk n=0:=by unfold Jt;rw [if_neg q,r];rfl
  rw [hPE,hRL];unfold jcz;exact ⟨this,by rw [if_pos this]⟩
 replace hPE:=Hj (fun _:Unit=>hPE);replace hRL:=Hj (fun _:Unit=>hRL);have AD:Hid (yZ L pk n=false->∀ s,Ext w s->∃ w',(Instr.mapUpdate 182 (.map (some mb)) (.agg (knC pk n).toArray) (.agg (knC k puts).toArray)).run jpx s= .ok () w'/\Mp jpx 186 w' mb ((L++ [(⟨pk,n,k,puts⟩:Ke)]).map Ke.ent)/\s.grownBy w' (some mb)):=fun q s e=>(h.ext e).add (x:=⟨pk,n,k,puts⟩) ⟨hp,hk,hn⟩ q h8
 have AF:Hid (∀ w',Cb w' g 184 [.map (some mb), .int .i64 (puts+1)]->Mp jpx 186 w' mb ((L++ [(⟨pk,n,k,puts⟩:Ke)]).map Ke.ent)->SK w' g mb (L++ [(⟨pk,n,k,puts⟩:Ke)]) (puts+1)):=fun w' q r=>h.after ⟨hp,hk,hn⟩ rfl q r
 have LX:(L++ [(⟨pk,n,k,puts⟩:Ke)]).length=L.length+1:=by rw [jpG];rfl
 have PL:Hid (jeS L ⟨pk,n,k,puts⟩=if L.length < 8 then L++ [(⟨pk,n,k,puts⟩:Ke)] else L.drop 1++ [(⟨pk,n,k,puts⟩:Ke)]):=rfl;have DL:Hid (0 < L.length->L.drop 1++ [(⟨pk,n,k,puts⟩:Ke)]=(L++ [(⟨pk,n,k,puts⟩:Ke)]).drop 1):=fun q=>by rw [List.drop_append_of_le_length (by omega)]
 have L_NE:=yA hk puts;generalize (⟨pk,n,k,puts⟩:Ke)=X at *;generalize knC k puts=NE at *;generalize yZ L pk n=is at *;generalize (ye L pk n).k=kk at *;generalize knC kk (ye L pk n).wh=EC at *;generalize knC pk n=PC at *;clear h hp hk L_kk;generalize zKN=ZK at *;have S_ZK:ZK.toArray.size=33:=by rw [jqu,L_ZK]
 have S_PC:PC.toArray.size=33:=by rw [jqu,L_PC]
 have S_EC:EC.toArray.size=33:=by rw [jqu,L_EC]
 obtain ⟨r5,hr5⟩:∃ r,r=w.heap.size:=⟨_,rfl⟩;have B0:Hid (Cb ((w.alloc (jqY (cellsOf pk).toArray 23)).alloc (jqY (cellsOf k).toArray 23)) r5 23 (cellsOf pk)/\Cb ((w.alloc (jqY (cellsOf pk).toArray 23)).alloc (jqY (cellsOf k).toArray 23)) (r5+1) 23 (cellsOf k)/\Ext w ((w.alloc (jqY (cellsOf pk).toArray 23)).alloc (jqY (cellsOf k).toArray 23))):=by
  rw [hr5];exact ⟨jQ _ _ _,jK _ _ _,((jnQ w).alloc _).alloc _⟩
 go_enter Tryz.func121,Tryz.ntmps121
 go_upto_region 1 with fail;refine jg (fun W=>Cb W r5 23 (cellsOf pk)/\Cb W (r5+1) 23 (cellsOf k)/\Ext w W) B0.out ?_;rw [<-hr5];have wr:w.heap.size<=r5:=jre hr5.symm;clear B0;replace hr5:=Hj hr5;obtain ⟨r7,hr7⟩:∃ r,r=r5+1:=⟨_,rfl⟩;rw [<-hr7];have wr7:r5 < r7:=by omega
 replace hr7:=Hj hr7;rintro w0 ⟨k5,k7,x0⟩;rcases Decidable.em (n < 0) with hneg | hneg
 ·have u1:decide (n < 0)=true:=decide_eq_true hneg;obtain rfl:=HN.out hneg;obtain rfl:=NP.out (by decide);have FIN:Hid (SK w0 g mb RL puts/\Two g mb w w0):=⟨SE.out _ x0,Two.of_ext x0⟩;clear LK C0 SE NP HN HT HZ AD AF PL DL k5 k7 x0;go_wp2_with fail;go_ret
  first | exact ⟨rfl,⟨puts,jrl _,by omega,FIN.out.1⟩,FIN.out.2⟩ | exact ⟨rfl,⟨puts,jrl _,by omega,rfl,FIN.out.1⟩,FIN.out.2⟩ | exact ⟨rfl,⟨puts,jrl _,by omega,(fun q=>absurd q (by decide)),(fun _=>rfl),FIN.out.1⟩,FIN.out.2⟩
 have u1:decide (n < 0)=false:=decide_eq_false hneg;have l7:=k7.lt;have K1:Hid (Cb ((w0.alloc (.cells ZK.toArray 186)).setRow w0.heap.size PC.toArray) r7 23 (cellsOf k)/\Cb ((w0.alloc (.cells ZK.toArray 186)).setRow w0.heap.size PC.toArray) w0.heap.size 186 PC/\Ext w ((w0.alloc (.cells ZK.toArray 186)).setRow w0.heap.size PC.toArray)):=
  ⟨k7.ext (Ext.newRow _ _ _),(Cb.new w0 _ ZK).set,x0.trans (Ext.newRow _ _ _)⟩
 have lr9:r7 < w0.heap.size:=l7;have wr9:w.heap.size<=w0.heap.size:=x0.size;replace k5:=Hj k5;clear k7 x0 l7;go_upto_region 4 with (first
  | ((with_reducible refine js (o:=⟨some 14,_,_,_,_,_⟩) ?_ 23 _ rfl r5 ?_ 23 (cellsOf pk).toArray (0,0) _ ?_ jqD ?_ ?_ ?_);(·rfl);(·rfl);(·exact k5.out);(·rfl);(·rw [S_pk];rfl);go_frame)
  | (refine jm rfl _ _ rfl PC.toArray (by simp only [jqE,jqA,jqF];exact BP.out) ?_;go_frame)
  | (refine ws_ rfl 186 rfl w0.heap.size PC.toArray rfl rfl (jqq _ _) (by rw [S_PC];rfl) (by rw [S_PC,S_ZK]) O_PC ?_;simp only [jpR]))
 refine jg (fun W=>Cb W r7 23 (cellsOf k)/\Cb W w0.heap.size 186 PC/\Ext w W) K1.out ?_;generalize w0.heap.size=r9 at *;clear K1 k5 BP w0;rintro w1 ⟨k7,k9,x1⟩;have T1:Hid (∀ s,Below w1.heap.size w1.drew s->s.cell? ⟨g,0,none⟩=some (.map (some mb))/\Cb s r9 186 PC/\Ext w s/\Cb s r7 23 (cellsOf k)):=fun s e=>by
  have e':Ext w1 s:=jpn (Below.drew (jpm _ _)) e;exact ⟨(C0.out _ (x1.trans e')).1,k9.ext e',x1.trans e',k7.ext e'⟩
 clear k7 k9 x1;have hB:w1.drew.heap.size=w1.heap.size:=rfl;refine qgB w1.heap.size [0,1,2,3,4,5,6,7,8,9,10,11] [9,10] ?_;generalize w1.heap.size=B1 at *;generalize w1.drew=W at *;clear w1;repeat ((first | refine qR _ (fun w' e=>(T1.out w' e).1) ?_ | refine qS ?_);go_frame)
 refine qV rfl (fun w'=>w'.heap[r9]? =some (.cells PC.toArray 186 (0,0))) (fun w' e=>(T1.out w' e).2.1) (.agg PC.toArray) (fun w' hF=>jd rfl rfl hF rfl rfl (by rw [S_PC];rfl)) ?_;go_frame
 refine qV rfl (fun w'=>Ext w w') (fun w' e=>(T1.out w' e).2.2.1) (.tuple #[.agg EC.toArray, .bool is]) (fun w' hF=>ZA rfl rfl rfl (LK.out _ hF)) ?_;go_frame
 repeat ((first | refine qR0 ?_ | refine qS ?_);go_frame)
 refine qD fun K hK=> ?_
 go_simp;refine hK.out _ _ (Below.alloc (jpm _ _) (jre hB.symm) _) ?_;clear hK K;try go_frame
 have c9:Cb (W.alloc (.cells ZK.toArray 188)) B1 188 ZK:=by rw [<-hB];exact Cb.new _ _ _
 refine qD fun K hK=> ?_
 refine jrf _ _ _ rfl B1 EC.toArray rfl rfl 188 ZK.toArray c9 (by rw [S_EC];rfl) (by rw [S_EC,S_ZK]) O_EC ?_;refine hK.out _ _ (jqb (jpm _ _) (jpo _) _) ?_;clear hK K;try go_frame
 repeat ((first | refine qR0 ?_ | refine qS ?_);go_frame)
 refine jp ?_;have E2:Below B1 W ((W.alloc (.cells ZK.toArray 188)).setRow B1 EC.toArray):=jqb (Below.alloc (jpm _ _) (jre hB.symm) _) (jpo _) _;refine yf (fun W=>Cb W r7 23 (cellsOf k)/\Cb W r9 186 PC/\Ext w W) ⟨(T1.out _ E2).2.2.2,(T1.out _ E2).2.1,(T1.out _ E2).2.2.1⟩ ?_;clear T1 E2 hB c9 W LK;rintro w2 ⟨k7,k9,x2⟩;rcases is with _ | _
 case true=>
  obtain rfl:=HT.out hneg rfl;obtain rfl:=NP.out (by decide);have FIN:Hid (SK w2 g mb RL puts/\Two g mb w w2):=⟨SE.out _ x2,Two.of_ext x2⟩;clear C0 SE NP HN HT HZ AD AF PL DL k7 k9 x2;go_wp2_with fail;go_ret
  first | exact ⟨rfl,⟨puts,jrl _,by omega,FIN.out.1⟩,FIN.out.2⟩ | exact ⟨rfl,⟨puts,jrl _,by omega,rfl,FIN.out.1⟩,FIN.out.2⟩ | exact ⟨rfl,⟨puts,jrl _,by omega,(fun q=>absurd q (by decide)),(fun _=>rfl),FIN.out.1⟩,FIN.out.2⟩
 obtain ⟨rfl,rfl⟩:=HZ.out hneg rfl;clear NP HN HT HZ;have T2:Hid (∀ s,w2.drew.grownBy s (some mb)->(s.cell? ⟨g,0,none⟩=some (.map (some mb))/\s.cell? ⟨g,1,none⟩=some (.int .i64 puts))/\Cb s r9 186 PC/\Cb s r7 23 (cellsOf k)/\Cb s g 184 [.map (some mb), .int .i64 puts]/\Two g mb w s):=fun s e=>by
  have hb:∀ i,i < w2.heap.size->i≠mb->s.heap[i]? =w2.heap[i]? :=fun i hi hne=>e.block i hi (fun q=>hne (jpD q))
  have hg:=hb g (jpq glt x2.size) gnb;exact ⟨⟨(y6 hg _).trans (C0.out _ x2).1,(y6 hg _).trans (C0.out _ x2).2⟩,(hb r9 k9.lt (by omega)).trans k9,(hb r7 k7.lt (by omega)).trans k7,hg.trans (SE.out _ x2).cb,e.os.trans x2.os,e.tape.trans x2.tape,e.output.trans x2.output,jp0 x2.size e.size,fun i hi h1 h2=>(hb i (jpq hi x2.size) h2).trans (x2.block i hi)⟩
 have A2:=Hj (AD.out rfl w2.drew x2.drew);clear AD k7 k9 C0 SE x2;go_upto_region 7 with fail;refine qgW mb [0,1,2,3,4,5,6,7,8,9,10,11] [11] ?_;generalize w2.drew=W at *;clear w2;repeat ((first | refine qR _ (fun w' e=>(T2.out w' e).1) ?_ | refine qS ?_);go_frame)
 refine qV rfl (fun w'=>w'.heap[r9]? =some (.cells PC.toArray 186 (0,0))) (fun w' e=>(T2.out w' e).2.1) (.agg PC.toArray) (fun w' hF=>jd rfl rfl hF rfl rfl (by rw [S_PC];rfl)) ?_;go_frame
 refine qV rfl (fun w'=>w'.heap[r7]? =some (.cells (cellsOf k).toArray 23 (0,0))) (fun w' e=>(T2.out w' e).2.2.1) (.agg (cellsOf k).toArray) (fun w' hF=>jd rfl rfl hF rfl rfl (by rw [S_k];rfl)) ?_;go_frame
 repeat ((first | refine qR _ (fun w' e=>(T2.out w' e).1) ?_ | refine qS ?_);go_frame)
 refine qV rfl (fun _=>True) (fun _ _=>trivial) (.agg NE.toArray) (fun w' _=>(qe rfl (by simp only [jqE,jqA,jqF];exact BE.out))) ?_;go_frame
 repeat ((first | refine qR0 ?_ | refine qS ?_);go_frame)
 refine qD fun K hK=> ?_
 obtain ⟨w3,d1,d2,d3⟩:=A2.out;refine QU rfl rfl rfl rfl d1 ?_;refine hK.out _ _ d3 ?_;clear hK K;try go_frame
 repeat ((first | refine qR0 ?_ | refine qS ?_);go_frame)
 refine jp ?_;refine yf (fun W=>Cb W g 184 [.map (some mb), .int .i64 puts]/\Mp jpx 186 W mb ((L++ [X]).map Ke.ent)/\Two g mb w W) ⟨(T2.out _ d3).2.2.2.1,d2,(T2.out _ d3).2.2.2.2⟩ ?_;clear T2 A2 d1 d2 d3 w3 W BE;rintro w3 ⟨cb,mp,t3⟩;have c1:=cb.cell (j:=1) rfl;have f1:=cb.frozen 1;have hpw:IntKind.i64.wrap (puts+1)=puts+1:=jq0 _ (by omega);have K4:Hid (SK (w3.setCell ⟨g,1,none⟩ (.int .i64 (puts+1))) g mb (L++ [X]) (puts+1)/\Two g mb w (w3.setCell ⟨g,1,none⟩ (.int .i64 (puts+1)))):=
  ⟨AF.out _ cb.setCell (mp.stay (jp7 _ _ _ _ (fun q=>gnb q.symm))),t3.trans ⟨rfl,rfl,rfl,by simp [World.setCell],fun i _ h1 _=>jp7 _ _ _ _ h1⟩⟩
 go_upto_region 9 with fail;refine jg (fun W=>SK W g mb (L++ [X]) (puts+1)/\Two g mb w W) K4.out ?_;clear K4 cb mp t3 c1 f1 hpw AF w3;rintro w4 ⟨sk,t4⟩;have c0:=sk.cb.cell (j:=0) rfl;have hl:=sk.mp.len jqG 0;rw [jqH] at hl;obtain ⟨m,hm⟩:=ex_ ((L++ [X]).length);rw [<-hm] at hl LX;have m9:m<=9:=by omega
 replace sk:=Hj sk;replace t4:=Hj t4;rcases Decidable.em (m<=8) with hm8 | hm8
 ·have u2:decide ((8:Int) < (m:Int))=false:=decide_eq_false (by omega);have PL':jeS L X=L++ [X]:=by rw [PL.out,if_pos (by omega)]
  rw [<-PL'] at sk;clear PL PL' DL hm LX;go_wp2_with (refine Jb rfl fun K hK=> ?_;refine JH rfl rfl hl ?_;refine hK _ _ ?_;go_frame)
  go_ret
  first | exact ⟨rfl,⟨puts+1,by omega,jrl _,rfl,sk.out⟩,t4.out⟩ | exact ⟨rfl,⟨puts+1,by omega,jrl _,rfl,(fun q=>absurd rfl q),sk.out⟩,t4.out⟩ | exact ⟨rfl,⟨puts+1,by omega,jrl _,(fun _=>rfl),(fun q=>absurd rfl q),sk.out⟩,t4.out⟩
 ·have u2:decide ((8:Int) < (m:Int))=true:=decide_eq_true (by omega);have PL':jeS L X=(L++ [X]).drop 1:=by rw [PL.out,if_neg (by omega),DL.out (by omega)]
  obtain ⟨y,l,hyl⟩:∃ y l,L++ [X]=y::l:=by
   cases q:L++ [X] with
   | nil=>rw [q] at hm;simp at hm;omega
   | cons y l=>exact ⟨y,l,rfl⟩
  rw [hyl,List.drop_one,List.tail_cons] at PL';rw [hyl] at sk;have oky:=sk.out.ok y (jqB ..);have OLD:Hid (∀ s,Ext w4 s->Calls jpx 151 #[.pointer (some ⟨g,0,none⟩)] s fun e w'=>e= .returned (.agg (knC y.pk y.n).toArray)/\Ext s w'):=fun s e=>je4 (sk.out.ext e) rfl
  have DR:Hid (∀ s,Ext w4 s->∃ w',(Builtin.delete_ #[182,186] 0 #[.map (some mb), .agg (knC y.pk y.n).toArray]).run jpx s= .ok (.tuple #[]) w'/\SK w' g mb (jeS L X) (puts+1)/\s.grownBy w' (some mb)):=fun s e=>by
   have:=(sk.out.ext e).drop oky.1 oky.2.2 0;rw [jfc sk.out.apart,<-PL'] at this;exact this
  have CE:Hid (∀ s,w4.drew.grownBy s (some mb)->s.cell? ⟨g,0,none⟩=some (.map (some mb))):=fun s e=>(y6 (e.block g sk.out.cb.lt (fun q=>gnb (jpD q))) _).trans (sk.out.cb.cell rfl)
  generalize knC y.pk y.n=YC at *;clear PL PL' DL hm LX hyl oky sk;go_upto_region 10 with (refine Jb rfl fun K hK=> ?_;refine JH rfl rfl hl ?_;refine hK _ _ ?_;go_frame)
  clear c0;refine qgW mb [0,1,2,3,4,5,6] [5,6] ?_;have X4:Hid (Ext w4 w4.drew):=(jnQ w4).drew;generalize w4.drew=W at *;repeat ((first | refine qR _ (fun w' e=>CE.out w' e) ?_ | refine qS ?_);go_frame)
  refine qD fun K hK=> ?_
  go_simp;refine (OLD.out W X4.out).mono ?_;rintro e w5 ⟨rfl,x5⟩;have g5:W.grownBy w5 (some mb):=⟨x5.os,x5.tape,x5.output,x5.size,fun i hi _=>x5.block i hi⟩;refine hK.out _ _ g5 ?_;clear hK K;try go_frame
  repeat ((first | refine qR _ (fun w' e=>CE.out w' (jt g5 e)) ?_ | refine qS ?_);go_frame)
  refine qD fun K hK=> ?_
  obtain ⟨w6,d1,d2,d3⟩:=DR.out w5 (X4.out.trans x5);refine jbU rfl rfl rfl d1 ?_;refine hK.out _ _ d3 ?_;clear hK K;try go_frame
  repeat ((first | refine qR0 ?_ | refine qS ?_);go_frame)
  refine jp ?_;have t6:Two g mb w w6:=t4.out.trans (by
   have g6:=jt g5 d3;have s4:=X4.out.size;exact ⟨g6.os.trans X4.out.os,g6.tape.trans X4.out.tape,g6.output.trans X4.out.output,jp0 s4 g6.size,fun i hi h1 h2=>(g6.block i (jpq hi s4) (fun q=>h2 (jpD q))).trans (X4.out.block i hi)⟩)
  replace d2:=Hj d2;replace t6:=Hj t6;clear g5 d1 d3 x5 X4 CE OLD DR t4;go_wp2_with fail;go_ret
  first | exact ⟨rfl,⟨puts+1,by omega,jrl _,rfl,d2.out⟩,t6.out⟩ | exact ⟨rfl,⟨puts+1,by omega,jrl _,rfl,(fun q=>absurd rfl q),d2.out⟩,t6.out⟩ | exact ⟨rfl,⟨puts+1,by omega,jrl _,(fun _=>rfl),(fun q=>absurd rfl q),d2.out⟩,t6.out⟩
theorem Vw.of_mem {P:jpB}{k:jpC}{D:DataW Value}{E E':List (Value×Value)}(h:Vw P k D E) (ap:E'.Pairwise fun p q=>p.1≠q.1) (hm:∀ p,p∈E'↔p∈E):Vw P k D E':=
 ⟨ap,h.size.trans (Nat.le_antisymm (jpJ (h.apart.imp fun h e=>h (congrArg Prod.fst e)) fun p hp=>(hm p).2 hp) (jpJ (ap.imp fun h e=>h (congrArg Prod.fst e)) fun p hp=>(hm p).1 hp)),
   fun p hp=>h.into p ((hm p).1 hp),fun kl hh=>by obtain ⟨p,hp,q⟩:=h.back kl hh;exact ⟨p,(hm p).2 hp,q⟩⟩
theorem Mp.of_mem {P:jpB}{k:jpC}{w:World}{b:Nat}{E E':List (Value×Value)}(h:Mp P k w b E) (ap:E'.Pairwise fun p q=>p.1≠q.1) (hm:∀ p,p∈E'↔p∈E):Mp P k w b E':=by
 obtain ⟨D,h,v⟩:=h;exact Mp.of h (v.of_mem ap hm)
def CpI (L:List Ke) (lf:Value->Prop) (L1:List Ke):Prop:=(∀ y∈L1,y∈L)/\(∀ y∈L,y∈L1↔ ¬ lf y.kv)/\L1.length<=L.length
theorem CpI.start (L:List Ke):CpI L (fun _=>True) []:=⟨(fun y h=>by cases h),(fun y _=>⟨(fun h=>by cases h),fun h=>absurd trivial h⟩),jpp _⟩
theorem CpI.add {L:List Ke}{lf:Value->Prop}{L1:List Ke}(h:CpI L lf L1) (ok:∀ x∈L,x.ok) (ap:L.Pairwise fun x y=> ¬(x.pk=y.pk/\x.n=y.n)){y:Ke}(hy:y∈L) (hl:lf y.kv) (nd:(L1++ [y]).Nodup):CpI L (fun key=>lf key/\key≠y.kv) (L1++ [y]):=by
 have sub:∀ z∈L1++ [y],z∈L:=fun z hz=>by
  rcases jpH.1 hz with q | q
  ·exact h.1 z q
  ·rw [jpF.1 q];exact hy
 refine ⟨sub,fun z hz=> ?_,jpJ nd sub⟩;rw [jpH,jpF,h.2.1 z hz];constructor
 ·rintro (q | rfl) ⟨r1,r2⟩
  ·exact q r1
  ·exact r2 rfl
 ·intro q;by_cases hz2:lf z.kv
  ·right
   exact jci ok ap hz hy (jpM fun e=>q ⟨hz2,e⟩)
  ·exact .inl hz2
theorem jgb {L1:List Ke}(h:(L1.map Ke.ent).Pairwise fun p q=>p.1≠q.1):L1.Nodup:=by
 rw [List.pairwise_map] at h;exact h.imp fun h e=>h (by rw [e])
theorem jdN {w:World}{g mb:Nat}{L:List Ke}{puts:Int}(h:SK w g mb L puts) (h8:L.length<=1000):
 Calls jpx 51 #[.pointer (some ⟨g,0,none⟩)] w fun e w'=>∃ g' b',e= .returned (.pointer (some ⟨g',0,none⟩))/\w.heap.size<=g'/\w.heap.size<=b'/\SK w' g' b' L puts/\Ext w w':=by
 have hal1:=Yw;have hal2:=Ys;have hmm:= @run_makeMap jpx;have L_ZK:=QV;have S_ZK:zKN.toArray.size=33:=by rw [jqu,L_ZK]
 have OK:=Hj h.ok;have AP:=Hj h.apart;have glt:=h.cb.lt;have c0:=h.cb.cell (j:=0) rfl;have c1:=h.cb.cell (j:=1) rfl;have blt:=h.mp.lt;have HM:Hid (Mp jpx 186 w mb (L.map fun y=>(y.kv,y.vv))):=h.mp;have CE:Hid (∀ s,Ext w s->s.cell? ⟨g,0,none⟩=some (.map (some mb))):=fun s e=>(e.cell glt).trans c0
 have HS:=Hj h;have hbz:Hid (∀ b,Tryz.prog.built 184 [(0, .map (some b)),(1, .int .i64 puts)]=some #[.map (some b), .int .i64 puts]):=fun b=>by kernel_rfl
 clear h;obtain ⟨b2,hb2⟩:∃ r,r=w.heap.size:=⟨_,rfl⟩;have hbb:=hbz.out w.heap.size;have c1':(w.alloc (.map #[] 0)).cell? ⟨g,1,none⟩=some (.int .i64 puts):=(((jnQ w).alloc _).cell glt).trans c1;have B0:Hid (Mp jpx 186 ((w.alloc (.map #[] 0)).alloc (.cells #[.map (some w.heap.size), .int .i64 puts] 184)) b2 []/\Cb ((w.alloc (.map #[] 0)).alloc (.cells #[.map (some w.heap.size), .int .i64 puts] 184)) (b2+1) 184 [.map (some b2), .int .i64 puts]/\Ext w ((w.alloc (.map #[] 0)).alloc (.cells #[.map (some w.heap.size), .int .i64 puts] 184))):=by
  subst hb2;have C1:=Cb.new (w.alloc (.map #[] 0)) 184 [.map (some w.heap.size), .int .i64 puts];rw [show (w.alloc (.map #[] 0)).heap.size=w.heap.size+1 by simp] at C1;exact ⟨(Mp.made w _ _).ext ((jnQ _).alloc _),C1,((jnQ w).alloc _).alloc _⟩
 generalize zKN=ZK at *;replace hb2:=Hj hb2;go_enter Tryz.func51,Tryz.ntmps51
 go_upto_region 2 with (refine jm rfl _ _ rfl #[.map (some w.heap.size), .int .i64 puts] (by simp only [jqE,jqA,jqF];exact hbb) ?_;go_frame)
 refine jg (fun W=>Mp jpx 186 W b2 []/\Cb W (b2+1) 184 [.map (some b2), .int .i64 puts]/\Ext w W) B0.out ?_;rw [<-hb2.out];have wb2:w.heap.size<=b2:=jre hb2.out.symm;clear B0 hbb hbz hb2 c0 c1 c1';obtain ⟨g2,hg2⟩:∃ r,r=b2+1:=⟨_,rfl⟩;rw [<-hg2];have bg2:b2 < g2:=by omega
 replace hg2:=Hj hg2;rintro w0 ⟨n0,k0,x0⟩;obtain ⟨r4,hr4⟩:∃ r,r=w0.heap.size:=⟨_,rfl⟩;have hm0:=HM.out.ext x0;have c0:=CE.out _ x0;have l3:g2 < r4:=by rw [hr4];exact k0.lt
 have wr4:w.heap.size<=r4:=by rw [hr4];exact x0.size
 replace n0:=Hj n0;replace k0:=Hj k0;replace x0:=Hj x0;clear HM CE;go_wp2_with (at_range;refine Ji rfl _ rfl yV jqG rfl hm0 hr4.symm ?_;intro w1 m1 x1)
 go_frame
 replace hr4:=Hj hr4;go_loopw [4] (fun _ wr=>∃ (lf:Value->Prop) (cnt:Nat) (L1:List Ke),Mr jpx 186 wr mb r4 (L.map fun y=>(y.kv,y.vv)) lf cnt/\Mp jpx 186 wr b2 (L1.map Ke.ent)/\CpI L lf L1/\Cb wr g2 184 [.map (some b2), .int .i64 puts]/\Ext w wr) (fun _ wr=>wr.rangeLeft mb r4)
 case atStart=>exact ⟨_,_,[],m1,n0.out.ext x1,CpI.start L,k0.out.ext x1,x0.out.trans x1⟩
 case round=>
  obtain ⟨lf,cnt,L1,mr,mp,ci,k2,xr⟩:=hrel;clear m1 c0 n0 k0 hm0;have mro:Hid (wr.rangeLeft mb r4=cnt):=mr.left_eq;have wsz:=xr.size;have mpl:=mp.lt;replace xr:=Hj xr;replace k2:=Hj k2;replace mp:=Hj mp;replace ci:=Hj ci;go_wp2_with (at_next;refine JG Ke.kv Ke.vv rfl _ rfl yV rfl mr ?_ ?_)
  ·intro hd;have FIN:Hid (SK wr g2 b2 L puts):=⟨k2.out,mp.out.of_mem HS.out.mp.apart fun p=>by
    constructor
    ·intro q;obtain ⟨y,hy,rfl⟩:=jpN.1 q;exact jpN.2 ⟨y,(ci.out.2.1 y hy).2 (hd y hy),rfl⟩
    ·intro q;obtain ⟨y,hy,rfl⟩:=jpN.1 q;exact jpN.2 ⟨y,ci.out.1 y hy,rfl⟩,HS.out.ok,HS.out.inc,HS.out.lt,HS.out.low⟩
   clear mr hd;go_wp2_with fail;go_ret;exact ⟨g2,b2,rfl,by omega,wb2,FIN.out,xr.out⟩
  ·intro y hy hly w3 cnt3 m3 hlt hg hs hen;have hen':(Instr.entry (.pointer (some ⟨r4,0,none⟩))).run jpx w3= .ok (.tuple #[.agg (knC y.pk y.n).toArray, .agg (knC y.k y.wh).toArray]) w3:=hen;have oky:=OK.out y hy;have L_K:=yA oky.1 y.n;have L_V:=yA oky.2.1 y.wh;have S_K:(knC y.pk y.n).toArray.size=33:=by rw [jqu,L_K]
   have S_V:(knC y.k y.wh).toArray.size=33:=by rw [jqu,L_V]
   have O_K:=qC (Y4 (pk:=y.pk) (n:=y.n));have O_V:=qC (Y4 (pk:=y.k) (n:=y.wh));have st3:∀ i,i < wr.heap.size->i≠r4->w3.heap[i]? =wr.heap[i]? :=fun i hi hne=>hg.block i hi (fun q=>hne (jpD q))
   have X3:Hid (Ext w w3):=jpn xr.out ⟨hg.os,hg.tape,hg.output,hg.size,fun i hi=>st3 i (jpq hi xr.out.size) (by omega)⟩;have k3:Hid (Cb w3 g2 184 [.map (some b2), .int .i64 puts]):=(st3 _ k2.out.lt (by omega)).trans k2.out;have mp3:Mp jpx 186 w3 b2 (L1.map Ke.ent):=mp.out.stay (st3 _ mpl (by omega));have r4lt:=m3.lt;have AD:Hid (∀ s,Ext w3 s->∃ w',(Instr.mapUpdate 182 (.map (some b2)) (.agg (knC y.pk y.n).toArray) (.agg (knC y.k y.wh).toArray)).run jpx s= .ok () w'/\(Mp jpx 186 w' b2 ((L1++ [y]).map Ke.ent)/\CpI L (fun key=>lf key/\key≠y.kv) (L1++ [y]))/\s.grownBy w' (some b2)):=fun s e=>by
    obtain ⟨kl,hkl⟩:=JU oky.1 oky.2.2;have hm:∀ p∈L1.map Ke.ent,p.1≠ .agg (knC y.pk y.n).toArray:=fun p hp e=>by
     obtain ⟨z,hz,rfl⟩:=jpN.1 hp;have:=jci OK.out AP.out (ci.out.1 z hz) hy e;rw [this] at hz;exact (ci.out.2.1 y hy).1 hz hly
    obtain ⟨w',r1,r2,r3,_⟩:=(mp3.ext e).add yV jqG (by rw [jqH];have:=ci.out.2.2;unfold maxLen;omega) hkl hm (.agg (knC y.k y.wh).toArray);have r2':Mp jpx 186 w' b2 ((L1++ [y]).map Ke.ent):=by rw [jqw];exact r2
    exact ⟨w',r1,⟨r2',ci.out.add OK.out AP.out hy hly (jgb r2'.apart)⟩,r3⟩
   clear mr hen k2 mp xr hly hs hg st3 mp3 ci;generalize knC y.k y.wh=YV at *;generalize knC y.pk y.n=YK at *;have K5:Hid (Cb ((((w3.alloc (.cells ZK.toArray 186)).alloc (.cells ZK.toArray 188)).setRow w3.heap.size YK.toArray).setRow (w3.heap.size+1) YV.toArray) w3.heap.size 186 YK/\Cb ((((w3.alloc (.cells ZK.toArray 186)).alloc (.cells ZK.toArray 188)).setRow w3.heap.size YK.toArray).setRow (w3.heap.size+1) YV.toArray) (w3.heap.size+1) 188 YV/\Ext w3 ((((w3.alloc (.cells ZK.toArray 186)).alloc (.cells ZK.toArray 188)).setRow w3.heap.size YK.toArray).setRow (w3.heap.size+1) YV.toArray)):=by
    have a1:Cb ((w3.alloc (.cells ZK.toArray 186)).alloc (.cells ZK.toArray 188)) w3.heap.size 186 ZK:=jQ _ _ _;have a2:Cb ((w3.alloc (.cells ZK.toArray 186)).alloc (.cells ZK.toArray 188)) (w3.heap.size+1) 188 ZK:=jK _ _ _;exact ⟨(a1.set (L':=YK)).row (by omega),(a2.row (by omega)).set,jqb (jqb (((jnQ w3).alloc _).alloc _) (jpo _) _) (Nat.le_succ _) _⟩
   have a1:Hid (((w3.alloc (.cells ZK.toArray 186)).alloc (.cells ZK.toArray 188)).heap[w3.heap.size]? =some (.cells ZK.toArray 186 (0,0))):=jQ _ _ _;have a2:Hid ((((w3.alloc (.cells ZK.toArray 186)).alloc (.cells ZK.toArray 188)).setRow w3.heap.size YK.toArray).heap[w3.heap.size+1]? =some (.cells ZK.toArray 188 (0,0))):=(jqy _ _ _ _ (by omega)).trans (jK _ _ _);go_upto_region 5 with (first
    | (refine ws_ rfl 186 rfl w3.heap.size YK.toArray rfl rfl a1.out (by rw [S_K];rfl) (by rw [S_K,S_ZK]) O_K ?_;simp only [jpR])
    | (refine ws_ rfl 188 rfl (w3.heap.size+1) YV.toArray rfl rfl a2.out (by rw [S_V];rfl) (by rw [S_V,S_ZK]) O_V ?_;simp only [jpR]))
   refine jg (fun W=>Cb W w3.heap.size 186 YK/\Cb W (w3.heap.size+1) 188 YV/\Ext w3 W) K5.out ?_;clear K5 a1 a2 hen';rintro w4 ⟨k5,k6,x4⟩;have r5lt:r4 < w3.heap.size:=r4lt;have A4:=Hj (AD.out w4.drew x4.drew);have T4:Hid (∀ s,w4.drew.grownBy s (some b2)->(Cb s w3.heap.size 186 YK/\Cb s (w3.heap.size+1) 188 YV)/\s.cell? ⟨g2,0,none⟩=some (.map (some b2))/\Mr jpx 186 s mb r4 (L.map fun y=>(y.kv,y.vv)) (fun key=>lf key/\key≠y.kv) cnt3/\Cb s g2 184 [.map (some b2), .int .i64 puts]/\Ext w s):=fun s e=>by
    have hb:∀ i,i < w4.heap.size->i≠b2->s.heap[i]? =w4.heap[i]? :=fun i hi hne=>e.block i hi (fun q=>hne (jpD q))
    have kg:Cb s g2 184 [.map (some b2), .int .i64 puts]:=(hb _ ((k3.out.ext x4).lt) (by omega)).trans (k3.out.ext x4);refine ⟨⟨(hb _ k5.lt (by omega)).trans k5,(hb _ k6.lt (by omega)).trans k6⟩,kg.cell rfl,((m3.ext x4).ext (jnQ _).drew).kept e (fun q=>by have:=jpD q;omega) (fun q=>by have:=jpD q;omega),kg,?_⟩;have x:Ext w w4:=X3.out.trans x4;exact ⟨e.os.trans x.os,e.tape.trans x.tape,e.output.trans x.output,jp0 x.size e.size,fun i hi=>(hb i (jpq hi x.size) (by omega)).trans (x.block i hi)⟩
   generalize w3.heap.size=r5 at *;clear AD m3 k3 X3 x4 k5 k6 r4lt w3;refine qgW b2 [0,1,2,3,4,5,6] [6] ?_;generalize w4.drew=W at *;clear w4;repeat ((first | refine qR _ (fun w' e=>(T4.out w' e).2.1) ?_ | refine qS ?_);go_frame)
   refine qV rfl (fun w'=>w'.heap[r5]? =some (.cells YK.toArray 186 (0,0))) (fun w' e=>(T4.out w' e).1.1) (.agg YK.toArray) (fun w' hF=>jd rfl rfl hF rfl rfl (by rw [S_K];rfl)) ?_;go_frame
   refine qV rfl (fun w'=>w'.heap[(r5+1)]? =some (.cells YV.toArray 188 (0,0))) (fun w' e=>(T4.out w' e).1.2) (.agg YV.toArray) (fun w' hF=>jd rfl rfl hF rfl rfl (by rw [S_V];rfl)) ?_;go_frame
   repeat ((first | refine qR _ (fun w' e=>(T4.out w' e).2.1) ?_ | refine qS ?_);go_frame)
   refine qD fun K hK=> ?_
   obtain ⟨w5,d1,d2,d3⟩:=A4.out;refine QU rfl rfl rfl rfl d1 ?_;refine hK.out _ _ d3 ?_;clear hK K;try go_frame
   repeat ((first | refine qR0 ?_ | refine qS ?_);go_frame)
   refine jp ?_;obtain ⟨_,_,f1,f2,f3⟩:=T4.out _ d3;replace d2:=Hj d2;clear T4 A4 d1 d3;go_wp2_with fail;go_round
   case rel=>exact ⟨_,cnt3,_,f1,d2.out.1,d2.out.2,f2,f3⟩
   case measure=>rw [f1.left_eq,mro.out];exact hlt
end
section
open Go.ChangeShapes Go.WideShapes Go.ChangeAt Go.RowKit Go.Deep
def Ot (p:Nat->Prop) (a b:World):Prop:=b.os=a.os/\b.tape=a.tape/\b.output=a.output/\a.heap.size<=b.heap.size/\∀ i,i < a.heap.size-> ¬ p i->b.heap[i]? =a.heap[i]?
section
variable {p q:Nat->Prop}{a b c:World}
theorem Ot.trans (h:Ot p a b) (k:Ot p b c):Ot p a c:=
 ⟨k.1.trans h.1,k.2.1.trans h.2.1,k.2.2.1.trans h.2.2.1,jp0 h.2.2.2.1 k.2.2.2.1,fun i hi hp=>(k.2.2.2.2 i (jpq hi h.2.2.2.1) hp).trans (h.2.2.2.2 i hi hp)⟩
theorem Ot.of_ext (h:Ext a b):Ot p a b:=⟨h.os,h.tape,h.output,h.size,fun i hi _=>h.block i hi⟩
theorem Ot.of_two {g g':Nat}(h:Two g g' a b) (h1:p g) (h2:p g'):Ot p a b:=⟨h.1,h.2.1,h.2.2.1,h.2.2.2.1,fun i hi hn=>h.2.2.2.2 i hi (fun z=>hn (z ▸ h1)) (fun z=>hn (z ▸ h2))⟩
theorem Ot.of_grown {g:Nat}(h:a.grownBy b (some g)) (h1:p g):Ot p a b:=⟨h.os,h.tape,h.output,h.size,fun i hi hn=>h.block i hi (fun z=>hn (jpD z ▸ h1))⟩
theorem Ot.size (h:Ot p a b):a.heap.size<=b.heap.size:=h.2.2.2.1
theorem Ot.drew (h:Ot p a b):Ot p a b.drew:=h
theorem Ot.block {i:Nat}{o:Obj}(h:Ot p a b) (hi:a.heap[i]? =some o) (hp: ¬ p i):b.heap[i]? =some o:=(h.2.2.2.2 i (jh hi) hp).trans hi
theorem Ot.ext {w0:World}(h:Ext w0 a) (k:Ot p a b) (hp:∀ i,p i->w0.heap.size<=i):Ext w0 b:=
 jpn h ⟨k.1,k.2.1,k.2.2.1,k.2.2.2.1,fun i hi=>k.2.2.2.2 i (jpq hi h.size) (fun z=>by have:=hp i z;omega)⟩
end
theorem zt {w:World}{i j:Nat}{t t':jpC}{C D:List Value}(h:w.heap[i]? =some (.cells C.toArray t (0,0))) (k:w.heap[j]? =some (.cells D.toArray t' (0,0))) (ht:t≠t'):i≠j:=by
 rintro rfl;rw [h] at k
 injection k with k
 injection k with _ k
 exact ht k
end
section
theorem jdl (ks:List UInt8) (m:Nat):(Y2 ks m).length=m:=by simp [Y2]
end
section
open Go.ChangeShapes Go.WideShapes Go.ChangeAt Go.RowKit Go.Deep Go.Maps
theorem jgo {L:List Ke}{x:Ke}(h:L.length<=8):(jcz L x).length<=8:=by
 unfold jcz jeS
 split
 ·split
  ·simp;omega
  ·simp;omega
 ·exact h
theorem jbF (pk:List UInt8) (k:List UInt8):∀ (xs:List (List UInt8)) (L:List Ke) (p n:Int),yP pk L p n (xs++ [k])=(jcz (yP pk L p n xs).1 ⟨pk,n+xs.length,k,(yP pk L p n xs).2⟩,jdw (yP pk L p n xs).1 (yP pk L p n xs).2 pk (n+xs.length))
 | [],L,p,n=>by simp [yP]
 | x::xs,L,p,n=>by
   rw [List.cons_append,yP,yP,jbF pk k xs];rw [show n+1+((xs.length:Nat):Int)=n+(((x::xs).length:Nat):Int) by rw [List.length_cons];omega]
theorem jaF (pk:List UInt8):∀ (xs:List (List UInt8)) (L:List Ke) (p n:Int),L.length<=8->(yP pk L p n xs).1.length<=8
 | [],_,_,_,h=>h
 | _::xs,_,_,_,h=>jaF pk xs _ _ _ (jgo h)
theorem jjx (L:List Ke) (p:Int) (pk:List UInt8) (n:Int):p<=jdw L p pk n/\jdw L p pk n<=p+1:=by
 unfold jdw;split <;> omega
theorem jcy (pk:List UInt8):∀ (xs:List (List UInt8)) (L:List Ke) (p n:Int),p<=(yP pk L p n xs).2/\(yP pk L p n xs).2<=p+xs.length
 | [],_,p,_=>by simp [yP]
 | x::xs,L,p,n=>by
   have h:=jcy pk xs (jcz L ⟨pk,n,x,p⟩) (jdw L p pk n) (n+1);have h2:=jjx L p pk n;rw [yP];rw [List.length_cons];omega
def P3 (g kp mb i:Nat):Prop:=i=g\/i=kp\/i=mb
theorem Sq.ne_sk {w:World}{g kp kq mb:Nat}{s:Rt}{q:List Value}{L:List Ke}{p:Int}(h:Sq w g 114 s kq q) (k:SK w kp mb L p):g≠kp/\g≠mb:=by
 refine ⟨zt h k.cb (by decide),fun e=> ?_⟩;obtain ⟨es,c,z⟩:=k.mp.obj;unfold Sq Cb at h;rw [e,z] at h
 cases h
theorem Kl.keep {w w':World}{A:Option Addr}{n:Nat}{l:List (List UInt8)}(h:Kl w A n l) (e:∀ b,0 < n->A=some ⟨b,0,none⟩->b < w.heap.size->w'.heap[b]? =w.heap[b]?) (hs:w.heap.size<=w'.heap.size):Kl w' A n l:=
 ⟨h.1,h.2.1,fun h0=>by
   obtain ⟨b,q,hb,hc⟩:=h.2.2 h0;exact ⟨b,q,jpq hb hs,fun j hj i v hv=>(World.cell?_of_block (e b h0 q hb)).trans (hc j hj i v hv)⟩⟩
def wkL (s:Rt) (up:Int):List (List UInt8):=if qO s up=0 then Y2 s.rc (Jf s up).toNat else []
def wkC (s:Rt) (up:Int):List UInt8:=if qO s up=0 then Yg s.rc (Jf s up).toNat else jqn 32 0
theorem jiM {w:World}{s:Rt}(ok:s.ok) (up:Int){tg:jpC×Nat×Nat}(hG:Gl w tg):Calls jpx 120 #[.agg (cellsOf s.rc).toArray, .int .i64 (up - s.rm)] w (YQ (wkL s up) (wkC s up) (qO s up) w):=by
 unfold wkL wkC;by_cases h:Jf s up < 0\/8 < Jf s up
 ·have e:qO s up=6:=if_pos h;rw [e];exact jiJ h
 ·have e:qO s up=0:=if_neg h;rw [e];have hm:(up - s.rm)=(((Jf s up).toNat:Nat):Int):=by unfold Jf at *;omega
  rw [hm];exact jfi ok.rc (by omega) hG
theorem jkQ (s:Rt) (up:Int):(wkL s up).length<=8/\(∀ x∈wkL s up,x.length=32):=by
 unfold wkL
 split
 ·rename_i h
  refine ⟨?_,fun x hx=> ?_⟩
  ·rw [jdl];unfold qO at h
   split at h
   ·cases h
   ·omega
  ·simp only [Y2,jpN] at hx;obtain ⟨_,_,rfl⟩:=hx;exact jR _ _
 ·exact ⟨by simp,fun x hx=>by cases hx⟩
theorem jjP {s:Rt}(ok:s.ok) (up:Int):(wkC s up).length=32:=by
 unfold wkC
 split
 ·exact Jn ok.rc _
 ·rfl
theorem yu (t:Rz) (up:Int):(qO t.s up≠0->jX t up=t)/\(qO t.s up=0->jX t up=⟨{t.s with rc:=wkC t.s up,rm:=up},(yP t.s.ot t.L t.puts t.s.rm (wkL t.s up)).1,(yP t.s.ot t.L t.puts t.s.rm (wkL t.s up)).2⟩):=by
 refine ⟨fun h=>by unfold jX;rw [if_neg h],fun h=> ?_⟩;unfold jX wkC wkL;rw [if_pos h,if_pos h,if_pos h]
theorem jdL {w:World}{g kp mb:Nat}{t:Rz}{q:List Value}{up:Int}(h:Sq w g 114 t.s kp q) (hk:SK w kp mb t.L t.puts) (ok:t.s.ok) (l8:t.L.length<=8) (hp:t.puts<=4000000000000000000) (hu:0<=up/\up<=1000000){tg:jpC×Nat×Nat}(hG:Gl w tg):
 Calls jpx 90 #[.pointer (some ⟨g,0,none⟩), .int .i64 up] w fun e w'=>e= .returned (.int .i64 (qO t.s up))/\Sq w' g 114 (jX t up).s kp q/\SK w' kp mb (jX t up).L (jX t up).puts/\Ot (P3 g kp mb) w w':=by
 obtain ⟨s,L0,p0⟩:=t;dsimp only at *;obtain ⟨nk,nm⟩:=h.ne_sk hk;have nkm:=hk.ne;have orm:=ok.rm;have WK:Hid (∀ W,Ext w W->Calls jpx 120 #[.agg (cellsOf s.rc).toArray, .int .i64 (up - s.rm)] W (YQ (wkL s up) (wkC s up) (qO s up) W)):=fun W e=>jiM ok up (hG.kept e hG.lt)
 obtain ⟨S0,S1⟩:=yu ⟨s,L0,p0⟩ up;dsimp only at S0 S1;obtain ⟨wl8,wl32⟩:=jkQ s up;have L_c:=jjP ok up;replace S0:=Hj S0;replace S1:=Hj S1;obtain ⟨er,her⟩:∃ x,x=qO s up:=⟨_,rfl⟩;obtain ⟨TT,hTT⟩:∃ x,x=jX ⟨s,L0,p0⟩ up:=⟨_,rfl⟩;rw [<-her] at WK S0 S1 ⊢;rw [<-hTT] at S0 S1 ⊢;clear her hTT;generalize wkL s up=ks at *;generalize wkC s up=lc at *;have S_lc:(cellsOf lc).toArray.size=32:=by simp [ja,L_c]
 have O_lc:=ji lc;have hal:∀ w,(jpI 23).run jpx w= .ok (.agg (cellsOf (jqn 32 0)).toArray) w:=fun w=>by rw [jU];exact j2 w
 have L_zk:(jqn 32 (0:UInt8)).length=32:=rfl;generalize jqn 32 (0:UInt8)=zk at *;have S_zk:(cellsOf zk).toArray.size=32:=by simp [ja,L_zk]
 have u1:IntKind.i64.wrap (up - s.rm)=up - s.rm:=jq0 _ (by omega);have C_rc:(cellsOf s.rc).length=32:=by rw [ja,ok.rc]
 have C_ot:(cellsOf s.ot).length=32:=by rw [ja,ok.ot]
 have gl:=h.lt;have kl:=hk.cb.lt;have ml:=hk.mp.lt;have P0:Hid (∀ u,Below w.heap.size w u->Sq u g 114 s kp q/\SK u kp mb L0 p0/\Ext w u):=fun u x=>⟨h.ext x,hk.ext x,x⟩
 have RC:Hid (∀ u,Below w.heap.size w u->(∀ j v,(cellsOf s.rc)[j]? =some v->u.cell? ⟨g,166+j,none⟩=some v)):=fun u x=>(P0.out u x).1.at_rc ok
 have RM:Hid (∀ u,Below w.heap.size w u->u.cell? ⟨g,198,none⟩=some (.int .i64 s.rm)):=fun u x=>(P0.out u x).1.rm ok
 clear h hk hG;go_enter Tryz.func90,Tryz.ntmps90
 go_upto_region 1 with fail;go_cut [5,6,7] (fun s5 s6 s7 wx=>∃ (A:Option Addr) (c g6:Nat),s5= .slice A ks.length c/\s6= .pointer (some ⟨g6,0,none⟩)/\s7= .int .i64 er/\(Kl wx A ks.length ks/\ks.length<=c/\c<=9223372036854775807/\∀ b,A=some ⟨b,0,none⟩->w.heap.size<=b)/\Below w.heap.size w wx/\wx.heap[g6]? =some (.cells (cellsOf lc).toArray 23 (0,0))/\w.heap.size<=g6)
 case first=>
  refine qgT (R:=Below w.heap.size) (jpm _) (fun _ _ _=>jpn) (.rd 0 (.rd 1 (.rd 2 (.rd 3 (.rd 4 (.rd 5 (.rd 6 (.rd 7 (.rd 8 (.rd 9 (.rd 10 (.rd 11 (.alt 12 (.rd 13 (.rd 14 (.rd 15 (.rd 16 (.alt 17 (.rd 18 (.alt 19 (.rd 20 .nil) .stop)) .stop))))) (.alt 17 (.alt 12 (.rd 13 (.rd 14 (.rd 15 (.rd 16 (.rd 18 (.alt 19 (.rd 20 .nil) .stop)))))) .stop) .stop)))))))))))))) 21 ?_;repeat ((first | refine vN ?_ | refine qtS ?_);go_frame)
  refine qtV rfl (fun w'=>∀ q_ v,(cellsOf s.rc)[q_]? =some v->w'.cell? ⟨g,166+q_,none⟩=some v) (fun w' e=>RC.out w' (Ext.trans (jnQ _).drew e)) (.agg (cellsOf s.rc).toArray) (fun w' hF=>jy rfl rfl hF rfl rfl (by rw [C_rc];rfl)) ?_;go_frame
  repeat ((first | refine qtR _ (fun w' e=>RM.out w' (Ext.trans (jnQ _).drew e)) ?_ | refine qtS ?_);go_frame)
  have SE:Hid (Ext w w.drew):=(jnQ w).drew;generalize w.drew=WC at *;repeat' (first
   | exact yD
   | (refine qc (i:=12) _ rfl ?_ ?_ (fun K1 hK1=> ?_)
      (·rfl)
      rotate_left;go_simp;refine (WK.out WC SE.out).mono ?_;rintro e0 WC ⟨AW,cW,rfl,KLr,kc1,kc2,e,KBr⟩;refine hK1.out _ _ (e.mono SE.out.size) ?_;clear hK1 K1;have KL:=Hj KLr;clear KLr;have KB:Hid (∀ b,AW=some ⟨b,0,none⟩->w.heap.size<=b):=fun b q=>jp0 SE.out.size (KBr b q)
      (try have NB:0 < ks.length->AW=some ⟨g6,0,none⟩->False:=fun _ q=>by have:=KBr g6 q;have:=jh hL.out;omega);(try replace hL:=Hj ((e.block _ (jh hL.out)).trans hL.out));replace SE:=Hj (SE.out.trans e);clear e KBr;(try go_frame);repeat ((first | refine vN ?_ | refine qtS ?_);go_frame)
      skip)
   | (refine qc (i:=17) _ rfl ?_ ?_ (fun K1 hK1=> ?_)
      (·rfl)
      rotate_left;go_simp;have e:Ext WC (WC.alloc (jqY (cellsOf zk).toArray 23)):=(jnQ WC).alloc _;obtain ⟨g6,hgL⟩:∃ g,g=WC.heap.size:=⟨_,rfl⟩;have hL:=Hj (jqq WC (jqY (cellsOf zk).toArray 23));rw [<-hgL] at hL ⊢;have z_g6:w.heap.size<=g6:=by rw [hgL];exact SE.out.size
      refine hK1.out _ _ (e.mono SE.out.size) ?_;clear hK1 K1;replace hgL:=Hj hgL;(try have NB:0 < ks.length->AW=some ⟨g6,0,none⟩->False:=fun h0 q=>by obtain ⟨b,q2,hb,_⟩:=KL.out.2.2 h0;rw [q] at q2;injection q2 with q2;injection q2 with q2;have:=hgL.out;omega);(try replace KL:=Hj (KL.out.ext e));replace SE:=Hj (SE.out.trans e);clear e;generalize WC.alloc (jqY (cellsOf zk).toArray 23)=WC at *;(try go_frame);repeat ((first | refine vN ?_ | refine qtS ?_);go_frame)
      skip)
   | (refine qc (i:=19) _ rfl ?_ ?_ (fun K1 hK1=> ?_)
      (·rfl)
      rotate_left;refine jrf _ _ _ rfl g6 (cellsOf lc).toArray rfl rfl 23 (cellsOf zk).toArray hL.out (by rw [S_lc];rfl) (by rw [S_lc];exact S_zk) O_lc ?_;refine hK1.out _ _ (jqb (jpm _ _) z_g6 _) ?_;clear hK1 K1;replace SE:Hid (Below w.heap.size w (WC.setRow g6 (cellsOf lc).toArray)):=jqb SE.out z_g6 _;replace hL:Hid ((WC.setRow g6 (cellsOf lc).toArray).heap[g6]? =some (.cells (cellsOf lc).toArray 23 (0,0))):=jqc _ _ _ _ _ _ hL.out;(try replace KL:=Hj (KL.out.keep (w':=WC.setRow g6 (cellsOf lc).toArray) (fun b h0 q _=>jqy _ _ _ _ (fun z=>by subst z;exact NB h0 q)) (by simp)));generalize WC.setRow g6 (cellsOf lc).toArray=WC at *;(try simp only [jpR]);repeat ((first | refine vN ?_ | refine qtS ?_);go_frame)
      skip)
   | (refine yC ?_
      go_wp2_with fail;go_meet
      exact ⟨AW,cW,g6,rfl,rfl,rfl,⟨KL.out,kc1,kc2,KB.out⟩,SE.out,hL.out,z_g6⟩))
 case rest=>
  obtain ⟨A,c,g6,rfl,rfl,rfl,⟨kl_,kc1,kc2,kb⟩,b6,k6,z6⟩:=hcut;obtain ⟨hS,hK,xw⟩:=P0.out wc b6;clear P0 RC RM WK;by_cases he:er=0
  ·replace S1:=Hj (S1.out he);subst he;have AP:=Hj (fun (j:Nat) (k:List UInt8) (e:ks.take (j+1)=ks.take j++ [k])=>by
    have:=jbF s.ot k (ks.take j) L0 p0 s.rm;rw [<-e] at this;exact this)
   have AL:=Hj (fun j=>jaF s.ot (ks.take j) L0 p0 s.rm l8);have AU:=Hj (fun j=>jcy s.ot (ks.take j) L0 p0 s.rm);have g6l:=jh k6;have w06:=b6.size;generalize hn:ks.length=n at *;have I0:Hid (Sq wc g 114 s kp q/\SK wc kp mb (yP s.ot L0 p0 s.rm (ks.take 0)).1 (yP s.ot L0 p0 s.rm (ks.take 0)).2/\Kl wc A n ks/\wc.heap[g6]? =some (.cells (cellsOf lc).toArray 23 (0,0))/\Ot (P3 g kp mb) w wc):=⟨hS,hK,kl_,k6,Ot.of_ext xw⟩;clear hS hK kl_ k6 xw S0;have wlen:w.heap.size<=wc.heap.size:=w06;replace hn:=Hj hn;go_wp2_with fail;go_loopw [32] (fun iv W=>∃ j:Nat,j<=n/\iv= .int .i64 (j:Int)/\Sq W g 114 s kp q/\SK W kp mb (yP s.ot L0 p0 s.rm (ks.take j)).1 (yP s.ot L0 p0 s.rm (ks.take j)).2/\Kl W A n ks/\W.heap[g6]? =some (.cells (cellsOf lc).toArray 23 (0,0))/\Ot (P3 g kp mb) w W) (fun iv _=>n - (intOf iv).toNat)
   case atStart=>exact ⟨0,jpp _,rfl,I0.out⟩
   case round=>
    clear I0;obtain ⟨j,hj,rfl,hS,hK,hL,h6,hO⟩:=hrel;by_cases hlt:j < n
    ·have d1:decide ((j:Int) < (n:Int))=true:=decide_eq_true (by omega);obtain ⟨b,rfl,hb,hc⟩:=hL.2.2 (by omega);have hc2:=Hj (hc j hlt);have bw:=kb b rfl;obtain ⟨kj,hkj⟩:∃ k,k=ks.getD j []:=⟨_,rfl⟩;rw [<-hkj] at hc2;have L_kj:kj.length=32:=hL.2.1 _ (by rw [hkj];have:=hL.1;simp [jpr,show j < ks.length by omega]);have TK:ks.take (j+1)=ks.take j++ [kj]:=by
      have:=hL.1;rw [jq6 (by omega),hkj];simp [jpr,show j < ks.length by omega]
     have EA:=AP.out j kj TK;have l8j:=AL.out j;have auj:=AU.out j;have ltk:(ks.take j).length=j:=by rw [jps];have:=hL.1;omega
     rw [ltk] at EA auj;have EB1:=congrArg Prod.fst EA;have EB2:=congrArg Prod.snd EA;dsimp only at EB1 EB2;replace EB1:=Hj (fun _:Unit=>EB1);replace EB2:=Hj (fun _:Unit=>EB2);clear EA TK hkj hc ltk;generalize (yP s.ot L0 p0 s.rm (ks.take j)).1=Lj at *;generalize (yP s.ot L0 p0 s.rm (ks.take j)).2=pj at *;have S_kj:(cellsOf kj).toArray.size=32:=by simp [ja,L_kj]
     have O_kj:=ji kj;have hc3:Hid (∀ i v,(cellsOf kj)[i]? =some v->wr.cell? ⟨b,j*32+i,none⟩=some v):=fun i v hv=>by rw [jqI];exact hc2.out i v hv
     have Y:Hid (Cb ((wr.alloc (.cells (cellsOf zk).toArray 23)).setRow wr.heap.size (cellsOf kj).toArray) wr.heap.size 23 (cellsOf kj)/\Ext wr ((wr.alloc (.cells (cellsOf zk).toArray 23)).setRow wr.heap.size (cellsOf kj).toArray)):=⟨Cb.set (Cb.new _ _ _),Ext.newRow _ _ _⟩;have I1:Hid (∀ u,Ext wr u->Sq u g 114 s kp q/\SK u kp mb Lj pj/\Kl u (some ⟨b,0,none⟩) n ks/\u.heap[g6]? =some (.cells (cellsOf lc).toArray 23 (0,0))/\Ot (P3 g kp mb) w u):=fun u x=>⟨hS.ext x,hK.ext x,hL.ext x,(x.block _ (jh h6)).trans h6,Ot.trans hO (Ot.of_ext x)⟩
     have osz:=hO.size;clear hS hK hL h6 hO hc2;go_upto_region 7 with (first
      | ((with_reducible refine jI (o:=⟨some 36,_,_,_,_,_⟩) (ty:=23) (g:=b) (off:=(j*32)) (ys:=cellsOf kj) ?_ rfl ?_ ?_ jqD ?_ ?_ ?_);(·rfl);(·rfl);(·exact hc3.out);(·rfl);(·rw [(ja _).trans L_kj];rfl);go_frame)
      | (refine ws_ rfl 23 rfl wr.heap.size (cellsOf kj).toArray rfl rfl (jqq _ _) (by rw [S_kj];rfl) (by rw [S_kj,S_zk]) O_kj ?_;simp only [jpR]))
     obtain ⟨r9,hr9⟩:∃ x,x=wr.heap.size:=⟨_,rfl⟩;refine jg (fun W=>Cb W wr.heap.size 23 (cellsOf kj)/\Ext wr W) Y.out ?_;rw [<-hr9];have w9:wr.heap.size<=r9:=jre hr9.symm;clear Y hc3;replace hr9:=Hj hr9;rintro w2 ⟨k9,x2⟩;have kw:kp < wr.heap.size:=by omega
     have mw:mb < wr.heap.size:=by omega
     have I2:Hid (∀ u,Two kp mb w2.drew u->Sq u g 114 s kp q/\Cb u r9 23 (cellsOf kj)/\Kl u (some ⟨b,0,none⟩) n ks/\u.heap[g6]? =some (.cells (cellsOf lc).toArray 23 (0,0))/\Ot (P3 g kp mb) w u):=fun u x=>by
      obtain ⟨a1,a2,a3,a4,a5⟩:=I1.out w2 x2;exact ⟨a1.keep (x.2.2.2.2 _ a1.lt nk nm),x.block k9 (by omega) (by omega),a3.keep (fun b' _ q hb'=>by
       injection q with q
       injection q with q
       exact x.2.2.2.2 _ hb' (by omega) (by omega)) x.2.2.2.1,x.block a4 (by omega) (by omega),Ot.trans a5 (Ot.of_two x (.inr (.inl rfl)) (.inr (.inr rfl)))⟩
     have K2:=(I1.out w2 x2).2.1;have hq9:pj<=4611686018427387904:=by omega
     have nj:IntKind.i64.wrap (s.rm+(j:Int))=s.rm+(j:Int):=jq0 _ (by omega);have PUT:=Hj (jfa (w:=w2.drew) (K2.ext (jnQ _).drew) ok.ot L_kj (n:=s.rm+(j:Int)) (by omega) l8j hq9);have F2:Hid (∀ u,Two kp mb w2.drew u->u.cell? ⟨g,199,none⟩=some (.pointer (some ⟨kp,0,none⟩))/\u.cell? ⟨g,198,none⟩=some (.int .i64 s.rm)):=fun u x=>⟨(I2.out u x).1.kpc ok,(I2.out u x).1.rm ok⟩
     have F3:Hid (∀ u,Two kp mb w2.drew u->∀ i v,(cellsOf s.ot)[i]? =some v->u.cell? ⟨g,97+i,none⟩=some v):=fun u x=>(I2.out u x).1.at_ot ok
     clear I1 K2 k9 x2;refine qgR (R:=Two kp mb) (Two.refl _ _) (fun _ _ _=>Two.trans) [0,1,2,3,4,5,6,7,8,9,10,11,12,13,14,15,16] [16] ?_;repeat ((first | refine qR _ (fun w' e=>(F2.out w' e)) ?_ | refine qS ?_);go_frame)
     refine qV rfl (fun w'=>∀ q_ v,(cellsOf s.ot)[q_]? =some v->w'.cell? ⟨g,97+q_,none⟩=some v) (fun w' e=>F3.out w' e) (.agg (cellsOf s.ot).toArray) (fun w' hF=>jy rfl rfl hF rfl rfl (by rw [C_ot];rfl)) ?_;go_frame
     repeat ((first | refine qR _ (fun w' e=>(F2.out w' e)) ?_ | refine qS ?_);go_frame)
     refine qV rfl (fun w'=>w'.heap[r9]? =some (.cells (cellsOf kj).toArray 23 (0,0))) (fun w' e=>(I2.out w' e).2.1) (.agg (cellsOf kj).toArray) (fun w' hF=>jd rfl rfl hF rfl rfl (by rw [S_kj];rfl)) ?_;go_frame
     repeat ((first | refine qR _ (fun w' e=>(F2.out w' e)) ?_ | refine qS ?_);go_frame)
     generalize w2.drew=V at *;refine qD fun K hK=> ?_
     go_simp;refine PUT.out.mono ?_;rintro e w4 ⟨rfl,⟨p4,_,_,h41,h42,s4⟩,t4⟩;refine hK.out _ _ t4 ?_;clear hK K;try go_frame
     have FIN:Hid (SK w4 kp mb (yP s.ot L0 p0 s.rm (ks.take (j+1))).1 (yP s.ot L0 p0 s.rm (ks.take (j+1))).2):=by
      rw [EB1.out (),EB2.out ()];have:p4=jdw Lj pj s.ot (s.rm+(j:Int)):=by
       unfold jdw;by_cases z:Jt Lj s.ot (s.rm+(j:Int))=0
       ·rw [if_pos z];exact h41 z
       ·rw [if_neg z];exact h42 z
      rw [<-this];exact s4
     have FIN2:=Hj (I2.out w4 t4);clear PUT F2 F3 I2 s4 t4 h41 h42 EB1 EB2 AP AL AU;repeat ((first | refine qR0 ?_ | refine qS ?_);go_frame)
     refine jp ?_;go_wp2_with fail;go_roundw
     case rel=>exact ⟨j+1,by omega,by go_num,FIN2.out.1,FIN.out,FIN2.out.2.2⟩
     case measure=>simp [intOf];omega
    ·obtain rfl:j=n:=by omega
     have d1:decide ((j:Int) < (j:Int))=false:=decide_eq_false (by omega);rw [show ks.take j=ks from jqm (jre hn.out)] at hK;have ok2:({s with rc:=lc}:Rt).ok:=⟨ok.root,ok.own,ok.ot,ok.sc,L_c,ok.sm,ok.bf,ok.rm⟩;have TH:=Hj (hS.there_rc ok);have A1:=Hj (hS.put_rc ok L_c);have osz:=hO.size;have KB2:Hid (∀ u,wr.grownBy u (some g)->SK u kp mb (yP s.ot L0 p0 s.rm ks).1 (yP s.ot L0 p0 s.rm ks).2/\Ot (P3 g kp mb) w u):=fun u x=>⟨hK.stay (x.block _ hK.cb.lt (fun z=>nk (jpD z).symm)) (x.block _ hK.mp.lt (fun z=>nm (jpD z).symm)),Ot.trans hO (Ot.of_grown x (.inl rfl))⟩
     replace h6:=Hj h6;clear hS hK hL hO AP AL AU;go_upto_region 10 with (first
      | ((with_reducible refine js (o:=⟨some 56,_,_,_,_,_⟩) ?_ 23 _ rfl g6 ?_ 23 (cellsOf lc).toArray (0,0) _ ?_ jqD ?_ ?_ ?_);(·rfl);(·rfl);(·exact h6.out);(·rfl);(·rw [S_lc];rfl);go_frame)
      | ((with_reducible refine jrj (op:=⟨none, .store 23 (.tmp 59) (.tmp 56),_,_,_,_⟩) ?_ 23 _ _ rfl g 166 (cellsOf lc).toArray ?_ ?_ ?_ ?_ ?_ ?_);(·rfl);(·rfl);(·rfl);(·rw [S_lc];exact TH.out);(·rw [S_lc];rfl);(·exact O_lc);go_frame))
     refine jg (fun W=>Sq W g 114 {s with rc:=lc} kp q/\SK W kp mb (yP s.ot L0 p0 s.rm ks).1 (yP s.ot L0 p0 s.rm ks).2/\Ot (P3 g kp mb) w W) ⟨A1.out,KB2.out _ ju⟩ ?_;clear A1 KB2 h6 TH;rintro w5 ⟨hS,hK,hO⟩;have c1:=hS.rm ok2;have z1:=hS.frozen 198;have A2:=Hj (hS.set_rm ok2 up);have F:Hid (SK (w5.setCell ⟨g,198,none⟩ (.int .i64 up)) kp mb (yP s.ot L0 p0 s.rm ks).1 (yP s.ot L0 p0 s.rm ks).2/\Ot (P3 g kp mb) w (w5.setCell ⟨g,198,none⟩ (.int .i64 up))):=⟨hK.stay (jP.block _ hK.cb.lt (fun z=>nk (jpD z).symm)) (jP.block _ hK.mp.lt (fun z=>nm (jpD z).symm)),Ot.trans hO (Ot.of_grown jP (.inl rfl))⟩;clear hS hK hO;go_wp2_with fail;go_ret;exact ⟨rfl,by rw [S1.out];exact A2.out,by rw [S1.out];exact F.out.1,F.out.2⟩
  ·replace S0:=S0.out he;have hbn:(er !=0)=true:=bne_iff_ne.2 he;have F:Hid (Sq wc g 114 TT.s kp q/\SK wc kp mb TT.L TT.puts/\Ot (P3 g kp mb) w wc):=by rw [S0];exact ⟨hS,hK,Ot.of_ext xw⟩
   clear S1 S0 hS hK kl_ k6 xw;go_wp2_with fail;go_ret;exact ⟨rfl,F.out⟩
theorem jdQ {A B:Option Addr}{n c m d:Nat}{ks bs cs:List UInt8}{w:World}(hk:ks.length=32) (h:Bs w A n c bs) (h':Bs w B m d cs) (hn:n<=1000000) (hm:m<=1000000){tg:jpC×Nat×Nat}(hG:Gl w tg):
 Calls jpx 89 #[.agg (cellsOf ks).toArray, .slice A n c, .slice B m d] w (JJ (J5 ks bs cs) (J4 ks bs cs) w):=by
 have lm:=h'.len;unfold J5 J4;rw [lm];by_cases h1:m < 32
 ·rw [if_pos h1,if_pos h1];exact jdp h h' h1
 ·rw [if_neg h1,if_neg h1];have:=jeM (q:=m - 32) hk h h' (by omega) hn hm rfl hG;by_cases h2:YI ks bs (cs.take (m - 32))=cs.drop (m - 32)
  ·rw [if_pos h2,if_pos h2];rw [decide_eq_true h2] at this;exact this
  ·rw [if_neg h2,if_neg h2];rw [decide_eq_false h2] at this;exact this
end
section
open Go.ChangeShapes Go.WideShapes Go.ChangeAt Go.RowKit Go.Deep
theorem jfT {W:World}{t:jpC}{A B:Option Addr}{n m c d:Nat}{xs ys:List UInt8}(h1:Bs W A n c xs) (h2:Bs W B m d ys):Rw (W.alloc (.cells #[.slice A n c, .slice B m d] t)) (some ⟨W.heap.size,0,none⟩) 2 2 [xs,ys]:=by
 have e:Ext W (W.alloc (.cells #[.slice A n c, .slice B m d] t)):=(jnQ W).alloc _;refine ⟨rfl,jpo _,by unfold maxLen;omega,fun _=>⟨_,0,rfl,by rw [je];omega,fun j hj=> ?_⟩⟩;rw [jqe _ _ _ _ _ (0,0) (jqq _ _)]
 match j with
 | 0=>exact ⟨A,n,c,rfl,h1.ext e⟩
 | 1=>exact ⟨B,m,d,rfl,h2.ext e⟩
 | j+2=>omega
end
section
open Go.ChangeShapes Go.WideShapes Go.ChangeAt Go.RowKit Go.Deep Go.Maps
def jo4 (p n:Int):Int:=if okH p n then 0 else 1
def yF (bs pk:List UInt8) (p n:Int):List UInt8:=if okH p n then qb bs pk p n else []
theorem QH {p n:Int}(h:okH p n=true):∃ a b:Nat,p=(a:Int)/\n=(b:Int)/\a<=1000000/\b<=1000000:=by
 unfold okH upB at h;simp only [jpK,decide_eq_true_eq] at h;exact ⟨p.toNat,n.toNat,by omega,by omega,by omega,by omega⟩
theorem Zf (xs ys:List UInt8):(qz [xs,ys]).length=8+xs.length+ys.length:=by
 simp [qz,jaM];omega
theorem jga (bs:List UInt8){pk:List UInt8}(h:pk.length=32) (p n:Int):(qb bs pk p n).length=48+bs.length:=by
 unfold qb;rw [Zf,Zd h];omega
theorem JN (bs:List UInt8){pk:List UInt8}(h:pk.length=32) (p n:Int):(yF bs pk p n).length<=48+bs.length:=by
 unfold yF
 split
 ·rw [jga bs h];exact jpo _
 ·exact jpp _
theorem jem {w:World}{A:Option Addr}{m c:Nat}{bs pk:List UInt8}{p n:Int}(h:Bs w A m c bs) (hm:m<=1000000) (lp:pk.length=32):
 Calls jpx 45 #[.slice A m c, .agg (hdC pk p n).toArray] w (YP (yF bs pk p n) (jo4 p n) w):=by
 have L_h:=yz lp p n;rcases hk:okH p n with _ | _
 ·have HB:Hid (∀ W,Calls jpx 78 #[.agg (hdC pk p n).toArray] W fun e w'=>e= .returned (.tuple #[.slice none 0 0, .int .i64 1])/\Ext W w'):=fun W=>Qc lp hk
  have F:yF bs pk p n= []/\jo4 p n=1:=by unfold yF jo4;rw [hk];exact ⟨rfl,rfl⟩
  rw [F.1,F.2];clear F hk;generalize hdC pk p n=hd at *;have S_h:hd.toArray.size=34:=by rw [jqu,L_h]
  obtain ⟨r,hr⟩:=ex_ w.heap.size;have B0:Hid (Cb (w.alloc (.cells hd.toArray 47)) r 47 hd/\Ext w (w.alloc (.cells hd.toArray 47))):=by rw [hr];exact ⟨Cb.new _ _ _,(jnQ w).alloc _⟩
  go_enter Tryz.func45,Tryz.ntmps45
  go_upto_region 1 with fail;refine jg (fun W=>Cb W r 47 hd/\Ext w W) B0.out ?_;rw [<-hr];clear B0;replace hr:=Hj hr;rintro w0 ⟨k0,x0⟩;replace k0:=Hj k0;replace x0:=Hj x0;go_wp2_with (first | ((with_reducible refine js (o:=⟨some 9,_,_,_,_,_⟩) ?_ 47 _ rfl r ?_ 47 hd.toArray (0,0) _ ?_ jrm ?_ ?_ ?_);(·rfl);(·rfl);(·exact k0.out);(·rfl);(·rw [S_h];rfl);go_frame))
  refine (HB.out _).mono ?_;rintro e w1 ⟨rfl,x1⟩;have F:=Hj (x0.out.trans x1);clear HB x0 k0 x1;go_wp2_with fail;go_ret2;exact ⟨none,0,0,rfl,Bs.nil _,F.out⟩
 ·obtain ⟨a,b,rfl,rfl,ha,hb⟩:=QH hk;have HB:Hid (∀ W,Calls jpx 78 #[.agg (hdC pk (a:Int) (b:Int)).toArray] W (YP (zq pk a b) 0 W)):=fun W=>QF lp ha hb
  have F:yF bs pk a b=qz [bs,zq pk a b]/\jo4 a b=0:=by unfold yF jo4 qb;rw [hk];exact ⟨rfl,rfl⟩
  rw [F.1,F.2];clear F hk;have JL:(qz [bs,zq pk a b]).length<=100000000:=by rw [Zf,Zd lp,h.len];omega
  have JO:Hid (∀ (W:World) (C:Option Addr),Rw W C 2 2 [bs,zq pk a b]->Calls jpx 79 #[.slice C 2 2] W (Qw (qz [bs,zq pk a b]) W)):=fun W C r=>jam r JL
  clear JL;generalize zq pk (a:Nat) b=HL at *;generalize hdC pk (a:Int) (b:Int)=hd at *;have S_h:hd.toArray.size=34:=by rw [jqu,L_h]
  obtain ⟨r,hr⟩:=ex_ w.heap.size;have B0:Hid (Cb (w.alloc (.cells hd.toArray 47)) r 47 hd/\Ext w (w.alloc (.cells hd.toArray 47))):=by rw [hr];exact ⟨Cb.new _ _ _,(jnQ w).alloc _⟩
  replace h:=Hj h;go_enter Tryz.func45,Tryz.ntmps45
  go_upto_region 1 with fail;refine jg (fun W=>Cb W r 47 hd/\Ext w W) B0.out ?_;rw [<-hr];clear B0;replace hr:=Hj hr;rintro w0 ⟨k0,x0⟩;replace k0:=Hj k0;replace x0:=Hj x0;go_wp2_with (first | ((with_reducible refine js (o:=⟨some 9,_,_,_,_,_⟩) ?_ 47 _ rfl r ?_ 47 hd.toArray (0,0) _ ?_ jrm ?_ ?_ ?_);(·rfl);(·rfl);(·exact k0.out);(·rfl);(·rw [S_h];rfl);go_frame))
  refine (HB.out _).mono ?_;rintro e w1 ⟨A1,n1,c1,rfl,b1,x1⟩;have x2:=Hj (x0.out.trans x1);have R1:=Hj (jfT (t:=33) (h.out.ext x2.out) b1);have J1:=Hj (JO.out _ _ R1.out);have x3:=Hj (x2.out.alloc (.cells #[.slice A m c, .slice A1 n1 c1] 33));clear HB x0 k0 x1 b1 JO R1 x2;go_wp2_with fail;refine J1.out.mono ?_;rintro e w3 ⟨A3,n3,c3,rfl,b3,x4⟩;have F:=Hj (x3.out.trans x4);replace b3:=Hj b3;clear J1 x3 x4;go_wp2_with fail;go_ret2;exact ⟨A3,n3,c3,rfl,b3.out,F.out⟩
end
section
open Go.ChangeShapes Go.WideShapes Go.ChangeAt Go.RowKit Go.Deep
def Tq (B g b:Nat) (a c:World):Prop:=c.os=a.os/\c.tape=a.tape/\c.output=a.output/\a.heap.size<=c.heap.size/\∀ i,i < B->i≠g->i≠b->c.heap[i]? =a.heap[i]?
theorem Tq.refl (B g b:Nat) (w:World):Tq B g b w w:=⟨rfl,rfl,rfl,jpo _,fun _ _ _ _=>rfl⟩
theorem Tq.trans {B g b:Nat}{x y z:World}(h:Tq B g b x y) (k:Tq B g b y z):Tq B g b x z:=
 ⟨k.1.trans h.1,k.2.1.trans h.2.1,k.2.2.1.trans h.2.2.1,jp0 h.2.2.2.1 k.2.2.2.1,fun i hi h1 h2=>(k.2.2.2.2 i hi h1 h2).trans (h.2.2.2.2 i hi h1 h2)⟩
theorem Tq.of_two {B g b:Nat}{x y:World}(h:Two g b x y) (hB:B<=x.heap.size):Tq B g b x y:=⟨h.1,h.2.1,h.2.2.1,h.2.2.2.1,fun i hi h1 h2=>h.2.2.2.2 i (jpq hi hB) h1 h2⟩
theorem Tq.of_ext {B g b:Nat}{x y:World}(h:Ext x y) (hB:B<=x.heap.size):Tq B g b x y:=⟨h.os,h.tape,h.output,h.size,fun i hi _ _=>h.block i (jpq hi hB)⟩
theorem Tq.row {B g b r:Nat}(x:World) (C:Array Value) (hr:B<=r):Tq B g b x (x.setRow r C):=⟨rfl,rfl,rfl,by simp,fun i hi _ _=>jqy _ _ _ _ (by omega)⟩
theorem Tq.block {B g b i:Nat}{x y:World}(k:Tq B g b x y){o:Obj}(h:x.heap[i]? =some o) (hi:i < B) (h1:i≠g) (h2:i≠b):y.heap[i]? =some o:=(k.2.2.2.2 i hi h1 h2).trans h
end
end Go.Proofs.YtakpgbaijkhpmaaGreatDoor
