import Derived.Test.YtakpgbaijkhpmaaGreatDoorPkAG
import Derived.Test.YtakpgbaijkhpmaaGreatDoorPkAI
import Derived.Test.YtakpgbaijkhpmaaGreatDoorPkAA
open Go renaming TypeId→joE,below_setRow→jpd,bodyPost_ret→jnV,heap_alloc_new→jps,results_cell_row→jnW,setRow_heap→jpe,wp_store_row→joe,zeroValue→joK
open Go.Act renaming put→joT
open Go.Exit renaming inBlock→jnU
open Go.Obj renaming cells→jnX
open Go.Proofs.Tryz renaming prog→joz
open List renaming length_append→joI,map_cons→jpC,map_nil→jpH,map_toArray→jpG,replicate→jpp
open Nat renaming div_div_eq_div_mul→jpS,le_refl→joq,mod_eq_of_lt→jpO,mul_comm→jpK,pow_succ→jpP,zero_le→jor
open Option.some renaming inj→joF
namespace Go.Proofs.YtakpgbaijkhpmaaGreatDoor
set_option maxHeartbeats 64000000
set_option linter.unusedSimpArgs false
set_option linter.unusedVariables false
set_option maxRecDepth 100000
section
open Go.ChangeShapes Go.WideShapes Go.ChangeAt Go.RowKit Go.Deep
theorem jdh {w:World}{A:Option Addr}{n c:Nat}{xs:List UInt8}(h:Bs w A n c xs){tg tp:joE×Nat×Nat}(hG:Gl w tg) (hP:Gp w tp):
 Calls joz 133 #[.slice A n c] w fun e w'=>e= .returned (.agg (cellsOf (j3 xs)).toArray)∧Ext w w':=by
 have SUM:Hid (∀ W,Ext w W→Calls joz 156 #[.slice A n c] W fun e w'=>e= .returned (.agg (cellsOf (jC [] xs)).toArray)∧Ext W w'):=fun W e=>jbL (h.ext e) (hG.ext e)
 have BAS:Hid (∀ W,Ext w W→Calls joz 157 #[.agg (cellsOf (jC [] xs)).toArray] W fun e w'=>e= .returned (.agg (cellsOf (kL (jY (jC [] xs) 9))).toArray)∧Ext W w'):=fun W e=>jee (qr _ _) (hP.ext e)
 have BLT:=Hj (Zv (qr [] xs) (zx (jY (jC [] xs) 9)))
 have RLe:=yU xs
 have hR_:Hid (jC [] xs++kL (jY (jC [] xs) 9)=j3 xs):=rfl
 rw [hR_.out] at BLT
 clear hP hG
 have L_sk:=qr [] xs
 have L_pk:=zx (jY (jC [] xs) 9)
 clear hR_
 generalize kL (jY (jC [] xs) 9)=pk at *
 generalize jC [] xs=sk at *
 generalize j3 xs=rr at *
 have S_sk:(cellsOf sk).toArray.size=32:=by simp [ja,L_sk]
 have O_sk:=ji sk
 have S_rr:(cellsOf rr).toArray.size=64:=by simp [ja,RLe]
 have O_rr:=ji rr
 have hal:∀ w,(joK 23).run joz w= .ok (.agg (cellsOf (jpp 32 0)).toArray) w:=fun w=>by rw [jU];exact j2 w
 have hal2:=yS
 have L_zk:(jpp 32 (0:UInt8)).length=32:=rfl
 have L_zp:(jpp 64 (0:UInt8)).length=64:=by simp
 generalize jpp 32 (0:UInt8)=zk at *
 generalize jpp 64 (0:UInt8)=zp at *
 have S_zk:(cellsOf zk).toArray.size=32:=by simp [ja,L_zk]
 have S_zp:(cellsOf zp).toArray.size=64:=by simp [ja,L_zp]
 have B0:Hid (Kp (w.alloc (jnX (cellsOf zp).toArray 31)) w.heap.size zp∧Ext w (w.alloc (jnX (cellsOf zp).toArray 31))):=⟨⟨jps _ _,L_zp⟩,(jnQ w).alloc _⟩
 go_enter Tryz.func133,Tryz.ntmps133
 go_wp2_with fail
 refine (SUM.out _ B0.out.2).mono ?_
 rintro e u_ ⟨rfl,e1⟩
 have a1:Hid ((u_.alloc (jnX (cellsOf zk).toArray 23)).heap[u_.heap.size]? =some (.cells (cellsOf zk).toArray 23 (0,0))):=jps _ _
 have E_:Ext (w.alloc (jnX (cellsOf zp).toArray 31)) ((u_.alloc (jnX (cellsOf zk).toArray 23)).setRow u_.heap.size (cellsOf sk).toArray):=e1.trans (jpd ((jnQ u_).alloc _) (joq _) _)
 go_upto_region 2 with (refine ws_ rfl 23 rfl u_.heap.size (cellsOf sk).toArray rfl rfl a1.out (by rw [S_sk];rfl) (by rw [S_sk,S_zk]) O_sk ?_;simp only [joT])
 obtain ⟨g3,hg_⟩:∃ g,g=u_.heap.size:=⟨_,rfl⟩
 obtain ⟨r,hr_⟩:=ex_ w.heap.size
 refine jg (fun W=>Ky W g3 sk∧Kp W r zp∧Ext w W) ⟨⟨by rw [hg_];exact jpe _ _ _ _ _ _ a1.out,L_sk⟩,by rw [hr_];exact B0.out.1.ext E_,B0.out.2.trans E_⟩ ?_
 rw [←hg_,←hr_]
 replace hr_:=Hj hr_
 clear hg_ a1 E_ e1 B0 SUM
 rintro w1 ⟨k1,p1,x1⟩
 have Q1:Hid (∀ s,Ext w1 s→Ky s g3 sk∧Kp s r zp∧Ext w s):=fun s e=>⟨k1.ext e,p1.ext e,x1.trans e⟩
 clear k1 p1 x1
 refine qgF (R:=Ext) jnQ (fun _ _ _=>Ext.trans) [0,1,2,3] [4] [0,0,2,7,15] [true,true,true,true,false] ?_
 refine jq (fun _=>jnQ _) _ rfl (v:= .agg (cellsOf sk).toArray) (d:=7) rfl rfl ?_ ?_
 ·intro a_ w_ hev hR hk
  have e3:a_.eval (.tmp 3)=_:=hk 3 rfl
  exact (jd rfl e3 (Q1.out w_ (Ext.trans (jnQ _).drew hR)).1.1 rfl rfl (by rw [S_sk];rfl))
 refine jq (fun _=>jnQ _) _ rfl (v:= .agg (cellsOf sk).toArray) (d:=8) rfl rfl ?_ ?_
 ·intro a_ w_ hev hR hk
  have e3:a_.eval (.tmp 3)=_:=hk 3 rfl
  exact (jd rfl e3 (Q1.out w_ (Ext.trans (jnQ _).drew hR)).1.1 rfl rfl (by rw [S_sk];rfl))
 refine jx _ rfl (fun u _=>u= .agg (cellsOf pk).toArray) (d:=9) rfl (fun _ _ _ h _=>h) rfl ?_ ?_
 ·intro a_ w_ hev hR hk K1 hK1
  have e7:a_.eval (.tmp 7)=_:=hk 7 rfl
  clear hk
  have f7:=jz.trans e7
  go_simp
  refine (BAS.out _ (Q1.out w_ (Ext.trans (jnQ _).drew hR)).2.2).mono ?_
  rintro e_ w2_ ⟨rfl,x_⟩
  exact hK1.out _ _ x_ rfl
 refine jq (fun _=>jnQ _) _ rfl (v:= .agg (cellsOf rr).toArray) (d:=10) rfl rfl ?_ ?_
 ·intro a_ w_ hev hR hk
  have e6:a_.eval (.tmp 6)=_:=hk 6 rfl
  have e8:a_.eval (.tmp 8)=_:=hk 8 rfl
  exact (qe rfl (by simp only [jpG,jpC,jpH,e6,e8];exact BLT.out))
 intro v_ w2 hR hV_ hN_
 obtain ⟨hv3,hv2,hv1,hv0,_⟩:=hV_
 replace hv0:v_ 0=_:=hv0
 replace hv1:v_ 1=_:=hv1
 replace hv2:v_ 2=_:=hv2
 replace hv3:v_ 3=_:=hv3
 dsimp only [yQ,zv]
 clear hN_
 rw [hv0,hv1,hv2,hv3]
 go_frame
 clear hv0 hv1 hv2 hv3
 have kz:=Hj (Q1.out w2 ((jnQ _).drew.trans hR)).2
 refine qi (z:=4) _ rfl rfl (by kernel_rfl) ?_
 intro K1 hK1
 refine joe _ _ _ rfl r (cellsOf rr).toArray rfl rfl 31 (cellsOf zp).toArray kz.out.1.1 (by rw [S_rr];rfl) (by rw [S_rr,S_zp]) O_rr ?_
 refine hK1.out _ _ ?_
 clear hK1 K1
 refine qT (by kernel_rfl) ?_
 clear hR Q1
 go_wp2_with fail
 (try simp only [jnU,Exit.then])
 refine jnV (jnW rfl _ _ r 31 (cellsOf rr).toArray (0,0) _ rfl (jpe _ _ _ _ _ _ kz.out.1.1) rfl rfl (by rw [S_rr];rfl)) rfl ?_
 exact ⟨rfl,jpd kz.out.2 (by rw [hr_.out];exact joq _) _⟩
theorem jcv {w:World}{lo g k:Nat}{xs:List UInt8}(h:SrcSt w lo g xs k) (hk:k < 1000000){tg tp:joE×Nat×Nat}(hG:Gl w tg) (hP:Gp w tp) (hq:1 < lo):
 Calls joz 109 #[.func (.func 110) #[.pointer (some ⟨g,0,none⟩)] #[]] w fun e w'=>e= .returned (.agg (cellsOf (j3 (jO xs k))).toArray)∧w.grownBy w' (some g)∧SrcSt w' lo g xs (k+1):=by
 have hal:∀ w,(joK 23).run joz w= .ok (.agg (cellsOf (jpp 32 0)).toArray) w:=fun w=>by rw [jU];exact j2 w
 have hal2:=yS
 have L_zk:(jpp 32 (0:UInt8)).length=32:=rfl
 have L_zp:(jpp 64 (0:UInt8)).length=64:=by simp
 generalize jpp 32 (0:UInt8)=zk at *
 generalize jpp 64 (0:UInt8)=zp at *
 have S_zk:(cellsOf zk).toArray.size=32:=by simp [ja,L_zk]
 have S_zp:(cellsOf zp).toArray.size=64:=by simp [ja,L_zp]
 have x0:Ext w (w.alloc (jnX (cellsOf zp).toArray 31)):=(jnQ w).alloc _
 have KE:=Hj (je1 (h.ext x0) hk (hG.ext x0))
 have gl:Hid (∀ W,(w.alloc (jnX (cellsOf zp).toArray 31)).grownBy W (some g)→Gl W tg∧Gp W tp∧Kp W w.heap.size zp∧w.grownBy W (some g)):=fun W e=>
  have hlo:=h.1
  ⟨(e.block _ (by rw [je];exact Nat.lt_succ_of_lt hG.lt) (fun q=>by have:=joF q;omega)).trans (hG.ext x0),
   (e.block _ (by rw [je];exact Nat.lt_succ_of_lt hP.lt) (fun q=>by have:=joF q;omega)).trans (hP.ext x0),
   ⟨zw e (by have:=h.lt;omega) (jps _ _),L_zp⟩,jt (jD x0) e⟩
 have glt:=h.lt
 have PA:Hid (∀ (W:World) (A:Option Addr) (m d:Nat),Gl W tg→Gp W tp→Bs W A m d (jO xs k)→Calls joz 133 #[.slice A m d] W fun e w'=>e= .returned (.agg (cellsOf (j3 (jO xs k))).toArray)∧Ext W w'):=fun W A m d h1 h2 hb=>jdh hb h1 h2
 clear h hG hP x0
 have L_rr:=yU (jO xs k)
 generalize j3 (jO xs k)=rr at *
 have L_dk:=jdX xs k
 generalize jO xs k=dk at *
 have S_dk:(cellsOf dk).toArray.size=32:=by simp [ja,L_dk]
 have O_dk:=ji dk
 have S_rr:(cellsOf rr).toArray.size=64:=by simp [ja,L_rr]
 have O_rr:=ji rr
 obtain ⟨r,hr_⟩:=ex_ w.heap.size
 go_enter Tryz.func109,Tryz.ntmps109
 go_wp2_with fail
 refine KE.out.mono ?_
 rintro e w1 ⟨rfl,g1,s1⟩
 obtain ⟨q1,q2,q3,q4⟩:=gl.out _ g1
 rw [←hr_] at q3 ⊢
 have a1:Hid ((w1.alloc (jnX (cellsOf zk).toArray 23)).heap[w1.heap.size]? =some (.cells (cellsOf zk).toArray 23 (0,0))):=jps _ _
 have E_:Ext w1 ((w1.alloc (jnX (cellsOf zk).toArray 23)).setRow w1.heap.size (cellsOf dk).toArray):=jpd ((jnQ w1).alloc _) (joq _) _
 replace hr_:=Hj hr_
 replace q3:=Hj q3
 go_upto_region 2 with (refine ws_ rfl 23 rfl w1.heap.size (cellsOf dk).toArray rfl rfl a1.out (by rw [S_dk];rfl) (by rw [S_dk,S_zk]) O_dk ?_;simp only [joT])
 obtain ⟨g3,hg_⟩:∃ g,g=w1.heap.size:=⟨_,rfl⟩
 refine jg (fun W=>Ky W g3 dk∧Kp W r zp∧Gl W tg∧Gp W tp∧w.grownBy W (some g)∧SrcSt W lo g xs (k+1)) ⟨⟨by rw [hg_];exact jpe _ _ _ _ _ _ a1.out,L_dk⟩,q3.out.ext E_,q1.ext E_,q2.ext E_,JR q4 E_,s1.ext E_⟩ ?_
 rw [←hg_]
 clear hg_ a1 E_ g1 s1 q1 q2 q3 q4 gl KE
 rintro w2 ⟨k2,p2,l2,f2,g2,s2⟩
 have PB:=Hj (PA.out _ _ _ _ l2 f2 k2.bs)
 replace p2:=Hj p2
 replace g2:=Hj g2
 replace s2:=Hj s2
 clear k2 l2 f2 PA
 go_wp2_with fail
 refine PB.out.mono ?_
 rintro e w3 ⟨rfl,e3⟩
 have kr:=Hj (p2.out.ext e3)
 have gr:=Hj (JR g2.out e3)
 have sr:=Hj (s2.out.ext e3)
 clear p2 g2 s2 e3 PB
 go_wp2_with (refine ws_ rfl 31 rfl r (cellsOf rr).toArray rfl rfl kr.out.1 (by rw [S_rr];rfl) (by rw [S_rr,S_zp]) O_rr ?_;simp only [joT])
 (try simp only [jnU,Exit.then])
 refine jnV (jnW rfl _ _ r 31 (cellsOf rr).toArray (0,0) _ rfl (jpe _ _ _ _ _ _ kr.out.1) rfl rfl (by rw [S_rr];rfl)) rfl ?_
 exact ⟨rfl,JS gr.out (by rw [hr_.out];exact joq _),sr.out.row (by have:=hr_.out;omega)⟩
theorem jdR {w:World}{lo g k:Nat}{xs:List UInt8}(h:SrcSt w lo g xs k) (hk:k < 1000000){tg tp:joE×Nat×Nat}(hG:Gl w tg) (hP:Gp w tp) (hq:1 < lo):
 Calls joz 75 #[.pointer (some ⟨g,0,none⟩)] w fun e w'=>e= .returned (.agg (cellsOf (j3 (jO xs k))).toArray)∧w.grownBy w' (some g)∧SrcSt w' lo g xs (k+1):=by
 have hmf:∀ (fn:Fn) (first cap:Array Value) (w:World),(Instr.makeFunc fn first cap).run joz w= .ok (.func fn first cap) w:=fun _ _ _ _=>rfl
 have hal2:=yS
 have L_zp:(jpp 64 (0:UInt8)).length=64:=by simp
 generalize jpp 64 (0:UInt8)=zp at *
 have S_zp:(cellsOf zp).toArray.size=64:=by simp [ja,L_zp]
 have x0:Ext w (w.alloc (jnX (cellsOf zp).toArray 31)):=(jnQ w).alloc _
 have KE:=Hj (jcv (h.ext x0) hk (hG.ext x0) (hP.ext x0) hq)
 have glt:=h.lt
 have gl:Hid (∀ W,(w.alloc (jnX (cellsOf zp).toArray 31)).grownBy W (some g)→Kp W w.heap.size zp∧w.grownBy W (some g)):=fun W e=>
  ⟨⟨zw e (by omega) (jps _ _),L_zp⟩,jt (jD x0) e⟩
 clear h hG hP x0
 have L_rr:=yU (jO xs k)
 generalize j3 (jO xs k)=rr at *
 have S_rr:(cellsOf rr).toArray.size=64:=by simp [ja,L_rr]
 have O_rr:=ji rr
 go_enter Tryz.func75,Tryz.ntmps75
 go_wp2_with fail
 refine KE.out.mono ?_
 rintro e w1 ⟨rfl,g1,s1⟩
 obtain ⟨q3,q4⟩:=gl.out _ g1
 replace q3:=Hj q3
 replace q4:=Hj q4
 replace s1:=Hj s1
 clear g1 gl KE
 go_wp2_with (refine ws_ rfl 31 rfl w.heap.size (cellsOf rr).toArray rfl rfl q3.out.1 (by rw [S_rr];rfl) (by rw [S_rr,S_zp]) O_rr ?_;simp only [joT])
 (try simp only [jnU,Exit.then])
 refine jnV (jnW rfl _ _ w.heap.size 31 (cellsOf rr).toArray (0,0) _ rfl (jpe _ _ _ _ _ _ q3.out.1) rfl rfl (by rw [S_rr];rfl)) rfl ?_
 exact ⟨rfl,JS q4.out (joq _),s1.out.row glt⟩
theorem jeX {A A':Option Addr}{n c n' c':Nat}{xs ys:List UInt8}{w:World}(h:Bs w A n c xs) (h':Bs w A' n' c' ys):
 Calls joz 112 #[.slice A n c, .slice A' n' c'] w fun e w'=>e= .returned (.bool (decide (xs=ys)))∧∃ k,w'=w.drewN k:=by
 have h1:=h.le
 have h2:=h.cap
 have h3:=h'.le
 have h4:=h'.cap
 by_cases hn:n=n'
 ·subst hn
  have hl:xs.length=ys.length:=h.len.trans h'.len.symm
  have hs:Hid (((Yh xs ys n:Int)==0)=decide (xs=ys)):=by
   unfold Hid
   rw [Bool.eq_iff_iff,decide_eq_true_iff,beq_iff_eq,Int.natCast_eq_zero,Zy,jdM hl,h.len]
  have hl':=Hj hl
  clear hl
  go_enter Tryz.func112,Tryz.ntmps112
  go_wp2
  go_loopw [5,14] (fun d i wr=>∃ k m:Nat,k≤n∧i= .int .i64 k∧d= .int .u8 (Yh xs ys k)∧wr=w.drewN m) (fun _ i _=>n - (intOf i).toNat)
  case atStart=>exact ⟨0,0,jor _,rfl,rfl,rfl⟩
  case round=>
   obtain ⟨k,m,hk,rfl,rfl,rfl⟩:=hrel
   by_cases hlt:k < n
   ·obtain ⟨b,off,rfl,hb,hc⟩:=h.pos (by omega)
    obtain ⟨b',off',rfl,hb',hc'⟩:=h'.pos (by omega)
    have g1:=hc k hlt
    have g2:=hc' k hlt
    have hu:=Hj (jgS xs ys k)
    clear hc hc'
    go_wp2
    go_quiet (fail)
    go_wp2
    go_roundw
    case rel=>exact ⟨k+1,_,by omega,by go_num,by rw [←hu.out],rfl⟩
    case measure=>simp [intOf];omega
   ·obtain rfl:k=n:=by omega
    go_wp2
    go_ret
    exact ⟨jir hs.out,m,rfl⟩
 ·have hb:((n:Int)!=(n':Int))=true:=by rw [bne_iff_ne];omega
  go_enter Tryz.func112,Tryz.ntmps112
  go_wp2
  go_ret
  refine ⟨?_,0,rfl⟩
  have:xs≠ys:=fun e=>hn (by rw [←h.len,←h'.len,e])
  simp [this]
theorem jae (s p:List UInt8):(zu s p).length=32:=zx _
theorem jfn:Tryz.prog.built 23 []=some (cellsOf (jpp 32 0)).toArray:=by rw [jU];exact zJ
theorem QA {w:World}{s q p:List UInt8}(hs:s.length=32) (hq:q.length=32) (hp:p.length=32){tp:joE×Nat×Nat}(hP:Gp w tp):
 Calls joz 76 #[.agg (cellsOf (s++q)).toArray, .agg (cellsOf p).toArray] w fun e w'=>e= .returned (.tuple #[.agg (cellsOf (zu s p)).toArray, .int .i64 (jej (zu s p))])∧Ext w w':=by
 have MU:Hid (∀ W,Ext w W→Calls joz 111 #[.agg (cellsOf s).toArray, .agg (cellsOf p).toArray] W fun e w'=>e= .returned (.agg (cellsOf (zu s p)).toArray)∧Ext W w'):=fun W e=>jar hs hp (hP.ext e)
 have L_rk:=jae s p
 have hE:Hid (jej (zu s p)=if zu s p=jpp 32 0 then 12 else 0):=rfl
 clear hP
 generalize zu s p=rk at *
 generalize hce:jej rk=ce at *
 replace hce:=Hj hce
 have S_rk:(cellsOf rk).toArray.size=32:=by simp [ja,L_rk]
 have O_rk:=ji rk
 have S_s:(cellsOf s).length=32:=by simp [ja,hs]
 have S_p:(cellsOf p).toArray.size=32:=by simp [ja,hp]
 have S_o:(cellsOf (s++q)).toArray.size=64:=by simp [ja,hs,hq]
 have hal:∀ w,(joK 23).run joz w= .ok (.agg (cellsOf (jpp 32 0)).toArray) w:=fun w=>by rw [jU];exact j2 w
 have hbz:=Hj jfn
 have L_zk:(jpp 32 (0:UInt8)).length=32:=rfl
 generalize jpp 32 (0:UInt8)=zk at *
 have S_zk:(cellsOf zk).toArray.size=32:=by simp [ja,L_zk]
 have O_zk:=ji zk
 have B0:Hid (∀ s',Ext (((w.alloc (jnX (cellsOf (s++q)).toArray 31)).alloc (jnX (cellsOf p).toArray 23)).alloc (jnX (cellsOf zk).toArray 23)) s'→Kp s' w.heap.size (s++q)∧Ky s' (w.heap.size+1) p∧Ky s' (w.heap.size+1+1) zk∧Ext w s'):=fun s' e=>⟨Kp.ext ⟨jF _ _ _ _,by rw [joI,hs,hq]⟩ e,Ky.ext ⟨jH _ _ _ _,hp⟩ e,Ky.ext ⟨jB _ _ _ _,L_zk⟩ e,((((jnQ w).alloc _).alloc _).alloc _).trans e⟩
 go_enter Tryz.func76,Tryz.ntmps76
 go_upto_region 1 with fail
 refine jg (fun W=>∀ s',Ext W s'→Kp s' w.heap.size (s++q)∧Ky s' (w.heap.size+1) p∧Ky s' (w.heap.size+1+1) zk∧Ext w s') B0.out ?_
 clear B0
 rintro w0 P0
 replace P0:=Hj P0
 have q0:=Hj (P0.out _ (jnQ _)).1
 have q1:=Hj (P0.out _ (jnQ _)).2.1
 go_wp2_with (first
  | (refine jI rfl (g:=w.heap.size) (off:=0) (ys:=cellsOf s) rfl rfl q0.out.at0 rfl rfl (by rw [S_s];rfl) ?_;go_frame)
  | (refine wl_ rfl 23 rfl (w.heap.size+1) rfl q1.out.1 rfl rfl (by rw [S_p];rfl) ?_;go_frame))
 refine (MU.out _ (P0.out _ (jnQ _)).2.2.2).mono ?_
 rintro e u_ ⟨rfl,e1⟩
 have a1:Hid ((u_.alloc (jnX (cellsOf zk).toArray 23)).heap[u_.heap.size]? =some (.cells (cellsOf zk).toArray 23 (0,0))):=jps _ _
 have E_:Ext w0 ((u_.alloc (jnX (cellsOf zk).toArray 23)).setRow u_.heap.size (cellsOf rk).toArray):=e1.trans (jpd ((jnQ u_).alloc _) (joq _) _)
 go_upto_region 2 with (refine ws_ rfl 23 rfl u_.heap.size (cellsOf rk).toArray rfl rfl a1.out (by rw [S_rk];rfl) (by rw [S_rk,S_zk]) O_rk ?_;simp only [joT])
 obtain ⟨g6,hg_⟩:∃ g,g=u_.heap.size:=⟨_,rfl⟩
 refine jg (fun W=>Ky W g6 rk∧Ky W (w.heap.size+1+1) zk∧Ext w W) ⟨⟨by rw [hg_];exact jpe _ _ _ _ _ _ a1.out,L_rk⟩,(P0.out _ E_).2.2⟩ ?_
 rw [←hg_]
 clear hg_ a1 E_ e1 q0 q1 P0 MU
 rintro w1 ⟨k1,z1,x1⟩
 have S1:Hid (∀ (W:World),Ext w1 W→Ky W (g6+1) zk→True):=fun _ _ _=>trivial
 clear S1
 have n1:Hid (Ky (w1.alloc (jnX (cellsOf zk).toArray 23)) w1.heap.size zk):=⟨jps _ _,L_zk⟩
 have m1:Hid (Ext w1 (w1.alloc (jnX (cellsOf zk).toArray 23))):=(jnQ _).alloc _
 obtain ⟨g7,hg_⟩:∃ g,g=w1.heap.size:=⟨_,rfl⟩
 go_upto_region 3 with fail
 refine jg (fun W=>Ky W g6 rk∧Ky W g7 zk∧Ky W (w.heap.size+1+1) zk∧Ext w W) ⟨k1.ext m1.out,by rw [hg_];exact n1.out,z1.ext m1.out,x1.trans m1.out⟩ ?_
 rw [←hg_]
 clear hg_ n1 m1 k1 z1 x1
 rintro w2 ⟨k1,n1,z1,x1⟩
 have Q2:Hid (∀ s',Ext w2 s'→Ky s' g6 rk∧Ky s' g7 zk∧Ky s' (w.heap.size+1+1) zk∧Ext w s'):=fun s' e=>⟨k1.ext e,n1.ext e,z1.ext e,x1.trans e⟩
 have SA:Hid (∀ W,Ky W g6 rk→Ky W g7 zk→Calls joz 112 #[.slice (some ⟨g6,0,none⟩) 32 32, .slice (some ⟨g7,0,none⟩) 32 32] W fun e w'=>e= .returned (.bool (decide (rk=zk)))∧Ext W w'):=fun W h1 h2=>by
  refine (jeX h1.bs h2.bs).mono ?_
  rintro e w' ⟨he,k,rfl⟩
  exact ⟨he,(jnQ W).drewN k⟩
 clear k1 n1 z1 x1
 obtain ⟨b,hb⟩:=ex_ (decide (rk=zk))
 rw [←hb] at SA
 replace hb:=Hj (fun _:Unit=>hb)
 refine qgF (R:=Ext) jnQ (fun _ _ _=>Ext.trans) [0,1,2] [] [0,0,3] [true,true,true] ?_
 refine jq (fun _=>jnQ _) _ rfl (v:= ?_) (d:=13) rfl rfl ?_ ?_
 rotate_left
 ·intro a_ w_ hev hR hk
  have e6:a_.eval (.tmp 6)=_:=hk 6 rfl
  clear hk
  generalize a_.eval=ev at *
  obtain ⟨hev1,hev2,hev3⟩:=hev
  go_simp
  (try with_reducible rfl)
 refine jq (fun _=>jnQ _) _ rfl (v:= ?_) (d:=14) rfl rfl ?_ ?_
 rotate_left
 ·intro a_ w_ hev hR hk
  have e7:a_.eval (.tmp 7)=_:=hk 7 rfl
  clear hk
  generalize a_.eval=ev at *
  obtain ⟨hev1,hev2,hev3⟩:=hev
  go_simp
  (try with_reducible rfl)
 refine jx _ rfl (fun u _=>u= .bool b) (d:=15) rfl (fun _ _ _ h _=>h) rfl ?_ ?_
 ·intro a_ w_ hev hR hk K1 hK1
  have e12:a_.eval (.tmp 12)=_:=hk 12 rfl
  have e13:a_.eval (.tmp 13)=_:=hk 13 rfl
  clear hk
  have f12:=jz.trans e12
  have f13:=jz.trans e13
  go_simp
  refine (SA.out _ (Q2.out w_ (Ext.trans (jnQ _).drew hR)).1 (Q2.out w_ (Ext.trans (jnQ _).drew hR)).2.1).mono ?_
  rintro e_ w2_ ⟨rfl,x_⟩
  exact hK1.out _ _ x_ rfl
 intro v_ w3 hR hV_ hN_
 obtain ⟨hv2,hv1,hv0,_⟩:=hV_
 replace hv0:v_ 0=_:=hv0
 replace hv1:v_ 1=_:=hv1
 replace hv2:v_ 2=_:=hv2
 dsimp only [yQ,zv]
 clear hN_
 rw [hv0,hv1,hv2]
 go_frame
 clear hv0 hv1 hv2
 have Q3:=Hj (Q2.out w3 ((jnQ _).drew.trans hR))
 refine qT (by kernel_rfl) ?_
 clear hR Q2 SA
 have k2:=Hj Q3.out.1
 have z2:=Hj Q3.out.2.2.1
 have x2:=Hj Q3.out.2.2.2
 clear Q3
 by_cases hz:rk=zk
 ·have hbt:b=true:=by rw [hb.out ()];exact decide_eq_true hz
  have hE2:Hid (ce=12):=by unfold Hid;rw [hE.out,if_pos hz]
  clear hE hce hb
  subst hbt
  have hz':Hid (cellsOf rk=cellsOf zk):=by unfold Hid;rw [hz]
  clear hz
  go_wp2_with (first
   | (refine jm rfl _ _ rfl (cellsOf zk).toArray (by simp only [jpG,jpH];exact hbz.out) ?_;go_frame)
   | (refine ws_ rfl 23 rfl (w.heap.size+1+1) (cellsOf zk).toArray rfl rfl z2.out.1 (by rw [S_zk];rfl) rfl O_zk ?_;simp only [joT]))
  (try simp only [jnU,Exit.then])
  refine jnV (v:= .tuple #[.agg (cellsOf zk).toArray, .int .i64 12]) ?_ rfl ?_
  ·exact qj rfl _ _ (w.heap.size+1+1) 23 (cellsOf zk).toArray (0,0) _ _ rfl rfl (jpe _ _ _ _ _ _ z2.out.1) rfl rfl (by rw [S_zk];rfl)
  exact ⟨by rw [hE2.out,hz'.out],jpd x2.out (by omega) _⟩
 ·have hbt:b=false:=by rw [hb.out ()];exact decide_eq_false hz
  have hE2:Hid (ce=0):=by unfold Hid;rw [hE.out,if_neg hz]
  clear hE hce hb hz
  subst hbt
  go_wp2_with (first
   | (refine wl_ rfl 23 rfl g6 rfl k2.out.1 rfl rfl (by rw [S_rk];rfl) ?_;go_frame)
   | (refine ws_ rfl 23 rfl (w.heap.size+1+1) (cellsOf rk).toArray rfl rfl z2.out.1 (by rw [S_rk];rfl) (by rw [S_rk,S_zk]) O_rk ?_;simp only [joT]))
  (try simp only [jnU,Exit.then])
  refine jnV (v:= .tuple #[.agg (cellsOf rk).toArray, .int .i64 0]) ?_ rfl ?_
  ·exact qj rfl _ _ (w.heap.size+1+1) 23 (cellsOf rk).toArray (0,0) _ _ rfl rfl (jpe _ _ _ _ _ _ z2.out.1) rfl rfl (by rw [S_rk];rfl)
  exact ⟨by rw [hE2.out],jpd x2.out (by omega) _⟩
end
section
theorem Q0 {x k:Nat}(h:k < 32):bt (kL x) k=x / 256 ^ k % 256:=by
 rw [jjT h]
 have e:256 ^ k=4294967296 ^ (k / 4)*256 ^ (k % 4):=by
  rw [←jaD]
  congr 1
  omega
 rw [e,←jpS]
 unfold lb
 generalize x / 4294967296 ^ (k / 4)=X
 have:k % 4=0∨k % 4=1∨k % 4=2∨k % 4=3:=by omega
 rcases this with h | h | h | h <;> rw [h] <;> simp only [Nat.pow_zero,jpP,Nat.one_mul,Nat.div_one] <;> omega
theorem jhV (x:Nat):∀ i,i≤32→ofN (kL x) i=x % 256 ^ i
 | 0,_=>by rw [ofN,Nat.pow_zero,Nat.mod_one]
 | i+1,h=>by
   rw [ofN,jhV x i (by omega),Q0 (by omega),jpP,Nat.mod_mul,jpK (256 ^ i)]
theorem jcs {x:Nat}(h:x < P25):ofV (kL x)=x:=by
 have hH:x < H8:=Nat.lt_trans h (by decide+kernel)
 have hM:x < 256 ^ 32:=Nat.lt_trans hH (by decide+kernel)
 unfold ofV
 rw [jhV x 32 (joq _),jpO hM,jpO hH,jpO h]
end
section
open Go.ChangeShapes Go.WideShapes Go.ChangeAt Go.RowKit Go.Deep
theorem jje:ofV (jpp 32 0)=0:=by decide+kernel
end
end Go.Proofs.YtakpgbaijkhpmaaGreatDoor
