import Derived.Test.YtakpgbaijkhpmaaGreatDoorPkAG
import Derived.Test.YtakpgbaijkhpmaaGreatDoorPkAA
import Derived.Lib.AppendStr
import Derived.Lib.AppendZerosOnto
import Derived.Lib.ConvBytes
import Derived.Deep.AppendSrc
import Derived.Great.BuildSlice
import Derived.WalkMore
import Derived.Deep.DeepCutAuto
import Derived.RegionTactic
import Derived.Great.FillDense
open Array renaming all_eq_true_iff_forall_mem→joX,getElem?_eq_none→jox,getElem?_toList→joW,replicate→joY
open Bool renaming and_eq_true→joM,not_eq_true'→joN
open Go renaming Program→joD,TypeId→joE,below_setRow→jpd,bodyPost_ret→jnV,cell_of_row→jpg,execOp→jo0,heap_alloc_new→jps,results_cell_row→jnW,run_underlying→jpn,setRow_heap→jpe,setRow_other→jpA,splice→jpb,u32_xor_nat→jn6,wp_store_row→joe,zeroValue→joK
open Go.Act renaming put→joT
open Go.Builtin renaming append_→joc
open Go.Exit renaming inBlock→jnU
open Go.Instr renaming fill→jpq
open Go.IntKind renaming wrap_u32→jo8
open Go.IntWalk renaming i64_in→jnZ
open Go.Obj renaming cells→jnX
open Go.Proofs.Tryz renaming prog→joz,underlying23→jpF,underlying33→joA
open Go.Region renaming noSelect→joS,ready→joU,wanted→joZ
open Go.Result renaming andThen_ok→jpm
open Go.RowKit.Below renaming heap_alloc→jpi,heap_setCell→jo9,refl→joo,trans→jop
open Go.Sem renaming run_bind→jpk,run_pure→jpl
open Go.Value renaming agg→jpr,int→joC,ownBlock→joa
open Go.World.ownsRow renaming lt→job
open List renaming append_assoc→jpf,drop_of_length_le→jof,ext_getElem→jpa,getD→jot,getD_eq_getElem?_getD→jn9,getElem?_append_left→jpu,getElem?_append_right→jpt,getElem?_cons_zero→joQ,getElem?_eq_getElem→jn8,getElem?_eq_some_iff→jpz,getElem?_map→joV,getElem?_replicate→jn4,getElem?_take→jph,getElem?_toArray→jpv,length_append→joI,length_map→jpJ,length_replicate→jog,length_set→jo7,length_take→jou,map_append→jpy,map_cons→jpC,map_nil→jpH,map_toArray→jpG,mem_append→joJ,mem_cons_of_mem→jpE,mem_cons_self→jpD,mem_map→joP,mem_singleton→joH,nil_append→jn7,range→jo3,replicate→jpp,size_toArray→jpw,take_left'→jpx,take_of_length_le→jpo,take_succ_eq_append_getElem→jn5
open Nat renaming add_zero→joR,le_of_eq→jod,le_of_lt→jnT,le_refl→joq,le_trans→jo2,lt_of_lt_of_le→jos,lt_or_ge→jow,mod_eq_of_lt→jpO,mod_lt→jo5,zero_add→joB,zero_le→jor
open Option.some renaming inj→joF
open UInt8 renaming ofNat→jov
namespace Go.Proofs.YtakpgbaijkhpmaaGreatDoor
set_option maxHeartbeats 64000000
set_option linter.unusedSimpArgs false
set_option linter.unusedVariables false
set_option maxRecDepth 100000
section
open Go.ChangeShapes Go.WideShapes Go.ChangeAt Go.RowKit Go.Deep
def Qd (n:Nat):List UInt8:=(J3 n 4).reverse
theorem Ze (n:Nat):(Qd n).length=4:=by rw [Qd,List.length_reverse,vM]
def zq (pk:List UInt8) (p n:Nat):List UInt8:=(pk++Qd p)++Qd n
theorem Zd {pk:List UInt8}(h:pk.length=32) (p n:Nat):(zq pk p n).length=40:=by simp [zq,Ze,h]
theorem jc8 {pk:List UInt8}(lp:pk.length=32) (p n:Int):hdC pk p n= []++(cellsOf pk++ [.int .i64 p, .int .i64 n])∧(hdC pk p n)[32]? =some (.int .i64 p)∧(hdC pk p n)[33]? =some (.int .i64 n):=by
 refine ⟨by simp [hdC],?_,?_⟩
 ·unfold hdC;rw [jpt (by rw [ja,lp];omega)];simp [ja,lp]
 ·unfold hdC;rw [jpt (by rw [ja,lp];omega)];simp [ja,lp]
theorem Qc {w:World}{pk:List UInt8}{p n:Int}(lp:pk.length=32) (hb:okH p n=false):Calls joz 78 #[.agg (hdC pk p n).toArray] w fun e w'=>e= .returned (.tuple #[.slice none 0 0, .int .i64 1])∧Ext w w':=by
 have VH:=Hj (fun (W:World)=>Jh (w:=W) (p:=p) (n:=n) lp)
 rw [hb] at VH
 have L_hd:=yz lp p n
 generalize hdC pk p n=hd at *
 have S_hd:hd.toArray.size=34:=by rw [jpw,L_hd]
 have B0:Hid (Cb (w.alloc (jnX hd.toArray 47)) w.heap.size 47 hd∧Ext w (w.alloc (jnX hd.toArray 47))):=⟨Cb.new _ _ _,(jnQ w).alloc _⟩
 go_enter Tryz.func78,Tryz.ntmps78
 go_upto_region 1 with fail
 refine jg (fun W=>Cb W w.heap.size 47 hd∧Ext w W) B0.out ?_
 clear B0
 rintro w0 ⟨k0,x0⟩
 replace k0:=Hj k0
 replace x0:=Hj x0
 go_wp2_with (refine wl_ rfl 47 rfl w.heap.size rfl k0.out rfl rfl (by rw [S_hd];rfl) ?_;go_frame)
 refine (VH.out _).mono ?_
 rintro e w1 ⟨rfl,e1⟩
 go_wp2_with fail
 go_ret2
 exact ⟨rfl,x0.out.trans e1⟩
theorem QF {w:World}{pk:List UInt8}{p n:Nat}(lp:pk.length=32) (hp:p≤1000000) (hn:n≤1000000):Calls joz 78 #[.agg (hdC pk (p:Int) (n:Int)).toArray] w (YP (zq pk p n) 0 w):=by
 have hb:okH (p:Int) (n:Int)=true:=by
  unfold okH upB
  rw [decide_eq_true (show (0:Int)≤(p:Int) by omega),decide_eq_true (show (p:Int)≤1000000 by omega),decide_eq_true (show (0:Int)≤(n:Int) by omega),decide_eq_true (show (n:Int)≤1000000 by omega)]
  rfl
 have VH:=Hj (fun (W:World)=>Jh (w:=W) (p:=(p:Int)) (n:=(n:Int)) lp)
 rw [hb] at VH
 have HP:Hid (∀ W,Calls joz 116 #[.int .u64 (p:Int), .int .i64 4] W (Qw (Qd p) W)):=fun W=>Yj (by omega) (by omega) (by omega) (by omega) rfl
 have HN:Hid (∀ W,Calls joz 116 #[.int .u64 (n:Int), .int .i64 4] W (Qw (Qd n) W)):=fun W=>Yj (by omega) (by omega) (by omega) (by omega) rfl
 have u1:IntKind.u64.wrap (p:Int)=(p:Int):=IntWalk.u64_in _ (by omega)
 have u2:IntKind.u64.wrap (n:Int)=(n:Int):=IntWalk.u64_in _ (by omega)
 obtain ⟨c0,c32,c33⟩:=jc8 lp (p:Int) (n:Int)
 have L_hd:=yz lp (p:Int) (n:Int)
 have hR:Hid ((pk++Qd p)++Qd n=zq pk p n):=rfl
 replace c0:=Hj (fun _:Unit=>c0)
 replace c32:=Hj c32
 replace c33:=Hj c33
 generalize zq pk p n=hl at *
 generalize hdC pk (p:Int) (n:Int)=hd at *
 have lP:=Ze p
 have lN:=Ze n
 generalize Qd p=hp4 at *
 generalize Qd n=hn4 at *
 clear hb hp hn
 have S_hd:hd.toArray.size=34:=by rw [jpw,L_hd]
 obtain ⟨r,hr⟩:=ex_ w.heap.size
 have B0:Hid (Cb (w.alloc (jnX hd.toArray 47)) r 47 hd∧Ext w (w.alloc (jnX hd.toArray 47))):=by rw [hr];exact ⟨Cb.new _ _ _,(jnQ w).alloc _⟩
 go_enter Tryz.func78,Tryz.ntmps78
 go_upto_region 1 with fail
 refine jg (fun W=>Cb W r 47 hd∧Ext w W) B0.out ?_
 rw [←hr]
 have wr:w.heap.size≤r:=jod hr.symm
 clear B0
 replace hr:=Hj hr
 rintro w0 ⟨k0,x0⟩
 replace k0:=Hj k0
 replace x0:=Hj x0
 go_wp2_with (refine wl_ rfl 47 rfl r rfl k0.out rfl rfl (by rw [S_hd];rfl) ?_;go_frame)
 refine (VH.out _).mono ?_
 rintro e w1 ⟨rfl,e1⟩
 have k1:=Hj (k0.out.ext e1)
 have x1:=Hj (x0.out.trans e1)
 have r1:r+1≤w1.heap.size:=(k0.out.ext e1).lt
 have b1:=Hj (k1.out.bs (c0.out ()) rfl lp (by omega))
 clear k0 x0 e1 VH
 go_upto_region 4 with (at_builtin;(with_reducible refine jJ rfl (B:=r+1) (s:= .const (.slice none 0 0)) (x:= .tmp 9) rfl rfl rfl (Own.nil _ _) b1.out (by omega) r1 ?_);intro A2 c2 w2 o2 g2 b2;simp only [joB,jn7] at o2 ⊢;replace o2:=Hj o2;clear g2;replace b2:=Hj b2;go_frame)
 refine jg (fun W=>Own (r+1) W A2 32 c2 pk∧Cb W r 47 hd∧Ext w W) ⟨o2.out,k1.out.kept b2.out (by omega),jop x1.out (b2.out.mono (by omega))⟩ ?_
 clear o2 b2 b1 k1 x1 r1
 rintro w3 ⟨o3,k3,x3⟩
 have b3:=k3.cell c32.out
 replace o3:=Hj o3
 replace k3:=Hj k3
 replace x3:=Hj x3
 go_wp2_with fail
 refine (HP.out _).mono ?_
 rintro e w4 ⟨A4,n4,c4,rfl,b4,e4⟩
 obtain rfl:n4=4:=by rw [←b4.len,lP]
 have o4:=Hj (o3.out.ext e4)
 have k4:=Hj (k3.out.ext e4)
 have x4:=Hj (x3.out.trans e4)
 have r4:r+1≤w4.heap.size:=(k3.out.ext e4).lt
 replace b4:=Hj b4
 clear b3 o3 k3 x3 e4 HP
 go_upto_region 5 with (at_builtin;(with_reducible refine jJ rfl (B:=r+1) (s:= .tmp 11) (x:= .tmp 15) rfl rfl rfl o4.out b4.out (by omega) r4 ?_);intro A5 c5 w5 o5 g5 b5;replace o5:=Hj o5;clear g5;replace b5:=Hj b5;go_frame)
 refine jg (fun W=>Own (r+1) W A5 (32+4) c5 (pk++hp4)∧Cb W r 47 hd∧Ext w W) ⟨o5.out,k4.out.kept b5.out (by omega),jop x4.out (b5.out.mono (by omega))⟩ ?_
 clear o5 b5 o4 b4 k4 x4 r4
 rintro w6 ⟨o6,k6,x6⟩
 have b6:=k6.cell c33.out
 replace o6:=Hj o6
 replace k6:=Hj k6
 replace x6:=Hj x6
 go_wp2_with fail
 refine (HN.out _).mono ?_
 rintro e w7 ⟨A7,n7,c7,rfl,b7,e7⟩
 obtain rfl:n7=4:=by rw [←b7.len,lN]
 have o7:=Hj (o6.out.ext e7)
 have x7:=Hj (x6.out.trans e7)
 have r7:r+1≤w7.heap.size:=(k6.out.ext e7).lt
 replace b7:=Hj b7
 clear b6 o6 k6 x6 e7 HN
 go_wp2_with (at_builtin;(with_reducible refine jJ rfl (B:=r+1) (s:= .tmp 17) (x:= .tmp 21) rfl rfl rfl o7.out b7.out (by omega) r7 ?_);intro A8 c8 w8 o8 g8 b8;replace o8:=Hj o8;clear g8;replace b8:=Hj b8;go_frame)
 go_ret2
 exact ⟨A8,_,c8,rfl,by rw [←hR.out];exact o8.out.bs,jop x7.out (b8.out.mono (by omega))⟩
theorem jkH {w:World}{g k:Nat}(hk:k < 8):(Instr.sliceAt 23 (.pointer (some ⟨g,0,none⟩)) (some (.int .i64 (4*(k:Int)))) none none).run joz w= .ok (.slice (some ⟨g,4*k,none⟩) (32 - 4*k) (32 - 4*k)) w:=by
 have hn:Tryz.prog.arrayLen 23=32:=rfl
 rw [run_sliceAt_array_l w 23 _ rfl .i64 _ (by omega) (by rw [hn];omega)]
 have hs:(sizeOf (Tryz.prog.elem 23)).run joz w= .ok 1 w:=rfl
 rw [hs]
 have h1:(4*(k:Int)).toNat=4*k:=by omega
 have h3:(⟨g,0,none⟩:Addr).add (4*k*1)=⟨g,4*k,none⟩:=by unfold Addr.add;split <;> simp_all
 show Result.ok (slicedAt _ _ _ _ _) w=_
 rw [hn,h1]
 unfold slicedAt
 rw [if_neg (by omega),h3]
set_option maxRecDepth 100000 in
theorem J8 {vs:List Nat}{w:World}(h:vs.length=8) (hb:∀ i,i < 8→wd vs i < 4294967296):
 Calls joz 126 #[.agg (jb vs).toArray] w fun e w'=>e= .returned (.agg (cellsOf (qX vs)).toArray)∧Ext w w':=by
 have HIX:=Hj (fun (w:World) (k:Nat) (hk:k < 8)=>jex (w:=w) (t:=218) rfl h hk)
 have HL:=jf h
 have g0:∀ o2 o3,(((w.alloc (jnX (jb vs).toArray 218)).alloc o2).alloc o3).heap[w.heap.size]? =some (.cells (jb vs).toArray 218 (0,0)):=fun o2 o3=>jF _ _ _ _
 have g1:∀ o1 o3,(((w.alloc o1).alloc (jnX (jpp 32 (joC .u8 0)).toArray 23)).alloc o3).heap[w.heap.size+1]? =some (.cells (jpp 32 (joC .u8 0)).toArray 23 (0,0)):=fun o1 o3=>jH _ _ _ _
 have g2:∀ o1 o2,(((w.alloc o1).alloc o2).alloc (jnX (jpp 32 (joC .u8 0)).toArray 23)).heap[w.heap.size+1+1]? =some (.cells (jpp 32 (joC .u8 0)).toArray 23 (0,0)):=fun o1 o2=>jB _ _ _ _
 replace g1:=Hj g1
 replace g2:=Hj g2
 replace g0:=Hj g0
 generalize hC:(jb vs).toArray=C at g0 HL HIX
 replace hC:=Hj hC
 go_enter Tryz.func126,Tryz.ntmps126
 go_wp2_with (refine wl_ rfl 218 rfl w.heap.size rfl (g0.out _ _) rfl rfl (by rw [HL];rfl) ?_)
 obtain ⟨B,hB⟩:=ex_ (w.heap.size+1+1)
 go_loopw [7] (fun i wr=>∃ (k:Nat) (xs:List UInt8),k≤8∧i= .int .i64 k∧xs.length=32∧(∀ j,j < 4*k→bt xs j=bt (qX vs) j)∧Ext w wr∧wr.heap[w.heap.size+1]? =some (.cells (jpp 32 (joC .u8 0)).toArray 23 (0,0))∧wr.heap[w.heap.size+1+1]? =some (.cells (cellsOf xs).toArray 23 (0,0))) (fun i _=>8 - (intOf i).toNat)
 case atStart=>
  exact ⟨0,jpp 32 0,jor _,rfl,rfl,fun j hj=>absurd hj (by omega),(((jnQ _).alloc _).alloc _).alloc _,g1.out _ _,g2.out _ _⟩
 case round=>
  obtain ⟨k,xs,hk,rfl,hl,hv,he,h1,h2⟩:=hrel
  by_cases hlt:k < 8
  ·have hix:=fun w=>HIX.out w k hlt
   have hsl:=fun w':World=>jkH (w:=w') (g:=w.heap.size+1+1) hlt
   have hwk:=hb k hlt
   have m1:IntKind.i64.wrap (4*(k:Int))=4*(k:Int):=jnZ _ (by omega)
   have m2:IntKind.u64.wrap (wd vs k:Int)=(wd vs k:Int):=IntWalk.u64_in _ (by omega)
   have LOW:=Hj (fun w0:World=>Zh (n:=wd vs k) (m:=4) (many:=4) (w:=w0) (by omega) (by omega) (by omega) (by omega) (by decide))
   replace h1:=Hj h1
   replace h2:=Hj h2
   replace hv:=Hj hv
   go_wp2_with fail
   refine qgB B [0,1,2,3,4,5,6] [5,6] ?_
   repeat ((first | refine qR0 ?_ | refine qS ?_);go_frame)
   refine qD fun K hK=> ?_
   go_simp
   refine (LOW.out _).mono ?_
   rintro e w1 ⟨A1,n1,c1,rfl,b1,e1⟩
   have hsz:B≤wr.heap.size:=by
    rcases jow (w.heap.size+1+1) wr.heap.size with q | q
    ·omega
    ·have:=h2.out;rw [jox q] at this;cases this
   have hsz':w.heap.size+1+1 < wr.heap.size:=by
    rcases jow (w.heap.size+1+1) wr.heap.size with q | q
    ·exact q
    ·have:=h2.out;rw [jox q] at this;cases this
   refine hK.out _ _ (e1.mono hsz) ?_
   clear hK K
   try go_frame
   repeat ((first | refine qR0 ?_ | refine qS ?_);go_frame)
   refine qD fun K hK=> ?_
   go_simp
   have hn1:n1=4:=by have:=b1.len;rw [vM] at this;omega
   subst hn1
   refine JZ (cur:=cellsOf xs) rfl ((e1.block (w.heap.size+1+1) hsz').trans h2.out) b1 (by omega) (by rw [ja];omega) ?_
   intro W' h3 h4
   rw [Yf] at h3
   go_simp
   refine hK.out _ _ (h4.out B (by omega)) ?_
   clear hK K
   refine jp ?_
   have e2:Below B wr W':=jop ((joo B wr).drew) (jop (e1.mono hsz) (h4.out B (by omega)))
   clear h4
   go_wp2_with fail
   refine ⟨⟨k+1,jpb xs (4*k) (J3 (wd vs k) 4),by omega,by go_num,(jaR (by rw [vM];omega)).trans hl,fun j hj=> ?_,jop he (e2.mono (by omega)),(e2.block _ (by omega)).trans h1.out,h3.out⟩,by simp [intOf];omega⟩
   rw [jbs (by rw [vM];omega) (by rw [vM];omega)]
   by_cases q:j < 4*k
   ·rw [if_pos q];exact hv.out j q
   ·rw [if_neg q,jb1 (by omega),JK (by omega),show j / 4=k by omega,show j % 4=j - 4*k by omega]
  ·obtain rfl:k=8:=by omega
   have hvs:=Hj (Y0 (xs:=xs) (ys:=qX vs) (by rw [ya];omega) (fun j hj=>hv j (by omega)))
   have HS:(cellsOf xs).toArray.size=32:=by simp [ja,hl]
   have hone:=ji xs
   generalize hD:(cellsOf xs).toArray=D at h2 HS hone
   replace hD:=Hj hD
   replace h1:=Hj h1
   replace h2:=Hj h2
   clear hv
   go_wp2_with (first
    | refine wl_ rfl 23 rfl (w.heap.size+1+1) rfl h2.out rfl rfl (by rw [HS];rfl) ?_
    | refine ws_ rfl 23 rfl (w.heap.size+1) D rfl rfl h1.out (by rw [HS];rfl) (by rw [HS];rfl) hone ?_)
   (try simp only [jnU,Exit.then])
   refine jnV (jnW rfl _ _ (w.heap.size+1) 23 D (0,0) _ rfl (jpe _ _ _ _ _ _ h1.out) rfl rfl (by rw [HS];rfl)) rfl ?_
   exact ⟨by rw [←hvs.out,hD.out],jpd he (by omega) _⟩
theorem jet (w:World) (g:Nat) (C:Array Value):w.grownBy (w.setRow g C) (some g):=
 ⟨rfl,rfl,rfl,by simp,fun i _ hne=>jpA _ _ _ _ (fun q=>hne (by rw [q]))⟩
def jla:Value→Nat
 | .slice _ n _=>n
 | _=>0
def Mw (w wr:World) (hs:List Nat):Prop:=
 Ext w wr∧wr.heap[w.heap.size]? =some (.cells (jpp 32 (joC .u8 0)).toArray 23 (0,0))∧Wr wr (w.heap.size+1) 218 hs
theorem Mw.ext {w wr wr':World}{hs:List Nat}(h:Mw w wr hs) (e:Ext wr wr'):Mw w wr' hs:=
 ⟨h.1.trans e,(e.block _ (jh h.2.1)).trans h.2.1,h.2.2.kept e h.2.2.lt⟩
theorem Mw.set {w wr:World}{hs:List Nat}(h:Mw w wr hs) (k x:Nat):Mw w (wr.setCell ⟨w.heap.size+1,k,none⟩ (.int .u32 (x:Int))) (hs.set k x):=
 ⟨h.1.setCell (show w.heap.size≤w.heap.size+1 by omega) _,(jo9 _ _ _ _ (show w.heap.size≠w.heap.size+1 by omega)).trans h.2.1,h.2.2.set⟩
theorem Mw.put {w wr:World}{hs hs':List Nat}(h:Mw w wr hs):Mw w (wr.setRow (w.heap.size+1) (jb hs').toArray) hs':=
 ⟨jpd h.1 (by omega) _,(jpA _ _ _ _ (by omega)).trans h.2.1,jpe _ _ _ _ _ _ h.2.2⟩
set_option maxRecDepth 100000 in
theorem Zi {A A':Option Addr}{n c m d:Nat}{ks bs:List UInt8}{w:World}(h:Bs w A n c ks) (h':Bs w A' m d bs) (hk:n≤32){tg:joE×Nat×Nat}(hG:Gl w tg):
 Calls joz 95 #[.slice A n c, .slice A' m d] w fun e w'=>e= .returned (.tuple #[.agg (cellsOf (jC ks bs)).toArray, .int .i64 0])∧Ext w w':=by
 have h1:=h.le
 have h2:=h.cap
 have h3:=h'.le
 have h4:=h'.cap
 have hk':decide ((32:Int) < (n:Int))=false:=by simp;omega
 have HG:Hid (∀ wr:World,Ext w wr→Gl wr tg):=fun wr e=>hG.kept e hG.lt
 have HGL:=jf (show qJ.length=8 from rfl)
 have hone:=jo qJ
 have hG0:Hid (∀ o,(w.alloc o).heap[0]? =some (.cells (jb qJ).toArray tg.1 tg.2)):=fun o=>hG.kept ((jnQ w).alloc o) hG.lt
 clear hG
 generalize hI:(jb qJ).toArray=I at HGL hone hG0
 replace hI:=Hj hI
 have hal:∀ w,(joK 23).run joz w= .ok (.agg jr) w:=fun _=>by kernel_rfl
 have MW0:Hid (∀ cs,Mw w (((w.alloc (jnX jr 23)).alloc (jnX cs 218)).setRow (w.heap.size+1) (jb qJ).toArray) qJ):=fun cs=>
  ⟨jpd (((jnQ w).alloc _).alloc _) (by omega) _,(jpA _ _ _ _ (by omega)).trans (jQ _ _ _),jpe _ _ _ _ _ _ (jK _ _ _)⟩
 rw [hI.out] at MW0
 generalize jr=Z at hal MW0
 go_enter Tryz.func95,Tryz.ntmps95
 go_upto_region 4 with (first
  | refine wpList_load_row rfl 218 _ rfl 0 rfl tg.1 I tg.2 _ (hG0.out _) rfl rfl (by rw [HGL];rfl) ?_
  | refine ws_ rfl 218 rfl (w.heap.size+1) I rfl rfl (by with_reducible exact jK _ _ _) (by rw [HGL];rfl) (by rw [HGL];rfl) hone ?_)
 refine jg (fun wr=>Mw w wr qJ) (MW0.out _) ?_
 clear MW0 hal hone HGL hG0 hI
 clear Z
 rintro w0 M0
 have x1:bits .xor .u32 16842784 ((n:Int)*256)=((16842784^^^n*256:Nat):Int):=by
  rw [show (n:Int)*256=((n*256:Nat):Int) by omega]
  exact jn6 16842784 (n*256) (by decide) (by omega)
 have x2:bits .xor .u32 (wd qJ 0:Int) ((16842784^^^n*256:Nat):Int)=((wd qJ 0^^^(16842784^^^n*256):Nat):Int):=jn6 _ _ (zZ 0) (jL (by decide) (by omega))
 have c0:=M0.2.2.cell (i:=0) (by decide)
 have f0:=M0.2.2.frozen 0
 go_upto_if 24 with (fail)
 refine jg (fun wr=>Mw w wr (h0L n)) (M0.set 0 _) ?_
 clear x1 x2 c0 f0 M0 w0
 rintro w0 M0
 replace HG:=Hj (HG.out)
 go_cut [7] (fun s7 wx=>∃ (t0:Nat) (hs:List Nat),s7= .int .u64 (t0:Int)∧hs.length=8∧Lt32 hs∧t0≤64∧Mw w wx hs∧jC ks bs=Yt hs t0 bs)
 case first=>
  by_cases hn:n=0
  ·subst hn
   go_wp2_with fail
   go_meet
   exact ⟨0,h0L 0,rfl,Zc 0,jc7 (by omega),by omega,M0,by unfold jC;rw [if_pos h.len]⟩
  ·have hn':decide (0 < n)=true:=by simp;omega
   have WS:=jf (Zc n)
   have M0':=Hj M0
   have hK:ks.length≠0:=by rw [h.len];exact hn
   have PL:(qQ ks).length=64:=Yk (by rw [h.len];omega)
   have LT:=jc7 hk
   have CALL:Hid (∀ (W:World) (last:Bool),Ext w W→Calls joz 124 #[.agg (jb (h0L n)).toArray, .agg (cellsOf (qQ ks)).toArray, .int .u64 64, .bool last] W fun e w'=>e= .returned (.agg (jb (vp (h0L n) (qQ ks) 64 last)).toArray)∧Ext W w'):=fun W last e=>Qm (t:=64) (Zc n) PL (by decide) (fun j _=>LT j) (HG.out W e)
   clear M0 LT PL
   by_cases hm0:m=0
   ·have hmac:Hid (jC ks bs=qX (vp (h0L n) (qQ ks) 64 true)):=by unfold jC;rw [if_neg hK,if_pos (by rw [h'.len];exact hm0),h.len];rfl
    have HL:=yh (h0L n) (qQ ks) 64 true
    have HB:Hid (Lt32 (vp (h0L n) (qQ ks) 64 true)):=(jc7 hk).comp (by decide) true
    subst hm0
    go_wp2_with fail
    refine ym 8 [0,1,3,4,5,6,2,7,8] [2,7,8] ?_
    refine qzV rfl (fun w'=>w'.heap[(w.heap.size+1)]? =some (.cells (jb (h0L n)).toArray 218 (0,0))) (fun w' e=>(M0'.out.ext ((jnQ _).drew.trans e)).2.2) (.agg (jb (h0L n)).toArray) (fun w' hF=>jd rfl rfl hF rfl rfl (by rw [WS];rfl)) ?_
    go_frame
    repeat (refine jio ?_;go_frame)
    refine qzD fun K1 hK1=> ?_
    go_simp
    refine (Ya (h.ext M0'.out.1.drew) (by omega)).mono ?_
    rintro e w1 ⟨rfl,e1⟩
    refine hK1.out _ _ (.inr e1) ?_
    clear hK1 K1
    try go_frame
    refine qzD fun K1 hK1=> ?_
    go_simp
    refine (CALL.out _ _ (M0'.out.1.drew.trans e1)).mono ?_
    rintro e w2 ⟨rfl,e2⟩
    refine hK1.out _ _ (.inr e2) ?_
    clear hK1 K1
    try go_frame
    have M2:=M0'.out.ext ((jnQ _).drew.trans (e1.trans e2))
    clear CALL e1 e2 M0' WS
    generalize vp (h0L n) (qQ ks) 64 true=C at *
    have WS:=jf HL
    have W1:=jo C
    refine qzD fun K1 hK1=> ?_
    refine joe _ _ _ rfl (w.heap.size+1) (jb C).toArray rfl rfl 218 _ M2.2.2 (by rw [WS];rfl) (by rw [WS];exact jf (Zc n)) W1 ?_
    refine hK1.out _ _ (.inl rfl) ?_
    clear hK1 K1
    refine jN ?_
    refine yf (fun wr=>Mw w wr C) M2.put ?_
    clear M2
    rintro w3 M3
    obtain ⟨e3,r3,h3'⟩:=M3
    replace r3:=Hj r3
    replace h3':=Hj h3'
    go_wp2_with (refine wl_ rfl 218 rfl (w.heap.size+1) rfl h3'.out rfl rfl (by rw [WS];rfl) ?_)
    refine (J8 HL (fun j _=>HB.out j)).mono ?_
    rintro e w4 ⟨rfl,e4⟩
    have BS:(cellsOf (qX C)).toArray.size=32:=by simp [ja,ya,HL]
    have B1:=ji (qX C)
    replace r3:=Hj ((e4.block _ (jh r3.out)).trans r3.out)
    generalize hD:(cellsOf (qX C)).toArray=D at *
    replace hD:=Hj hD
    go_wp2_with (refine ws_ rfl 23 rfl w.heap.size D rfl rfl r3.out (by rw [BS];rfl) (by rw [BS];rfl) B1 ?_)
    (try simp only [jnU,Exit.then])
    refine jnV (v:= .tuple #[.agg D, .int .i64 0]) ?_ rfl ?_
    ·exact qj rfl _ _ w.heap.size 23 D (0,0) _ _ rfl rfl (jpe _ _ _ _ _ _ r3.out) rfl rfl (by rw [BS];rfl)
    ·exact ⟨by rw [hmac.out,hD.out],jpd (e3.trans e4) (joq _) _⟩
   ·have hmac:Hid (jC ks bs=Yt (vp (h0L n) (qQ ks) 64 false) 64 bs):=by unfold jC;rw [if_neg hK,if_neg (by rw [h'.len];exact hm0),h.len];rfl
    have HL:=yh (h0L n) (qQ ks) 64 false
    have HB:Hid (Lt32 (vp (h0L n) (qQ ks) 64 false)):=(jc7 hk).comp (by decide) false
    have hmb:((m:Int)==0)=false:=by simp;exact hm0
    go_wp2_with fail
    refine ym 8 [0,1,3,4,5,6,2,7,8] [2,7,8] ?_
    refine qzV rfl (fun w'=>w'.heap[(w.heap.size+1)]? =some (.cells (jb (h0L n)).toArray 218 (0,0))) (fun w' e=>(M0'.out.ext ((jnQ _).drew.trans e)).2.2) (.agg (jb (h0L n)).toArray) (fun w' hF=>jd rfl rfl hF rfl rfl (by rw [WS];rfl)) ?_
    go_frame
    repeat (refine jio ?_;go_frame)
    refine qzD fun K1 hK1=> ?_
    go_simp
    refine (Ya (h.ext M0'.out.1.drew) (by omega)).mono ?_
    rintro e w1 ⟨rfl,e1⟩
    refine hK1.out _ _ (.inr e1) ?_
    clear hK1 K1
    try go_frame
    refine qzD fun K1 hK1=> ?_
    go_simp
    refine (CALL.out _ _ (M0'.out.1.drew.trans e1)).mono ?_
    rintro e w2 ⟨rfl,e2⟩
    refine hK1.out _ _ (.inr e2) ?_
    clear hK1 K1
    try go_frame
    have M2:=M0'.out.ext ((jnQ _).drew.trans (e1.trans e2))
    clear CALL e1 e2 M0' WS
    generalize vp (h0L n) (qQ ks) 64 false=C at *
    have WS:=jf HL
    have W1:=jo C
    refine qzD fun K1 hK1=> ?_
    refine joe _ _ _ rfl (w.heap.size+1) (jb C).toArray rfl rfl 218 _ M2.2.2 (by rw [WS];rfl) (by rw [WS];exact jf (Zc n)) W1 ?_
    refine hK1.out _ _ (.inl rfl) ?_
    clear hK1 K1
    refine jN ?_
    refine yf (fun wr=>Mw w wr C) M2.put ?_
    clear M2
    rintro w3 M3
    go_wp2_with fail
    go_meet
    exact ⟨64,C,rfl,HL,HB.out,by omega,M3,hmac.out⟩
 case rest=>
  obtain ⟨t0,hs,rfl,hl,hlt,ht0,M1,hmac⟩:=hcut
  replace hmac:=Hj hmac
  clear M0
  have hb':Hid (∀ W,Ext w W→Bs W A' m d bs):=fun W e=>h'.ext e
  have hbl:=h'.len
  replace h':=Hj h'
  replace hlt:=Hj hlt
  go_wp2_with fail
  go_loopw [1,7] (fun x t wx=>∃ (i:Nat) (B:Option Addr) (q c' T:Nat),i≤vJ m∧x= .slice B q c'∧t= .int .u64 (T:Int)∧T=t0+64*i∧q=m - 64*i∧Bs w B q c' (bs.drop (64*i))∧Mw w wx (hAt hs t0 bs i)) (fun x _ _=>jla x)
  case atStart=>exact ⟨0,A',m,d,t0,jor _,rfl,rfl,by omega,by omega,h'.out,M1⟩
  case round=>
   obtain ⟨i,B,q,c',T,hi,rfl,rfl,hT,hq,hB,MI⟩:=hrel
   have q1:=hB.le
   have q2:=hB.cap
   have LT:=Hj (jhx (t:=t0) (bs:=bs) hlt.out i (by unfold vJ at hi;omega))
   have LN:=jfF (t:=t0) (bs:=bs) hl i
   have WS:=jf LN
   have TB:T+64+q < 18446744073709551616:=by unfold vJ at hi;omega
   by_cases hq64:64 < q
   ·have hi1:i+1≤vJ m:=by unfold vJ at hi ⊢;omega
    have HTK:=Hj (hB.take (k:=64) (by omega))
    have MI':=Hj MI
    have PL:(qQ ((bs.drop (64*i)).take 64)).length=64:=Yk (by simp;omega)
    have CALL:Hid (∀ (W:World),Ext w W→Calls joz 124 #[.agg (jb (hAt hs t0 bs i)).toArray, .agg (cellsOf (qQ ((bs.drop (64*i)).take 64))).toArray, .int .u64 ((T:Int)+64), .bool false] W fun e w'=>e= .returned (.agg (jb (hAt hs t0 bs (i+1))).toArray)∧Ext W w'):=fun W e=>by
     have h9:=Qm (t:=T+64) (last:=false) LN PL (by omega) (fun j _=>LT.out j) (HG.out W e)
     rw [hAt,show t0+64*(i+1)=T+64 by omega]
     exact h9
    have LN1:=jfF (t:=t0) (bs:=bs) hl (i+1)
    have hB':=Hj hB
    obtain ⟨b,off,rfl,hbl',hbc⟩:=hB.pos (by omega)
    clear hbc MI PL LT hB
    replace hT:=Hj hT
    replace hq:=Hj hq
    generalize hHI:hAt hs t0 bs i=HI at *
    replace hHI:=Hj hHI
    have c64: ¬ c'=64:=by omega
    have c0: ¬ c'=0:=by omega
    have i64c:(64:Int)≤(c':Int):=by omega
    go_wp2_with fail
    refine ym 6 [0,1,2,4,3,5,6] [3,5,6] ?_
    refine qzV rfl (fun w'=>w'.heap[(w.heap.size+1)]? =some (.cells (jb HI).toArray 218 (0,0))) (fun w' e=>(MI'.out.ext ((jnQ _).drew.trans e)).2.2) (.agg (jb HI).toArray) (fun w' hF=>jd rfl rfl hF rfl rfl (by rw [WS];rfl)) ?_
    go_frame
    repeat (refine jio ?_;go_frame)
    refine qzD fun K1 hK1=> ?_
    go_simp
    refine (Ya (HTK.out.ext MI'.out.1.drew) (by omega)).mono ?_
    rintro e w1 ⟨rfl,e1⟩
    refine hK1.out _ _ (.inr e1) ?_
    clear hK1 K1
    try go_frame
    refine qzD fun K1 hK1=> ?_
    go_simp
    refine (CALL.out _ (MI'.out.1.drew.trans e1)).mono ?_
    rintro e w2 ⟨rfl,e2⟩
    refine hK1.out _ _ (.inr e2) ?_
    clear hK1 K1
    try go_frame
    have e3:Ext wr w2:=((jnQ _).drew.trans (e1.trans e2))
    have M2:=MI'.out.ext e3
    clear CALL e1 e2 e3 MI'
    generalize hHJ:hAt hs t0 bs (i+1)=HJ at *
    replace hHJ:=Hj hHJ
    have WS1:=jf LN1
    have W1:=jo HJ
    refine qzD fun K1 hK1=> ?_
    refine joe _ _ _ rfl (w.heap.size+1) (jb HJ).toArray rfl rfl 218 _ M2.2.2 (by rw [WS1];rfl) (by rw [WS1];exact WS) W1 ?_
    refine hK1.out _ _ (.inl rfl) ?_
    clear hK1 K1
    refine jN ?_
    refine yf (fun wr=>Mw w wr HJ) M2.put ?_
    clear M2 HTK
    rintro w3 M3
    replace M3:=Hj M3
    have i64q:(64:Int)≤(q:Int):=by omega
    go_wp2_with fail
    refine ⟨⟨i+1,_,_,_,T+64,hi1,rfl,by go_num,by have:=hT.out;omega,by have:=hq.out;omega,?_,by rw [hHJ.out];exact M3.out⟩,by simp only [jla];omega⟩
    have h9:=hB'.out.cutAt hq64
    rw [List.drop_drop] at h9
    exact h9
   ·have hif:i=vJ m:=by unfold vJ at hi ⊢;omega
    have MI':=Hj MI
    have PL:(qQ (bs.drop (64*i))).length=64:=Yk (by simp;omega)
    have hTm:T+q=t0+m:=by unfold vJ at hif;omega
    have HMT:Hid (jC ks bs=qX (vp (hAt hs t0 bs i) (qQ (bs.drop (64*i))) (T+q) true)):=by
     rw [hmac.out,Yt,hbl,←hif,hTm];rfl
    have CALL:Hid (∀ (W:World),Ext w W→Calls joz 124 #[.agg (jb (hAt hs t0 bs i)).toArray, .agg (cellsOf (qQ (bs.drop (64*i)))).toArray, .int .u64 ((T:Int)+(q:Int)), .bool true] W fun e w'=>e= .returned (.agg (jb (vp (hAt hs t0 bs i) (qQ (bs.drop (64*i))) (T+q) true)).toArray)∧Ext W w'):=fun W e=>Qm (t:=T+q) (last:=true) LN PL (by omega) (fun j _=>LT.out j) (HG.out W e)
    have LN1:=yh (hAt hs t0 bs i) (qQ (bs.drop (64*i))) (T+q) true
    have LT1:Hid (Lt32 (vp (hAt hs t0 bs i) (qQ (bs.drop (64*i))) (T+q) true)):=LT.out.comp (by omega) true
    have hB':=Hj hB
    clear MI PL LT hB hif hTm
    replace hT:=Hj hT
    replace hq:=Hj hq
    generalize hHI:hAt hs t0 bs i=HI at *
    generalize vp HI (qQ (bs.drop (64*i))) (T+q) true=HJ at *
    have BS:(cellsOf (qX HJ)).toArray.size=32:=by simp [ja,ya,LN1]
    have B1:=ji (qX HJ)
    have KEEP:Hid (∀ w':World,wr.grownBy w' (some w.heap.size)→Wr w' (w.heap.size+1) 218 HI):=fun w' e=>(e.block (w.heap.size+1) (MI'.out.2.2.lt) (fun q=>by injection q with q;omega)).trans MI'.out.2.2
    replace hHI:=Hj hHI
    go_wp2_with fail
    refine qgW (w.heap.size) [0,1,3,2,4,5,6,7] [2,4,5,6] ?_
    refine qV rfl (fun w'=>w'.heap[(w.heap.size+1)]? =some (.cells (jb HI).toArray 218 (0,0))) (fun w' e=>KEEP.out w' (jj (jV (jnQ _).drew _) e)) (.agg (jb HI).toArray) (fun w' hF=>jd rfl rfl hF rfl rfl (by rw [WS];rfl)) ?_
    go_frame
    repeat ((first | refine qR0 ?_ | refine qS ?_);go_frame)
    refine qD fun K1 hK1=> ?_
    go_simp
    refine (Ya (hB'.out.ext MI'.out.1.drew) (by omega)).mono ?_
    rintro e w1 ⟨rfl,e1⟩
    refine hK1.out _ _ (jV e1 _) ?_
    clear hK1 K1
    try go_frame
    refine qD fun K1 hK1=> ?_
    go_simp
    refine (CALL.out _ (MI'.out.1.drew.trans e1)).mono ?_
    rintro e w2 ⟨rfl,e2⟩
    refine hK1.out _ _ (jV e2 _) ?_
    clear hK1 K1
    try go_frame
    refine qD fun K1 hK1=> ?_
    go_simp
    refine (J8 LN1 (fun j _=>LT1.out j)).mono ?_
    rintro e w3 ⟨rfl,e3⟩
    refine hK1.out _ _ (jV e3 _) ?_
    clear hK1 K1
    try go_frame
    have e4:Ext wr w3:=((jnQ _).drew.trans (e1.trans (e2.trans e3)))
    have M4:=Hj (MI'.out.ext e4)
    generalize hD:(cellsOf (qX HJ)).toArray=D at *
    replace hD:=Hj hD
    clear CALL e1 e2 e3 e4 MI' KEEP
    refine qD fun K1 hK1=> ?_
    refine joe _ _ _ rfl w.heap.size D rfl rfl 23 _ M4.out.2.1 (by rw [BS];rfl) (by rw [BS];rfl) B1 ?_
    refine hK1.out _ _ (jet _ _ _) ?_
    clear hK1 K1
    try go_frame
    repeat ((first | refine qR0 ?_ | refine qS ?_);go_frame)
    refine jp ?_
    go_wp2_with fail
    (try simp only [jnU,Exit.then])
    refine jnV (v:= .tuple #[.agg D, .int .i64 0]) ?_ rfl ?_
    ·exact qj rfl _ _ w.heap.size 23 D (0,0) _ _ rfl rfl (jpe _ _ _ _ _ _ M4.out.2.1) rfl rfl (by rw [BS];rfl)
    ·exact ⟨by rw [HMT.out,hD.out],jpd M4.out.1 (joq _) _⟩
set_option maxRecDepth 100000 in
theorem Qp {A:Option Addr}{m d:Nat}{ks bs:List UInt8}{w:World}(hk:ks.length=32) (h:Bs w A m d bs){tg:joE×Nat×Nat}(hG:Gl w tg):
 Calls joz 114 #[.agg (cellsOf ks).toArray, .slice A m d] w fun e w'=>e= .returned (.agg (cellsOf (jC ks bs)).toArray)∧Ext w w':=by
 have hal:∀ w,(joK 23).run joz w= .ok (.agg jr) w:=fun _=>by kernel_rfl
 have HL:(cellsOf (jC ks bs)).toArray.size=32:=by simp [ja,qr]
 have H1:=ji (jC ks bs)
 have KB:Hid (∀ o,Bs ((w.alloc (jnX (cellsOf ks).toArray 23)).alloc o) (some ⟨w.heap.size,0,none⟩) 32 32 ks):=fun o=>(Ky.bs (Ky.boxed w hk)).ext ((jnQ _).alloc _)
 have CALL:Hid (∀ W,Ext w W→Bs W (some ⟨w.heap.size,0,none⟩) 32 32 ks→Calls joz 95 #[.slice (some ⟨w.heap.size,0,none⟩) 32 32, .slice A m d] W fun e w'=>e= .returned (.tuple #[.agg (cellsOf (jC ks bs)).toArray, .int .i64 0])∧Ext W w'):=
  fun W e b=>Zi b (h.ext e) (by omega) (hG.kept e hG.lt)
 clear hG
 have hz0:=j7
 generalize jr=Z at *
 generalize (cellsOf (jC ks bs)).toArray=D at *
 generalize (cellsOf ks).toArray=KS at *
 go_enter Tryz.func114,Tryz.ntmps114
 go_wp2_with fail
 refine (CALL.out _ (((jnQ w).alloc _).alloc _) (KB.out _)).mono ?_
 rintro e w1 ⟨rfl,e1⟩
 have r0:=Hj ((e1.block (w.heap.size+1) (by rw [je,je];omega)).trans (jK w (jnX KS 23) (jnX Z 23)))
 have r1:Hid (((w1.alloc (jnX Z 23)).setRow w1.heap.size D).heap[w.heap.size+1]? =some (jnX Z 23)):=(jpA _ _ _ _ (Nat.ne_of_lt (jh r0.out))).trans (((jnQ w1).alloc _ |>.block _ (jh r0.out)).trans r0.out)
 clear CALL KB
 go_wp2_with (first
  | refine ws_ rfl 23 rfl w1.heap.size D rfl rfl (by with_reducible exact jps _ _) (by rw [HL];rfl) (by rw [HL];exact hz0) H1 ?_
  | refine wl_ rfl 23 rfl w1.heap.size rfl (by with_reducible exact jpe _ _ _ _ _ _ (jps _ _)) rfl rfl (by rw [HL];rfl) ?_
  | refine ws_ rfl 23 rfl (w.heap.size+1) D rfl rfl (by with_reducible exact r1.out) (by rw [HL];rfl) (by rw [HL];exact hz0) H1 ?_)
 (try simp only [jnU,Exit.then])
 refine jnV (jnW rfl _ _ (w.heap.size+1) 23 D (0,0) _ rfl (jpe _ _ _ _ _ _ r1.out) rfl rfl (by rw [HL];rfl)) rfl ?_
 exact ⟨rfl,jpd (jpd (((((jnQ w).alloc _).alloc _).trans e1).alloc _) (jo2 (Nat.le_succ _) (jnT (jh r0.out))) _) (Nat.le_succ _) _⟩
theorem jhZ {w':World}{B k:Nat}{v':Value}{xs:List UInt8}(ho:w'.ownsRow B 5 1 v' k (xs.map u8v)):∃ A'' c'',v'= .slice A'' k c''∧Own B w' A'' k c'' xs:=by
 rcases ho.2 with ⟨hv,hn⟩ | ⟨g,cap,cur,hv,_⟩
 ·refine ⟨none,0,by rw [hv,hn],?_⟩
  rw [hv] at ho
  unfold Own
  rw [show (Value.slice none k 0)= .slice none 0 0 by rw [hn]]
  exact ho
 ·refine ⟨_,_,hv,?_⟩
  rw [hv] at ho
  exact ho
theorem jed {w:World}{B:Nat}{A:Option Addr}{n c:Nat}{xs ys:List UInt8}(ty:joE) (h:Own B w A n c xs) (hm:n+ys.length≤140737488355328) (hB:B≤w.heap.size):
 ∃ A'' c'' w',(joc #[33,9] ty #[.slice A n c, .string (vR ys)]).run joz w= .ok (.slice A'' (n+ys.length) c'') w'∧Own B w' A'' (n+ys.length) c'' (xs++ys)∧w.grownBy w' (joa (.slice A n c)):=by
 obtain ⟨i,hi,hz0,hz1,hz2⟩:=info_parts jdb
 obtain ⟨v',w',hr,ho,hg,_⟩:=Lib.run_append_own_string (P:=joz) w B 33 9 ty 5 i joA Tryz.underlying9 hi hz0 hz1 hz2 (.slice A n c) n (xs.map u8v) h (vR ys) (by rw [Zq];unfold maxLen;omega) (by rw [Zq];exact hm) hB
 rw [Zq] at ho
 have e:xs.map u8v++Lib.strCells (vR ys)=(xs++ys).map u8v:=by
  rw [jpy]
  congr 1
 rw [e] at ho
 obtain ⟨A'',c'',rfl,ho'⟩:=jhZ ho
 exact ⟨A'',c'',w',hr,ho',hg⟩
theorem jbq {w:World}{o:Oper}{a:Act}{K:Act→World→Prop}{Q:Exit→Act→World→Prop}{B:Nat}{A:Option Addr}{n c:Nat}{xs ys:List UInt8}{s x:Operand}
 (ho:o.op= .call {callee:= .builtin .append,args:= #[s,x],argTypes:= #[33,9]}) (hs:a.eval s= .slice A n c) (hx:a.eval x= .string (vR ys))
 (h:Own B w A n c xs) (hm:n+ys.length≤140737488355328) (hB:B≤w.heap.size)
 (hK:∀ A'' c'' w',Own B w' A'' (n+ys.length) c'' (xs++ys)→w.grownBy w' (joa (.slice A n c))→Below B w w'→K (a.put o.dst (.slice A'' (n+ys.length) c'')) w'):o.wp joz a w K Q:=by
 obtain ⟨A'',c'',w',hrun,h2,h3⟩:=jed o.type h hm hB
 unfold Oper.wp jo0
 simp only [ho,resolve,invoke,builtin,jpk,jpl,jpm,jpG,jpC,jpH,hs,hx,hrun]
 exact hK A'' c'' w' h2 h3 ((joo B w).grown h3 hB h.ge)
theorem QP {w:World}{ops:Array Oper}{rest:List Oper}{o:Oper}{a:Act}{Q:Exit→Act→World→Prop}(hgd:o.guard=none){B:Nat}{A:Option Addr}{n c:Nat}{xs ys:List UInt8}{s x:Operand}
 (ho:o.op= .call {callee:= .builtin .append,args:= #[s,x],argTypes:= #[33,9]}) (hs:a.eval s= .slice A n c) (hx:a.eval x= .string (vR ys))
 (h:Own B w A n c xs) (hm:n+ys.length≤140737488355328) (hB:B≤w.heap.size)
 (hK:∀ A'' c'' w',Own B w' A'' (n+ys.length) c'' (xs++ys)→w.grownBy w' (joa (.slice A n c))→Below B w w'→wpList joz ops Q rest (a.put o.dst (.slice A'' (n+ys.length) c'')) w'):wpList joz ops Q (o::rest) a w:=
 wpList_plain hgd fun _ hK'=>jbq ho hs hx h hm hB fun A'' c'' w' h2 h3 h4=>hK' _ _ (hK A'' c'' w' h2 h3 h4)
theorem Bs.one (w:World) (t:joE) (fr:Nat×Nat) (x:UInt8):Bs (w.alloc (.cells #[.int .u8 (x.toNat:Int)] t fr)) (some ⟨w.heap.size,0,none⟩) 1 1 [x]:=
 Bs.of_list rfl (jps _ _) ⟨rfl,by omega⟩
end
section
def jbZ (ks ps:List UInt8):Nat→List UInt8
 | 0=> []
 | i+1=>jC ks (jbZ ks ps i++ps++ [jov (i+1)])
def jbj (ks ps:List UInt8):Nat→List UInt8
 | 0=> []
 | i+1=>jbj ks ps i++jbZ ks ps (i+1)
theorem jg8 (ks ps:List UInt8) (i:Nat):(jbZ ks ps (i+1)).length=32:=by rw [jbZ,qr]
theorem jax (ks ps:List UInt8):∀ i,(jbj ks ps i).length=32*i
 | 0=>rfl
 | i+1=>by rw [jbj,joI,jax ks ps i,jg8];omega
def QL (ks ps:List UInt8) (m:Nat):List UInt8:=(jbj ks ps ((m+31) / 32)).take m
theorem je9 (ks ps:List UInt8):QL ks ps 32=jC ks (ps++ [1]):=by
 unfold QL
 rw [show (32+31) / 32=0+1 from rfl,jbj,jbj,jbZ,jbZ]
 simp only [jn7,joB]
 rw [jpo (by rw [qr];omega)]
 rfl
def jM (ks ps:List UInt8):List UInt8:=jC ks (ps++ [1])
theorem jR (ks ps:List UInt8):(jM ks ps).length=32:=qr _ _
end
section
open Go.ChangeShapes Go.WideShapes Go.ChangeAt Go.RowKit Go.Deep
def Sp (w wr:World) (ks ps:List UInt8) (O:Option Addr) (on oc:Nat) (os:List UInt8) (L:Option Addr) (ln lc:Nat) (ls:List UInt8):Prop:=
 Ext w wr∧wr.heap[w.heap.size]? =some (.cells (cellsOf ks).toArray 23 (0,0))∧wr.heap[w.heap.size+1]? =some (.cells #[.string (vR ps)] 9 (0,0))∧
 wr.heap[w.heap.size+1+1]? =some (.cells #[.slice O on oc] 33 (0,0))∧wr.heap[w.heap.size+1+1+1]? =some (.cells #[.slice L ln lc] 33 (0,0))∧Own (w.heap.size+1+1+1+1) wr O on oc os∧Bs wr L ln lc ls
theorem Sp.size {w wr:World}{ks ps os ls:List UInt8}{O L:Option Addr}{on oc ln lc:Nat}(h:Sp w wr ks ps O on oc os L ln lc ls):w.heap.size+1+1+1 < wr.heap.size:=jh h.2.2.2.2.1
theorem Sp.ext {w wr wr':World}{ks ps os ls:List UInt8}{O L:Option Addr}{on oc ln lc:Nat}(h:Sp w wr ks ps O on oc os L ln lc ls) (e:Ext wr wr'):Sp w wr' ks ps O on oc os L ln lc ls:=by
 obtain ⟨a,b,c,d,f,g,i⟩:=h
 exact ⟨a.trans e,(e.block _ (jh b)).trans b,(e.block _ (jh c)).trans c,(e.block _ (jh d)).trans d,(e.block _ (jh f)).trans f,g.ext e,i.ext e⟩
def jkT (w:World) (ks ps os ls:List UInt8) (e:Ending) (w':World):Prop:=
 e= .returned (.tuple #[])∧∃ O n c L lc,Sp w w' ks ps O n c os L 32 lc ls
set_option maxRecDepth 100000 in
theorem je8 {w wr:World}{ks ps os ls:List UInt8}{O L:Option Addr}{on oc ln lc:Nat}{x:UInt8}(hk:ks.length=32) (h:Sp w wr ks ps O on oc os L ln lc ls) (h1:ps.length≤1000000) (h2:ln≤32) (h3:on≤1000000){tg:joE×Nat×Nat}(hG:Gl w tg):
 Calls joz 166 #[.int .u8 (x.toNat:Int), .pointer (some ⟨w.heap.size+1+1+1,0,none⟩), .pointer (some ⟨w.heap.size+1,0,none⟩), .pointer (some ⟨w.heap.size,0,none⟩), .pointer (some ⟨w.heap.size+1+1,0,none⟩)] wr (jkT w ks ps (os++jC ks (ls++ps++ [x])) (jC ks (ls++ps++ [x]))):=by
 have LT:=h.size
 have KEEP:Hid (∀ w',Ext wr w'→w'.cell? ⟨w.heap.size+1,0,none⟩=some (.string (vR ps))∧w'.cell? ⟨w.heap.size+1+1,0,none⟩=some (.slice O on oc)∧w'.cell? ⟨w.heap.size+1+1+1,0,none⟩=some (.slice L ln lc)):=fun w' e=>⟨cell_of_one (h.ext e).2.2.1,cell_of_one (h.ext e).2.2.2.1,cell_of_one (h.ext e).2.2.2.2.1⟩
 have HS:=Hj h
 have HG:=Hj (fun W e=>Gl.kept hG (w':=W) e hG.lt)
 clear hG
 have cL:=(KEEP.out _ (jnQ wr)).2.2
 have i:=Hj h.2.2.2.2.2.2
 have ML:=qr ks (ls++ps++ [x])
 generalize hm:jC ks (ls++ps++ [x])=m at *
 replace hm:=Hj hm
 have KS:(cellsOf ks).toArray.size=32:=by simp [ja,hk]
 have MS:(cellsOf m).toArray.size=32:=by simp [ja,ML]
 have M1:=ji m
 have hal:∀ w,(joK 23).run joz w= .ok (.agg jr) w:=fun _=>by kernel_rfl
 have hz0:=j7
 generalize jr=Z at *
 clear h
 go_enter Tryz.func166,Tryz.ntmps166
 go_wp2_with (first
  | (at_builtin;(with_reducible refine jJ rfl (B:=wr.heap.size) (s:= .tmp 8) (x:= .tmp 9) rfl rfl rfl (Own.nil _ wr) i.out (by omega) (joq _) ?_);intro A1 c1 w1 o1 g1 b1;clear g1;simp only [joB,jn7] at o1 ⊢;replace o1:=Hj o1;have k1:=(KEEP.out _ b1).1;replace b1:=Hj b1;go_frame)
  | (at_builtin;(with_reducible refine QP rfl (ys:=ps) (B:=wr.heap.size) (s:= .tmp 11) (x:= .tmp 12) rfl rfl rfl o1.out (by omega) b1.out.size ?_);intro A2 c2 w2 o2 g2 b2;clear g2;replace o2:=Hj o2;replace b2:=Hj (jop b1.out b2);clear k1;go_frame)
  | (at_builtin;(with_reducible refine jJ rfl (B:=wr.heap.size) (s:= .tmp 14) (x:= .tmp 16) rfl rfl rfl (o2.out.ext ((jnQ _).alloc _)) (Bs.one _ _ _ _) (by omega) (jo2 b2.out.size (by simp)) ?_);intro A3 c3 w3 o3 g3 b3;clear g3;replace o3:=Hj o3.bs;replace b3:=Hj (jop (Below.alloc b2.out b2.out.size _) b3);go_frame)
  | (refine wl_ rfl 23 rfl w.heap.size rfl (HS.out.ext b3.out).2.1 rfl rfl (by rw [KS];rfl) ?_;go_frame))
 have dc:=Qp hk o3.out (HG.out _ (HS.out.1.trans b3.out))
 rw [hm.out] at dc
 refine dc.mono ?_
 clear dc
 rintro e w4 ⟨rfl,e4⟩
 go_upto_region 5 with (refine ws_ rfl 23 rfl w4.heap.size (cellsOf m).toArray rfl rfl (by with_reducible exact jps _ _) (by rw [MS];rfl) (by rw [MS];exact hz0) M1 ?_;go_frame)
 have E4:Ext wr w4:=Ext.trans (show Ext wr w3 from b3.out) e4
 have gE:wr.heap.size≤w4.heap.size:=E4.size
 refine jg (fun W=>Ext wr W∧Ky W w4.heap.size m) ⟨E4.trans (Ext.newRow _ _ _),Ky.new _ ML⟩ ?_
 rintro w5 ⟨e5,ky5⟩
 generalize w4.heap.size=gb at *
 clear E4 e4 o3 b3 o1 b1 o2 b2
 have S5:=HS.out.ext e5
 have c5:=cell_of_one S5.2.2.2.2.1
 have f5:=free_of_one S5.2.2.2.2.1
 replace S5:=Hj S5
 replace e5:=Hj e5
 replace ky5:=Hj ky5
 go_upto_region 6 with fail
 have OB:∀ g,joa (.slice O on oc)=some g→w.heap.size+1+1+1+1≤g∧g < wr.heap.size:=fun g hg=>job HS.out.2.2.2.2.2.1 g hg
 refine jg (fun W=>Sp w W ks ps O on oc os (some ⟨gb,0,none⟩) 32 32 m∧Ky W gb m) ?_ ?_
 ·obtain ⟨a,b,c,d,f,g,i⟩:=S5.out
  have bl:∀ j o,w5.heap[j]? =some o→j≠w.heap.size+1+1+1→(w5.setCell ⟨w.heap.size+1+1+1,0,none⟩ (.slice (some ⟨gb,0,none⟩) 32 32)).heap[j]? =some o:=fun j o hj hne=>(jo9 _ _ _ _ hne).trans hj
  have ky6:Ky (w5.setCell ⟨w.heap.size+1+1+1,0,none⟩ (.slice (some ⟨gb,0,none⟩) 32 32)) gb m:=⟨bl _ _ ky5.out.1 (by omega),ky5.out.2⟩
  refine ⟨⟨a.setCell (show w.heap.size≤w.heap.size+1+1+1 by omega) _,bl _ _ b (by omega),bl _ _ c (by omega),bl _ _ d (by omega),one_setCell f,?_,ky6.bs⟩,ky6⟩
  refine Own.kept g (Qr (jV (jnQ w5) _) 0 _) (.inr fun hq=> ?_)
  have:=(OB _ hq).1
  omega
 rintro w6 ⟨S6,ky6⟩
 have c6:=cell_of_one S6.2.2.2.1
 have l6:=cell_of_one S6.2.2.2.2.1
 have o6:=Hj S6.2.2.2.2.2.1
 have d6:=Hj S6.2.2.2.1
 have kb6:=Hj ky6.bs
 replace S6:=Hj S6
 replace ky6:=Hj ky6
 have z6:w.heap.size+1+1+1+1≤w6.heap.size:=S6.out.size
 clear c5 f5 S5 e5 ky5 KEEP cL i
 go_wp2_with (at_builtin;((with_reducible refine jJ rfl (B:=w.heap.size+1+1+1+1) (s:= .tmp 22) (x:= .tmp 23) rfl rfl rfl o6.out kb6.out (by omega) z6 ?_);intro A7 c7 w7 o7 g7 b7;have h7:=(b7.block (w.heap.size+1+1) (by omega)).trans d6.out;have d7:=cell_of_one h7;have f7:=free_of_one h7;replace h7:=Hj h7;replace o7:=Hj o7;replace b7:=Hj b7;replace g7:=Hj g7;go_frame))
 go_end0
 refine ⟨rfl,A7,on+32,c7,some ⟨gb,0,none⟩,32,?_⟩
 obtain ⟨a,b,c,d,f,g,i⟩:=S6.out
 have bl:∀ j o,w6.heap[j]? =some o→j < w.heap.size+1+1+1+1→j≠w.heap.size+1+1→(w7.setCell ⟨w.heap.size+1+1,0,none⟩ (.slice A7 (on+32) c7)).heap[j]? =some o:=fun j o hj hlt hne=>(jo9 _ _ _ _ hne).trans ((b7.out.block j hlt).trans hj)
 have kb:Ky (w7.setCell ⟨w.heap.size+1+1,0,none⟩ (.slice A7 (on+32) c7)) gb m:=by
  refine ⟨(jo9 _ _ _ _ (show gb≠w.heap.size+1+1 by omega)).trans ((g7.out.block gb (jh ky6.out.1) (fun q=> ?_)).trans ky6.out.1),ky6.out.2⟩
  have:=(OB gb q.symm).2
  omega
 refine ⟨Ext.setCell (jop a (b7.out.mono (by omega))) (show w.heap.size≤w.heap.size+1+1 by omega) _,bl _ _ b (by omega) (by omega),bl _ _ c (by omega) (by omega),one_setCell h7.out,bl _ _ f (by omega) (by omega),?_,kb.bs⟩
 refine Own.kept o7.out (Qr (jV (jnQ w7) _) 0 _) (.inr fun hq=> ?_)
 have:=o7.out.ge _ hq
 omega
theorem jcT (w:World) (o1 o2 o3 o4:Obj):((((w.alloc o1).alloc o2).alloc o3).alloc o4).heap[w.heap.size]? =some o1:=by
 rw [jpi _ _ _ (by rw [je,je,je];omega)]
 exact jF w o1 o2 o3
theorem jcU (w:World) (o1 o2 o3 o4:Obj):((((w.alloc o1).alloc o2).alloc o3).alloc o4).heap[w.heap.size+1]? =some o2:=by
 rw [jpi _ _ _ (by rw [je,je,je];omega)]
 exact jH w o1 o2 o3
theorem jcV (w:World) (o1 o2 o3 o4:Obj):((((w.alloc o1).alloc o2).alloc o3).alloc o4).heap[w.heap.size+1+1]? =some o3:=by
 rw [jpi _ _ _ (by rw [je,je,je];omega)]
 exact jB w o1 o2 o3
theorem jcW (w:World) (o1 o2 o3 o4:Obj):((((w.alloc o1).alloc o2).alloc o3).alloc o4).heap[w.heap.size+1+1+1]? =some o4:=by
 have:=jB (w.alloc o1) o2 o3 o4
 rwa [je] at this
set_option maxRecDepth 100000 in
theorem jcG {ks ps:List UInt8}{m:Nat}{w:World}(hk:ks.length=32) (h1:ps.length≤1000000) (hm:m≤2000){tg:joE×Nat×Nat}(hG:Gl w tg):
 Calls joz 144 #[.agg (cellsOf ks).toArray, .string (vR ps), .int .i64 (m:Int)] w (YP (QL ks ps m) 0 w):=by
 have q1':decide ((m:Int) < 0)=false:=decide_eq_false (by omega)
 have q2':decide ((2000:Int) < (m:Int))=false:=decide_eq_false (by omega)
 have HG:=Hj hG
 clear hG
 have SP0:Hid (Sp w ((((w.alloc (jnX (cellsOf ks).toArray 23)).alloc (jnX #[.string (vR ps)] 9)).alloc (jnX #[.slice none 0 0] 33)).alloc (jnX #[.slice none 0 0] 33)) ks ps none 0 0 [] none 0 0 []):=
  ⟨((((jnQ w).alloc _).alloc _).alloc _).alloc _,jcT _ _ _ _ _,jcU _ _ _ _ _,jcV _ _ _ _ _,jcW _ _ _ _ _,Own.nil _ _,Bs.nil _⟩
 go_enter Tryz.func144,Tryz.ntmps144
 go_wp2_with fail
 go_loopw [11] (fun v wr=>∃ (i j n:Nat) (O:Option Addr) (oc:Nat) (L:Option Addr) (ln lc:Nat),v= .int .u8 (j:Int)∧j=i+1∧n=32*i∧n < m+32∧ln≤32∧Sp w wr ks ps O n oc (jbj ks ps i) L ln lc (jbZ ks ps i)) (fun v _=>64 - (intOf v).toNat)
 case atStart=>exact ⟨0,1,0,none,0,none,0,0,rfl,rfl,rfl,by omega,by omega,SP0.out⟩
 case round=>
  obtain ⟨i,j,n,O,oc,L,ln,lc,rfl,hj,hn,hi,hln,sp⟩:=hrel
  clear SP0
  have cO:=cell_of_one sp.2.2.2.1
  have zz:=sp.size
  have hE:=sp.1
  by_cases hlt:n < m
  ·have CALL:Calls joz 166 #[.int .u8 (j:Int), .pointer (some ⟨w.heap.size+1+1+1,0,none⟩), .pointer (some ⟨w.heap.size+1,0,none⟩), .pointer (some ⟨w.heap.size,0,none⟩), .pointer (some ⟨w.heap.size+1+1,0,none⟩)] wr (jkT w ks ps (jbj ks ps (i+1)) (jbZ ks ps (i+1))):=by
    have h9:=je8 (x:=jov j) hk sp h1 hln (by omega) HG.out
    have hx:(jov j).toNat=j:=by simp;omega
    rw [hx] at h9
    rw [jbj,jbZ,←hj]
    exact h9
   replace CALL:=Hj CALL
   clear sp
   replace hj:=Hj hj
   replace hn:=Hj hn
   have j64:(j:Int)≤64:=by have:=hj.out;have:=hn.out;omega
   go_wp2_with (go_at_call 166;refine CALL.out.mono ?_;rintro e w1 ⟨rfl,O1,n1,c1,L1,lc1,sp1⟩;replace sp1:=Hj sp1;go_frame)
   refine ⟨⟨i+1,j+1,n1,O1,c1,L1,32,lc1,by go_num,by have:=hj.out;omega,?_,?_,by omega,sp1.out⟩,by have:=hj.out;have:=hn.out;simp [intOf];omega⟩
   ·have:=sp1.out.2.2.2.2.2.1.len
    rw [jax] at this
    omega
   ·have:=sp1.out.2.2.2.2.2.1.len
    rw [jax] at this
    have:=hn.out
    omega
  ·have hS:QL ks ps m=(jbj ks ps i).take m:=by
    unfold QL
    rw [show (m+31) / 32=i by omega]
   replace hS:=Hj hS
   have own:=sp.2.2.2.2.2.1
   have B:=own.bs
   have BT:=Hj (B.take (k:=m) (by omega))
   have n1:=B.le
   have n2:=B.cap
   rcases own.2 with ⟨hv,hn0⟩ | ⟨g,cap,cur,hv,_⟩
   ·injection hv with p1 p2 p3
    subst p1 p3
    obtain rfl:n=0:=hn0
    obtain rfl:m=0:=by omega
    clear own sp B
    replace hn:=Hj hn
    replace hj:=Hj hj
    go_wp2_with fail
    go_ret2
    exact ⟨_,_,_,rfl,by rw [hS.out];exact BT.out,hE⟩
   ·injection hv with p1 p2 p3
    subst p1 p3
    clear own sp B
    replace hn:=Hj hn
    replace hj:=Hj hj
    go_wp2_with fail
    go_ret2
    exact ⟨_,_,_,rfl,by rw [hS.out];exact BT.out.recap (joq _),hE⟩
def Ss (w:World) (A:Option Addr) (n:Nat) (l:List (List UInt8)):Prop:=
 l.length=n∧(0 < n→∃ b off,A=some ⟨b,off,none⟩∧b < w.heap.size∧∀ j,j < n→w.cell? ⟨b,off+j,none⟩=some (.string (vR (l.getD j []))))
theorem Ss.ext {w w':World}{A:Option Addr}{n:Nat}{l:List (List UInt8)}(h:Ss w A n l) (e:Ext w w'):Ss w' A n l:=⟨h.1,fun h0=>by
 obtain ⟨b,off,q,hb,hc⟩:=h.2 h0
 exact ⟨b,off,q,jos hb e.size,fun j hj=>(e.cell hb).trans (hc j hj)⟩⟩
def Kr (w:World) (g:Nat) (l:List (List UInt8)):Prop:=w.heap[g]? =some (.cells (cellsOf l.flatten).toArray 23 (0,0))∧∀ x∈l,x.length=32
def jfp (l:List (List UInt8)) (w:World) (e:Ending) (w':World):Prop:=∃ g,e= .returned (.slice (some ⟨g,0,none⟩) l.length l.length)∧w.heap.size≤g∧Kr w' g l∧Ext w w'
theorem Kr.ext {w w':World}{g:Nat}{l:List (List UInt8)}(h:Kr w g l) (e:Ext w w'):Kr w' g l:=⟨(e.block g (jh h.1)).trans h.1,h.2⟩
theorem jai {l:List (List UInt8)}(h:∀ x∈l,x.length=32):l.flatten.length=32*l.length:=by
 induction l with
 | nil=>rfl
 | cons a l ih=>
   rw [List.flatten_cons,joI,ih (fun x hx=>h x (jpE _ hx)),h a (jpD ..),List.length_cons]
   omega
theorem jfD {l:List (List UInt8)}(h:∀ x∈l,x.length=32){j i:Nat}(hj:j < l.length) (hi:i < 32):bt l.flatten (32*j+i)=bt (l.getD j []) i:=by
 induction l generalizing j with
 | nil=>simp at hj
 | cons a l ih=>
   have ha:=h a (jpD ..)
   have hl:∀ x∈l,x.length=32:=fun x hx=>h x (jpE _ hx)
   cases j with
   | zero=>
     unfold bt
     simp only [List.flatten_cons,jot,Nat.mul_zero,joB,joQ,Option.getD_some]
     rw [jpu (by omega)]
   | succ j=>
     have:=ih hl (j:=j) (by simpa using hj)
     unfold bt at this ⊢
     simp only [List.flatten_cons,jot,List.getElem?_cons_succ] at this ⊢
     rw [jpt (by omega),ha,show 32*(j+1)+i - 32=32*j+i by omega]
     exact this
theorem Kr.cell {w:World}{g:Nat}{l:List (List UInt8)}(h:Kr w g l){j i:Nat}(hj:j < l.length) (hi:i < 32):w.cell? ⟨g,32*j+i,none⟩=some (.int .u8 (bt (l.getD j []) i:Int)):=by
 rw [jpg w g _ _ _ _ h.1,←jfD h.2 hj hi]
 have hl:=jai h.2
 have:=jZ (xs:=l.flatten) (j:=32*j+i) (by omega)
 simpa using this
theorem Kr.row {w:World}{g:Nat}{l:List (List UInt8)}(h:Kr w g l){j:Nat}(hj:j < l.length):∀ i v,(cellsOf (l.getD j []))[i]? =some v→w.cell? ⟨g,32*j+i,none⟩=some v:=fun i v hv=>by
 have hx:(l.getD j []).length=32:=h.2 _ (by simp [jot,hj])
 have hi:i < 32:=by
  have:=(jpz.1 hv).1
  rw [ja] at this
  omega
 rw [jZ (by omega)] at hv
 rw [h.cell hj hi,hv]
theorem jbh (n:Nat):madeCells jr (n*32)=(cellsOf (jpp (32*n) 0)).toArray:=by
 have hz:∀ j,j < 32→jr[j]! = .int .u8 0:=fun j hj=>by
  have h1:jr[j]? =some (.int .u8 0):=by
   unfold jr
   rw [jpv,jn4,if_pos hj]
  rw [getElem!_def,h1]
 have hs:=j7
 apply Array.ext
 ·simp [madeCells,ja];omega
 ·intro i h1 h2
  have hi:i < n*32:=by simpa [madeCells] using h1
  have hb:bt (jpp (32*n) (0:UInt8)) i=0:=by
   unfold bt
   simp [jot,jn4,show i < 32*n by omega]
  have hr:=jZ (xs:=jpp (32*n) (0:UInt8)) (j:=i) (by simp;omega)
  rw [hb] at hr
  have hr2:(cellsOf (jpp (32*n) (0:UInt8))).toArray[i]= .int .u8 0:=by
   have h3:=jpz.1 hr
   simpa using h3.2
  rw [hr2]
  simp only [madeCells,Array.getElem_map,Array.getElem_range,hs]
  exact hz _ (jo5 _ (by decide))
theorem jkZ (n:Nat) (hn:n≤1000000) (w:World):
 (Instr.makeSlice 209 (.int .i64 (n:Int)) (.int .i64 (n:Int))).run joz w= .ok (.slice (some ⟨w.heap.size,0,none⟩) n n) (w.alloc (.cells (cellsOf (jpp (32*n) 0)).toArray 23)):=by
 obtain ⟨i,hi,h0,h1,h2⟩:=info_parts jfG
 have:=run_make (P:=joz) w 209 23 i (.agg jr) Tryz.underlying209 hi h0 .i64 .i64 (n:Int) (n:Int) (by omega) (by omega) (by rw [h2];omega) (by omega)
 rw [this,h1]
 simp only [Int.toNat_natCast]
 rw [show (jpr jr).cells=jr from rfl,jbh]
def kfl (ks:List UInt8) (l:List (List UInt8)) (k:Nat):List UInt8:=((l.take k).map (jM ks)).flatten
theorem jfI {ks:List UInt8}{l:List (List UInt8)}{k:Nat}(h:k≤l.length):(kfl ks l k).length=32*k:=by
 unfold kfl
 rw [jai (fun x hx=>by obtain ⟨y,_,rfl⟩:=joP.1 hx;exact jR _ _)]
 simp [Nat.min_eq_left h]
theorem jhI {ks:List UInt8}{l:List (List UInt8)}{k:Nat}(h:k < l.length):kfl ks l (k+1)=kfl ks l k++jM ks (l.getD k []):=by
 unfold kfl
 rw [jn5 h,jpy,List.flatten_append]
 simp only [jpC,jpH,List.flatten_cons,List.flatten_nil,List.append_nil,jot,jn8 h,Option.getD_some]
theorem ji9 {ks:List UInt8}{l:List (List UInt8)}:kfl ks l l.length=(l.map (jM ks)).flatten:=by
 unfold kfl;rw [List.take_length]
theorem jja {ks:List UInt8}{l:List (List UInt8)}{k:Nat}(h:k < l.length):jpb (kfl ks l k++jpp (32*(l.length - k)) 0) (32*k) (jM ks (l.getD k []))=kfl ks l (k+1)++jpp (32*(l.length - (k+1))) 0:=by
 have h1:=jfI (ks:=ks) (jnT h)
 have h2:=jR ks (l.getD k [])
 unfold jpb
 rw [jpx h1,jhI h,List.drop_append,h2,h1,jof (by omega),jn7,List.drop_replicate,jpf]
 congr 3
 omega
def Kw (w wr:World) (ks X:List UInt8):Prop:=Ext w wr∧Ky wr w.heap.size ks∧wr.heap[w.heap.size+1]? =some (.cells (cellsOf X).toArray 23 (0,0))
set_option maxRecDepth 100000 in
theorem Qt {A:Option Addr}{n c:Nat}{ks:List UInt8}{l:List (List UInt8)}{w:World}(hk:ks.length=32) (h:Ss w A n l) (hn:n≤1000) (hp:∀ j,(l.getD j []).length≤1000000){tg:joE×Nat×Nat}(hG:Gl w tg):
 Calls joz 113 #[.agg (cellsOf ks).toArray, .slice A n c] w (jfp (l.map (jM ks)) w):=by
 have hmk:=jkZ n (by omega)
 have HG:=Hj (fun W e=>Gl.kept hG (w':=W) e hG.lt)
 clear hG
 have hln:=h.1
 have H:=Hj h
 clear h
 have KW0:Hid (Kw w ((w.alloc (jnX (cellsOf ks).toArray 23)).alloc (jnX (cellsOf (jpp (32*n) 0)).toArray 23)) ks (kfl ks l 0++jpp (32*(n - 0)) 0)):=
  ⟨((jnQ w).alloc _).alloc _,⟨jQ _ _ _,hk⟩,by
    rw [show kfl ks l 0= [] from by unfold kfl;simp,jn7,Nat.sub_zero]
    exact jK _ _ _⟩
 have KS:(cellsOf ks).toArray.size=32:=by simp [ja,hk]
 replace hp:=Hj hp
 replace hln:=Hj hln
 go_enter Tryz.func113,Tryz.ntmps113
 go_wp2_with fail
 go_loopw [15] (fun v wr=>∃ k:Nat,v= .int .i64 (k:Int)∧k≤n∧Kw w wr ks (kfl ks l k++jpp (32*(n - k)) 0)) (fun v _=>n - (intOf v).toNat)
 case atStart=>exact ⟨0,rfl,jor _,KW0.out⟩
 case round=>
  obtain ⟨k,rfl,hkn,kw⟩:=hrel
  clear KW0 hmk
  have hE:=Hj kw.1
  have hKy:=Hj kw.2.1
  have hR:=Hj kw.2.2
  by_cases hlt:k < n
  ·obtain ⟨b,off,rfl,hb,hc⟩:=(H.out.ext hE.out).2 (by omega)
   have ck:=hc k hlt
   clear hc
   have P1:=hp.out k
   obtain ⟨s,hs⟩:=ex_ (l.getD k [])
   rw [←hs] at ck P1
   replace hs:=Hj hs
   have SPREAD:Hid (Calls joz 144 #[.agg (cellsOf ks).toArray, .string (vR s), .int .i64 32] wr (YP (jM ks s) 0 wr)):=by
    have h9:=jcG (m:=32) hk P1 (by omega) (HG.out _ hE.out)
    rw [je9] at h9
    exact h9
   clear kw
   go_wp2_with (refine wl_ rfl 23 rfl w.heap.size rfl hKy.out.1 rfl rfl (by rw [KS];rfl) ?_;go_frame)
   refine SPREAD.out.mono ?_
   rintro e w1 ⟨A1,n1,c1,rfl,b1,e1⟩
   have n32:n1=32:=by rw [←b1.len,jR]
   subst n32
   have hR1:w1.heap[w.heap.size+1]? =_:=(e1.block _ (jh hR.out)).trans hR.out
   replace hR1:=Hj hR1
   replace b1:=Hj b1
   have hE1:=Hj (hE.out.trans e1)
   have hKy1:=Hj (hKy.out.ext e1)
   clear SPREAD hR hE hKy e1
   go_wp2_with fail
   have XL:(kfl ks l k++jpp (32*(n - k)) 0).length=32*n:=by rw [joI,jfI (by have:=hln.out;omega),jog];omega
   refine JZ (cur:=cellsOf (kfl ks l k++jpp (32*(n - k)) 0)) rfl hR1.out b1.out (joq _) (by rw [ja,XL];omega) ?_
   intro W' h1 h2
   have hE2:Hid (Ext w W'):=jop hE1.out (h2.out w.heap.size (by omega))
   have hK2:Hid (Ky W' w.heap.size ks):=⟨((h2.out (w.heap.size+1) (joq _)).block w.heap.size (by omega)).trans hKy1.out.1,hk⟩
   rw [Yf,hs.out,show k*32=32*k by omega] at h1
   have hpt:=jja (ks:=ks) (l:=l) (k:=k) (by have:=hln.out;omega)
   rw [hln.out] at hpt
   rw [hpt] at h1
   clear hpt h2 XL hR1 b1 hE1 hKy1
   go_wp2_with fail
   exact ⟨⟨k+1,by go_num,by omega,hE2.out,hK2.out,h1.out⟩,by simp [intOf];omega⟩
  ·obtain rfl:k=n:=by omega
   clear kw
   go_wp2_with fail
   go_ret
   refine ⟨w.heap.size+1,?_,by omega,⟨?_,fun x hx=>by obtain ⟨y,_,rfl⟩:=joP.1 hx;exact jR _ _⟩,hE.out⟩
   ·rw [jpJ,hln.out];rfl
   ·have:=hR.out
    rw [Nat.sub_self,Nat.mul_zero,List.replicate_zero,List.append_nil] at this
    rw [←ji9,hln.out]
    exact this
theorem jcH {W:World}{t:joE}{l:List (List UInt8)}{n:Nat}(hn:l.length=n):Ss (W.alloc (.cells (l.map fun x=>Value.string (vR x)).toArray t)) (some ⟨W.heap.size,0,none⟩) n l:=by
 refine ⟨hn,fun _=>⟨_,0,rfl,by rw [je];omega,fun j hj=> ?_⟩⟩
 rw [jpg _ _ _ _ _ (0,0) (jps _ _)]
 simp [jot,show j < l.length by omega]
end
section
inductive Pl where
 | nil
 | rd (i:Nat) (p:Pl)
 | alt (i:Nat) (p q:Pl)
 | stop
def Jl (m done:Nat):List (Nat×Nat×Nat)→Nat→Bool
 | [],_=>true
 | y::r,j=>(m.testBit j||done.testBit j|| !(y.1&&&done==y.1))&&Jl m done r (j+1)
theorem J7 {m done:Nat}:∀ {D:List (Nat×Nat×Nat)}{k:Nat},Jl m done D k=true→∀ j y,D[j]? =some y→m.testBit (k+j)=false→done.testBit (k+j)=false→y.1&&&done≠y.1
 | [],_,_,j,y,hy=>by simp at hy
 | z::r,k,h,0,y,hy=>by
   rw [Jl,joM] at h
   simp only [joQ,Option.some.injEq] at hy
   subst hy
   intro h1 h2
   rw [joR] at h1 h2
   simpa [h1,h2] using h.1
 | z::r,k,h,j+1,y,hy=>by
   rw [Jl,joM] at h
   intro h1 h2
   exact J7 h.2 j y (by simpa using hy) (by rw [show k+1+j=k+(j+1) by omega];exact h1) (by rw [show k+1+j=k+(j+1) by omega];exact h2)
def jcB (D:List (Nat×Nat×Nat)) (i done:Nat):Bool:=match jat D i with
 | none=>false
 | some x=> !done.testBit i&&x.1&&&done==x.1
def Qg (D:List (Nat×Nat×Nat)):Pl→Nat→Nat→Bool→Nat→Bool
 | .nil,done,_,inC,fuel=> !inC&&fuel==0&&done+1==1 <<< D.length
 | .rd i p,done,_,inC,fuel=> !inC&&jcB D i done&&(match jat D i with
     | none=>false
     | some x=>YF i done x D 0)&&(match fuel with
     | 0=>false
     | f+1=>Qg D p (done|||(1 <<< i)) 0 false f)
 | .alt i p q,done,m,_,fuel=>jcB D i done&&(match fuel with
     | 0=>false
     | f+1=>Qg D p (done|||(1 <<< i)) 0 false f)&&Qg D q done (m|||(1 <<< i)) true fuel
 | .stop,done,m,inC,fuel=>inC&& !(fuel==0)&&Jl m done D 0
section
variable {P:joD}{ops:Array Oper}{Q:Exit→Act→World→Prop}
def Yn (P:joD) (ops:Array Oper) (Q:Exit→Act→World→Prop) (R:World→World→Prop):Pl→Act→World→Prop
 | .nil,a,w=>Q .normal a w
 | .rd i p,a,w=>∃ o,ops[i]? =some o∧∃ v,YieldsIf P ops (R w) o v a∧Yn P ops Q R p (a.put o.dst v) w
 | .alt i p q,a,w=>(∃ o,ops[i]? =some o∧wpOp P ops Q i (fun a' w'=>R w w'∧Yn P ops Q R p a' w') a w)∧Yn P ops Q R q a w
 | .stop,_,_=>True
theorem ZN {D:List (Nat×Nat×Nat)}{i done:Nat}(h:jcB D i done=true):∃ x,D[i]? =some x∧done.testBit i=false∧x.1&&&done=x.1:=by
 unfold jcB at h
 rw [Yu] at h
 cases hx:D[i]? with
 | none=>rw [hx] at h;cases h
 | some x=>
   rw [hx] at h
   simp only [joM,joN,beq_iff_eq] at h
   exact ⟨x,rfl,h.1,h.2⟩
def jfx:Pl→List Nat
 | .alt i _ q=>i::jfx q
 | _=> []
theorem zX {R:World→World→Prop}(hrf:∀ w,R w w) (htr:∀ a b c,R a b→R b c→R a c){D:List (Nat×Nat×Nat)}(hs:joS ops=true) (hQ:∀ c a d v w,Q (.panic c) (joT a d v) w→Q (.panic c) a w) (hD:ops.toList.map (vA ops)=D)
 (hsub:∀ (j:Nat) o,ops[j]? =some o→∀ e∈o.after,e.on < ops.size):
 ∀ (p:Pl) (listed:Array Bool) (done m:Nat) (inC:Bool) (fuel:Nat) (a:Act) (w:World),Listed ops.size done listed→Qg D p done m inC fuel=true→Yn P ops Q R p a w→
   (inC=false→m=0→wpAnyH P .any ops Q (R w) fuel listed a w)∧
   (∀ f,fuel=f+1→∀ j,j∈joU .any ops listed→m.testBit j=true∨wpOp P ops Q j (fun a' w'=>R w w'∧wpAnyH P .any ops Q (R w) f (listed.setIfInBounds j true) a' w') a w)
 | .nil,listed,done,m,inC,fuel,a,w,hL,hp,h=>by
   simp only [Qg,joM,joN,beq_iff_eq] at hp
   obtain ⟨⟨_,rfl⟩,hd⟩:=hp
   refine ⟨fun _ _=>⟨?_,h⟩,fun f hf=>absurd hf (by omega)⟩
   have hlen:D.length=ops.size:=by rw [←hD];simp
   rw [hlen,Nat.one_shiftLeft] at hd
   cases hr:joU .any ops listed with
   | nil=>rfl
   | cons j r=>
     have hj:j∈joU .any ops listed:=by rw [hr];simp
     obtain ⟨h0,_⟩:=mem_ready.1 hj
     have hlt:=hL.lt h0
     rw [hL.2 j hlt] at h0
     have:done=2 ^ ops.size - 1:=by omega
     rw [this,Nat.testBit_two_pow_sub_one] at h0
     simp [hlt] at h0
 | .rd i p,listed,done,m,inC,fuel,a,w,hL,hp,h=>by
   obtain ⟨o,ho,v,hy,hh⟩:=h
   have hi:i < ops.size:=(Array.getElem?_eq_some_iff.1 ho).1
   have hDi:∀ (j:Nat) oj,ops[j]? =some oj→D[j]? =some (vA ops oj):=fun j oj hj=>by
    rw [←hD,joV,joW,hj];rfl
   simp only [Qg,joM,joN] at hp
   obtain ⟨⟨⟨hc,hr⟩,hp1⟩,hp2⟩:=hp
   obtain ⟨x,hx,hnd,hdep⟩:=ZN hr
   rw [hDi i o ho] at hx
   obtain rfl:=joF hx
   rw [Yu,hDi i o ho] at hp1
   have hri:i∈joU .any ops listed:=mem_ready.2 ⟨(hL.2 i hi).trans hnd,o,ho,fun e he hb=>
    hL.on (QN hdep ((yc o e.on).2 ⟨e,he,hb,rfl⟩)) (hsub i o ho e he)⟩
   have hL':=hL.set hi
   cases fuel with
   | zero=>simp at hp2
   | succ f=>
     have main:wpAnyH P .any ops Q (R w) (f+1) listed a w:=by
      refine wpAnyH_first ho (Region.noSelect_spec hs) (fun c a w=>hQ c a _ _ w) _ listed a w (fun j oj hoj hji hun hno=> ?_) hri hy (hrf w) ((zX hrf htr hs hQ hD hsub p _ _ 0 false f _ w hL' hp2 hh).1 rfl rfl)
      have hjl:=hL.lt hun
      rw [hL.2 j hjl] at hun
      refine jaa (zD hp1 j _ (hDi j oj hoj) (by omega) (by rw [joB];exact hun) ?_)
      cases hb:(vA ops oj).1.testBit i with
      | false=>rfl
      | true=>
        obtain ⟨e,he,hb',he'⟩:=(yc oj i).1 hb
        exact absurd he' (hno e he hb')
     refine ⟨fun _ _=>main,fun f' hf j hj=> ?_⟩
     obtain rfl:f=f':=by omega
     exact .inr (wpOp_mono (fun a' w' ⟨he,hh⟩=>⟨he,hh⟩) (main.2 j hj))
 | .alt i p q,listed,done,m,inC,fuel,a,w,hL,hp,h=>by
   obtain ⟨⟨o,ho,hop⟩,hq⟩:=h
   have hi:i < ops.size:=(Array.getElem?_eq_some_iff.1 ho).1
   have hDi:∀ (j:Nat) oj,ops[j]? =some oj→D[j]? =some (vA ops oj):=fun j oj hj=>by
    rw [←hD,joV,joW,hj];rfl
   simp only [Qg,joM] at hp
   obtain ⟨⟨hr,hp1⟩,hp2⟩:=hp
   obtain ⟨x,hx,hnd,hdep⟩:=ZN hr
   rw [hDi i o ho] at hx
   obtain rfl:=joF hx
   have hri:i∈joU .any ops listed:=mem_ready.2 ⟨(hL.2 i hi).trans hnd,o,ho,fun e he hb=>
    hL.on (QN hdep ((yc o e.on).2 ⟨e,he,hb,rfl⟩)) (hsub i o ho e he)⟩
   have hL':=hL.set hi
   cases fuel with
   | zero=>simp at hp1
   | succ f=>
     have IQ:=(zX hrf htr hs hQ hD hsub q listed done (m|||(1 <<< i)) true (f+1) a w hL hp2 hq).2 f rfl
     have HI:wpOp P ops Q i (fun a' w'=>R w w'∧wpAnyH P .any ops Q (R w) f (listed.setIfInBounds i true) a' w') a w:=
      wpOp_mono (fun a' w' ⟨he,hh⟩=>⟨he,Js (fun _ e=>htr _ _ _ he e) _ _ _ _ ((zX hrf htr hs hQ hD hsub p _ _ 0 false f a' w' hL' hp1 hh).1 rfl rfl)⟩) hop
     have all:∀ j,j∈joU .any ops listed→m.testBit j=true∨wpOp P ops Q j (fun a' w'=>R w w'∧wpAnyH P .any ops Q (R w) f (listed.setIfInBounds j true) a' w') a w:=fun j hj=>by
      by_cases hji:j=i
      ·subst hji
       exact .inr HI
      ·rcases IQ j hj with hm | hw
       ·rw [Nat.testBit_or,Nat.one_shiftLeft,Nat.testBit_two_pow] at hm
        simp only [show ¬ i=j from fun e=>hji e.symm,decide_false,Bool.or_false] at hm
        exact .inl hm
       ·exact .inr hw
     refine ⟨fun _ hm=> ?_,fun f' hf j hj=> ?_⟩
     ·subst hm
      refine ⟨fun h0=>(by rw [h0] at hri;cases hri),fun j hj=> ?_⟩
      rcases all j hj with h9 | h9
      ·simp at h9
      ·exact h9
     ·obtain rfl:f=f':=by omega
      exact all j hj
 | .stop,listed,done,m,inC,fuel,a,w,hL,hp,_=>by
   simp only [Qg,joM,joN,beq_eq_false_iff_ne] at hp
   obtain ⟨⟨hc,hf⟩,hw⟩:=hp
   refine ⟨fun h _=>(by rw [hc] at h;cases h),fun f hf j hj=> ?_⟩
   have hDi:∀ (j:Nat) oj,ops[j]? =some oj→D[j]? =some (vA ops oj):=fun j oj hj=>by
    rw [←hD,joV,joW,hj];rfl
   obtain ⟨h0,oj,hoj,hall⟩:=mem_ready.1 hj
   have hjl:=hL.lt h0
   rw [hL.2 j hjl] at h0
   cases hm:m.testBit j with
   | true=>exact .inl rfl
   | false=>
     have hne:=J7 hw j _ (hDi j oj hoj) (by rw [joB];exact hm) (by rw [joB];exact h0)
     obtain ⟨k,hk1,hk2⟩:=Y3 hne
     obtain ⟨e,he,hb,rfl⟩:=(yc oj k).1 hk1
     rw [hL.off (hall e he hb)] at hk2
     cases hk2
theorem jbb {R:World→World→Prop}(hrf:∀ w,R w w) (htr:∀ a b c,R a b→R b c→R a c){id:Nat}{a:Act}{w:World}(p:Pl) (D:List (Nat×Nat×Nat)) (n:Nat) (hm:P.follows .mixedOrders=true) (hs:joS ops=true) (hin:y9 ops=true) (hl:ops.size=n)
 (hD:ops.toList.map (vA ops)=D) (hp:Qg D p 0 0 false n=true)
 (hQ:∀ c a d v w,Q (.panic c) (joT a d v) w→Q (.panic c) a w) (h:Yn P ops Q R p a w.drew):(Code.region id ops true).wp P Q a w:=by
 refine wp_region_held (S:=R w.drew) hm ?_
 have:=(zX hrf htr hs hQ hD (fun j o ho e he=>by
  have h1:=joX.1 hin o (Array.mem_of_getElem? ho)
  simpa using joX.1 h1 e he) p (joY ops.size false) 0 0 false n a w.drew ⟨by simp,fun j hj=>by simp [Array.getD,hj]⟩ hp h).1 rfl rfl
 rw [←hl] at this
 exact this
theorem yC {R:World→World→Prop}{a:Act}{w:World}(h:Q .normal a w):Yn P ops Q R .nil a w:=h
theorem JX {R:World→World→Prop}{i:Nat}{p:Pl}{a:Act}{w:World}(F:World→Prop) (hF:∀ w',R w w'→F w') (o:Oper){v:Value}(ho':yO ops.toList i=some o)
 (hw:joZ o (yielded ops a.tmps)=true) (hrun:∀ w',F w'→(jo0 a.eval o).run P w'= .ok (.value v) w') (h:Yn P ops Q R p (a.put o.dst v) w):Yn P ops Q R (.rd i p) a w:=
 ⟨o,vV ho',v, .inl ⟨hw,fun w' e=>hrun w' (hF w' e)⟩,h⟩
theorem jgF {R:World→World→Prop}{i:Nat}{p:Pl}{a:Act}{w:World}(o:Oper) (ho':yO ops.toList i=some o)
 (hw:joZ o (yielded ops a.tmps)=false) (h:Yn P ops Q R p (a.put o.dst undef) w):Yn P ops Q R (.rd i p) a w:=
 ⟨o,vV ho',_, .inr ⟨hw,rfl⟩,h⟩
theorem qc {R:World→World→Prop}{i:Nat}{p q:Pl}{a:Act}{w:World}(o:Oper) (ho':yO ops.toList i=some o) (hw:joZ o (yielded ops a.tmps)=true) (hq:Yn P ops Q R q a w)
 (h:∀ K':Act→World→Prop,Shut (∀ a' w',R w w'→Yn P ops Q R p a' w'→K' a' w')→Oper.wp P o a w K' Q):Yn P ops Q R (.alt i p q) a w:=
 ⟨⟨o,vV ho',by
   refine wpOp_step (vV ho') fun K' hK=> ?_
   rw [if_pos hw]
   exact h K' fun a' w' he hh=>hK a' w' ⟨he,hh⟩⟩,hq⟩
theorem yD {R:World→World→Prop}{a:Act}{w:World}:Yn P ops Q R .stop a w:=trivial
end
section
open Go.ChangeShapes Go.WideShapes Go.ChangeAt Go.RowKit Go.Deep
variable {P:joD}{ops:Array Oper}{Q:Exit→Act→World→Prop}{R:World→World→Prop}{id i:Nat}{p q:Pl}{a:Act}{w:World}
theorem qgT (hrf:∀ w,R w w) (htr:∀ a b c,R a b→R b c→R a c) (p:Pl) (n:Nat) (h:Yn P ops Q R p a w.drew) (hm:P.follows .mixedOrders=true:=by kernel_rfl) (hs:joS ops=true:=by kernel_rfl) (hin:y9 ops=true:=by kernel_rfl) (hl:ops.size=n:=by exact rfl)
 (hp:Qg (ops.toList.map (vA ops)) p 0 0 false n=true:=by kernel_rfl) (hQ:∀ c a d v w,Q (.panic c) (joT a d v) w→Q (.panic c) a w:=by exact fun _ _ d _ _ h=>by first | (cases d <;> exact h) | exact absurd h.1 (fun q=>by cases q)):(Code.region id ops true).wp P Q a w:=
 jbb hrf htr p _ n hm hs hin hl rfl hp hQ h
theorem qtR (F:World→Prop) (h:∀ w',R w w'→F w'){o:Oper}{v:Value}(hn:Yn P ops Q R p (a.put o.dst v) w) (ho':yO ops.toList i=some o:=by exact rfl)
 (hw:joZ o (yielded ops a.tmps)=true:=by rfl) (hrun:∀ w',F w'→(jo0 a.eval o).run P w'= .ok (.value v) w':=by intro w' hF;go_simp;(try with_reducible rfl)):Yn P ops Q R (.rd i p) a w:=
 JX F h o ho' hw hrun hn
theorem vN {o:Oper}{v:Value}(hn:Yn P ops Q R p (a.put o.dst v) w) (ho':yO ops.toList i=some o:=by exact rfl)
 (hw:joZ o (yielded ops a.tmps)=true:=by rfl) (hrun:∀ w',(jo0 a.eval o).run P w'= .ok (.value v) w':=by intro w';go_simp;(try with_reducible rfl)):Yn P ops Q R (.rd i p) a w:=
 JX (fun _=>True) (fun _ _=>trivial) o ho' hw (fun w' _=>hrun w') hn
theorem qtV {o:Oper}(ho':yO ops.toList i=some o) (F:World→Prop) (h:∀ w',R w w'→F w') (v:Value) (hrun:∀ w',F w'→(jo0 a.eval o).run P w'= .ok (.value v) w') (hn:Yn P ops Q R p (a.put o.dst v) w)
 (hw:joZ o (yielded ops a.tmps)=true:=by rfl):Yn P ops Q R (.rd i p) a w:=
 JX F h o ho' hw hrun hn
theorem qtS {o:Oper}(hn:Yn P ops Q R p (a.put o.dst undef) w) (ho':yO ops.toList i=some o:=by exact rfl) (hw:joZ o (yielded ops a.tmps)=false:=by rfl):Yn P ops Q R (.rd i p) a w:=
 jgF o ho' hw hn
end
end
section
open Go.ChangeShapes Go.WideShapes Go.ChangeAt Go.RowKit Go.Deep
def qd:List UInt8:= [109,101,115,115,97,103,101]
def vI:List UInt8:= [99,104,97,105,110]
def Qk (k0 k1:List UInt8) (w:World) (e:Ending) (w':World):Prop:=e= .returned (.tuple #[.agg (cellsOf k0).toArray, .agg (cellsOf k1).toArray])∧Ext w w'
set_option maxRecDepth 100000 in
theorem jaU {ks:List UInt8}{w:World}(hk:ks.length=32){tg:joE×Nat×Nat}(hG:Gl w tg):
 Calls joz 80 #[.agg (cellsOf ks).toArray] w (Qk (jM ks qd) (jM ks vI) w):=by
 have KEYS:Hid (∀ (W:World) t,Ext w W→Calls joz 113 #[.agg (cellsOf ks).toArray, .slice (some ⟨W.heap.size,0,none⟩) 2 2] (W.alloc (.cells #[.string (vR qd), .string (vR vI)] t)) (jfp [jM ks qd,jM ks vI] (W.alloc (.cells #[.string (vR qd), .string (vR vI)] t)))):=fun W t e=>
  Qt (ks:=ks) (l:= [qd,vI]) hk (jcH rfl) (by omega) (fun j=>by
   match j with
   | 0=>show qd.length≤_;decide
   | 1=>show vI.length≤_;decide
   | j+2=>simp [jot]) (hG.kept (e.alloc _) hG.lt)
 have hA:Hid ((⟨#[109,101,115,115,97,103,101]⟩:ByteArray)=vR qd):=rfl
 have hB:Hid ((⟨#[99,104,97,105,110]⟩:ByteArray)=vR vI):=rfl
 generalize vR qd=sA at *
 generalize vR vI=sB at *
 clear hG
 have K0:=jR ks qd
 have K1:=jR ks vI
 generalize jM ks qd=k0 at *
 generalize jM ks vI=k1 at *
 have KS:(cellsOf ks).toArray.size=32:=by simp [ja,hk]
 have C0:(cellsOf k0).length=32:=by rw [ja,K0]
 have C1:(cellsOf k1).length=32:=by rw [ja,K1]
 have S0:(cellsOf k0).toArray.size=32:=C0
 have S1:(cellsOf k1).toArray.size=32:=C1
 have O0:=ji k0
 have O1:=ji k1
 have hal:=j2
 have hz0:=j7
 generalize jr=Z at *
 have B0:Hid ((Ky (((w.alloc (jnX (cellsOf ks).toArray 23)).alloc (jnX Z 23)).alloc (jnX Z 23)) w.heap.size ks)∧(((w.alloc (jnX (cellsOf ks).toArray 23)).alloc (jnX Z 23)).alloc (jnX Z 23)).heap[w.heap.size+1]? =some (.cells Z 23 (0,0))∧(((w.alloc (jnX (cellsOf ks).toArray 23)).alloc (jnX Z 23)).alloc (jnX Z 23)).heap[w.heap.size+1+1]? =some (.cells Z 23 (0,0))∧Ext w (((w.alloc (jnX (cellsOf ks).toArray 23)).alloc (jnX Z 23)).alloc (jnX Z 23))):=
  ⟨⟨jF _ _ _ _,hk⟩,jH _ _ _ _,jB _ _ _ _,(((jnQ w).alloc _).alloc _).alloc _⟩
 go_enter Tryz.func80,Tryz.ntmps80
 go_upto_region 1 with fail
 refine jg (fun W=>Ky W w.heap.size ks∧W.heap[w.heap.size+1]? =some (.cells Z 23 (0,0))∧W.heap[w.heap.size+1+1]? =some (.cells Z 23 (0,0))∧Ext w W) B0.out ?_
 clear B0
 rintro w0 b0
 replace b0:=Hj b0
 go_wp2_with (refine wl_ rfl 23 rfl w.heap.size rfl b0.out.1.1 rfl rfl (by rw [KS];rfl) ?_;go_frame)
 rw [hA.out,hB.out]
 refine (KEYS.out _ _ b0.out.2.2.2).mono ?_
 rintro e w1 ⟨g,rfl,hg,kr,e1⟩
 have zg:w.heap.size+1+1 < g:=by
  have:=jh b0.out.2.2.1
  rw [je] at hg
  omega
 have e2:Ext w0 w1:=((jnQ _).alloc _).trans e1
 have b1:Hid (Ky w1 w.heap.size ks∧w1.heap[w.heap.size+1]? =some (.cells Z 23 (0,0))∧w1.heap[w.heap.size+1+1]? =some (.cells Z 23 (0,0))∧Ext w w1):=⟨b0.out.1.ext e2,(e2.block _ (jh b0.out.2.1)).trans b0.out.2.1,(e2.block _ (jh b0.out.2.2.1)).trans b0.out.2.2.1,b0.out.2.2.2.trans e2⟩
 clear b0 KEYS e1 e2 hg
 have R0:Hid (∀ w',Two (w.heap.size+1) (w.heap.size+1+1) w1 w'→∀ i v,(cellsOf k0)[i]? =some v→w'.cell? ⟨g,0+i,none⟩=some v):=fun w' e=>Kr.row (l:= [k0,k1]) (j:=0) ⟨e.block kr.1 (by omega) (by omega),kr.2⟩ (by simp)
 have R1:Hid (∀ w',Two (w.heap.size+1) (w.heap.size+1+1) w1 w'→∀ i v,(cellsOf k1)[i]? =some v→w'.cell? ⟨g,32+i,none⟩=some v):=fun w' e=>Kr.row (l:= [k0,k1]) (j:=1) ⟨e.block kr.1 (by omega) (by omega),kr.2⟩ (by simp)
 clear kr
 go_wp2_with fail
 refine qgR (R:=Two (w.heap.size+1) (w.heap.size+1+1)) (Two.refl _ _) (fun _ _ _=>Two.trans) [0,1,2,3,4,5,6,7] [6,7] ?_
 repeat ((first | refine qR0 ?_ | refine qS ?_);go_frame)
 refine qV rfl (fun w'=>∀ q_ v,(cellsOf k0)[q_]? =some v→w'.cell? ⟨g,0+q_,none⟩=some v) (fun w' e=>R0.out w' ((Two.of_ext (jnQ _).drew).trans e)) (.agg (cellsOf k0).toArray) (fun w' hF=>jy rfl rfl hF rfl rfl (by rw [C0];rfl)) ?_
 go_frame
 repeat ((first | refine qR0 ?_ | refine qS ?_);go_frame)
 refine qV rfl (fun w'=>∀ q_ v,(cellsOf k1)[q_]? =some v→w'.cell? ⟨g,32+q_,none⟩=some v) (fun w' e=>R1.out w' ((Two.of_ext (jnQ _).drew).trans e)) (.agg (cellsOf k1).toArray) (fun w' hF=>jy rfl rfl hF rfl rfl (by rw [C1];rfl)) ?_
 go_frame
 have b2:Hid (w1.drew.heap[w.heap.size+1]? =some (.cells Z 23 (0,0))∧w1.drew.heap[w.heap.size+1+1]? =some (.cells Z 23 (0,0))∧Ext w w1.drew):=⟨b1.out.2.1,b1.out.2.2.1,b1.out.2.2.2.drew⟩
 generalize w1.drew=W at *
 refine qD fun K hK=> ?_
 refine joe _ _ _ rfl (w.heap.size+1) (cellsOf k0).toArray rfl rfl 23 Z b2.out.1 (by rw [S0];rfl) (by rw [S0];exact hz0) O0 ?_
 refine hK.out _ _ (Two.row _ _) ?_
 clear hK K
 try go_frame
 refine qD fun K hK=> ?_
 refine joe _ _ _ rfl (w.heap.size+1+1) (cellsOf k1).toArray rfl rfl 23 Z ((jpA _ _ _ _ (by omega)).trans b2.out.2.1) (by rw [S1];rfl) (by rw [S1];exact hz0) O1 ?_
 refine hK.out _ _ (Two.row' _ _) ?_
 clear hK K
 try go_frame
 refine jp ?_
 have f0:Hid (((W.setRow (w.heap.size+1) (cellsOf k0).toArray).setRow (w.heap.size+1+1) (cellsOf k1).toArray).heap[w.heap.size+1]? =some (.cells (cellsOf k0).toArray 23 (0,0))):=(jpA _ _ _ _ (by omega)).trans (jpe _ _ _ _ _ _ b2.out.1)
 have f1:Hid (((W.setRow (w.heap.size+1) (cellsOf k0).toArray).setRow (w.heap.size+1+1) (cellsOf k1).toArray).heap[w.heap.size+1+1]? =some (.cells (cellsOf k1).toArray 23 (0,0))):=jpe _ _ _ _ _ _ ((jpA _ _ _ _ (by omega)).trans b2.out.2.1)
 have f2:Hid (Ext w ((W.setRow (w.heap.size+1) (cellsOf k0).toArray).setRow (w.heap.size+1+1) (cellsOf k1).toArray)):=jpd (jpd b2.out.2.2 (by omega) _) (by omega) _
 go_wp2_with fail
 (try simp only [jnU,Exit.then])
 refine jnV (v:= .tuple #[.agg (cellsOf k0).toArray, .agg (cellsOf k1).toArray]) ?_ rfl ?_
 ·exact jaJ rfl _ _ (w.heap.size+1) (w.heap.size+1+1) 23 23 (cellsOf k0).toArray (cellsOf k1).toArray (0,0) (0,0) _ rfl rfl f0.out f1.out rfl rfl (by rw [S0];rfl) (by rw [S1];rfl)
 ·exact ⟨rfl,f2.out⟩
def Kl (w:World) (A:Option Addr) (n:Nat) (l:List (List UInt8)):Prop:=
 l.length=n∧(∀ x∈l,x.length=32)∧(0 < n→∃ b,A=some ⟨b,0,none⟩∧b < w.heap.size∧∀ j,j < n→∀ i v,(cellsOf (l.getD j []))[i]? =some v→w.cell? ⟨b,32*j+i,none⟩=some v)
theorem Kl.ext {w w':World}{A:Option Addr}{n:Nat}{l:List (List UInt8)}(h:Kl w A n l) (e:Ext w w'):Kl w' A n l:=
 ⟨h.1,h.2.1,fun h0=>by
   obtain ⟨b,q,hb,hc⟩:=h.2.2 h0
   exact ⟨b,q,jos hb e.size,fun j hj i v hv=>(e.cell hb).trans (hc j hj i v hv)⟩⟩
def OwnK (B:Nat) (w:World) (A:Option Addr) (n c:Nat) (l:List (List UInt8)):Prop:=w.ownsRow B 23 32 (.slice A n c) n (cellsOf l.flatten)∧(∀ x∈l,x.length=32)∧l.length=n
theorem OwnK.nil (B:Nat) (w:World):OwnK B w none 0 0 []:=⟨World.ownsRow_nil w B _ 32,fun x hx=>by simp at hx,rfl⟩
theorem OwnK.kept {B:Nat}{w w':World}{A:Option Addr}{n c:Nat}{l:List (List UInt8)}{row:Option Nat}(h:OwnK B w A n c l) (hg:w.grownBy w' row) (hne:joa (.slice A n c)=none∨joa (.slice A n c)≠row):OwnK B w' A n c l:=⟨World.ownsRow.kept h.1 hg hne,h.2⟩
theorem OwnK.ge {B:Nat}{w:World}{A:Option Addr}{n c:Nat}{l:List (List UInt8)}(h:OwnK B w A n c l):∀ g,joa (.slice A n c)=some g→B≤g:=fun g hg=>(job h.1 g hg).1
theorem OwnK.ext {B:Nat}{w w':World}{A:Option Addr}{n c:Nat}{l:List (List UInt8)}(h:OwnK B w A n c l) (e:Ext w w'):OwnK B w' A n c l:=by
 refine ⟨⟨h.1.1,?_⟩,h.2⟩
 rcases h.1.2 with h | ⟨g,cap,cur,hv,hb,hg,r⟩
 ·exact .inl h
 ·exact .inr ⟨g,cap,cur,hv,hb,(e.block g (jh hg)).trans hg,r⟩
theorem OwnK.cap {B:Nat}{w:World}{A:Option Addr}{n c:Nat}{l:List (List UInt8)}(h:OwnK B w A n c l):n≤c∧c≤9223372036854775807:=by
 rcases h.1.2 with ⟨hv,hn⟩ | ⟨g,cap,cur,hv,hb,hg,hnc,hcm,_⟩
 ·injection hv with _ _ q
  omega
 ·injection hv with _ _ q
  subst q
  exact ⟨hnc,hcm⟩
theorem OwnK.kl {B:Nat}{w:World}{A:Option Addr}{n c:Nat}{l:List (List UInt8)}(h:OwnK B w A n c l):Kl w A n l:=by
 refine ⟨h.2.2,h.2.1,fun h0=> ?_⟩
 rcases h.1.2 with ⟨hv,hn⟩ | ⟨g,cap,cur,hv,hb,hg,hnc,hcm,hcs,htk⟩
 ·omega
 ·injection hv with h1 h2 h3
  subst h1
  refine ⟨g,rfl,jh hg,fun j hj i v hv=> ?_⟩
  have hlen:(l.getD j []).length=32:=h.2.1 _ (by have:=h.2.2;simp [jot,show j < l.length by omega])
  have hi:i < 32:=by
   have:=(jpz.1 hv).1
   rw [ja] at this
   omega
  rw [jZ (by omega)] at hv
  have hf:=jai h.2.1
  have hc:=jZ (xs:=l.flatten) (j:=32*j+i) (by have:=h.2.2;omega)
  rw [jfD h.2.1 (by have:=h.2.2;omega) hi,hv,←htk,jph,if_pos (by omega),joW] at hc
  rw [jpg w g _ _ _ _ hg]
  exact hc
theorem OwnK.fresh {B:Nat}{w:World}{A:Option Addr}{n c:Nat}{l:List (List UInt8)}(h:OwnK B w A n c l){b:Nat}(hA:A=some ⟨b,0,none⟩):B≤b:=by
 rcases h.1.2 with ⟨hv,hn⟩ | ⟨g,cap,cur,hv,hb,_⟩
 ·injection hv with h1 h2 h3
  rw [hA] at h1
  cases h1
 ·injection hv with h1 h2 h3
  rw [hA] at h1
  injection h1 with h1
  injection h1 with h1
  omega
theorem jnF {w:World}{ops:Array Oper}{rest:List Oper}{o:Oper}{a:Act}{Q:Exit→Act→World→Prop}(hgd:o.guard=none){B:Nat}{A:Option Addr}{n c g:Nat}{l:List (List UInt8)}{k:List UInt8}{fr:Nat×Nat}{s x:Operand}
 (ho:o.op= .call {callee:= .builtin .append,args:= #[s,x],argTypes:= #[209,209]}) (hs:a.eval s= .slice A n c) (hx:a.eval x= .slice (some ⟨g,0,none⟩) 1 1)
 (h:OwnK B w A n c l) (hg:w.heap[g]? =some (.cells (cellsOf k).toArray 23 fr)) (hk:k.length=32) (hm:n≤1000) (hB:B≤w.heap.size)
 (hK:∀ A'' c'' w',OwnK B w' A'' (n+1) c'' (l++ [k])→w.grownBy w' (joa (.slice A n c))→Below B w w'→wpList joz ops Q rest (a.put o.dst (.slice A'' (n+1) c'')) w'):wpList joz ops Q (o::rest) a w:=by
 refine wpList_plain hgd fun K hK'=> ?_
 obtain ⟨i,hi,hz0,hz1,hz2⟩:=info_parts jfG
 obtain ⟨v',w',hr,hown,hgr,_,_⟩:=run_append_own_at (P:=joz) w B 209 o.type 23 i (.agg jr) 32 32 Tryz.underlying209 hi hz0 hz1 hz2 (show (jpr jr).cells.size=32 from j7) (by decide) (.slice A n c) n (cellsOf l.flatten) h.1 ⟨g,0,none⟩ 1 1 (cellsOf k) (by rw [ja,hk]) (fun j u hu=>by
  have hadd:(⟨g,0,none⟩:Addr).add j=⟨g,j,none⟩:=by unfold Addr.add;split <;> simp_all
  rw [hadd,jpg w g j _ _ _ hg]
  simpa using hu) (fun u hu=>by
  obtain ⟨_,_,rfl⟩:=joP.1 hu
  rfl) (by unfold maxLen;omega) (by omega) hB
 have e:cellsOf l.flatten++cellsOf k=cellsOf (l++ [k]).flatten:=by
  rw [qp,qp,qp,List.flatten_append]
  simp
 rw [e] at hown
 have hl1:∀ x∈l++ [k],x.length=32:=fun x hx=>by
  rcases joJ.1 hx with q | q
  ·exact h.2.1 x q
  ·simp at q;subst q;exact hk
 have hl2:(l++ [k]).length=n+1:=by rw [joI,h.2.2];rfl
 have hform:∃ A'' c'',v'= .slice A'' (n+1) c'':=by
  rcases hown.2 with ⟨hv,hn⟩ | ⟨g',cap,cur,hv,_⟩
  ·omega
  ·exact ⟨_,_,hv⟩
 obtain ⟨A'',c'',rfl⟩:=hform
 unfold Oper.wp jo0
 simp only [ho,resolve,invoke,builtin,jpk,jpl,jpm,jpG,jpC,jpH,hs,hx,hr]
 exact hK' _ _ (hK A'' c'' w' ⟨hown,hl1,hl2⟩ hgr ((joo B w).grown hgr hB h.ge))
theorem ja8 {w:World}{ops:Array Oper}{rest:List Oper}{o:Oper}{a:Act}{Q:Exit→Act→World→Prop}(hgd:o.guard=none){k:List UInt8}{x:Operand}{g:Nat}(hk:k.length=32) (hg:w.heap.size=g)
 (ho:o.op= .buildSlice 209 1 #[(0,x)]) (hx:a.eval x= .agg (cellsOf k).toArray)
 (h:wpList joz ops Q rest (a.put o.dst (.slice (some ⟨g,0,none⟩) 1 1)) (w.alloc (.cells (cellsOf k).toArray 23))):wpList joz ops Q (o::rest) a w:=by
 subst hg
 obtain ⟨i,hi,hz0,hz1,hz2⟩:=info_parts jfG
 refine wpList_buildSlice hgd 209 23 1 _ ho (cellsOf k).toArray i _ Tryz.underlying209 hi hz0 (by rw [hz1];omega) (by rw [hz1];omega) ?_ h
 rw [hz1]
 simp only [jpG,jpC,jpH,hx]
 have:=Great.fill_whole (s:=32) (by omega) [jpr (cellsOf k).toArray] ((Array.range (1*32)).map ((jpr jr).cells[·% (jpr jr).cells.size]!)) (fun v hv=>by
  simp only [joH] at hv
  subst hv
  show (cellsOf k).toArray.size=32
  simp [ja,hk]) (by simp)
 simp only [List.zipIdx_cons,List.zipIdx_nil,jpC,jpH,List.flatMap_cons,List.flatMap_nil,List.append_nil] at this
 exact this
def Yg (ks:List UInt8):Nat→List UInt8
 | 0=>ks
 | i+1=>jM (Yg ks i) vI
def Y2 (ks:List UInt8) (m:Nat):List (List UInt8):=(jo3 m).map fun i=>jM (Yg ks i) qd
theorem Jn {ks:List UInt8}(h:ks.length=32):∀ i,(Yg ks i).length=32
 | 0=>h
 | i+1=>jR _ _
theorem jgq (ks:List UInt8) (m:Nat):Y2 ks (m+1)=Y2 ks m++ [jM (Yg ks m) qd]:=by simp [Y2,List.range_succ]
def YQ (l:List (List UInt8)) (last:List UInt8) (er:Int) (w:World) (e:Ending) (w':World):Prop:=
 ∃ A c,e= .returned (.tuple #[.slice A l.length c, .agg (cellsOf last).toArray, .int .i64 er])∧Kl w' A l.length l∧l.length≤c∧c≤9223372036854775807∧Ext w w'∧∀ b,A=some ⟨b,0,none⟩→w.heap.size≤b
set_option maxRecDepth 100000 in
theorem jiJ {ks:List UInt8}{m:Int}{w:World}(h:m < 0∨8 < m):
 Calls joz 120 #[.agg (cellsOf ks).toArray, .int .i64 m] w (YQ [] (jpp 32 0) 6 w):=by
 have hal:=j2
 have hb:=zJ
 have hs:=j7
 have ho:=JI
 have hc:=Hj jU
 have hz:Hid (((w.alloc (jnX (cellsOf ks).toArray 23)).alloc (jnX jr 23)).heap[w.heap.size+1]? =some (jnX jr 23)):=jK _ _ _
 have he:Hid (∀ C,Ext w (((w.alloc (jnX (cellsOf ks).toArray 23)).alloc (jnX jr 23)).setRow (w.heap.size+1) C)):=fun C=>jpd (((jnQ w).alloc _).alloc _) (Nat.le_succ _) _
 unfold YQ
 rw [hc.out]
 clear hc
 generalize jr=Z at *
 by_cases q1:m < 0
 ·have q1':decide (m < 0)=true:=decide_eq_true q1
  clear h
  go_enter Tryz.func120,Tryz.ntmps120
  go_wp2_with fail
  go_step3
  go_wp2_with (first
   | refine jm rfl _ _ rfl Z hb ?_
   | refine ws_ rfl 23 rfl (w.heap.size+1) Z rfl rfl (by with_reducible exact hz.out) (by rw [hs];rfl) rfl ho ?_)
  (try simp only [jnU,Exit.then])
  rw [Exit.noGoto_ret]
  refine jnV (v:= .tuple #[.slice none 0 0, .agg Z, .int .i64 6]) ?_ rfl ?_
  ·exact Yx rfl _ _ (w.heap.size+1) 23 Z (0,0) _ _ _ rfl rfl rfl (jpe _ _ _ _ _ _ hz.out) rfl rfl (by rw [hs];rfl)
  ·exact ⟨none,0,rfl,⟨rfl,fun x hx=>by simp at hx,fun h=>absurd h (by simp)⟩,by simp,by omega,he.out _,fun b h=>by cases h⟩
 ·have q1':decide (m < 0)=false:=decide_eq_false q1
  have q2':decide (8 < m)=true:=decide_eq_true (by omega)
  clear h
  go_enter Tryz.func120,Tryz.ntmps120
  go_wp2_with fail
  go_step3
  go_wp2_with (first
   | refine jm rfl _ _ rfl Z hb ?_
   | refine ws_ rfl 23 rfl (w.heap.size+1) Z rfl rfl (by with_reducible exact hz.out) (by rw [hs];rfl) rfl ho ?_)
  (try simp only [jnU,Exit.then])
  rw [Exit.noGoto_ret]
  refine jnV (v:= .tuple #[.slice none 0 0, .agg Z, .int .i64 6]) ?_ rfl ?_
  ·exact Yx rfl _ _ (w.heap.size+1) 23 Z (0,0) _ _ _ rfl rfl rfl (jpe _ _ _ _ _ _ hz.out) rfl rfl (by rw [hs];rfl)
  ·exact ⟨none,0,rfl,⟨rfl,fun x hx=>by simp at hx,fun h=>absurd h (by simp)⟩,by simp,by omega,he.out _,fun b h=>by cases h⟩
set_option maxRecDepth 100000 in
theorem jfi {ks:List UInt8}{m:Nat}{w:World}(hk:ks.length=32) (hm:m≤8){tg:joE×Nat×Nat}(hG:Gl w tg):
 Calls joz 120 #[.agg (cellsOf ks).toArray, .int .i64 (m:Int)] w (YQ (Y2 ks m) (Yg ks m) 0 w):=by
 have q1':decide ((m:Int) < 0)=false:=decide_eq_false (by omega)
 have q2':decide ((8:Int) < (m:Int))=false:=decide_eq_false (by omega)
 have HG:=Hj (fun W (e:Ext w W)=>Gl.kept hG (w':=W) e hG.lt)
 clear hG
 have hal:=j2
 have hz0:=j7
 have LM:(Y2 ks m).length=m:=by simp [Y2]
 generalize jr=Z at *
 have B0:Hid (Ky ((w.alloc (jnX (cellsOf ks).toArray 23)).alloc (jnX Z 23)) w.heap.size ks∧((w.alloc (jnX (cellsOf ks).toArray 23)).alloc (jnX Z 23)).heap[w.heap.size+1]? =some (.cells Z 23 (0,0))∧Ext w ((w.alloc (jnX (cellsOf ks).toArray 23)).alloc (jnX Z 23))):=
  ⟨⟨jQ _ _ _,hk⟩,jK _ _ _,((jnQ w).alloc _).alloc _⟩
 go_enter Tryz.func120,Tryz.ntmps120
 go_wp2_with fail
 go_step3
 go_wp2_with fail
 go_step3
 go_wp2_with fail
 go_loopw [7,18] (fun mv v wr=>∃ (k:Nat) (D:Option Addr) (cc:Nat),k≤m∧v= .int .i64 (k:Int)∧mv= .slice D k cc∧OwnK (w.heap.size+1+1) wr D k cc (Y2 ks k)∧Ky wr w.heap.size (Yg ks k)∧wr.heap[w.heap.size+1]? =some (.cells Z 23 (0,0))∧Ext w wr) (fun _ v _=>8 - (intOf v).toNat)
 case atStart=>exact ⟨0,none,0,jor _,rfl,rfl,OwnK.nil _ _,B0.out.1,B0.out.2.1,B0.out.2.2⟩
 case round=>
  obtain ⟨k,D,cc,hkm,rfl,rfl,own,ky,rr,he⟩:=hrel
  clear B0
  have CS:(cellsOf (Yg ks k)).toArray.size=32:=by simp [ja,Jn hk]
  by_cases hlt:k < m
  ·have e0:((k:Int)==(m:Int))=false:=by simp;omega
   have e1:(k==m)=false:=by simp;omega
   have k8:(k:Int) < 8:=by omega
   have zr:=jh rr
   have STEP:=Hj (jaU (Jn hk k) (HG.out _ he))
   have M0:=jR (Yg ks k) qd
   have M1:=jR (Yg ks k) vI
   have MS:Hid (Y2 ks (k+1)=Y2 ks k++ [jM (Yg ks k) qd]):=jgq ks k
   have CH:Hid (Yg ks (k+1)=jM (Yg ks k) vI):=rfl
   generalize jM (Yg ks k) qd=k0 at *
   generalize jM (Yg ks k) vI=k1 at *
   generalize Yg ks k=ck at *
   have S0:(cellsOf k0).toArray.size=32:=by simp [ja,M0]
   have S1:(cellsOf k1).toArray.size=32:=by simp [ja,M1]
   have O0:=ji k0
   have O1:=ji k1
   replace own:=Hj own
   replace ky:=Hj ky
   replace rr:=Hj rr
   replace he:=Hj he
   replace LM:=Hj LM
   go_wp2_with (refine wl_ rfl 23 rfl w.heap.size rfl ky.out.1 rfl rfl (by rw [CS];rfl) ?_;go_frame)
   refine STEP.out.mono ?_
   rintro e w1 ⟨rfl,x1⟩
   have a1:Hid (((w1.alloc (jnX Z 23)).alloc (jnX Z 23)).heap[w1.heap.size]? =some (.cells Z 23 (0,0))):=jQ _ _ _
   have a2:Hid ((((w1.alloc (jnX Z 23)).alloc (jnX Z 23)).setRow w1.heap.size (cellsOf k0).toArray).heap[w1.heap.size+1]? =some (.cells Z 23 (0,0))):=(jpA _ _ _ _ (by omega)).trans (jK _ _ _)
   clear STEP
   go_upto_region 9 with (first
    | (refine ws_ rfl 23 rfl w1.heap.size (cellsOf k0).toArray rfl rfl a1.out (by rw [S0];rfl) (by rw [S0];exact hz0) O0 ?_;go_frame)
    | (refine ws_ rfl 23 rfl (w1.heap.size+1) (cellsOf k1).toArray rfl rfl a2.out (by rw [S1];rfl) (by rw [S1];exact hz0) O1 ?_;go_frame))
   obtain ⟨g,hg⟩:=ex_ w1.heap.size
   have zg:wr.heap.size≤g:=by rw [hg];exact x1.size
   refine jg (fun W=>Ext wr W∧Ky W g k0∧Ky W (g+1) k1) ⟨x1.trans (jpd (jpd (((jnQ w1).alloc _).alloc _) (joq _) _) (Nat.le_succ _) _),⟨by rw [hg];exact (jpA _ _ _ _ (by omega)).trans (jpe _ _ _ _ _ _ a1.out),M0⟩,⟨by rw [hg];exact jpe _ _ _ _ _ _ a2.out,M1⟩⟩ ?_
   rw [←hg]
   clear hg a1 a2 x1
   rintro w2 ⟨x2,y0,y1⟩
   have b2:Hid (OwnK (w.heap.size+1+1) w2 D k cc (Y2 ks k)):=own.out.ext x2
   have OB:Hid (∀ q,joa (.slice D k cc)=some q→q < wr.heap.size):=fun q hq=>(job own.out.1 q hq).2
   have KB:Hid (Ky w2 w.heap.size ck):=ky.out.ext x2
   have RB:Hid (w2.heap[w.heap.size+1]? =some (.cells Z 23 (0,0))):=(x2.block _ zr).trans rr.out
   replace y0:=Hj y0
   replace y1:=Hj y1
   have zz:=jo2 (show w.heap.size+1+1≤wr.heap.size from zr) x2.size
   replace x2:=Hj x2
   clear own
   have ys:=jh y1.out.1
   go_upto_region 10 with (first
    | (refine wl_ rfl 23 rfl g rfl y0.out.1 rfl rfl (by rw [S0];rfl) ?_;go_frame)
    | (refine ja8 rfl (g:=w2.heap.size) (k:=k0) (x:= .tmp 28) M0 rfl rfl rfl ?_;go_frame)
    | (at_builtin;(with_reducible refine jnF rfl (g:=w2.heap.size) (k:=k0) (fr:=(0,0)) (B:=w.heap.size+1+1) (s:= .tmp 27) (x:= .tmp 29) rfl rfl rfl (b2.out.ext ((jnQ _).alloc _)) (jps _ _) M0 (by omega) (jo2 zz (by simp)) ?_);intro A5 c5 w5 o5 g5 b5;replace o5:=Hj o5;replace b5:=Hj b5;replace g5:=Hj g5;go_frame))
   have K5:Hid (Ky w5 (g+1) k1):=⟨(g5.out.block (g+1) (by simp;omega) (fun q=>by have:=OB.out (g+1) q.symm;omega)).trans ((y1.out.ext ((jnQ _).alloc _)).1),M1⟩
   have C5:Hid (Ky w5 w.heap.size ck):=⟨(b5.out.block _ (by omega)).trans (KB.out.ext ((jnQ _).alloc _)).1,KB.out.2⟩
   have R5:Hid (w5.heap[w.heap.size+1]? =some (.cells Z 23 (0,0))):=(b5.out.block _ (by omega)).trans ((jpi _ _ _ (by omega)).trans RB.out)
   have E5:Hid (Ext w w5):=jop ((he.out.trans x2).alloc _) (b5.out.mono (by omega))
   clear y0 y1 b2 b5 g5 KB RB he OB
   go_wp2_with (first
    | (refine wl_ rfl 23 rfl (g+1) rfl K5.out.1 rfl rfl (by rw [S1];rfl) ?_;go_frame)
    | (refine ws_ rfl 23 rfl w.heap.size (cellsOf k1).toArray rfl rfl C5.out.1 (by rw [S1];rfl) (by rw [S1,CS]) O1 ?_;go_frame))
   refine ⟨⟨k+1,A5,c5,by omega,by go_num,rfl,?_,?_,?_,?_⟩,by simp [intOf];omega⟩
   ·rw [MS.out]
    exact o5.out.kept ⟨rfl,rfl,rfl,by simp,fun i hi hne=>jpA _ _ _ _ (fun q=>hne (by rw [q]))⟩ (.inr (fun q=>by have:=o5.out.ge _ q;omega))
   ·rw [CH.out]
    exact C5.out.put M1
   ·exact (jpA _ _ _ _ (by omega)).trans R5.out
   ·exact jpd E5.out (joq _) _
  ·have hkk:k=m:=by omega
   subst hkk
   have O:Hid (OwnK (w.heap.size+1+1) wr D k cc (Y2 ks k)):=own
   have Kc:=Hj ky
   have Rc:=Hj rr
   have Ec:=Hj he
   have LMc:=Hj LM
   have zr:=jh rr
   clear own ky rr he LM HG hkm hm hlt
   have M1:(Yg ks k).length=32:=Jn hk k
   generalize Yg ks k=ck at *
   have S1:=CS
   have O1:=ji ck
   have FIN:Hid (∀ C:Array Value,YQ (Y2 ks k) ck 0 w (.returned (.tuple #[.slice D k cc, .agg (cellsOf ck).toArray, .int .i64 0])) (wr.drew.setRow (w.heap.size+1) C)):=fun C=>
    ⟨D,cc,by rw [LMc.out],by
      rw [LMc.out]
      exact OwnK.kl ((O.out.ext (jnQ _).drew).kept ⟨rfl,rfl,rfl,by simp,fun i hi hne=>jpA _ _ _ _ (fun q=>hne (by rw [q]))⟩ (.inr (fun q=>by have:=O.out.ge _ q;omega))),by rw [LMc.out];exact O.out.cap.1,O.out.cap.2,jpd Ec.out.drew (Nat.le_succ _) _,fun b hb=>by have:=O.out.fresh hb;omega⟩
   generalize YQ (Y2 ks k) ck 0 w=RW at *
   have KEEPC:Hid (∀ w',wr.grownBy w' (some (w.heap.size+1))→Ky w' w.heap.size ck):=fun w' e=>⟨(e.block w.heap.size (by omega) (fun q=>by injection q with q;omega)).trans Kc.out.1,M1⟩
   by_cases h8:k < 8
   ·have e0:((k:Int)==(k:Int))=true:=by simp
    have i8:(k:Int) < 8:=by omega
    clear h8
    go_wp2_with fail
    refine qgW ((w.heap.size+1)) [0,1,2,3,4] [3] ?_
    repeat ((first | refine qR0 ?_ | refine qS ?_);go_frame)
    refine qV rfl (fun w'=>w'.heap[w.heap.size]? =some (.cells (cellsOf ck).toArray 23 (0,0))) (fun w' e=>(KEEPC.out w' (jj (jV (jnQ _).drew _) e)).1) (.agg (cellsOf ck).toArray) (fun w' hF=>jd rfl rfl hF rfl rfl (by rw [S1];rfl)) ?_
    go_frame
    repeat ((first | refine qR0 ?_ | refine qS ?_);go_frame)
    refine qD fun K1 hK1=> ?_
    refine joe _ _ _ rfl (w.heap.size+1) (cellsOf ck).toArray rfl rfl 23 _ Rc.out (by rw [S1];rfl) (by rw [S1,hz0]) O1 ?_
    refine hK1.out _ _ (jet _ _ _) ?_
    clear hK1 K1
    try go_frame
    repeat ((first | refine qR0 ?_ | refine qS ?_);go_frame)
    refine jp ?_
    go_wp2_with fail
    (try simp only [jnU,Exit.then])
    rw [Exit.noGoto_ret]
    refine jnV (v:= .tuple #[.slice D k cc, .agg (cellsOf ck).toArray, .int .i64 0]) ?_ rfl (FIN.out _)
    exact Yx rfl _ _ (w.heap.size+1) 23 (cellsOf ck).toArray (0,0) _ _ _ rfl rfl rfl (jpe _ _ _ _ _ _ Rc.out) rfl rfl (by rw [S1];rfl)
   ·have i8: ¬ ((k:Int) < 8):=by omega
    clear h8
    go_wp2_with fail
    refine qgW ((w.heap.size+1)) [0,1,2,3,4] [3] ?_
    repeat ((first | refine qR0 ?_ | refine qS ?_);go_frame)
    refine qV rfl (fun w'=>w'.heap[w.heap.size]? =some (.cells (cellsOf ck).toArray 23 (0,0))) (fun w' e=>(KEEPC.out w' (jj (jV (jnQ _).drew _) e)).1) (.agg (cellsOf ck).toArray) (fun w' hF=>jd rfl rfl hF rfl rfl (by rw [S1];rfl)) ?_
    go_frame
    repeat ((first | refine qR0 ?_ | refine qS ?_);go_frame)
    refine qD fun K1 hK1=> ?_
    refine joe _ _ _ rfl (w.heap.size+1) (cellsOf ck).toArray rfl rfl 23 _ Rc.out (by rw [S1];rfl) (by rw [S1,hz0]) O1 ?_
    refine hK1.out _ _ (jet _ _ _) ?_
    clear hK1 K1
    try go_frame
    repeat ((first | refine qR0 ?_ | refine qS ?_);go_frame)
    refine jp ?_
    go_wp2_with fail
    (try simp only [jnU,Exit.then])
    rw [Exit.noGoto_ret]
    refine jnV (v:= .tuple #[.slice D k cc, .agg (cellsOf ck).toArray, .int .i64 0]) ?_ rfl (FIN.out _)
    exact Yx rfl _ _ (w.heap.size+1) 23 (cellsOf ck).toArray (0,0) _ _ _ rfl rfl rfl (jpe _ _ _ _ _ _ Rc.out) rfl rfl (by rw [S1];rfl)
def yG:List UInt8:= [114,111,111,116]
theorem jhM (W:World):Ss (W.alloc (.cells #[.string ⟨#[114,111,111,116]⟩, .string ⟨#[99,104,97,105,110]⟩] 9)) (some ⟨W.heap.size,0,none⟩) 2 [yG,vI]:=jcH rfl
set_option maxRecDepth 100000 in
theorem jaL {rs cs:List UInt8}{w:World}(hr:rs.length=32) (hc:cs.length=32){tg:joE×Nat×Nat}(hG:Gl w tg):
 Calls joz 77 #[.agg (cellsOf rs).toArray, .agg (cellsOf cs).toArray] w (Qk (jM (jC rs cs) yG) (jM (jC rs cs) vI) w):=by
 have ML:=qr rs cs
 have DRAW:Hid (∀ (W:World) (g:Nat),Ext w W→Ky W g cs→Calls joz 114 #[.agg (cellsOf rs).toArray, .slice (some ⟨g,0,none⟩) 32 32] W fun e w'=>e= .returned (.agg (cellsOf (jC rs cs)).toArray)∧Ext W w'):=fun W g e k=>Qp hr k.bs (hG.kept e hG.lt)
 have KEYS:Hid (∀ (W:World) (g:Nat),Ext w W→Ss W (some ⟨g,0,none⟩) 2 [yG,vI]→Calls joz 113 #[.agg (cellsOf (jC rs cs)).toArray, .slice (some ⟨g,0,none⟩) 2 2] W (jfp [jM (jC rs cs) yG,jM (jC rs cs) vI] W)):=fun W g e s=>
  Qt (ks:=jC rs cs) (l:= [yG,vI]) ML s (by omega) (fun j=>by
   match j with
   | 0=>show yG.length≤_;decide
   | 1=>show vI.length≤_;decide
   | j+2=>simp [jot]) (hG.kept e hG.lt)
 clear hG
 have K0:=jR (jC rs cs) yG
 have K1:=jR (jC rs cs) vI
 generalize jM (jC rs cs) yG=k0 at *
 generalize jM (jC rs cs) vI=k1 at *
 generalize (cellsOf (jC rs cs)).toArray=D at *
 have RS:(cellsOf rs).toArray.size=32:=by simp [ja,hr]
 have C0:(cellsOf k0).length=32:=by rw [ja,K0]
 have C1:(cellsOf k1).length=32:=by rw [ja,K1]
 have S0:(cellsOf k0).toArray.size=32:=C0
 have S1:(cellsOf k1).toArray.size=32:=C1
 have O0:=ji k0
 have O1:=ji k1
 have hal:=j2
 have hz0:=j7
 generalize jr=Z at *
 have B0:Hid (Ky ((((w.alloc (jnX (cellsOf rs).toArray 23)).alloc (jnX (cellsOf cs).toArray 23)).alloc (jnX Z 23)).alloc (jnX Z 23)) w.heap.size rs∧Ky ((((w.alloc (jnX (cellsOf rs).toArray 23)).alloc (jnX (cellsOf cs).toArray 23)).alloc (jnX Z 23)).alloc (jnX Z 23)) (w.heap.size+1) cs∧((((w.alloc (jnX (cellsOf rs).toArray 23)).alloc (jnX (cellsOf cs).toArray 23)).alloc (jnX Z 23)).alloc (jnX Z 23)).heap[w.heap.size+1+1]? =some (.cells Z 23 (0,0))∧((((w.alloc (jnX (cellsOf rs).toArray 23)).alloc (jnX (cellsOf cs).toArray 23)).alloc (jnX Z 23)).alloc (jnX Z 23)).heap[w.heap.size+1+1+1]? =some (.cells Z 23 (0,0))∧Ext w ((((w.alloc (jnX (cellsOf rs).toArray 23)).alloc (jnX (cellsOf cs).toArray 23)).alloc (jnX Z 23)).alloc (jnX Z 23))):=
  ⟨⟨jcT _ _ _ _ _,hr⟩,⟨jcU _ _ _ _ _,hc⟩,jcV _ _ _ _ _,jcW _ _ _ _ _,((((jnQ w).alloc _).alloc _).alloc _).alloc _⟩
 go_enter Tryz.func77,Tryz.ntmps77
 go_upto_region 1 with fail
 refine jg (fun W=>Ky W w.heap.size rs∧Ky W (w.heap.size+1) cs∧W.heap[w.heap.size+1+1]? =some (.cells Z 23 (0,0))∧W.heap[w.heap.size+1+1+1]? =some (.cells Z 23 (0,0))∧Ext w W) B0.out ?_
 clear B0
 rintro w0 ⟨b0,b1,b2,b3,E0⟩
 have z0:=jh b3
 replace E0:=Hj E0
 have B0:Hid (∀ w',Ext w0 w'→Ky w' w.heap.size rs∧Ky w' (w.heap.size+1) cs∧w'.heap[w.heap.size+1+1]? =some (.cells Z 23 (0,0))∧w'.heap[w.heap.size+1+1+1]? =some (.cells Z 23 (0,0))∧Ext w w'):=fun w' e=>⟨b0.ext e,b1.ext e,(e.block _ (jh b2)).trans b2,(e.block _ (jh b3)).trans b3,E0.out.trans e⟩
 clear b0 b1 b2 b3 E0
 go_wp2_with fail
 go_cut [6] (fun s6 wx=>∃ g:Nat,s6= .slice (some ⟨g,0,none⟩) 2 2∧Ext w0 wx∧Kr wx g [k0,k1]∧w0.heap.size≤g)
 case first=>
  refine qgT (R:=Ext) jnQ (fun _ _ _=>Ext.trans) (.rd 0 (.rd 1 (.alt 2 (.alt 3 (.alt 4 (.rd 5 .nil) .stop) .stop) (.alt 3 (.alt 2 (.alt 4 (.rd 5 .nil) .stop) .stop) .stop)))) 6 ?_
  refine qtV rfl (fun w'=>w'.heap[w.heap.size]? =some (.cells (cellsOf rs).toArray 23 (0,0))) (fun w' e=>(B0.out w' ((jnQ _).drew.trans e)).1.1) (.agg (cellsOf rs).toArray) (fun w' hF=>jd rfl rfl hF rfl rfl (by rw [RS];rfl)) ?_
  go_frame
  repeat ((first | refine vN ?_ | refine qtS ?_);go_frame)
  have SE:Hid (Ext w0 w0.drew):=(jnQ w0).drew
  generalize w0.drew=WC at *
  repeat' (first
   | exact yD
   | (refine qc (i:=2) _ rfl ?_ ?_ (fun K1 hK1=> ?_)
      (·rfl)
      rotate_left
      go_simp
      refine (DRAW.out _ _ (B0.out _ SE.out).2.2.2.2 (B0.out _ SE.out).2.1).mono ?_
      rintro e0 WC ⟨rfl,e⟩
      refine hK1.out _ _ e ?_
      clear hK1 K1
      (try replace hS:=Hj (hS.out.ext e))
      replace SE:=Hj (SE.out.trans e)
      clear e
      (try go_frame)
      repeat ((first | refine vN ?_ | refine qtS ?_);go_frame)
      skip)
   | (refine qc (i:=3) _ rfl ?_ ?_ (fun K1 hK1=> ?_)
      (·rfl)
      rotate_left
      go_simp
      have hS:=Hj (jhM WC)
      have e:=(jnQ WC).alloc (jnX #[.string ⟨#[114,111,111,116]⟩, .string ⟨#[99,104,97,105,110]⟩] 9)
      obtain ⟨gS,hgS⟩:∃ g,g=WC.heap.size:=⟨_,rfl⟩
      rw [←hgS] at hS ⊢
      refine hK1.out _ _ e ?_
      clear hK1 K1
      replace hgS:=Hj hgS
      replace SE:=Hj (SE.out.trans e)
      clear e
      generalize WC.alloc (jnX #[.string ⟨#[114,111,111,116]⟩, .string ⟨#[99,104,97,105,110]⟩] 9)=WC at *
      (try go_frame)
      repeat ((first | refine vN ?_ | refine qtS ?_);go_frame)
      skip)
   | (refine qc (i:=4) _ rfl ?_ ?_ (fun K1 hK1=> ?_)
      (·rfl)
      rotate_left
      go_simp
      have hz:=SE.out.size
      refine (KEYS.out _ _ (B0.out _ SE.out).2.2.2.2 hS.out).mono ?_
      rintro e0 WC ⟨g,rfl,hg,kr,e⟩
      refine hK1.out _ _ e ?_
      clear hK1 K1 hS
      replace hg:=Hj (jo2 hz hg)
      replace SE:=Hj (SE.out.trans e)
      replace kr:=Hj kr
      clear e hz
      (try go_frame)
      repeat ((first | refine vN ?_ | refine qtS ?_);go_frame)
      refine yC ?_
      go_wp2_with fail
      go_meet
      exact ⟨g,rfl,SE.out,kr.out,hg.out⟩)
   )
 case rest=>
  obtain ⟨g,rfl,E1,kr,hg⟩:=hcut
  have b1:Hid (wc.heap[w.heap.size+1+1]? =some (.cells Z 23 (0,0))∧wc.heap[w.heap.size+1+1+1]? =some (.cells Z 23 (0,0))∧Ext w wc):=(B0.out _ E1).2.2
  have zg:w.heap.size+1+1+1 < g:=by omega
  clear DRAW KEYS E1 hg B0
  have R0:Hid (∀ w',Two (w.heap.size+1+1) (w.heap.size+1+1+1) wc w'→∀ i v,(cellsOf k0)[i]? =some v→w'.cell? ⟨g,0+i,none⟩=some v):=fun w' e=>Kr.row (l:= [k0,k1]) (j:=0) ⟨e.block kr.1 (by omega) (by omega),kr.2⟩ (by simp)
  have R1:Hid (∀ w',Two (w.heap.size+1+1) (w.heap.size+1+1+1) wc w'→∀ i v,(cellsOf k1)[i]? =some v→w'.cell? ⟨g,32+i,none⟩=some v):=fun w' e=>Kr.row (l:= [k0,k1]) (j:=1) ⟨e.block kr.1 (by omega) (by omega),kr.2⟩ (by simp)
  clear kr
  go_wp2_with fail
  refine qgR (R:=Two (w.heap.size+1+1) (w.heap.size+1+1+1)) (Two.refl _ _) (fun _ _ _=>Two.trans) [0,1,2,3,4,5,6,7] [6,7] ?_
  repeat ((first | refine qR0 ?_ | refine qS ?_);go_frame)
  refine qV rfl (fun w'=>∀ q_ v,(cellsOf k0)[q_]? =some v→w'.cell? ⟨g,0+q_,none⟩=some v) (fun w' e=>R0.out w' ((Two.of_ext (jnQ _).drew).trans e)) (.agg (cellsOf k0).toArray) (fun w' hF=>jy rfl rfl hF rfl rfl (by rw [C0];rfl)) ?_
  go_frame
  repeat ((first | refine qR0 ?_ | refine qS ?_);go_frame)
  refine qV rfl (fun w'=>∀ q_ v,(cellsOf k1)[q_]? =some v→w'.cell? ⟨g,32+q_,none⟩=some v) (fun w' e=>R1.out w' ((Two.of_ext (jnQ _).drew).trans e)) (.agg (cellsOf k1).toArray) (fun w' hF=>jy rfl rfl hF rfl rfl (by rw [C1];rfl)) ?_
  go_frame
  have b2:Hid (wc.drew.heap[w.heap.size+1+1]? =some (.cells Z 23 (0,0))∧wc.drew.heap[w.heap.size+1+1+1]? =some (.cells Z 23 (0,0))∧Ext w wc.drew):=⟨b1.out.1,b1.out.2.1,b1.out.2.2.drew⟩
  generalize wc.drew=W at *
  refine qD fun K hK=> ?_
  refine joe _ _ _ rfl (w.heap.size+1+1) (cellsOf k0).toArray rfl rfl 23 Z b2.out.1 (by rw [S0];rfl) (by rw [S0];exact hz0) O0 ?_
  refine hK.out _ _ (Two.row _ _) ?_
  clear hK K
  try go_frame
  refine qD fun K hK=> ?_
  refine joe _ _ _ rfl (w.heap.size+1+1+1) (cellsOf k1).toArray rfl rfl 23 Z ((jpA _ _ _ _ (by omega)).trans b2.out.2.1) (by rw [S1];rfl) (by rw [S1];exact hz0) O1 ?_
  refine hK.out _ _ (Two.row' _ _) ?_
  clear hK K
  try go_frame
  refine jp ?_
  have f0:Hid (((W.setRow (w.heap.size+1+1) (cellsOf k0).toArray).setRow (w.heap.size+1+1+1) (cellsOf k1).toArray).heap[w.heap.size+1+1]? =some (.cells (cellsOf k0).toArray 23 (0,0))):=(jpA _ _ _ _ (by omega)).trans (jpe _ _ _ _ _ _ b2.out.1)
  have f1:Hid (((W.setRow (w.heap.size+1+1) (cellsOf k0).toArray).setRow (w.heap.size+1+1+1) (cellsOf k1).toArray).heap[w.heap.size+1+1+1]? =some (.cells (cellsOf k1).toArray 23 (0,0))):=jpe _ _ _ _ _ _ ((jpA _ _ _ _ (by omega)).trans b2.out.2.1)
  have f2:Hid (Ext w ((W.setRow (w.heap.size+1+1) (cellsOf k0).toArray).setRow (w.heap.size+1+1+1) (cellsOf k1).toArray)):=jpd (jpd b2.out.2.2 (by omega) _) (by omega) _
  go_wp2_with fail
  (try simp only [jnU,Exit.then])
  refine jnV (v:= .tuple #[.agg (cellsOf k0).toArray, .agg (cellsOf k1).toArray]) ?_ rfl ?_
  ·exact jaJ rfl _ _ (w.heap.size+1+1) (w.heap.size+1+1+1) 23 23 (cellsOf k0).toArray (cellsOf k1).toArray (0,0) (0,0) _ rfl rfl f0.out f1.out rfl rfl (by rw [S0];rfl) (by rw [S1];rfl)
  ·exact ⟨rfl,f2.out⟩
def Jg:List UInt8:= [116,117,114,110]
def Z0:List UInt8:= [116,97,103]
def Qv (ks:List UInt8):List UInt8:=jM ks Jg++jM ks Z0++ks
theorem y7 (xs ys:List UInt8):cellsOf (xs++ys)=cellsOf xs++cellsOf ys:=by rw [qp,qp,qp,jpy]
theorem jaP {ks:List UInt8}(hk:ks.length=32):(Qv ks).length=96:=by unfold Qv;simp [jR,hk]
def Z96:Array Value:=(cellsOf (jpp 96 0)).toArray
theorem Qx:Z96.size=96:=by simp [Z96,ja]
def Z64:Array Value:=(cellsOf (jpp 64 0)).toArray
theorem jg3:Z64.size=64:=by simp [Z64,ja]
theorem jnC (w:World):(joK 174).run joz w= .ok (.agg Z96) w:=by kernel_rfl
theorem jgR {K L:Array Value}(hK:K.size=32) (hL:L.size=32):Tryz.prog.built 172 [(0, .agg K),(1, .agg L)]=some (K++L):=by
 have h:∃ pl:Nat→Option (Nat×Nat),pl 0=some (0,32)∧pl 1=some (32,32)∧∀ ps,Tryz.prog.built 172 ps=jpq pl Z64 ps:=⟨(#[(0,32),(32,32)][·]?),rfl,rfl,fun ps=>by kernel_rfl⟩
 obtain ⟨pl,h0,h1,h2⟩:=h
 rw [h2,jag pl h0 h1 hK hL jg3]
theorem jcF {K L:Array Value}(hK:K.size=64) (hL:L.size=32):Tryz.prog.built 174 [(0, .agg K),(1, .agg L)]=some (K++L):=by
 have h:∃ pl:Nat→Option (Nat×Nat),pl 0=some (0,64)∧pl 1=some (64,32)∧∀ ps,Tryz.prog.built 174 ps=jpq pl Z96 ps:=⟨(#[(0,64),(64,32)][·]?),rfl,rfl,fun ps=>by kernel_rfl⟩
 obtain ⟨pl,h0,h1,h2⟩:=h
 rw [h2,jag pl h0 h1 hK hL Qx]
theorem JA {ks:List UInt8}{w:World}(hk:ks.length=32){tg:joE×Nat×Nat}(hG:Gl w tg):
 Calls joz 81 #[.agg (cellsOf ks).toArray] w fun e w'=>e= .returned (.agg (cellsOf (Qv ks)).toArray)∧Ext w w':=by
 have KEYS:Hid (∀ (W:World) t,Ext w W→Calls joz 113 #[.agg (cellsOf ks).toArray, .slice (some ⟨W.heap.size,0,none⟩) 2 2] (W.alloc (.cells #[.string (vR Jg), .string (vR Z0)] t)) (jfp [jM ks Jg,jM ks Z0] (W.alloc (.cells #[.string (vR Jg), .string (vR Z0)] t)))):=fun W t e=>
  Qt (ks:=ks) (l:= [Jg,Z0]) hk (jcH rfl) (by omega) (fun j=>by
   match j with
   | 0=>show Jg.length≤_;decide
   | 1=>show Z0.length≤_;decide
   | j+2=>simp [jot]) (hG.kept (e.alloc _) hG.lt)
 have hA:Hid ((⟨#[116,117,114,110]⟩:ByteArray)=vR Jg):=rfl
 have hB:Hid ((⟨#[116,97,103]⟩:ByteArray)=vR Z0):=rfl
 generalize vR Jg=sA at *
 generalize vR Z0=sB at *
 clear hG
 have SL:=jaP hk
 have hS:Hid (Qv ks=jM ks Jg++jM ks Z0++ks):=rfl
 generalize Qv ks=S at *
 have K0:=jR ks Jg
 have K1:=jR ks Z0
 generalize jM ks Jg=k0 at *
 generalize jM ks Z0=k1 at *
 have KS:(cellsOf ks).toArray.size=32:=by simp [ja,hk]
 have SS:(cellsOf S).toArray.size=96:=by simp [ja,SL]
 have OS:=ji S
 have C0:(cellsOf k0).length=32:=by rw [ja,K0]
 have C1:(cellsOf k1).length=32:=by rw [ja,K1]
 have b1:Hid (Tryz.prog.built 172 [(0, .agg (cellsOf k0).toArray),(1, .agg (cellsOf k1).toArray)]=some (cellsOf (k0++k1)).toArray):=by
  rw [y7,←List.append_toArray]
  exact jgR C0 C1
 have C01:(cellsOf (k0++k1)).length=64:=by rw [ja,joI,K0,K1]
 have b2:Hid (Tryz.prog.built 174 [(0, .agg (cellsOf (k0++k1)).toArray),(1, .agg (cellsOf ks).toArray)]=some (cellsOf S).toArray):=by
  unfold Hid
  rw [hS.out,y7 (k0++k1),←List.append_toArray]
  exact jcF C01 KS
 generalize k0++k1=k01 at *
 clear hS C01
 have hal:=jnC
 have hz0:=Qx
 generalize Z96=Z at *
 have B0:Hid (∀ s,Ext ((w.alloc (jnX (cellsOf ks).toArray 23)).alloc (jnX Z 174)) s→Ky s w.heap.size ks∧s.heap[w.heap.size+1]? =some (.cells Z 174 (0,0))∧Ext w s):=fun s e=>⟨⟨(e.block _ (by rw [je,je];omega)).trans (jQ _ _ _),hk⟩,(e.block _ (by rw [je,je];omega)).trans (jK _ _ _),(((jnQ w).alloc _).alloc _).trans e⟩
 go_enter Tryz.func81,Tryz.ntmps81
 go_upto_region 1 with fail
 refine jg (fun W=>∀ s,Ext W s→Ky s w.heap.size ks∧s.heap[w.heap.size+1]? =some (.cells Z 174 (0,0))∧Ext w s) B0.out ?_
 clear B0
 rintro w0 B0
 replace B0:=Hj B0
 have y0:=Hj (B0.out _ (jnQ _)).1
 go_wp2_with (refine wl_ rfl 23 rfl w.heap.size rfl y0.out.1 rfl rfl (by rw [KS];rfl) ?_;go_frame)
 rw [hA.out,hB.out]
 refine (KEYS.out _ _ (B0.out _ (jnQ _)).2.2).mono ?_
 rintro e w1 ⟨g,rfl,hg,kr,e1⟩
 have B1:Hid (∀ s,Ext w1 s→Ky s w.heap.size ks∧s.heap[w.heap.size+1]? =some (.cells Z 174 (0,0))∧Ext w s):=fun s e=>B0.out s (((jnQ _).alloc _).trans (e1.trans e))
 clear B0 KEYS e1 hg y0
 have R0:Hid (∀ w',Ext w1 w'→∀ i v,(cellsOf k0)[i]? =some v→w'.cell? ⟨g,0+i,none⟩=some v):=fun w' e=>Kr.row (l:= [k0,k1]) (j:=0) (kr.ext e) (by simp)
 have R1:Hid (∀ w',Ext w1 w'→∀ i v,(cellsOf k1)[i]? =some v→w'.cell? ⟨g,32+i,none⟩=some v):=fun w' e=>Kr.row (l:= [k0,k1]) (j:=1) (kr.ext e) (by simp)
 clear kr
 go_wp2_with fail
 refine ym 9 [0,1,2,3,4,5,6,7,8,9] [9] ?_
 repeat (refine jio ?_;go_frame)
 refine qzV rfl (fun w'=>∀ q_ v,(cellsOf k0)[q_]? =some v→w'.cell? ⟨g,0+q_,none⟩=some v) (fun w' e=>R0.out w' ((jnQ _).drew.trans e)) (.agg (cellsOf k0).toArray) (fun w' hF=>jy rfl rfl hF rfl rfl (by rw [C0];rfl)) ?_
 go_frame
 repeat (refine jio ?_;go_frame)
 refine qzV rfl (fun w'=>∀ q_ v,(cellsOf k1)[q_]? =some v→w'.cell? ⟨g,32+q_,none⟩=some v) (fun w' e=>R1.out w' ((jnQ _).drew.trans e)) (.agg (cellsOf k1).toArray) (fun w' hF=>jy rfl rfl hF rfl rfl (by rw [C1];rfl)) ?_
 go_frame
 refine qzV rfl (fun _=>True) (fun _ _=>trivial) (.agg (cellsOf k01).toArray) (fun w' _=>qe rfl (by simp only [jpG,jpC,jpH];exact b1.out)) ?_
 go_frame
 refine qzV rfl (fun w'=>w'.heap[w.heap.size]? =some (.cells (cellsOf ks).toArray 23 (0,0))) (fun w' e=>(B1.out w' ((jnQ _).drew.trans e)).1.1) (.agg (cellsOf ks).toArray) (fun w' hF=>jd rfl rfl hF rfl rfl (by rw [KS];rfl)) ?_
 go_frame
 refine qzV rfl (fun _=>True) (fun _ _=>trivial) (.agg (cellsOf S).toArray) (fun w' _=>qe rfl (by simp only [jpG,jpC,jpH];exact b2.out)) ?_
 go_frame
 have r2:=Hj (B1.out _ (jnQ _).drew).2.1
 have E2:=Hj (B1.out _ (jnQ _).drew).2.2
 clear B1 R0 R1 b1 b2
 generalize w1.drew=W at *
 refine qzD fun K hK=> ?_
 refine joe _ _ _ rfl (w.heap.size+1) (cellsOf S).toArray rfl rfl 174 Z r2.out (by rw [SS];rfl) (by rw [SS];exact hz0) OS ?_
 refine hK.out _ _ (.inl rfl) ?_
 clear hK K
 (try go_frame)
 refine jN ?_
 go_wp2_with fail
 (try simp only [jnU,Exit.then])
 refine jnV (jnW rfl _ _ (w.heap.size+1) 174 (cellsOf S).toArray (0,0) _ rfl (jpe _ _ _ _ _ _ r2.out) rfl rfl (by rw [SS];rfl)) rfl ?_
 exact ⟨rfl,jpd E2.out (Nat.le_succ _) _⟩
def quL (vs:List Nat) (a b c d:Nat):List Nat:=
 qa 25 (qu (qa 24 (qu (qa 20 (qu (qa 16 (qu vs a b) d a) c d) b c) a b) d a) c d) b c
theorem Yb (vs:List Nat) (a b c d:Nat):(quL vs a b c d).length=vs.length:=by simp [quL,qa,qu]
set_option maxRecDepth 100000 in
theorem zN {g a b c d:Nat}{vs:List Nat}{w:World}(h:Arr w g vs) (hl:vs.length=16) (ha:a < 16) (hb:b < 16) (hc:c < 16) (hd:d < 16):
 Calls joz 180 #[.pointer (some ⟨g,0,none⟩), .int .i64 (a:Int), .int .i64 (b:Int), .int .i64 (c:Int), .int .i64 (d:Int)] w
  fun e w'=>e= .returned (.tuple #[])∧Arr w' g (quL vs a b c d)∧w.grownBy w' (some g):=by
 have ha':(a:Int) < 16:=by omega
 have hb':(b:Int) < 16:=by omega
 have hc':(c:Int) < 16:=by omega
 have hd':(d:Int) < 16:=by omega
 go_enter Tryz.func180,Tryz.ntmps180
 go_wp2_with fail
 refine jg (fun w1=>Arr w1 g vs∧w.grownBy w1 (some g)) ⟨h,jV (jnQ _) _⟩ ?_
 rintro w0 ⟨A0,G0⟩
 have L0:=hl
 clear h
 obtain ⟨cp,fp,lp⟩:=A0.fct (i:=a) (by omega)
 obtain ⟨cq,fq,lq⟩:=A0.fct (i:=b) (by omega)
 have KEEP:Hid (∀ w',Ext w0 w'→w'.cell? ⟨g,a,none⟩=some (.int .u32 (wd vs a:Int))∧w'.cell? ⟨g,b,none⟩=some (.int .u32 (wd vs b:Int))):=fun w' e=>⟨((A0.ext e).fct (by omega)).1,((A0.ext e).fct (by omega)).1⟩
 have u1:IntKind.u32.wrap ((wd vs a:Int)+(wd vs b:Int))=(qF (wd vs a) (wd vs b):Int):=vP
 refine ym 13 [0,1,2,3,4,5,6,7,8,9,10,11,12,13] [13] ?_
 repeat (refine qzR _ (fun w' e=>KEEP.out w' ((jnQ _).drew.trans e)) ?_;go_frame)
 refine qzD fun K1 hK1=> ?_
 go_simp
 refine hK1.out _ _ (.inl rfl) ?_
 clear hK1 K1
 refine jN ?_
 go_wp2_with fail
 refine jg (fun w1=>Arr w1 g (qu vs a b)∧w.grownBy w1 (some g)) ⟨(A0.set (by omega) (ve _ _)).ext (jnQ _).drew,qt G0⟩ ?_
 rintro w1 ⟨A1,G1⟩
 have L1:(qu vs a b).length=16:=(yq ..).trans L0
 clear A0 G0 L0 cp fp lp cq fq lq KEEP u1
 generalize HV0:qu vs a b=v1 at A1 L1
 replace HV0:=Hj HV0
 obtain ⟨cp,fp,lp⟩:=A1.fct (i:=d) (by omega)
 obtain ⟨cq,fq,lq⟩:=A1.fct (i:=a) (by omega)
 have KEEP:Hid (∀ w',Ext w1 w'→w'.cell? ⟨g,d,none⟩=some (.int .u32 (wd v1 d:Int))∧w'.cell? ⟨g,a,none⟩=some (.int .u32 (wd v1 a:Int))):=fun w' e=>⟨((A1.ext e).fct (by omega)).1,((A1.ext e).fct (by omega)).1⟩
 have u1:bits .xor .u32 (wd v1 d:Int) (wd v1 a:Int)=((wd v1 d^^^wd v1 a:Nat):Int):=jn6 _ _ lp lq
 have HR:=Hj (fun w0:World=> @jkD (wd v1 d^^^wd v1 a) w0 (jL lp lq))
 refine ym 16 [0,1,2,3,4,5,6,7,8,9,10,11,12,14,13,15,16] [13,16] ?_
 repeat (refine qzR _ (fun w' e=>KEEP.out w' ((jnQ _).drew.trans e)) ?_;go_frame)
 refine qzD fun K1 hK1=> ?_
 go_simp
 refine (HR.out _).mono ?_
 rintro e w1 ⟨rfl,rfl⟩
 refine hK1.out _ _ (.inr (jnQ _)) ?_
 clear hK1 K1
 try go_frame
 repeat (refine qzR _ (fun w' e=>KEEP.out w' ((jnQ _).drew.trans e)) ?_;go_frame)
 refine qzD fun K1 hK1=> ?_
 go_simp
 refine hK1.out _ _ (.inl rfl) ?_
 clear hK1 K1
 refine jN ?_
 go_wp2_with fail
 refine jg (fun w1=>Arr w1 g (qa 16 v1 d a)∧w.grownBy w1 (some g)) ⟨(A1.set (by omega) (yB (jL lp lq))).ext (jnQ _).drew,qt G1⟩ ?_
 rintro w2 ⟨A2,G2⟩
 have L2:(qa 16 v1 d a).length=16:=(yd ..).trans L1
 clear A1 G1 L1 cp fp lp cq fq lq KEEP u1 HR
 generalize HV1:qa 16 v1 d a=v2 at A2 L2
 replace HV1:=Hj HV1
 obtain ⟨cp,fp,lp⟩:=A2.fct (i:=c) (by omega)
 obtain ⟨cq,fq,lq⟩:=A2.fct (i:=d) (by omega)
 have KEEP:Hid (∀ w',Ext w2 w'→w'.cell? ⟨g,c,none⟩=some (.int .u32 (wd v2 c:Int))∧w'.cell? ⟨g,d,none⟩=some (.int .u32 (wd v2 d:Int))):=fun w' e=>⟨((A2.ext e).fct (by omega)).1,((A2.ext e).fct (by omega)).1⟩
 have u1:IntKind.u32.wrap ((wd v2 c:Int)+(wd v2 d:Int))=(qF (wd v2 c) (wd v2 d):Int):=vP
 refine ym 13 [0,1,2,3,4,5,6,7,8,9,10,11,12,13] [13] ?_
 repeat (refine qzR _ (fun w' e=>KEEP.out w' ((jnQ _).drew.trans e)) ?_;go_frame)
 refine qzD fun K1 hK1=> ?_
 go_simp
 refine hK1.out _ _ (.inl rfl) ?_
 clear hK1 K1
 refine jN ?_
 go_wp2_with fail
 refine jg (fun w1=>Arr w1 g (qu v2 c d)∧w.grownBy w1 (some g)) ⟨(A2.set (by omega) (ve _ _)).ext (jnQ _).drew,qt G2⟩ ?_
 rintro w3 ⟨A3,G3⟩
 have L3:(qu v2 c d).length=16:=(yq ..).trans L2
 clear A2 G2 L2 cp fp lp cq fq lq KEEP u1
 generalize HV2:qu v2 c d=v3 at A3 L3
 replace HV2:=Hj HV2
 obtain ⟨cp,fp,lp⟩:=A3.fct (i:=b) (by omega)
 obtain ⟨cq,fq,lq⟩:=A3.fct (i:=c) (by omega)
 have KEEP:Hid (∀ w',Ext w3 w'→w'.cell? ⟨g,b,none⟩=some (.int .u32 (wd v3 b:Int))∧w'.cell? ⟨g,c,none⟩=some (.int .u32 (wd v3 c:Int))):=fun w' e=>⟨((A3.ext e).fct (by omega)).1,((A3.ext e).fct (by omega)).1⟩
 have u1:bits .xor .u32 (wd v3 b:Int) (wd v3 c:Int)=((wd v3 b^^^wd v3 c:Nat):Int):=jn6 _ _ lp lq
 have HR:=Hj (fun w0:World=> @jkC (wd v3 b^^^wd v3 c) w0 (jL lp lq))
 refine ym 16 [0,1,2,3,4,5,6,7,8,9,10,11,12,14,13,15,16] [13,16] ?_
 repeat (refine qzR _ (fun w' e=>KEEP.out w' ((jnQ _).drew.trans e)) ?_;go_frame)
 refine qzD fun K1 hK1=> ?_
 go_simp
 refine (HR.out _).mono ?_
 rintro e w1 ⟨rfl,rfl⟩
 refine hK1.out _ _ (.inr (jnQ _)) ?_
 clear hK1 K1
 try go_frame
 repeat (refine qzR _ (fun w' e=>KEEP.out w' ((jnQ _).drew.trans e)) ?_;go_frame)
 refine qzD fun K1 hK1=> ?_
 go_simp
 refine hK1.out _ _ (.inl rfl) ?_
 clear hK1 K1
 refine jN ?_
 go_wp2_with fail
 refine jg (fun w1=>Arr w1 g (qa 20 v3 b c)∧w.grownBy w1 (some g)) ⟨(A3.set (by omega) (yB (jL lp lq))).ext (jnQ _).drew,qt G3⟩ ?_
 rintro w4 ⟨A4,G4⟩
 have L4:(qa 20 v3 b c).length=16:=(yd ..).trans L3
 clear A3 G3 L3 cp fp lp cq fq lq KEEP u1 HR
 generalize HV3:qa 20 v3 b c=v4 at A4 L4
 replace HV3:=Hj HV3
 obtain ⟨cp,fp,lp⟩:=A4.fct (i:=a) (by omega)
 obtain ⟨cq,fq,lq⟩:=A4.fct (i:=b) (by omega)
 have KEEP:Hid (∀ w',Ext w4 w'→w'.cell? ⟨g,a,none⟩=some (.int .u32 (wd v4 a:Int))∧w'.cell? ⟨g,b,none⟩=some (.int .u32 (wd v4 b:Int))):=fun w' e=>⟨((A4.ext e).fct (by omega)).1,((A4.ext e).fct (by omega)).1⟩
 have u1:IntKind.u32.wrap ((wd v4 a:Int)+(wd v4 b:Int))=(qF (wd v4 a) (wd v4 b):Int):=vP
 refine ym 13 [0,1,2,3,4,5,6,7,8,9,10,11,12,13] [13] ?_
 repeat (refine qzR _ (fun w' e=>KEEP.out w' ((jnQ _).drew.trans e)) ?_;go_frame)
 refine qzD fun K1 hK1=> ?_
 go_simp
 refine hK1.out _ _ (.inl rfl) ?_
 clear hK1 K1
 refine jN ?_
 go_wp2_with fail
 refine jg (fun w1=>Arr w1 g (qu v4 a b)∧w.grownBy w1 (some g)) ⟨(A4.set (by omega) (ve _ _)).ext (jnQ _).drew,qt G4⟩ ?_
 rintro w5 ⟨A5,G5⟩
 have L5:(qu v4 a b).length=16:=(yq ..).trans L4
 clear A4 G4 L4 cp fp lp cq fq lq KEEP u1
 generalize HV4:qu v4 a b=v5 at A5 L5
 replace HV4:=Hj HV4
 obtain ⟨cp,fp,lp⟩:=A5.fct (i:=d) (by omega)
 obtain ⟨cq,fq,lq⟩:=A5.fct (i:=a) (by omega)
 have KEEP:Hid (∀ w',Ext w5 w'→w'.cell? ⟨g,d,none⟩=some (.int .u32 (wd v5 d:Int))∧w'.cell? ⟨g,a,none⟩=some (.int .u32 (wd v5 a:Int))):=fun w' e=>⟨((A5.ext e).fct (by omega)).1,((A5.ext e).fct (by omega)).1⟩
 have u1:bits .xor .u32 (wd v5 d:Int) (wd v5 a:Int)=((wd v5 d^^^wd v5 a:Nat):Int):=jn6 _ _ lp lq
 have HR:=Hj (fun w0:World=> @jk9 (wd v5 d^^^wd v5 a) w0 (jL lp lq))
 refine ym 16 [0,1,2,3,4,5,6,7,8,9,10,11,12,14,13,15,16] [13,16] ?_
 repeat (refine qzR _ (fun w' e=>KEEP.out w' ((jnQ _).drew.trans e)) ?_;go_frame)
 refine qzD fun K1 hK1=> ?_
 go_simp
 refine (HR.out _).mono ?_
 rintro e w1 ⟨rfl,rfl⟩
 refine hK1.out _ _ (.inr (jnQ _)) ?_
 clear hK1 K1
 try go_frame
 repeat (refine qzR _ (fun w' e=>KEEP.out w' ((jnQ _).drew.trans e)) ?_;go_frame)
 refine qzD fun K1 hK1=> ?_
 go_simp
 refine hK1.out _ _ (.inl rfl) ?_
 clear hK1 K1
 refine jN ?_
 go_wp2_with fail
 refine jg (fun w1=>Arr w1 g (qa 24 v5 d a)∧w.grownBy w1 (some g)) ⟨(A5.set (by omega) (yB (jL lp lq))).ext (jnQ _).drew,qt G5⟩ ?_
 rintro w6 ⟨A6,G6⟩
 have L6:(qa 24 v5 d a).length=16:=(yd ..).trans L5
 clear A5 G5 L5 cp fp lp cq fq lq KEEP u1 HR
 generalize HV5:qa 24 v5 d a=v6 at A6 L6
 replace HV5:=Hj HV5
 obtain ⟨cp,fp,lp⟩:=A6.fct (i:=c) (by omega)
 obtain ⟨cq,fq,lq⟩:=A6.fct (i:=d) (by omega)
 have KEEP:Hid (∀ w',Ext w6 w'→w'.cell? ⟨g,c,none⟩=some (.int .u32 (wd v6 c:Int))∧w'.cell? ⟨g,d,none⟩=some (.int .u32 (wd v6 d:Int))):=fun w' e=>⟨((A6.ext e).fct (by omega)).1,((A6.ext e).fct (by omega)).1⟩
 have u1:IntKind.u32.wrap ((wd v6 c:Int)+(wd v6 d:Int))=(qF (wd v6 c) (wd v6 d):Int):=vP
 refine ym 13 [0,1,2,3,4,5,6,7,8,9,10,11,12,13] [13] ?_
 repeat (refine qzR _ (fun w' e=>KEEP.out w' ((jnQ _).drew.trans e)) ?_;go_frame)
 refine qzD fun K1 hK1=> ?_
 go_simp
 refine hK1.out _ _ (.inl rfl) ?_
 clear hK1 K1
 refine jN ?_
 go_wp2_with fail
 refine jg (fun w1=>Arr w1 g (qu v6 c d)∧w.grownBy w1 (some g)) ⟨(A6.set (by omega) (ve _ _)).ext (jnQ _).drew,qt G6⟩ ?_
 rintro w7 ⟨A7,G7⟩
 have L7:(qu v6 c d).length=16:=(yq ..).trans L6
 clear A6 G6 L6 cp fp lp cq fq lq KEEP u1
 generalize HV6:qu v6 c d=v7 at A7 L7
 replace HV6:=Hj HV6
 obtain ⟨cp,fp,lp⟩:=A7.fct (i:=b) (by omega)
 obtain ⟨cq,fq,lq⟩:=A7.fct (i:=c) (by omega)
 have KEEP:Hid (∀ w',Ext w7 w'→w'.cell? ⟨g,b,none⟩=some (.int .u32 (wd v7 b:Int))∧w'.cell? ⟨g,c,none⟩=some (.int .u32 (wd v7 c:Int))):=fun w' e=>⟨((A7.ext e).fct (by omega)).1,((A7.ext e).fct (by omega)).1⟩
 have u1:bits .xor .u32 (wd v7 b:Int) (wd v7 c:Int)=((wd v7 b^^^wd v7 c:Nat):Int):=jn6 _ _ lp lq
 have HR:=Hj (fun w0:World=> @jk8 (wd v7 b^^^wd v7 c) w0 (jL lp lq))
 refine ym 16 [0,1,2,3,4,5,6,7,8,9,10,11,12,14,13,15,16] [13,16] ?_
 repeat (refine qzR _ (fun w' e=>KEEP.out w' ((jnQ _).drew.trans e)) ?_;go_frame)
 refine qzD fun K1 hK1=> ?_
 go_simp
 refine (HR.out _).mono ?_
 rintro e w1 ⟨rfl,rfl⟩
 refine hK1.out _ _ (.inr (jnQ _)) ?_
 clear hK1 K1
 try go_frame
 repeat (refine qzR _ (fun w' e=>KEEP.out w' ((jnQ _).drew.trans e)) ?_;go_frame)
 refine qzD fun K1 hK1=> ?_
 go_simp
 refine hK1.out _ _ (.inl rfl) ?_
 clear hK1 K1
 refine jN ?_
 go_wp2_with fail
 have HM:quL vs a b c d=qa 25 v7 b c:=by
  unfold quL
  rw [HV0.out,HV1.out,HV2.out,HV3.out,HV4.out,HV5.out,HV6.out]
 rw [HM]
 go_end0
 exact ⟨rfl,(A7.set (by omega) (yB (jL lp lq))).ext (jnQ _).drew,qt G7⟩
def drL (vs:List Nat):List Nat:=quL (quL (quL (quL (quL (quL (quL (quL vs 0 4 8 12) 1 5 9 13) 2 6 10 14) 3 7 11 15) 0 5 10 15) 1 6 11 12) 2 7 8 13) 3 4 9 14
theorem jiZ (vs:List Nat):(drL vs).length=vs.length:=by simp [drL,Yb]
theorem jhj {g:Nat}{vs:List Nat}{w:World}(h:Arr w g vs) (hl:vs.length=16):
 Calls joz 168 #[.pointer (some ⟨g,0,none⟩)] w fun e w'=>e= .returned (.tuple #[])∧Arr w' g (drL vs)∧w.grownBy w' (some g):=by
 have A0:=Hj h
 have L0:=hl
 have G0:Hid (w.grownBy w (some g)):=jV (jnQ _) _
 clear h
 go_enter Tryz.func168,Tryz.ntmps168
 go_wp2_with fail
 refine (zN A0.out L0 (a:=0) (b:=4) (c:=8) (d:=12) (by omega) (by omega) (by omega) (by omega)).mono ?_
 rintro e w1 ⟨rfl,A1,G1⟩
 replace A1:=Hj A1
 replace G1:=Hj (jj G0.out G1)
 have L1:=(Yb vs 0 4 8 12).trans L0
 generalize HV1:quL vs 0 4 8 12=v1 at A1 L1
 replace HV1:=Hj HV1
 go_wp2_with fail
 refine (zN A1.out L1 (a:=1) (b:=5) (c:=9) (d:=13) (by omega) (by omega) (by omega) (by omega)).mono ?_
 rintro e w2 ⟨rfl,A2,G2⟩
 replace A2:=Hj A2
 replace G2:=Hj (jj G1.out G2)
 have L2:=(Yb v1 1 5 9 13).trans L1
 generalize HV2:quL v1 1 5 9 13=v2 at A2 L2
 replace HV2:=Hj HV2
 go_wp2_with fail
 refine (zN A2.out L2 (a:=2) (b:=6) (c:=10) (d:=14) (by omega) (by omega) (by omega) (by omega)).mono ?_
 rintro e w3 ⟨rfl,A3,G3⟩
 replace A3:=Hj A3
 replace G3:=Hj (jj G2.out G3)
 have L3:=(Yb v2 2 6 10 14).trans L2
 generalize HV3:quL v2 2 6 10 14=v3 at A3 L3
 replace HV3:=Hj HV3
 go_wp2_with fail
 refine (zN A3.out L3 (a:=3) (b:=7) (c:=11) (d:=15) (by omega) (by omega) (by omega) (by omega)).mono ?_
 rintro e w4 ⟨rfl,A4,G4⟩
 replace A4:=Hj A4
 replace G4:=Hj (jj G3.out G4)
 have L4:=(Yb v3 3 7 11 15).trans L3
 generalize HV4:quL v3 3 7 11 15=v4 at A4 L4
 replace HV4:=Hj HV4
 go_wp2_with fail
 refine (zN A4.out L4 (a:=0) (b:=5) (c:=10) (d:=15) (by omega) (by omega) (by omega) (by omega)).mono ?_
 rintro e w5 ⟨rfl,A5,G5⟩
 replace A5:=Hj A5
 replace G5:=Hj (jj G4.out G5)
 have L5:=(Yb v4 0 5 10 15).trans L4
 generalize HV5:quL v4 0 5 10 15=v5 at A5 L5
 replace HV5:=Hj HV5
 go_wp2_with fail
 refine (zN A5.out L5 (a:=1) (b:=6) (c:=11) (d:=12) (by omega) (by omega) (by omega) (by omega)).mono ?_
 rintro e w6 ⟨rfl,A6,G6⟩
 replace A6:=Hj A6
 replace G6:=Hj (jj G5.out G6)
 have L6:=(Yb v5 1 6 11 12).trans L5
 generalize HV6:quL v5 1 6 11 12=v6 at A6 L6
 replace HV6:=Hj HV6
 go_wp2_with fail
 refine (zN A6.out L6 (a:=2) (b:=7) (c:=8) (d:=13) (by omega) (by omega) (by omega) (by omega)).mono ?_
 rintro e w7 ⟨rfl,A7,G7⟩
 replace A7:=Hj A7
 replace G7:=Hj (jj G6.out G7)
 have L7:=(Yb v6 2 7 8 13).trans L6
 generalize HV7:quL v6 2 7 8 13=v7 at A7 L7
 replace HV7:=Hj HV7
 go_wp2_with fail
 refine (zN A7.out L7 (a:=3) (b:=4) (c:=9) (d:=14) (by omega) (by omega) (by omega) (by omega)).mono ?_
 rintro e w8 ⟨rfl,A8,G8⟩
 replace A8:=Hj A8
 replace G8:=Hj (jj G7.out G8)
 have L8:=(Yb v7 3 4 9 14).trans L7
 generalize HV8:quL v7 3 4 9 14=v8 at A8 L8
 replace HV8:=Hj HV8
 go_wp2_with fail
 go_end0
 refine ⟨rfl,?_,G8.out⟩
 have:drL vs=v8:=by unfold drL;rw [HV1.out,HV2.out,HV3.out,HV4.out,HV5.out,HV6.out,HV7.out,HV8.out]
 rw [this]
 exact A8.out
theorem jgv {xs:List UInt8}(h:xs.length=4):vF xs < 4294967296:=by
 have:=Yd xs
 rw [h] at this
 exact this
theorem ja4 {A:Option Addr}{c:Nat}{xs:List UInt8}{w:World}(h:Bs w A 4 c xs):
 Calls joz 179 #[.slice A 4 c] w fun e w'=>e= .returned (.int .u32 (vF xs:Int))∧w'=w:=by
 have hl:=h.len
 have HC:=Hj (ZF (m:=4) h (by omega) (by omega) (by decide))
 have hx:xs.take 4=xs:=jpo (by omega)
 rw [hx] at HC
 have hb:=jgv hl
 have hcv:IntKind.u32.wrap (vF xs:Int)=(vF xs:Int):=by rw [jo8];omega
 go_enter Tryz.func179,Tryz.ntmps179
 go_wp2_with fail
 refine HC.out.mono ?_
 rintro e w1 ⟨rfl,rfl⟩
 go_wp2_with fail
 go_ret
 exact ⟨rfl,rfl⟩
def jht:List Nat:= [1634760805,857760878,2036477234,1797285236]
def Jw (xs:List UInt8) (i:Nat):Nat:=vF ((xs.drop (4*i)).take 4)
def Yo (ks ns:List UInt8) (n:Nat):List Nat:=jht++(jo3 8).map (Jw ks)++ [n]++(jo3 3).map (Jw ns)
def Jc:List Nat:=jht++jpp 12 0
theorem jaS (ks ns:List UInt8) (n:Nat):(Yo ks ns n).length=16:=by simp [Yo,jht]
theorem jkP {xs ys:List Nat}(h:xs.length=ys.length) (hb:∀ j,j < xs.length→wd xs j=wd ys j):xs=ys:=by
 refine jpa h fun j h1 h2=> ?_
 have:=hb j h1
 simpa [wd,jot,h1,h2] using this
theorem jgL {vs:List Nat}{ks ns:List UInt8}{n:Nat}(hl:vs.length=16) (F0:∀ j,j < 4→wd vs j=wd Jc j) (F1:∀ j,j < 8→wd vs (4+j)=Jw ks j) (F2:wd vs 12=n) (F3:∀ j,j < 3→wd vs (13+j)=Jw ns j):vs=Yo ks ns n:=by
 refine jkP (hl.trans (jaS _ _ _).symm) fun j hj=> ?_
 have h:j=0∨j=1∨j=2∨j=3∨j=4∨j=5∨j=6∨j=7∨j=8∨j=9∨j=10∨j=11∨j=12∨j=13∨j=14∨j=15:=by omega
 rcases h with rfl | rfl | rfl | rfl | rfl | rfl | rfl | rfl | rfl | rfl | rfl | rfl | rfl | rfl | rfl | rfl
 ·exact (F0 0 (by omega)).trans rfl
 ·exact (F0 1 (by omega)).trans rfl
 ·exact (F0 2 (by omega)).trans rfl
 ·exact (F0 3 (by omega)).trans rfl
 ·exact (F1 0 (by omega)).trans rfl
 ·exact (F1 1 (by omega)).trans rfl
 ·exact (F1 2 (by omega)).trans rfl
 ·exact (F1 3 (by omega)).trans rfl
 ·exact (F1 4 (by omega)).trans rfl
 ·exact (F1 5 (by omega)).trans rfl
 ·exact (F1 6 (by omega)).trans rfl
 ·exact (F1 7 (by omega)).trans rfl
 ·exact F2.trans rfl
 ·exact (F3 0 (by omega)).trans rfl
 ·exact (F3 1 (by omega)).trans rfl
 ·exact (F3 2 (by omega)).trans rfl
theorem jdt (xs:List UInt8) (i:Nat):Jw xs i < 4294967296:=by
 have h:=Yd ((xs.drop (4*i)).take 4)
 have hl:((xs.drop (4*i)).take 4).length≤4:=by simp;omega
 exact jos h (jo2 (Nat.pow_le_pow_right (by omega) hl) (by decide))
theorem jfW {w:World}{g k n:Nat}{t:joE}(ht:Tryz.prog.underlying t=some (.array (Tryz.prog.arrayLen t) (Tryz.prog.elem t))) (hs:∀ w,(sizeOf (Tryz.prog.elem t)).run joz w= .ok 1 w) (hn:Tryz.prog.arrayLen t=n) (hk:4*k+4≤n):
 (Instr.sliceAt t (.pointer (some ⟨g,0,none⟩)) (some (.int .i64 (4*(k:Int)))) (some (.int .i64 (4*(k:Int)+4))) (some (.int .i64 (4*(k:Int)+4)))).run joz w= .ok (.slice (some ⟨g,4*k,none⟩) 4 4) w:=by
 rw [run_sliceAt_array_lhm w t _ ht .i64 .i64 .i64 _ _ _ (by omega) (by omega) (by omega) (by rw [hn];omega)]
 rw [hs]
 have h1:(4*(k:Int)).toNat=4*k:=by omega
 have h2:(4*(k:Int)+4).toNat=4*k+4:=by omega
 have h3:(⟨g,0,none⟩:Addr).add (4*k*1)=⟨g,4*k,none⟩:=by unfold Addr.add;split <;> simp_all
 show Result.ok (slicedAt _ _ _ _ _) w=_
 rw [h1,h2]
 unfold slicedAt
 rw [if_neg (by omega),h3,show 4*k+4 - 4*k=4 by omega]
def Sw (w wr:World) (ks ns:List UInt8) (vs:List Nat):Prop:=
 Ext w wr∧wr.heap[w.heap.size]? =some (.cells (cellsOf ks).toArray 23 (0,0))∧wr.heap[w.heap.size+1]? =some (.cells (cellsOf ns).toArray 212 (0,0))∧Wr wr (w.heap.size+1+1) 246 (jpp 16 0)∧Wr wr (w.heap.size+1+1+1) 246 vs
theorem Sw.setV {w wr:World}{ks ns:List UInt8}{vs:List Nat}(h:Sw w wr ks ns vs) (k x:Nat):Sw w (wr.setCell ⟨w.heap.size+1+1+1,k,none⟩ (.int .u32 (x:Int))) ks ns (vs.set k x):=by
 obtain ⟨e,a,b,c,d⟩:=h
 have hb:Below (w.heap.size+1+1+1) wr (wr.setCell ⟨w.heap.size+1+1+1,k,none⟩ (.int .u32 (x:Int))):=Below.setCell (p:=⟨w.heap.size+1+1+1,k,none⟩) (joo (w.heap.size+1+1+1) wr) (joq _) _
 exact ⟨jop e (hb.mono (by omega)),(hb.block _ (by omega)).trans a,(hb.block _ (by omega)).trans b,c.kept hb (by omega),d.set⟩
theorem jhy (w:World) (o1 o2 o3 o4:Obj):((((w.alloc o1).alloc o2).alloc o3).alloc o4).heap[w.heap.size]? =some o1:=by
 rw [jpi _ _ _ (by rw [je,je,je];omega)]
 exact jF w o1 o2 o3
theorem jhz (w:World) (o1 o2 o3 o4:Obj):((((w.alloc o1).alloc o2).alloc o3).alloc o4).heap[w.heap.size+1]? =some o2:=by
 rw [jpi _ _ _ (by rw [je,je,je];omega)]
 exact jH w o1 o2 o3
theorem jhA (w:World) (o1 o2 o3 o4:Obj):((((w.alloc o1).alloc o2).alloc o3).alloc o4).heap[w.heap.size+1+1]? =some o3:=by
 rw [jpi _ _ _ (by rw [je,je,je];omega)]
 exact jB w o1 o2 o3
theorem jc9 (w:World) (o1 o2 o3 o4:Obj):((((w.alloc o1).alloc o2).alloc o3).alloc o4).heap[w.heap.size+1+1+1]? =some o4:=by
 have:=jB (w.alloc o1) o2 o3 o4
 rwa [je] at this
set_option maxRecDepth 100000 in
theorem jdZ {ks ns:List UInt8}{n:Nat}{w:World}(hk:ks.length=32) (hn:ns.length=12) (hN:n < 4294967296):
 Calls joz 167 #[.agg (cellsOf ks).toArray, .agg (cellsOf ns).toArray, .int .u32 (n:Int)] w fun e w'=>e= .returned (.agg (jb (Yo ks ns n)).toArray)∧Ext w w':=by
 have BL:=jf (show Jc.length=16 from rfl)
 have B1:=jo Jc
 have hal:∀ w,(joK 246).run joz w= .ok (.agg (jb (jpp 16 0)).toArray) w:=fun _=>by kernel_rfl
 have ZL:=jf (show (jpp 16 0).length=16 from rfl)
 have SW0:Hid (Sw w (((((w.alloc (jnX (cellsOf ks).toArray 23)).alloc (jnX (cellsOf ns).toArray 212)).alloc (jnX (jb (jpp 16 0)).toArray 246)).alloc (jnX (jb (jpp 16 0)).toArray 246)).setRow (w.heap.size+1+1+1) (jb Jc).toArray) ks ns Jc):=
  ⟨jpd (((((jnQ w).alloc _).alloc _).alloc _).alloc _) (by omega) _,(jpA _ _ _ _ (by omega)).trans (jhy _ _ _ _ _),(jpA _ _ _ _ (by omega)).trans (jhz _ _ _ _ _),(jpA _ _ _ _ (by omega)).trans (jhA _ _ _ _ _),jpe _ _ _ _ _ _ (jc9 _ _ _ _ _)⟩
 have h3:Hid (∀ o1 o2 o3,((((w.alloc o1).alloc o2).alloc o3).alloc (jnX (jb (jpp 16 0)).toArray 246)).heap[w.heap.size+1+1+1]? =some (jnX (jb (jpp 16 0)).toArray 246)):=fun o1 o2 o3=>jc9 _ _ _ _ _
 generalize hZ:(jb (jpp 16 0)).toArray=Z at *
 replace hZ:=Hj hZ
 go_enter Tryz.func167,Tryz.ntmps167
 go_upto_region 2 with (first
  | (refine jm rfl _ _ rfl (jb Jc).toArray (by kernel_rfl) ?_;go_frame)
  | (refine ws_ rfl 246 rfl (w.heap.size+1+1+1) (jb Jc).toArray rfl rfl (by with_reducible exact h3.out _ _ _) (by rw [BL];rfl) (by rw [BL];exact ZL) B1 ?_;go_frame))
 refine jg (fun W=>Sw w W ks ns Jc) SW0.out ?_
 clear SW0 h3 hal B1 BL ZL
 rintro w0 S0
 go_wp2_with fail
 go_loopw [11] (fun i wr=>∃ (k:Nat) (vs:List Nat),k≤8∧i= .int .i64 k∧vs.length=16∧(∀ j,j < 4→wd vs j=wd Jc j)∧(∀ j,j < k→wd vs (4+j)=Jw ks j)∧Sw w wr ks ns vs) (fun i _=>8 - (intOf i).toNat)
 case atStart=>exact ⟨0,Jc,jor _,rfl,rfl,fun _ _=>rfl,fun j hj=>absurd hj (by omega),S0⟩
 case round=>
  obtain ⟨k,vs,hk8,rfl,hl,F0,F1,SK⟩:=hrel
  clear S0
  by_cases hlt:k < 8
  ·have hK:=SK.2.1
   have g3:=SK.2.2.2.2.cell (i:=4+k) (by omega)
   have g4:=SK.2.2.2.2.frozen (4+k)
   have ik:(k:Int) < 8:=by omega
   have jk:(4:Int)+(k:Int) < 16:=by omega
   have hsl:=fun w':World=>jfW (w:=w') (g:=w.heap.size) (k:=k) (t:=23) rfl (fun _=>rfl) rfl (show 4*k+4≤32 by omega)
   have HC:=Hj (ja4 (Bs.part hK (o:=4*k) (n:=4) (c:=4) (by omega) (by omega) (by omega)))
   replace SK:=Hj SK
   replace F0:=Hj F0
   replace F1:=Hj F1
   clear hK
   go_wp2_with fail
   refine HC.out.mono ?_
   rintro e w1 ⟨rfl,rfl⟩
   go_wp2_with fail
   refine ⟨⟨k+1,vs.set (4+k) (Jw ks k),by omega,by go_num,by rw [jo7];exact hl,fun j hj=> ?_,fun j hj=> ?_,SK.out.setV _ _⟩,by simp [intOf];omega⟩
   ·rw [j8 (by omega),if_neg (by omega)];exact F0.out j hj
   ·rw [j8 (by omega)]
    by_cases q:j=k
    ·rw [if_pos (by omega),q]
    ·rw [if_neg (by omega)];exact F1.out j (by omega)
  ·obtain rfl:k=8:=by omega
   rw [show ((8:Nat):Int)=8 from rfl]
   have g3:=SK.2.2.2.2.cell (i:=12) (by omega)
   have g4:=SK.2.2.2.2.frozen 12
   go_upto_region 8 with (fail)
   refine jg (fun W=>∃ vs:List Nat,vs.length=16∧(∀ j,j < 4→wd vs j=wd Jc j)∧(∀ j,j < 8→wd vs (4+j)=Jw ks j)∧wd vs 12=n∧Sw w W ks ns vs) ⟨vs.set 12 n,by rw [jo7];exact hl,fun j hj=>by rw [j8 (by omega),if_neg (by omega)];exact F0 j hj,fun j hj=>by rw [j8 (by omega),if_neg (by omega)];exact F1 j hj,by rw [j8 (by omega),if_pos rfl],SK.setV _ _⟩ ?_
   clear g3 g4 SK F0 F1 hl
   clear vs
   rintro w2 ⟨vs0,hl0,F00,F10,F20,S2⟩
   go_wp2_with fail
   go_loopw [30] (fun i wr=>∃ (k:Nat) (vs:List Nat),k≤3∧i= .int .i64 k∧vs.length=16∧(∀ j,j < 4→wd vs j=wd Jc j)∧(∀ j,j < 8→wd vs (4+j)=Jw ks j)∧wd vs 12=n∧(∀ j,j < k→wd vs (13+j)=Jw ns j)∧Sw w wr ks ns vs) (fun i _=>3 - (intOf i).toNat)
   case atStart=>exact ⟨0,vs0,jor _,rfl,hl0,F00,F10,F20,fun j hj=>absurd hj (by omega),S2⟩
   case round=>
    obtain ⟨k,vs,hk3,rfl,hl,F0,F1,F2,F3,SK⟩:=hrel
    clear S2 hl0 F00 F10 F20
    by_cases hlt:k < 3
    ·have hK:=SK.2.2.1
     have g3:=SK.2.2.2.2.cell (i:=13+k) (by omega)
     have g4:=SK.2.2.2.2.frozen (13+k)
     have ik:(k:Int) < 3:=by omega
     have jk:(13:Int)+(k:Int) < 16:=by omega
     have hsl:=fun w':World=>jfW (w:=w') (g:=(w.heap.size+1)) (k:=k) (t:=212) rfl (fun _=>rfl) rfl (show 4*k+4≤12 by omega)
     have HC:=Hj (ja4 (Bs.part hK (o:=4*k) (n:=4) (c:=4) (by omega) (by omega) (by omega)))
     replace SK:=Hj SK
     replace F0:=Hj F0
     replace F1:=Hj F1
     replace F2:=Hj F2
     replace F3:=Hj F3
     clear hK
     go_wp2_with fail
     refine HC.out.mono ?_
     rintro e w1 ⟨rfl,rfl⟩
     go_wp2_with fail
     refine ⟨⟨k+1,vs.set (13+k) (Jw ns k),by omega,by go_num,by rw [jo7];exact hl,fun j hj=> ?_,fun j hj=> ?_,?_,fun j hj=> ?_,SK.out.setV _ _⟩,by simp [intOf];omega⟩
     ·rw [j8 (by omega),if_neg (by omega)];exact F0.out j hj
     ·rw [j8 (by omega),if_neg (by omega)];exact F1.out j hj
     ·rw [j8 (by omega),if_neg (by omega)];exact F2.out
     ·rw [j8 (by omega)]
      by_cases q:j=k
      ·rw [if_pos (by omega),q]
      ·rw [if_neg (by omega)];exact F3.out j (by omega)
    ·obtain rfl:k=3:=by omega
     have hvs:=Hj (jgL hl F0 F1 F2 F3)
     have HL:=jf hl
     have hone:=jo vs
     obtain ⟨he,_,_,h1,h2⟩:=SK
     unfold Wr at h1 h2
     generalize hC:(jb vs).toArray=C at h2 HL hone
     clear F0 F1 F2 F3
     replace hC:=Hj hC
     replace h1:=Hj h1
     replace h2:=Hj h2
     go_wp2_with (first
      | refine wl_ rfl 246 rfl (w.heap.size+1+1+1) rfl h2.out rfl rfl (by rw [HL];rfl) ?_
      | refine ws_ rfl 246 rfl (w.heap.size+1+1) C rfl rfl h1.out (by rw [HL];rfl) (by rw [HL];rfl) hone ?_)
     (try simp only [jnU,Exit.then])
     refine jnV (jnW rfl _ _ (w.heap.size+1+1) 246 C (0,0) _ rfl (jpe _ _ _ _ _ _ h1.out) rfl rfl (by rw [HL];rfl)) rfl ?_
     exact ⟨by rw [←hvs.out,hC.out],jpd he (by omega) _⟩
def drN (vs:List Nat):Nat→List Nat
 | 0=>vs
 | k+1=>drL (drN vs k)
theorem jb9 {vs:List Nat}(h:vs.length=16):∀ k,(drN vs k).length=16
 | 0=>h
 | k+1=>by rw [drN,jiZ];exact jb9 h k
def jd3 (us vs:List Nat):List Nat:=(jo3 16).map fun j=>qF (wd us j) (wd vs j)
theorem jaW (us vs:List Nat):(jd3 us vs).length=16:=by simp [jd3]
theorem jjO {us vs:List Nat}{j:Nat}(h:j < 16):wd (jd3 us vs) j=qF (wd us j) (wd vs j):=by simp [wd,jd3,jot,h]
def YT (ks ns:List UInt8) (n:Nat):List UInt8:=qX (jd3 (drN (Yo ks ns n) 10) (Yo ks ns n))
theorem jac (ks ns:List UInt8) (n:Nat):(YT ks ns n).length=64:=by unfold YT;rw [ya,jaW]
theorem jiB {ks ns:List UInt8}{n:Nat}(hn:n < 4294967296):∀ i,i < 16→wd (Yo ks ns n) i < 4294967296:=fun j hj=>by
 have h:j=0∨j=1∨j=2∨j=3∨j=4∨j=5∨j=6∨j=7∨j=8∨j=9∨j=10∨j=11∨j=12∨j=13∨j=14∨j=15:=by omega
 rcases h with rfl | rfl | rfl | rfl | rfl | rfl | rfl | rfl | rfl | rfl | rfl | rfl | rfl | rfl | rfl | rfl
 ·exact (by decide:(1634760805:Nat) < 4294967296)
 ·exact (by decide:(857760878:Nat) < 4294967296)
 ·exact (by decide:(2036477234:Nat) < 4294967296)
 ·exact (by decide:(1797285236:Nat) < 4294967296)
 iterate 8 (·exact jdt _ _)
 ·exact hn
 iterate 3 (·exact jdt _ _)
def Bw (w wr:World) (f g:Nat) (S V:List Nat):Prop:=
 Ext w wr∧wr.heap[w.heap.size+1+1]? =some (.cells (cellsOf (jpp 64 0)).toArray 221 (0,0))∧Wr wr f 246 S∧Arr wr g V∧w.heap.size+1+1 < f∧f < g
section
variable {w wr wr':World}{f g:Nat}{S V V':List Nat}
theorem Bw.ext (h:Bw w wr f g S V) (e:Ext wr wr'):Bw w wr' f g S V:=by
 obtain ⟨e0,a,b,c,d⟩:=h
 exact ⟨e0.trans e,(e.block _ (jh a)).trans a,b.kept e b.lt,c.ext e,d⟩
theorem Bw.grow (h:Bw w wr f g S V) (e:wr.grownBy wr' (some g)) (a:Arr wr' g V'):Bw w wr' f g S V':=by
 obtain ⟨e0,h1,h2,h3,h4,h5⟩:=h
 have bl:∀ i o,wr.heap[i]? =some o→i≠g→wr'.heap[i]? =some o:=fun i o hi hne=>(e.block i (jh hi) (fun q=>by injection q with q;exact hne q)).trans hi
 exact ⟨jop e0 ⟨e.os,e.tape,e.output,e.size,fun i hi=>e.block i (jos hi e0.size) (fun q=>by injection q with q;omega)⟩,bl _ _ h1 (by omega),bl _ _ h2 (by omega),a,h4,h5⟩
end
set_option maxRecDepth 100000 in
theorem jcZ {ks ns:List UInt8}{n:Nat}{w:World}(hk:ks.length=32) (hn:ns.length=12) (hN:n < 4294967296):
 Calls joz 148 #[.agg (cellsOf ks).toArray, .agg (cellsOf ns).toArray, .int .u32 (n:Int)] w fun e w'=>e= .returned (.agg (cellsOf (YT ks ns n)).toArray)∧Ext w w':=by
 have KS:(cellsOf ks).toArray.size=32:=by simp [ja,hk]
 have NS:(cellsOf ns).toArray.size=12:=by simp [ja,hn]
 have hal:∀ w,(joK 221).run joz w= .ok (.agg (cellsOf (jpp 64 0)).toArray) w:=fun _=>by kernel_rfl
 have hal2:∀ w,(joK 246).run joz w= .ok (.agg (jb (jpp 16 0)).toArray) w:=fun _=>by kernel_rfl
 have ZL:=jf (show (jpp 16 0).length=16 from rfl)
 have START:Hid (∀ W,Calls joz 167 #[.agg (cellsOf ks).toArray, .agg (cellsOf ns).toArray, .int .u32 (n:Int)] W fun e w'=>e= .returned (.agg (jb (Yo ks ns n)).toArray)∧Ext W w'):=fun W=>jdZ hk hn hN
 have SL:=jaS ks ns n
 have SLT:=Hj (jiB (ks:=ks) (ns:=ns) hN)
 have hBL:Hid (YT ks ns n=qX (jd3 (drN (Yo ks ns n) 10) (Yo ks ns n))):=rfl
 generalize Yo ks ns n=S at *
 have SS:=jf SL
 have S1:=jo S
 have q0:Hid (∀ o2 o3,(((w.alloc (jnX (cellsOf ks).toArray 23)).alloc o2).alloc o3).heap[w.heap.size]? =some (jnX (cellsOf ks).toArray 23)):=fun o2 o3=>jF _ _ _ _
 have q1:Hid (∀ o1 o3,(((w.alloc o1).alloc (jnX (cellsOf ns).toArray 212)).alloc o3).heap[w.heap.size+1]? =some (jnX (cellsOf ns).toArray 212)):=fun o1 o3=>jH _ _ _ _
 have q2:Hid (∀ o1 o2,(((w.alloc o1).alloc o2).alloc (jnX (cellsOf (jpp 64 0)).toArray 221)).heap[w.heap.size+1+1]? =some (jnX (cellsOf (jpp 64 0)).toArray 221)):=fun o1 o2=>jB _ _ _ _
 generalize hZ:(jb (jpp 16 0)).toArray=Z at *
 replace hZ:=Hj hZ
 generalize hO:jpp 64 (0:UInt8)=O at *
 replace hO:=Hj hO
 go_enter Tryz.func148,Tryz.ntmps148
 go_wp2_with (first
  | (refine wl_ rfl 23 rfl w.heap.size rfl (by with_reducible exact q0.out _ _) rfl rfl (by rw [KS];rfl) ?_;go_frame)
  | (refine wl_ rfl 212 rfl (w.heap.size+1) rfl (by with_reducible exact q1.out _ _) rfl rfl (by rw [NS];rfl) ?_;go_frame))
 refine (START.out _).mono ?_
 rintro e w1 ⟨rfl,e1⟩
 have E1:Hid (Ext w w1):=(((((jnQ w).alloc _).alloc _).alloc _).trans e1)
 have R1:=Hj ((e1.block (w.heap.size+1+1) (by rw [je,je,je];omega)).trans (q2.out _ _))
 clear q0 q1 q2 e1 START
 go_upto_region 2 with (refine ws_ rfl 246 rfl w1.heap.size (jb S).toArray rfl rfl (by with_reducible exact jps _ _) (by rw [SS];rfl) (by rw [SS];exact ZL) S1 ?_;go_frame)
 refine jg (fun W=>Ext w W∧W.heap[w.heap.size+1+1]? =some (jnX (cellsOf O).toArray 221 (0,0))∧Wr W w1.heap.size 246 S∧w.heap.size+1+1 < w1.heap.size) ⟨E1.out.trans (jpd ((jnQ w1).alloc _) (joq _) _),((jpd ((jnQ w1).alloc _) (joq _) _:Ext w1 _).block _ (jh R1.out)).trans R1.out,jpe _ _ _ _ _ _ (jps _ _),jh R1.out⟩ ?_
 rintro w2 ⟨E2,R2,F2,hf⟩
 replace E2:=Hj E2
 replace R2:=Hj R2
 unfold Wr at F2
 replace F2:=Hj F2
 clear E1 R1
 obtain ⟨f,hf0⟩:=ex_ w1.heap.size
 rw [←hf0] at F2 hf ⊢
 clear hf0
 go_upto_region 3 with (first
  | (refine wl_ rfl 246 rfl f rfl F2.out rfl rfl (by rw [SS];rfl) ?_;go_frame)
  | (refine ws_ rfl 246 rfl w2.heap.size (jb S).toArray rfl rfl (by with_reducible exact jps _ _) (by rw [SS];rfl) (by rw [SS];exact ZL) S1 ?_;go_frame))
 refine jg (fun W=>Bw w W f w2.heap.size S S) ⟨E2.out.trans (jpd ((jnQ w2).alloc _) (joq _) _),?_,?_,Wr.arr (t:=246) (jpe _ _ _ _ _ _ (jps _ _)) (fun i hi=>SLT.out i (by omega)),hf,jh F2.out⟩ ?_
 ·rw [hO.out]
  exact ((jpd ((jnQ w2).alloc _) (joq _) _:Ext w2 _).block _ (jh R2.out)).trans R2.out
 ·exact ((jpd ((jnQ w2).alloc _) (joq _) _:Ext w2 _).block _ (jh F2.out)).trans F2.out
 clear R2 F2
 rintro w3 B3
 obtain ⟨g,hg0⟩:=ex_ w2.heap.size
 rw [←hg0] at B3 ⊢
 clear hg0 E2
 go_wp2_with fail
 go_loopw [16] (fun i wr=>∃ k:Nat,k≤10∧i= .int .i64 k∧Bw w wr f g S (drN S k)) (fun i _=>10 - (intOf i).toNat)
 case atStart=>exact ⟨0,jor _,rfl,B3⟩
 case round=>
  obtain ⟨k,hk10,rfl,BK⟩:=hrel
  clear B3
  by_cases hlt:k < 10
  ·have DR:=Hj (jhj BK.2.2.2.1 (jb9 SL k))
   replace BK:=Hj BK
   go_wp2_with fail
   refine DR.out.mono ?_
   rintro e w4 ⟨rfl,A4,G4⟩
   go_wp2_with fail
   exact ⟨⟨k+1,by omega,by go_num,BK.out.grow G4 A4⟩,by simp [intOf];omega⟩
  ·obtain rfl:k=10:=by omega
   rw [show ((10:Nat):Int)=10 from rfl]
   generalize hV:drN S 10=V at *
   have VL:V.length=16:=by rw [←hV];exact jb9 SL 10
   replace hV:=Hj hV
   have VLT:Hid (∀ j,j < 16→wd V j < 4294967296):=fun j hj=>(BK.2.2.2.1.2 j (by omega)).2.2
   replace BK:=Hj BK
   go_upto_region 8 with (fail)
   refine jg (fun W=>Bw w W f g S V∧W.heap[wr.heap.size]? =some (.cells (cellsOf O).toArray 221 (0,0))∧g < wr.heap.size) ⟨BK.out.ext ((jnQ _).alloc _),jps _ _,BK.out.2.2.2.1.1⟩ ?_
   obtain ⟨o,ho0⟩:=ex_ wr.heap.size
   rw [←ho0]
   clear ho0 BK
   rintro w5 ⟨B5,O5,hgo⟩
   have OL:O.length=64:=by rw [←hO.out];simp
   go_wp2_with fail
   go_loopw [20] (fun i wr=>∃ (k:Nat) (xs:List UInt8),k≤16∧i= .int .i64 k∧xs.length=64∧(∀ j,j < 4*k→bt xs j=bt (qX (jd3 V S)) j)∧Bw w wr f g S V∧wr.heap[o]? =some (.cells (cellsOf xs).toArray 221 (0,0))) (fun i _=>16 - (intOf i).toNat)
   case atStart=>exact ⟨0,O,jor _,rfl,OL,fun j hj=>absurd hj (by omega),B5,O5⟩
   case round=>
    obtain ⟨k,xs,hk16,rfl,hl,hv,BK,h2⟩:=hrel
    clear B5 O5
    by_cases hlt:k < 16
    ·have hsl:=fun w':World=>je3 (w:=w') (g:=o) (k:=k) (t:=221) rfl (fun _=>rfl) rfl (show 4*k < 64 by omega)
     have a1:=VLT.out k hlt
     have a2:=SLT.out k hlt
     have m0:(k:Int) < 16:=by omega
     have m1:IntKind.i64.wrap (4*(k:Int))=4*(k:Int):=jnZ _ (by omega)
     have m2:IntKind.u32.wrap ((wd V k:Int)+(wd S k:Int))=(qF (wd V k) (wd S k):Int):=vP
     have al:=ve (wd V k) (wd S k)
     have m3:IntKind.u64.wrap (qF (wd V k) (wd S k):Int)=(qF (wd V k) (wd S k):Int):=IntWalk.u64_in _ (by omega)
     have LOW:=Hj (fun w0:World=>Zh (n:=qF (wd V k) (wd S k)) (m:=4) (many:=4) (w:=w0) (by omega) (by omega) (by omega) (by omega) (by decide))
     have KEEP:Hid (∀ w',Below o wr w'→w'.cell? ⟨g,k,none⟩=some (.int .u32 (wd V k:Int))∧w'.cell? ⟨f,k,none⟩=some (.int .u32 (wd S k:Int))):=fun w' e=>⟨(e.cell (p:=⟨g,k,none⟩) (by show g < o;omega)).trans (BK.2.2.2.1.fct (by omega)).1,(e.cell (p:=⟨f,k,none⟩) (by show f < o;have:=BK.2.2.2.2.2;omega)).trans (BK.2.2.1.cell (by omega))⟩
     have osz:o < wr.heap.size:=jh h2
     replace h2:=Hj h2
     replace hv:=Hj hv
     replace BK:=Hj BK
     go_wp2_with fail
     refine qgB o [0,1,2,3,4,5,6,7,8,9,10,11,12] [11,12] ?_
     repeat ((first | refine qR _ (fun w' e=>KEEP.out w' (jop (joo _ _).drew e)) ?_ | refine qS ?_);go_frame)
     refine qD fun K hK=> ?_
     go_simp
     refine (LOW.out _).mono ?_
     rintro e w1 ⟨A1,n1,c1,rfl,b1,e1⟩
     refine hK.out _ _ (e1.mono (jnT osz)) ?_
     clear hK K
     try go_frame
     repeat ((first | refine qR0 ?_ | refine qS ?_);go_frame)
     refine qD fun K hK=> ?_
     go_simp
     have hn1:n1=4:=by have:=b1.len;rw [vM] at this;omega
     subst hn1
     refine JZ (cur:=cellsOf xs) rfl ((e1.block o osz).trans h2.out) b1 (by omega) (by rw [ja];omega) ?_
     intro W' h3 h4
     rw [Yf] at h3
     go_simp
     refine hK.out _ _ (h4.out o (joq _)) ?_
     clear hK K
     refine jp ?_
     have e2:Below o wr W':=jop ((joo o wr).drew) (jop (e1.mono (jnT osz)) (h4.out o (joq _)))
     have B6:Bw w W' f g S V:=by
      obtain ⟨x1,x2,x3,x4,x5,x6⟩:=BK.out
      refine ⟨jop x1 (e2.mono (by omega)),(e2.block _ (by omega)).trans x2,(e2.block _ (by omega)).trans x3,⟨jos x4.1 e2.size,fun i hi=> ?_⟩,x5,x6⟩
      obtain ⟨y1,y2,y3⟩:=x4.2 i hi
      exact ⟨(e2.cell (p:=⟨g,i,none⟩) hgo).trans y1,(e2.frozen (p:=⟨g,i,none⟩) hgo).trans y2,y3⟩
     clear h4 m0 m1 m2 m3 hsl KEEP
     go_wp2_with fail
     refine ⟨⟨k+1,jpb xs (4*k) (J3 (qF (wd V k) (wd S k)) 4),by omega,by go_num,(jaR (by rw [vM];omega)).trans hl,fun j hj=> ?_,B6,h3.out⟩,by simp [intOf];omega⟩
     rw [jbs (by rw [vM];omega) (by rw [vM];omega)]
     by_cases q:j < 4*k
     ·rw [if_pos q];exact hv.out j q
     ·rw [if_neg q,jb1 (by omega),JK (by rw [jaW];omega),show j / 4=k by omega,show j % 4=j - 4*k by omega,jjO hlt]
    ·obtain rfl:k=16:=by omega
     have hvs:=Hj (Y0 (xs:=xs) (ys:=qX (jd3 V S)) (by rw [ya,jaW];omega) (fun j hj=>hv j (by omega)))
     have HS:(cellsOf xs).toArray.size=64:=by simp [ja,hl]
     have OS:(cellsOf O).toArray.size=64:=by simp [ja,OL]
     have hone:=ji xs
     have h1:=BK.2.1
     rw [hO.out] at h1
     have he:=BK.1
     generalize hD:(cellsOf xs).toArray=D at h2 HS hone
     replace hD:=Hj hD
     replace h1:=Hj h1
     replace h2:=Hj h2
     clear hv BK
     go_wp2_with (first
      | (refine wl_ rfl 221 rfl o rfl h2.out rfl rfl (by rw [HS];rfl) ?_;go_frame)
      | (refine ws_ rfl 221 rfl (w.heap.size+1+1) D rfl rfl h1.out (by rw [HS];rfl) (by rw [HS];exact OS) hone ?_;go_frame))
     (try simp only [jnU,Exit.then])
     refine jnV (jnW rfl _ _ (w.heap.size+1+1) 221 D (0,0) _ rfl (jpe _ _ _ _ _ _ h1.out) rfl rfl (by rw [HS];rfl)) rfl ?_
     exact ⟨by rw [hBL.out,←hvs.out,hD.out],jpd he (by omega) _⟩
def jd7 (xs ys:List UInt8):List UInt8:=List.zipWith (· ^^^ ·) xs ys
theorem jbc {xs ys:List UInt8}(h:xs.length=ys.length):(jd7 xs ys).length=xs.length:=by simp [jd7,h]
theorem jfv {xs ys:List UInt8}(h:xs.length=ys.length){k:Nat}(hk:k < xs.length):bt (jd7 xs ys) k=bt xs k^^^bt ys k:=by
 unfold bt jd7
 simp [jot,List.getElem?_zipWith,hk,show k < ys.length by omega]
theorem jjM (xs ys:List UInt8) (k:Nat):bits .xor .u8 (bt xs k:Int) (bt ys k:Int)=((bt xs k^^^bt ys k:Nat):Int):=u8_xor_nat _ _ (vL _ _) (vL _ _)
theorem jgW {A A':Option Addr}{n c c':Nat}{xs ys:List UInt8}{w:World}(h:Bs w A n c xs) (h':Bs w A' n c' ys) (hm:n≤281474976710656):
 Calls joz 149 #[.slice A n c, .slice A' n c'] w (YP (jd7 xs ys) 0 w):=by
 have h1:=h.le
 have h2:=h.cap
 have h3:=h'.le
 have h4:=h'.cap
 have hl:=Hj (h.len.trans h'.len.symm)
 have hmk:=jhQ n hm
 go_enter Tryz.func149,Tryz.ntmps149
 go_wp2
 clear hmk
 go_loopw [18] (fun i wr=>∃ k:Nat,k≤n∧i= .int .i64 k∧Fill w wr n k (fun j=>bt xs j^^^bt ys j)) (fun i _=>n - (intOf i).toNat)
 case atStart=>exact ⟨0,jor _,rfl,Fill.start _ _ _⟩
 case round=>
  obtain ⟨k,hk,rfl,hf⟩:=hrel
  by_cases hlt:k < n
  ·obtain ⟨b,off,rfl,hb,hc⟩:=h.pos (by omega)
   obtain ⟨b',off',rfl,hb',hc'⟩:=h'.pos (by omega)
   have g1:=(hf.1.cell (p:=⟨b,off+k,none⟩) hb).trans (hc k hlt)
   have g2:=(hf.1.cell (p:=⟨b',off'+k,none⟩) hb').trans (hc' k hlt)
   have g3:=hf.cell hlt
   have g4:=hf.frozen k
   have hu:=Hj (jjM xs ys k)
   clear hc hc'
   go_wp2
   go_region
   go_wp2
   go_roundw
   case rel=>exact ⟨k+1,by omega,by go_num,(hf.step hu.out).drew⟩
   case measure=>simp [intOf];omega
  ·obtain rfl:k=n:=by omega
   go_wp2
   go_ret2
   exact ⟨_,_,_,rfl,hf.done ((jbc hl.out).trans h.len) hm (fun j hj=>(jfv hl.out (by rw [h.len];exact hj)).symm),hf.1⟩
def jhE (ks ns:List UInt8) (n j:Nat):Nat:=bt (YT ks ns ((n+j / 64) % 4294967296)) (j % 64)
theorem ji7 (ks ns:List UInt8) (n j:Nat):jhE ks ns n j < 256:=vL _ _
def yY (ks ns:List UInt8) (n:Nat) (bs:List UInt8):List UInt8:=(jo3 bs.length).map fun j=>jov (bt bs j^^^jhE ks ns n j)
theorem yE (ks ns:List UInt8) (n:Nat) (bs:List UInt8):(yY ks ns n bs).length=bs.length:=by simp [yY]
theorem jgX {a b:Nat}(ha:a < 256) (hb:b < 256):a^^^b < 256:=Nat.xor_lt_two_pow (n:=8) ha hb
theorem jad {ks ns:List UInt8}{n j:Nat}{bs:List UInt8}(h:j < bs.length):bt (yY ks ns n bs) j=bt bs j^^^jhE ks ns n j:=by
 have:=jgX (vL bs j) (ji7 ks ns n j)
 have e:(yY ks ns n bs).getD j 0=jov (bt bs j^^^jhE ks ns n j):=by
  unfold yY
  rw [jn9,joV,List.getElem?_range h]
  rfl
 show ((yY ks ns n bs).getD j 0).toNat=_
 rw [e,UInt8.toNat_ofNat']
 exact jpO this
theorem jgP {ks ns:List UInt8}{n i m:Nat}{bs ys:List UInt8}(hm:m=min (bs.length - 64*i) 64) (hi:64*i < bs.length) (hy:ys=jd7 ((bs.drop (64*i)).take m) ((YT ks ns ((n+i) % 4294967296)).take m)):
 (yY ks ns n bs).take (64*i)++ys=(yY ks ns n bs).take (64*(i+1)):=by
 have lb:=jac ks ns ((n+i) % 4294967296)
 have l1:((bs.drop (64*i)).take m).length=m:=by simp;omega
 have l2:((YT ks ns ((n+i) % 4294967296)).take m).length=m:=by simp [lb];omega
 have ly:ys.length=m:=by rw [hy,jbc (by omega),l1]
 have tl:=yE ks ns n bs
 refine Y0 (by simp [tl,ly];omega) fun j hj=> ?_
 have hj':j < 64*i+m:=by simp [tl,ly] at hj;omega
 rw [YU (by omega)]
 by_cases q:j < 64*i
 ·have:bt ((yY ks ns n bs).take (64*i)++ys) j=bt ((yY ks ns n bs).take (64*i)) j:=by
   unfold bt;simp only [jot];rw [jpu (by simp [tl];omega)]
  rw [this,YU q]
 ·have:bt ((yY ks ns n bs).take (64*i)++ys) j=bt ys (j - 64*i):=by
   unfold bt;simp only [jot];rw [jpt (by simp [tl];omega)];simp [tl,show min (64*i) bs.length=64*i by omega]
  rw [this,jad (by omega),hy,jfv (by omega) (by omega),YU (by omega),YU (by omega),jfu]
  unfold jhE
  rw [show 64*i+(j - 64*i)=j by omega,show j / 64=i by omega,show j % 64=j - 64*i by omega]
def jj3:Value→Nat
 | .slice _ n _=>n
 | _=>0
def Tw (w wr:World) (ks ns:List UInt8):Prop:=
 Ext w wr∧wr.heap[w.heap.size]? =some (.cells (cellsOf ks).toArray 23 (0,0))∧wr.heap[w.heap.size+1]? =some (.cells (cellsOf ns).toArray 212 (0,0))
theorem Tw.below {w wr wr':World}{ks ns:List UInt8}(h:Tw w wr ks ns) (e:Below (w.heap.size+1+1) wr wr'):Tw w wr' ks ns:=
 ⟨jop h.1 (e.mono (by omega)),(e.block _ (by omega)).trans h.2.1,(e.block _ (by omega)).trans h.2.2⟩
theorem Tw.size {w wr:World}{ks ns:List UInt8}(h:Tw w wr ks ns):w.heap.size+1+1≤wr.heap.size:=jh h.2.2
theorem Own.lower {B B':Nat}{w:World}{A:Option Addr}{n c:Nat}{xs:List UInt8}(h:Own B w A n c xs) (hB:B'≤B):Own B' w A n c xs:=by
 refine ⟨h.1,?_⟩
 rcases h.2 with h | ⟨g,cap,cur,hv,hb,r⟩
 ·exact .inl h
 ·exact .inr ⟨g,cap,cur,hv,jo2 hB hb,r⟩
def YA (xs:List UInt8) (w:World) (e:Ending) (w':World):Prop:=∃ A n c,e= .returned (.slice A n c)∧Own w.heap.size w' A n c xs∧Ext w w'
set_option maxRecDepth 100000 in
theorem jiG {ks ns bs:List UInt8}{n:Nat}{A:Option Addr}{L c:Nat}{w:World}(hk:ks.length=32) (hn:ns.length=12) (hN:n < 4294967296) (h:Bs w A L c bs) (hL:L≤140737488355328):
 Calls joz 117 #[.agg (cellsOf ks).toArray, .agg (cellsOf ns).toArray, .int .u32 (n:Int), .slice A L c] w (YA (yY ks ns n bs) w):=by
 have h1:=h.le
 have h2:=h.cap
 have hbl:=h.len
 have KS:(cellsOf ks).toArray.size=32:=by simp [ja,hk]
 have NS:(cellsOf ns).toArray.size=12:=by simp [ja,hn]
 have hal:∀ w,(joK 221).run joz w= .ok (.agg (cellsOf (jpp 64 0)).toArray) w:=fun _=>by kernel_rfl
 have hmk:=jhP L (by omega)
 have hB:=Hj h
 clear h
 have TW0:Hid (∀ o,Tw w (((w.alloc (jnX (cellsOf ks).toArray 23)).alloc (jnX (cellsOf ns).toArray 212)).alloc o) ks ns):=fun o=>⟨(((jnQ w).alloc _).alloc _).alloc _,jF _ _ _ _,jH _ _ _ _⟩
 have OS:(cellsOf (jpp 64 (0:UInt8))).toArray.size=64:=by simp [ja]
 generalize (cellsOf (jpp 64 (0:UInt8))).toArray=O at *
 have OW0:Hid (∀ w:World,Own w.heap.size (w.alloc (.cells (madeCells #[.int .u8 0] L) 5)) (some ⟨w.heap.size,0,none⟩) 0 L []):=fun w=>Own.made w _ _ (joq _) (by omega)
 generalize hMC:madeCells #[.int .u8 0] L=MC at *
 clear hMC
 go_enter Tryz.func117,Tryz.ntmps117
 go_wp2_with fail
 have E2:(((w.alloc (jnX (cellsOf ks).toArray 23)).alloc (jnX (cellsOf ns).toArray 212)).heap.size)=w.heap.size+1+1:=by rw [je,je]
 have OW1:=Hj (OW0.out ((w.alloc (jnX (cellsOf ks).toArray 23)).alloc (jnX (cellsOf ns).toArray 212)))
 rw [E2] at OW1
 go_loopw [2,3,9] (fun x y v wr=>∃ (i:Nat) (A' D:Option Addr) (q c' m cc:Nat),64*i < L+64∧x= .int .u32 (((n+i) % 4294967296:Nat):Int)∧y= .slice A' q c'∧v= .slice D m cc∧q=L - 64*i∧Bs w A' q c' (bs.drop (64*i))∧Own (w.heap.size+1+1) wr D m cc ((yY ks ns n bs).take (64*i))∧Tw w wr ks ns) (fun _ y _ _=>jj3 y)
 case atStart=>
  refine ⟨0,A,_,L,c,0,L,by omega,?_,rfl,rfl,by omega,hB.out,OW1.out,TW0.out _⟩
  rw [joR,jpO hN]
 case round=>
  obtain ⟨i,A',D,q,c',m,cc,hi,rfl,rfl,rfl,hq,hb,ho,tw⟩:=hrel
  clear TW0 OW0 OW1 hmk E2
  have q1:=hb.le
  have q2:=hb.cap
  have hn64:(n+i) % 4294967296 < 4294967296:=jo5 _ (by decide)
  have hml:=ho.len
  have tl:=yE ks ns n bs
  by_cases hq0:0 < q
  ·obtain ⟨b,off,rfl,hbb,hbc⟩:=hb.pos hq0
   clear hbc
   obtain ⟨k,hk0⟩:=ex_ (min q 64)
   have hM:(if (64:Int) < (q:Int) then 64 else (q:Int))=(k:Int):=by split <;> omega
   have hM':(if (q:Int) < 64 then (q:Int) else 64)=(k:Int):=by split <;> omega
   have k1:k≤q:=by omega
   have k2:k≤64:=by omega
   have k3:0 < k:=by omega
   have BLK:Hid (∀ W,Calls joz 148 #[.agg (cellsOf ks).toArray, .agg (cellsOf ns).toArray, .int .u32 (((n+i) % 4294967296:Nat):Int)] W fun e w'=>e= .returned (.agg (cellsOf (YT ks ns ((n+i) % 4294967296))).toArray)∧Ext W w'):=fun W=>jcZ hk hn hn64
   have BLL:=jac ks ns ((n+i) % 4294967296)
   have STEP:=Hj (fun ys=>jgP (ks:=ks) (ns:=ns) (n:=n) (i:=i) (m:=k) (bs:=bs) (ys:=ys) (by omega) (by omega))
   generalize YT ks ns ((n+i) % 4294967296)=BK at *
   generalize hx:(n+i) % 4294967296=x at *
   have hx1:IntKind.u32.wrap ((x:Int)+1)=(((n+(i+1)) % 4294967296:Nat):Int):=by rw [jo8];omega
   replace hx:=Hj hx
   have BKS:(cellsOf BK).toArray.size=64:=by simp [ja,BLL]
   have BK1:=ji BK
   replace hb:=Hj hb
   replace ho:=Hj ho
   replace tw:=Hj tw
   replace hq:=Hj hq
   replace hk0:=Hj hk0
   replace hml:=Hj hml
   clear tl hbl
   go_wp2_with (first
    | (refine wl_ rfl 23 rfl w.heap.size rfl tw.out.2.1 rfl rfl (by rw [KS];rfl) ?_;go_frame)
    | (refine wl_ rfl 212 rfl (w.heap.size+1) rfl tw.out.2.2 rfl rfl (by rw [NS];rfl) ?_;go_frame))
   refine (BLK.out _).mono ?_
   rintro e w1 ⟨rfl,e1⟩
   go_upto_region 5 with (refine ws_ rfl 221 rfl w1.heap.size (cellsOf BK).toArray rfl rfl (by with_reducible exact jps _ _) (by rw [BKS];rfl) (by rw [BKS];exact OS) BK1 ?_;go_frame)
   refine jg (fun W=>Ext wr W∧W.heap[w1.heap.size]? =some (.cells (cellsOf BK).toArray 221 (0,0))) ⟨e1.trans (jpd ((jnQ w1).alloc _) (joq _) _),jpe _ _ _ _ _ _ (jps _ _)⟩ ?_
   rintro w2 ⟨e2,kb⟩
   obtain ⟨g,hg0⟩:=ex_ w1.heap.size
   rw [←hg0] at kb ⊢
   clear hg0 e1
   have X1:=Hj (((hb.out.take k1).recap (c2:=k) (joq _)).ext (tw.out.1.trans e2))
   have X2:Hid (Bs w2 (some ⟨g,0,none⟩) k k (BK.take k)):=by
    have h9:=Bs.part kb (o:=0) (n:=k) (c:=k) (by omega) (by omega) (by omega)
    rw [List.drop_zero] at h9
    exact h9
   have XOR:Hid (∀ W,Ext w2 W→Calls joz 149 #[.slice (some ⟨b,off,none⟩) k k, .slice (some ⟨g,0,none⟩) k k] W (YP (jd7 ((bs.drop (64*i)).take k) (BK.take k)) 0 W)):=fun W e=>jgW (X1.out.ext e) (X2.out.ext e) (by omega)
   have kn: ¬ k=0:=by omega
   have kc:(k:Int)≤(c':Int):=by omega
   have k64:(k:Int)≤64:=by omega
   replace e2:=Hj e2
   clear kb hM hM'
   refine qgE [0,1,2,3,4,5,6,7,8,9,10,11,12] [7] ?_
   repeat ((first | refine qR0 ?_ | refine qS ?_);go_frame)
   refine qD fun K hK=> ?_
   go_simp
   refine (XOR.out _ (jnQ _).drew).mono ?_
   rintro e w3 ⟨A3,n3,c3,rfl,b3,e3⟩
   refine hK.out _ _ e3 ?_
   clear hK K
   try go_frame
   repeat ((first | refine qR0 ?_ | refine qS ?_);go_frame)
   refine jp ?_
   have E3:Ext wr w3:=e2.out.trans ((jnQ _).drew.trans e3)
   have hs3:(jd7 ((bs.drop (64*i)).take k) (BK.take k)).length=k:=by rw [jbc (by rw [X1.out.len,X2.out.len]),X1.out.len]
   have n3k:n3=k:=by rw [←b3.len,hs3]
   subst n3k
   have O3:=Hj (ho.out.ext E3)
   have T3:=Hj (tw.out.below (E3.mono tw.out.size))
   have mL:m+n3≤140737488355328:=by
    have:=hml.out
    have:=hq.out
    have:=yE ks ns n bs
    have:=hB.out.len
    simp only [jou] at *
    omega
   replace b3:=Hj b3
   clear XOR X1 X2 e2 e3 E3 hs3
   go_wp2_with (first
    | (at_builtin;(with_reducible refine jJ rfl (B:=w.heap.size+1+1) (s:= .tmp 38) (x:= .tmp 39) rfl rfl rfl O3.out b3.out mL T3.out.size ?_);intro A4 c4 w4 o4 g4 b4;replace o4:=Hj o4;replace b4:=Hj b4;clear g4;go_frame)
    | ((with_reducible refine ja7 rfl (x:= .tmp 41) (lo:= .tmp 42) (k:=n3) rfl rfl rfl rfl k1 q1 ?_);intro A5 hc5;have b5:=Hj (hc5 _ _ hb.out);clear hc5;go_frame))
   have hq':=hq.out
   have hk':=hk0.out
   have hbl:=hB.out.len
   refine ⟨⟨i+1,A5,A4,q - n3,c' - n3,m+n3,c4,by omega,congrArg (joC .u32) (show ((n:Int)+((i:Int)+1)) % 4294967296=(((n+(i+1)) % 4294967296:Nat):Int) by omega),rfl,rfl,by omega,?_,?_,T3.out.below b4.out⟩,by simp only [jj3];omega⟩
   ·have h9:=b5.out
    rw [List.drop_drop] at h9
    have h8:bs.drop (64*i+n3)=bs.drop (64*(i+1)):=by
     by_cases q64:64≤q
     ·rw [show 64*i+n3=64*(i+1) by omega]
     ·rw [jof (by omega),jof (by omega)]
    rwa [h8] at h9
   ·have h9:=o4.out
    rwa [STEP.out _ rfl] at h9
  ·have hq':64*i≥L:=by omega
   have hT:Hid ((yY ks ns n bs).take (64*i)=yY ks ns n bs):=jpo (by omega)
   have HO:=Hj (ho.lower (B':=w.heap.size) (by omega))
   rw [hT.out] at HO
   have ht:=tw.1
   clear ho tw hb hml tl
   go_wp2_with fail
   go_ret
   exact ⟨_,_,_,rfl,HO.out,ht⟩
theorem jaB {w:World}{g o:Nat}{t:joE}{p x q S:List UInt8}(h:w.heap[g]? =some (.cells (cellsOf S).toArray t (0,0))) (hS:S=p++x++q) (ho:p.length=o):∀ j v,(cellsOf x)[j]? =some v→w.cell? ⟨g,o+j,none⟩=some v:=fun j v hv=>by
 have hj:=(jpz.1 hv).1
 rw [jpg w g _ _ _ (0,0) h,jpv,hS,y7,y7]
 rw [jpu (by rw [joI,ja,ho];omega),jpt (by rw [ja,ho];omega),ja,ho,Nat.add_sub_cancel_left]
 exact hv
theorem jcw {w:World}{g o n:Nat}{t:joE}{p x q S:List UInt8}(h:w.heap[g]? =some (.cells (cellsOf S).toArray t (0,0))) (hS:S=p++x++q) (ho:p.length=o) (hx:x.length=n) (hn:n≤1000000):Bs w (some ⟨g,o,none⟩) n n x:=
 ⟨hx,joq _,by unfold maxLen;omega,fun _=>⟨g,o,rfl,jh h,fun j hj=>jaB h hS ho j _ (jZ (by omega))⟩⟩
def jgu:List UInt8:=jpp 12 0
theorem jeE:Tryz.prog.built 212 []=some (cellsOf jgu).toArray:=by kernel_rfl
theorem jd1 {A:Option Addr}{n c:Nat}{a t k S bs:List UInt8}{w:World}(ha:a.length=32) (hS:S=a++t++k) (h:Bs w A n c bs) (hn:n≤100000000):
 Calls joz 82 #[.agg (cellsOf S).toArray, .slice A n c] w (YA (yY a jgu 0 bs) w):=by
 have TURN:Hid (∀ W,Ext w W→Calls joz 117 #[.agg (cellsOf a).toArray, .agg (cellsOf jgu).toArray, .int .u32 0, .slice A n c] W (YA (yY a jgu 0 bs) W)):=fun W e=>jiG (n:=0) ha rfl (by omega) (h.ext e) (by omega)
 have hb:=jeE
 generalize jgu=nn at *
 have KA:(cellsOf a).length=32:=by rw [ja,ha]
 have R0:Hid (∀ j v,(cellsOf a)[j]? =some v→(w.alloc (jnX (cellsOf S).toArray 174)).cell? ⟨w.heap.size,0+j,none⟩=some v):=jaB (p:= []) (q:=t++k) (jps _ _) (by rw [hS];simp) rfl
 have h1:=h.le
 have h2:=h.cap
 clear h hS
 go_enter Tryz.func82,Tryz.ntmps82
 go_wp2_with (first
  | (refine vQ rfl (jy (ys:=cellsOf a) (g:=w.heap.size) (off:=0) rfl rfl R0.out rfl rfl (by rw [KA];rfl)) ?_;go_frame)
  | (refine jm rfl _ _ rfl (cellsOf nn).toArray (by simp only [jpG,jpH];exact hb) ?_;go_frame))
 refine (TURN.out _ ((jnQ w).alloc _)).mono ?_
 rintro e w1 ⟨A1,n1,c1,rfl,b1,e1⟩
 go_wp2_with fail
 go_ret
 exact ⟨_,_,_,rfl,b1.lower (by rw [je];omega),((jnQ w).alloc _).trans e1⟩
def Rw (w:World) (A:Option Addr) (n c:Nat) (l:List (List UInt8)):Prop:=
 l.length=n∧n≤c∧c≤maxLen∧(0 < n→∃ b off,A=some ⟨b,off,none⟩∧b < w.heap.size∧∀ j,j < n→∃ A' n' c',w.cell? ⟨b,off+j,none⟩=some (.slice A' n' c')∧Bs w A' n' c' (l.getD j []))
section
variable {w w':World}{A:Option Addr}{n c:Nat}{l:List (List UInt8)}
theorem Rw.len (h:Rw w A n c l):l.length=n:=h.1
theorem Rw.le (h:Rw w A n c l):n≤c:=h.2.1
theorem Rw.cap (h:Rw w A n c l):c≤9223372036854775807:=h.2.2.1
theorem Rw.pos (h:Rw w A n c l) (hn:0 < n):∃ b off,A=some ⟨b,off,none⟩∧b < w.heap.size∧∀ j,j < n→∃ A' n' c',w.cell? ⟨b,off+j,none⟩=some (.slice A' n' c')∧Bs w A' n' c' (l.getD j []):=h.2.2.2 hn
theorem Rw.ext (h:Rw w A n c l) (he:Ext w w'):Rw w' A n c l:=
 ⟨h.1,h.2.1,h.2.2.1,fun hn=>by
   obtain ⟨b,off,e,hb,hc⟩:=h.2.2.2 hn
   refine ⟨b,off,e,jos hb he.size,fun j hj=> ?_⟩
   obtain ⟨A',n',c',h1,h2⟩:=hc j hj
   exact ⟨A',n',c',(he.cell hb).trans h1,h2.ext he⟩⟩
end
def jgD (x:List UInt8):List UInt8:=(J3 x.length 4).reverse++x
def qz (l:List (List UInt8)):List UInt8:=l.flatMap jgD
theorem jaM (x:List UInt8):(jgD x).length=4+x.length:=by simp [jgD,vM]
theorem Qs {l:List (List UInt8)}{k:Nat}(h:k < l.length):qz (l.take (k+1))=qz (l.take k)++jgD (l.getD k []):=by
 unfold qz
 rw [jn5 h,List.flatMap_append]
 simp [jot,h]
theorem zb {l:List (List UInt8)}{k:Nat}(h:k < l.length):(qz (l.take (k+1))).length=(qz (l.take k)).length+(4+(l.getD k []).length):=by
 rw [Qs h,joI,jaM]
theorem QG (l:List (List UInt8)) (k:Nat):(qz (l.take k)).length≤(qz l).length:=by
 have:qz l=qz (l.take k)++qz (l.drop k):=by unfold qz;rw [←List.flatMap_append,List.take_append_drop]
 rw [this,joI]
 omega
def qw (l:List (List UInt8)) (k:Nat):Nat:=(qz (l.take k)).length
theorem jam {A:Option Addr}{n c:Nat}{l:List (List UInt8)}{w:World}(h:Rw w A n c l) (hm:(qz l).length≤100000000):
 Calls joz 79 #[.slice A n c] w (Qw (qz l) w):=by
 have h1:=h.le
 have h2:=h.cap
 have hsz:Hid (qw l n=(qz l).length):=by unfold Hid qw;rw [jpo (by rw [h.len];omega)]
 have hszn:qw l n≤100000000:=by rw [hsz.out];exact hm
 have hmk:=jhP (qw l n) (by omega)
 go_enter Tryz.func79,Tryz.ntmps79
 go_wp2
 go_loop [3,11] (fun x i=>∃ k:Nat,k≤n∧i= .int .i64 k∧x= .int .i64 (qw l k:Int)) (fun _ i=>n - (intOf i).toNat)
 case atStart=>exact ⟨0,jor _,rfl,rfl⟩
 case round=>
  obtain ⟨k,hk,rfl,rfl⟩:=hrel
  by_cases hlt:k < n
  ·obtain ⟨b,off,rfl,hb,hc⟩:=h.pos (by omega)
   obtain ⟨A',n',c',g1,g2⟩:=hc k (by omega)
   have hs:Hid ((qw l k:Int)+(4+(n':Int))=(qw l (k+1):Int)):=by
    unfold Hid qw
    rw [zb (by rw [h.len];omega),g2.len]
    omega
   have hb1:qw l (k+1)≤100000000:=jo2 (QG l (k+1)) hm
   have hb2:n'+qw l k≤100000000:=by have:=hs.out;omega
   clear hc hmk
   go_wp2
   go_round
   case rel=>exact ⟨k+1,by omega,by go_num,congrArg (joC .i64) hs.out⟩
   case measure=>simp [intOf];omega
  ·obtain rfl:k=n:=by omega
   go_wp2
   clear hmk
   go_loopw [6,25] (fun v i wr=>∃ (j cc:Nat) (D:Option Addr),j≤k∧i= .int .i64 j∧v= .slice D (qw l j) cc∧Own w.heap.size wr D (qw l j) cc (qz (l.take j))∧Ext w wr) (fun _ i _=>k - (intOf i).toNat)
   case atStart=>exact ⟨0,_,_,jor _,rfl,rfl,Own.made w _ _ (joq _) (by omega),(jnQ w).alloc _⟩
   case round=>
    obtain ⟨j,cc,D,hj,rfl,rfl,ho,hE⟩:=hrel
    by_cases hlj:j < k
    ·obtain ⟨b,off,rfl,hb,hc⟩:=h.pos (by omega)
     obtain ⟨A',n',c',g1',g2⟩:=hc j (by omega)
     have g1:=(hE.cell (p:=⟨b,off+j,none⟩) hb).trans g1'
     have t3:=g2.le
     have t4:=g2.cap
     have hszj:=hE.size
     have hb1:qw l (j+1)≤100000000:=jo2 (QG l (j+1)) hm
     have hs:Hid (qw l (j+1)=qw l j+4+n'):=by
      unfold Hid qw
      rw [zb (by rw [h.len];omega),g2.len]
      omega
     have hb2:n'+4+qw l j≤100000000:=by have:=hs.out;omega
     have hjn:Hid (qz (l.take (j+1))=qz (l.take j)++(J3 n' 4).reverse++l.getD j []):=by
      unfold Hid
      rw [Qs (by rw [h.len];omega),jgD,g2.len,jpf]
     clear hc g1'
     go_wp2_with fail
     refine (Yj (m:=4) (by omega) (by omega) (by omega) (by omega) (by omega)).mono ?_
     rintro e w1 ⟨A1,n1,c1,rfl,b1,e1⟩
     obtain rfl:n1=4:=by rw [←b1.len,List.length_reverse,vM]
     have hE1:=hE.trans e1
     have z1:=e1.size
     go_wp2_with (first
      | (at_builtin;refine jJ rfl (B:=w.heap.size) (s:= .tmp 29) (x:= .tmp 33) rfl rfl rfl (ho.ext e1) b1 (by omega) (by omega) ?_;intro D' cc' w2 ho2 hg2 hbl)
      | (at_builtin;refine jJ rfl (B:=w.heap.size) (s:= .tmp 35) (x:= .tmp 36) rfl rfl rfl ho2 (g2.ext (hE1.trans' hbl)) (by omega) (by have:=hbl.size;omega) ?_;intro D3 cc3 w3 ho3 hg3 hbl3))
     go_roundw
     case rel=>exact ⟨j+1,cc3,D3,by omega,by go_num,by rw [hs.out],by rw [hs.out,hjn.out];exact ho3,(hE1.trans' hbl).trans' hbl3⟩
     case measure=>simp [intOf];omega
    ·obtain rfl:j=k:=by omega
     go_wp2
     go_ret
     exact ⟨_,_,_,rfl,by have:=ho.bs;rwa [jpo (by rw [h.len];omega)] at this,hE⟩
theorem jhr {K Z:Array Value}(pl:Nat→Option (Nat×Nat)) (hp:pl 0=some (0,32)) (hK:K.size=32) (hZ:Z.size=32):jpq pl Z [(0, .agg K)]=some K:=by
 have hc:(jpr K).cells=K:=rfl
 simp only [jpq,hp,hc,hK,hZ]
 simp only [ne_eq,not_true_eq_false,decide_false,Bool.false_or,joB,Nat.lt_irrefl,decide_false,Bool.false_eq_true,if_false]
 have:=Great.fill_whole (s:=32) (by omega) [jpr K] Z (fun v hv=>by
  simp only [joH] at hv
  subst hv
  exact hK) (by simp [hZ])
 simp only [List.zipIdx_cons,List.zipIdx_nil,jpC,jpH,List.flatMap_cons,List.flatMap_nil,List.append_nil,jpq,hc,hK,hZ,Nat.zero_mul] at this
 simpa using this
theorem jbN (w:World):(joK 178).run joz w= .ok (.agg jr) w:=by kernel_rfl
theorem jbO {K:Array Value}(hK:K.size=32):Tryz.prog.built 178 [(0, .agg K)]=some K:=by
 have h:∃ pl:Nat→Option (Nat×Nat),pl 0=some (0,32)∧∀ ps,Tryz.prog.built 178 ps=jpq pl jr ps:=⟨(#[(0,32)][·]?),rfl,fun ps=>by kernel_rfl⟩
 obtain ⟨pl,h0,h1⟩:=h
 rw [h1,jhr pl h0 hK j7]
theorem jjC {W:World}{t:joE}{A B C:Option Addr}{n m l c d f:Nat}{xs ys zs:List UInt8}(h1:Bs W A n c xs) (h2:Bs W B m d ys) (h3:Bs W C l f zs):Rw (W.alloc (.cells #[.slice A n c, .slice B m d, .slice C l f] t)) (some ⟨W.heap.size,0,none⟩) 3 3 [xs,ys,zs]:=by
 have e:Ext W (W.alloc (.cells #[.slice A n c, .slice B m d, .slice C l f] t)):=(jnQ W).alloc _
 refine ⟨rfl,joq _,by unfold maxLen;omega,fun _=>⟨_,0,rfl,by rw [je];omega,fun j hj=> ?_⟩⟩
 rw [jpg _ _ _ _ _ (0,0) (jps _ _)]
 match j with
 | 0=>exact ⟨A,n,c,rfl,h1.ext e⟩
 | 1=>exact ⟨B,m,d,rfl,h2.ext e⟩
 | 2=>exact ⟨C,l,f,rfl,h3.ext e⟩
 | j+3=>omega
theorem jgl (xs ys zs:List UInt8):(qz [xs,ys,zs]).length=12+xs.length+ys.length+zs.length:=by
 simp [qz,jaM];omega
theorem jd4 {A B:Option Addr}{n c m d:Nat}{a t k S bs ts:List UInt8}{w:World}(ha:a.length=32) (ht:t.length=32) (hk:k.length=32) (hS:S=a++t++k) (h:Bs w A n c bs) (h':Bs w B m d ts) (hn:n≤1000000) (hm:m≤1000000){tg:joE×Nat×Nat}(hG:Gl w tg):
 Calls joz 83 #[.agg (cellsOf S).toArray, .slice A n c, .slice B m d] w fun e w'=>e= .returned (.agg (cellsOf (jC t (qz [k,bs,ts]))).toArray)∧Ext w w':=by
 have JL:(qz [k,bs,ts]).length≤100000000:=by rw [jgl,hk,h.len,h'.len];omega
 have JOIN:Hid (∀ (W:World) (C:Option Addr),Rw W C 3 3 [k,bs,ts]→Calls joz 79 #[.slice C 3 3] W (Qw (qz [k,bs,ts]) W)):=fun W C r=>jam r JL
 have MAC:Hid (∀ (W:World) (C:Option Addr) (A':Option Addr) (m d:Nat),Ext w W→Bs W C 32 32 t→Bs W A' m d (qz [k,bs,ts])→Calls joz 95 #[.slice C 32 32, .slice A' m d] W fun e w'=>e= .returned (.tuple #[.agg (cellsOf (jC t (qz [k,bs,ts]))).toArray, .int .i64 0])∧Ext W w'):=fun W C A' m d e k b=>Zi k b (by decide) (hG.kept e hG.lt)
 clear hG JL
 have ML:=qr t (qz [k,bs,ts])
 generalize jC t (qz [k,bs,ts])=D at *
 have DS:(cellsOf D).toArray.size=32:=by simp [ja,ML]
 have D1:=ji D
 have hbd:Hid (Tryz.prog.built 178 [(0, .agg (cellsOf D).toArray)]=some (cellsOf D).toArray):=jbO DS
 have hal:=j2
 have hal2:=jbN
 have hz0:=j7
 generalize jr=Z at *
 have z1:=h.le
 have z2:=h.cap
 have z3:=h'.le
 have z4:=h'.cap
 have B0:Hid (∀ w',Ext ((w.alloc (jnX (cellsOf S).toArray 174)).alloc (jnX Z 178)) w'→Bs w' (some ⟨w.heap.size,32,none⟩) 32 32 t∧Bs w' (some ⟨w.heap.size,64,none⟩) 32 32 k∧w'.heap[w.heap.size+1]? =some (.cells Z 178 (0,0))∧Ext w w'∧Bs w' A n c bs∧Bs w' B m d ts):=fun w' e=>by
  have x:Ext w w':=(((jnQ w).alloc _).alloc _).trans e
  have y:=(e.block _ (by rw [je,je];omega)).trans (jQ w (jnX (cellsOf S).toArray 174) (jnX Z 178))
  exact ⟨jcw (p:=a) (q:=k) y hS ha ht (by omega),jcw (p:=a++t) (q:= []) y (by rw [hS];simp) (by rw [joI];omega) hk (by omega),(e.block _ (by rw [je,je];omega)).trans (jK _ _ _),x,h.ext x,h'.ext x⟩
 clear h h' hS
 go_enter Tryz.func83,Tryz.ntmps83
 go_upto_region 1 with fail
 refine jg (fun W=>∀ w',Ext W w'→Bs w' (some ⟨w.heap.size,32,none⟩) 32 32 t∧Bs w' (some ⟨w.heap.size,64,none⟩) 32 32 k∧w'.heap[w.heap.size+1]? =some (.cells Z 178 (0,0))∧Ext w w'∧Bs w' A n c bs∧Bs w' B m d ts) B0.out ?_
 clear B0
 rintro w0 b0
 have z0:=jh (b0 _ (jnQ _)).2.2.1
 have B0:=Hj b0
 clear b0
 go_cut [7,8] (fun s5 s6 wx=>∃ g:Nat,s5= .pointer (some ⟨g,0,none⟩)∧s6= .int .i64 0∧Below w0.heap.size w0 wx∧wx.heap[g]? =some (.cells (cellsOf D).toArray 23 (0,0))∧w0.heap.size≤g)
 case first=>
  refine qgT (R:=Below w0.heap.size) (joo _) (fun _ _ _=>jop) (.rd 0 (.rd 1 (.rd 2 (.rd 3 (.rd 4 (.rd 5 (.rd 6 (.alt 7 (.alt 8 (.alt 9 (.rd 10 (.rd 11 (.rd 12 (.alt 13 (.alt 14 (.rd 15 .nil) .stop) .stop)))) (.alt 13 (.alt 9 (.rd 10 (.rd 11 (.rd 12 (.alt 14 (.rd 15 .nil) .stop)))) .stop) .stop)) (.alt 13 (.alt 8 (.alt 9 (.rd 10 (.rd 11 (.rd 12 (.alt 14 (.rd 15 .nil) .stop)))) .stop) .stop) .stop)) (.alt 13 (.alt 7 (.alt 8 (.alt 9 (.rd 10 (.rd 11 (.rd 12 (.alt 14 (.rd 15 .nil) .stop)))) .stop) .stop) .stop) .stop))))))))) 16 ?_
  repeat ((first | refine vN ?_ | refine qtS ?_);go_frame)
  have SE:Hid (Ext w0 w0.drew):=(jnQ w0).drew
  generalize w0.drew=WC at *
  repeat' (first
   | exact yD
   | (refine qc (i:=7) _ rfl ?_ ?_ (fun K1 hK1=> ?_)
      (·rfl)
      rotate_left
      go_simp
      have bb:=B0.out _ SE.out
      have e:Ext WC (WC.alloc (jnX #[.slice (some ⟨w.heap.size,64,none⟩) 32 32, .slice A n c, .slice B m d] 33)):=(jnQ WC).alloc _
      have hR:=Hj (jjC (t:=33) bb.2.1 bb.2.2.2.2.1 bb.2.2.2.2.2)
      clear bb
      obtain ⟨gR,hgR⟩:∃ g,g=WC.heap.size:=⟨_,rfl⟩
      rw [←hgR] at hR ⊢
      refine hK1.out _ _ (e.mono SE.out.size) ?_
      clear hK1 K1 hgR
      (try replace hL:=Hj ((e.block _ (jh hL.out)).trans hL.out))
      replace SE:=Hj (SE.out.trans e)
      clear e
      generalize WC.alloc (jnX #[.slice (some ⟨w.heap.size,64,none⟩) 32 32, .slice A n c, .slice B m d] 33)=WC at *
      (try go_frame)
      repeat ((first | refine vN ?_ | refine qtS ?_);go_frame)
      skip)
   | (refine qc (i:=8) _ rfl ?_ ?_ (fun K1 hK1=> ?_)
      (·rfl)
      rotate_left
      go_simp
      refine (JOIN.out _ _ hR.out).mono ?_
      rintro e0 WC ⟨A2,n2,c2,rfl,b2,e⟩
      refine hK1.out _ _ (e.mono SE.out.size) ?_
      clear hK1 K1 hR
      (try replace hL:=Hj ((e.block _ (jh hL.out)).trans hL.out))
      replace SE:=Hj (SE.out.trans e)
      have hJ:=Hj b2
      clear e b2
      (try go_frame)
      repeat ((first | refine vN ?_ | refine qtS ?_);go_frame)
      skip)
   | (refine qc (i:=9) _ rfl ?_ ?_ (fun K1 hK1=> ?_)
      (·rfl)
      rotate_left
      go_simp
      refine (MAC.out _ _ _ _ _ (B0.out _ SE.out).2.2.2.1 (B0.out _ SE.out).1 hJ.out).mono ?_
      rintro e0 WC ⟨rfl,e⟩
      refine hK1.out _ _ (e.mono SE.out.size) ?_
      clear hK1 K1 hJ
      (try replace hL:=Hj ((e.block _ (jh hL.out)).trans hL.out))
      replace SE:=Hj (SE.out.trans e)
      clear e
      (try go_frame)
      repeat ((first | refine vN ?_ | refine qtS ?_);go_frame)
      skip)
   | (refine qc (i:=13) _ rfl ?_ ?_ (fun K1 hK1=> ?_)
      (·rfl)
      rotate_left
      go_simp
      have e:Ext WC (WC.alloc (jnX Z 23)):=(jnQ WC).alloc _
      obtain ⟨gL,hgL⟩:∃ g,g=WC.heap.size:=⟨_,rfl⟩
      have hL:=Hj (jps WC (jnX Z 23))
      rw [←hgL] at hL ⊢
      have zl:w0.heap.size≤gL:=by rw [hgL];exact SE.out.size
      refine hK1.out _ _ (e.mono SE.out.size) ?_
      clear hK1 K1
      replace hgL:=Hj hgL
      (try replace hJ:=Hj (hJ.out.ext e))
      (try replace hR:=Hj (hR.out.ext e))
      replace SE:=Hj (SE.out.trans e)
      clear e
      generalize WC.alloc (jnX Z 23)=WC at *
      (try go_frame)
      repeat ((first | refine vN ?_ | refine qtS ?_);go_frame)
      skip)
   | (refine qc (i:=14) _ rfl ?_ ?_ (fun K1 hK1=> ?_)
      (·rfl)
      rotate_left
      refine joe _ _ _ rfl gL (cellsOf D).toArray rfl rfl 23 Z hL.out (by rw [DS];rfl) (by rw [DS];exact hz0) D1 ?_
      refine hK1.out _ _ (jpd (joo _ _) zl _) ?_
      clear hK1 K1
      have S1:Hid (Below w0.heap.size w0 (WC.setRow gL (cellsOf D).toArray)):=jpd SE.out zl _
      have kx:Hid ((WC.setRow gL (cellsOf D).toArray).heap[gL]? =some (.cells (cellsOf D).toArray 23 (0,0))):=jpe _ _ _ _ _ _ hL.out
      (try go_frame)
      repeat ((first | refine vN ?_ | refine qtS ?_);go_frame)
      refine yC ?_
      go_wp2_with fail
      go_meet
      exact ⟨gL,rfl,rfl,S1.out,kx.out,zl⟩)
   )
 case rest=>
  obtain ⟨g,rfl,rfl,E1,kr,hg⟩:=hcut
  have b1:=B0.out _ E1
  have r1:=Hj b1.2.2.1
  have x1:=Hj b1.2.2.2.1
  replace kr:=Hj kr
  clear b1 B0 JOIN MAC E1
  go_wp2_with (first
   | (refine wl_ rfl 23 rfl g rfl kr.out rfl rfl (by rw [DS];rfl) ?_;go_frame)
   | (refine jm rfl _ _ rfl (cellsOf D).toArray (by simp only [jpG,jpC,jpH];exact hbd.out) ?_;go_frame)
   | (refine ws_ rfl 178 rfl (w.heap.size+1) (cellsOf D).toArray rfl rfl r1.out (by rw [DS];rfl) (by rw [DS];exact hz0) D1 ?_;go_frame))
  (try simp only [jnU,Exit.then])
  refine jnV (jnW rfl _ _ (w.heap.size+1) 178 (cellsOf D).toArray (0,0) _ rfl (jpe _ _ _ _ _ _ r1.out) rfl rfl (by rw [DS];rfl)) rfl ?_
  exact ⟨rfl,jpd x1.out (Nat.le_succ _) _⟩
def zi (ks bs:List UInt8):List UInt8:=yY (jM ks Jg) jgu 0 bs
def YI (ks bs ts:List UInt8):List UInt8:=jC (jM ks Z0) (qz [ks,bs,ts])
def qA (ks bs ts:List UInt8):List UInt8:=zi ks ts++YI ks bs (zi ks ts)
theorem JW (ks bs:List UInt8):(zi ks bs).length=bs.length:=yE _ _ _ _
theorem Zn (ks bs ts:List UInt8):(YI ks bs ts).length=32:=qr _ _
theorem JV (ks bs ts:List UInt8):(qA ks bs ts).length=ts.length+32:=by unfold qA;rw [joI,JW,Zn]
theorem QM {A:Option Addr}{n c:Nat}{ks bs:List UInt8}{w:World}(h:Bs w A n c bs) (hn:n≤100000000):
 Calls joz 82 #[.agg (cellsOf (Qv ks)).toArray, .slice A n c] w (YA (zi ks bs) w):=jd1 (jR _ _) rfl h hn
theorem QO {A B:Option Addr}{n c m d:Nat}{ks bs ts:List UInt8}{w:World}(hk:ks.length=32) (h:Bs w A n c bs) (h':Bs w B m d ts) (hn:n≤1000000) (hm:m≤1000000){tg:joE×Nat×Nat}(hG:Gl w tg):
 Calls joz 83 #[.agg (cellsOf (Qv ks)).toArray, .slice A n c, .slice B m d] w fun e w'=>e= .returned (.agg (cellsOf (YI ks bs ts)).toArray)∧Ext w w':=jd4 (jR _ _) (jR _ _) hk rfl h h' hn hm hG
theorem jc0 {A B:Option Addr}{n c m d:Nat}{ks bs ts:List UInt8}{w:World}(hk:ks.length=32) (h:Bs w A n c bs) (h':Bs w B m d ts) (hn:n≤1000000) (hm:m≤1000000){tg:joE×Nat×Nat}(hG:Gl w tg):
 Calls joz 47 #[.agg (cellsOf ks).toArray, .slice A n c, .slice B m d] w (YA (qA ks bs ts) w):=by
 have SEAL:Hid (∀ W,Ext w W→Calls joz 81 #[.agg (cellsOf ks).toArray] W fun e w'=>e= .returned (.agg (cellsOf (Qv ks)).toArray)∧Ext W w'):=fun W e=>JA hk (hG.kept e hG.lt)
 have TURN:Hid (∀ W,Ext w W→Calls joz 82 #[.agg (cellsOf (Qv ks)).toArray, .slice B m d] W (YA (zi ks ts) W)):=fun W e=>QM (h'.ext e) (by omega)
 have TAG:Hid (∀ W C d',Ext w W→Bs W C m d' (zi ks ts)→Calls joz 83 #[.agg (cellsOf (Qv ks)).toArray, .slice A n c, .slice C m d'] W fun e w'=>e= .returned (.agg (cellsOf (YI ks bs (zi ks ts))).toArray)∧Ext W w'):=fun W C d' e b=>QO hk (h.ext e) b hn hm (hG.kept e hG.lt)
 have TL:=(JW ks ts).trans h'.len
 have ML:=Zn ks bs (zi ks ts)
 have SL:=jaP hk
 have z1:=h.le
 have z2:=h.cap
 have z3:=h'.le
 have z4:=h'.cap
 clear hG h h'
 unfold qA
 generalize YI ks bs (zi ks ts)=M at *
 generalize zi ks ts=T at *
 generalize Qv ks=S at *
 have KS:(cellsOf ks).toArray.size=32:=by simp [ja,hk]
 have MS:(cellsOf M).toArray.size=32:=by simp [ja,ML]
 have M1:=ji M
 have SS:(cellsOf S).toArray.size=96:=by simp [ja,SL]
 have S1:=ji S
 have ha1:=jnC
 have hz1:=Qx
 generalize Z96=Y at *
 have ha2:=jbN
 have hz2:=j7
 generalize jr=Z at *
 have P0:Hid (∀ s,Ext (w.alloc (jnX (cellsOf ks).toArray 23)) s→Ky s w.heap.size ks∧Ext w s):=fun s e=>⟨(Ky.boxed w hk).ext e,((jnQ w).alloc _).trans e⟩
 go_enter Tryz.func47,Tryz.ntmps47
 go_upto_region 1 with fail
 have k0:=Hj (P0.out _ (jnQ _)).1
 go_wp2_with (refine wl_ rfl 23 rfl w.heap.size rfl k0.out.1 rfl rfl (by rw [KS];rfl) ?_;go_frame)
 refine (SEAL.out _ (P0.out _ (jnQ _)).2).mono ?_
 rintro e v ⟨rfl,e1⟩
 have x1:=Hj (P0.out _ e1).2
 clear P0 k0 SEAL e1
 have a1:Hid ((v.alloc (jnX Y 174)).heap[v.heap.size]? =some (.cells Y 174 (0,0))):=jps _ _
 go_upto_region 2 with (refine ws_ rfl 174 rfl v.heap.size (cellsOf S).toArray rfl rfl a1.out (by rw [SS];rfl) (by rw [SS];exact hz1) S1 ?_;go_frame)
 obtain ⟨g,hg⟩:=ex_ v.heap.size
 have e5:Ext v ((v.alloc (jnX Y 174)).setRow v.heap.size (cellsOf S).toArray):=jpd ((jnQ v).alloc _) (joq _) _
 refine jg (fun W=>w.heap.size≤g∧∀ s,Ext W s→s.heap[g]? =some (.cells (cellsOf S).toArray 174 (0,0))∧Ext w s) ⟨by rw [hg];exact x1.out.size,fun s e=>⟨(e.block _ (by simp [hg])).trans (by rw [hg];exact jpe _ _ _ _ _ _ a1.out),x1.out.trans (e5.trans e)⟩⟩ ?_
 rw [←hg]
 clear hg a1 x1 e5
 rintro w1 ⟨gg,P1⟩
 replace P1:=Hj P1
 have k0:=Hj (P1.out _ (jnQ _)).1
 go_wp2_with (refine wl_ rfl 174 rfl g rfl k0.out rfl rfl (by rw [SS];rfl) ?_;go_frame)
 refine (TURN.out _ (P1.out _ (jnQ _)).2).mono ?_
 rintro e w2 ⟨A2,n2,c2,rfl,o2,e2⟩
 obtain rfl:n2=m:=by rw [←o2.len,TL]
 have zs:=(P1.out _ (jnQ _)).2.size
 replace o2:=Hj (o2.lower zs)
 have P2:Hid (∀ s,Ext w2 s→s.heap[g]? =some (.cells (cellsOf S).toArray 174 (0,0))∧Ext w s):=fun s e=>P1.out s (e2.trans e)
 clear P1 k0 TURN e2 zs
 have k0:=Hj (P2.out _ (jnQ _)).1
 go_wp2_with (refine wl_ rfl 174 rfl g rfl k0.out rfl rfl (by rw [SS];rfl) ?_;go_frame)
 refine (TAG.out _ _ _ (P2.out _ (jnQ _)).2 o2.out.bs).mono ?_
 rintro e v ⟨rfl,e3⟩
 have o3:=Hj (o2.out.ext e3)
 have x3:=Hj (P2.out _ e3).2
 clear P2 k0 TAG e3 o2
 have a1:Hid ((v.alloc (jnX Z 178)).heap[v.heap.size]? =some (.cells Z 178 (0,0))):=jps _ _
 go_upto_region 4 with (refine ws_ rfl 178 rfl v.heap.size (cellsOf M).toArray rfl rfl a1.out (by rw [MS];rfl) (by rw [MS];exact hz2) M1 ?_;go_frame)
 obtain ⟨f,hf⟩:=ex_ v.heap.size
 have e4:Ext v ((v.alloc (jnX Z 178)).setRow v.heap.size (cellsOf M).toArray):=jpd ((jnQ v).alloc _) (joq _) _
 refine jg (fun W=>Ext w W∧Own w.heap.size W A2 n2 c2 T∧Bs W (some ⟨f,0,none⟩) 32 32 M) ⟨x3.out.trans e4,o3.out.ext e4,jcw (t:=178) (p:= []) (q:= []) (by rw [hf];exact jpe _ _ _ _ _ _ a1.out) (by simp) rfl ML (by omega)⟩ ?_
 rw [←hf]
 clear hf a1 e4 x3 o3
 rintro w4 ⟨x4,o4,b4⟩
 replace x4:=Hj x4
 replace o4:=Hj o4
 replace b4:=Hj b4
 go_wp2_with (at_builtin;(with_reducible refine jJ rfl (B:=w.heap.size) (s:= .tmp 19) (x:= .tmp 21) rfl rfl rfl o4.out b4.out (by omega) x4.out.size ?_);intro A5 c5 w5 o5 g5 b5;replace o5:=Hj o5;clear g5;replace b5:=Hj b5;go_frame)
 go_ret
 exact ⟨_,_,_,rfl,o5.out,jop x4.out b5.out⟩
theorem jgc {w:World}{o:Oper}{a:Act}{x lo:Operand}{A:Option Addr}{n c k:Nat}{kd:IntKind}(ho:o.op= .slice 33 x (some lo) none none) (hx:a.eval x= .slice A n c) (hl:a.eval lo= .int kd (k:Int)) (hk:k≤n) (hnc:n≤c):
 (jo0 a.eval o).run joz w= .ok (.value (.slice (if c=k then A else A.map (·.add k)) (n - k) (c - k))) w:=by
 obtain ⟨dst,op,ty,pos,af,gd⟩:=o
 simp only at ho
 subst ho
 obtain ⟨i,hi',hsz⟩:=Option.map_eq_some_iff.1 jfV
 have q1:(k:Int)≤(n:Int):=by omega
 simp only [jo0,hx,hl,Option.map,Instr.sliceAt]
 go_simp
 cases A <;> rfl
theorem ji3 {w:World}{o:Oper}{a:Act}{x hi:Operand}{A:Option Addr}{n c k:Nat}{kd:IntKind}(ho:o.op= .slice 33 x none (some hi) none) (hx:a.eval x= .slice A n c) (hl:a.eval hi= .int kd (k:Int)) (hk:k≤c):
 (jo0 a.eval o).run joz w= .ok (.value (.slice A k c)) w:=by
 obtain ⟨dst,op,ty,pos,af,gd⟩:=o
 simp only at ho
 subst ho
 obtain ⟨i,hi',hsz⟩:=Option.map_eq_some_iff.1 jfV
 have q1:(k:Int)≤(c:Int):=by omega
 have q2:(if c=0 then A else A.map (·.add 0))=A:=by
  split
  ·rfl
  ·cases A <;> simp [Addr.add]
 simp only [jo0,hx,hl,Option.map,Instr.sliceAt]
 go_simp
theorem qL {P:joD}{fn:Func}{u p v:Tmp}{ty:joE}(h:fn.results= #[.cell p ty, .tmp u, .tmp v]) (tmps:Array Value) (w:World) (g:Nat) (t:joE) (cs:Array Value) (fr:Nat×Nat) (d:TypeDesc) (x y:Value)
 (hx:tmps.getD u undef=x) (hp:tmps.getD p undef= .pointer (some ⟨g,0,none⟩)) (hy:tmps.getD v undef=y) (hg:w.heap[g]? =some (.cells cs t fr))
 (hu:P.underlying ty=some d) (hd:(match d with | .struct _ | .array _ _=>true | _=>false)=true) (hi:(P.info? ty).map (·.size)=some cs.size):
 (results fn tmps).run P w= .ok (.tuple #[.agg cs,x,y]) w:=by
 have hp':tmps[p]?.getD undef= .pointer (some ⟨g,0,none⟩):=by simpa using hp
 have hx':tmps[u]?.getD undef=x:=by simpa using hx
 have hy':tmps[v]?.getD undef=y:=by simpa using hy
 simp [results,h,hp',hx',hy',asAddr,run_loadVar_row w g t ty cs fr d hg hu hd hi,jpk,Result.andThen]
theorem jbn {o:Oper}{a:Act}{K:Act→World→Prop}{Q:Exit→Act→World→Prop}{W:World}{g dCap:Nat}{cur:Array Value}{t dT sT ty:joE}{A:Option Addr}{n c:Nat}{xs:List UInt8}(hu:Tryz.prog.underlying dT=some (.slice 5)) (hg:W.heap[g]? =some (.cells cur t (0,0))) (h:Bs W A n c xs) (hn:32≤n) (hc:cur.size=32)
 (H:Oper.upon joz o a K Q (.ok (Next.value (goInt 32)) (W.setRow g (cellsOf (xs.take 32)).toArray))):
 Oper.upon joz o a K Q (((Builtin.copy_ #[dT,sT] ty #[.slice (some ⟨g,0,none⟩) 32 dCap, .slice A n c]).run joz W).andThen fun a w'=> .ok (Next.value a) w'):=by
 have hl:=h.len
 obtain ⟨b,o',rfl,hb,hcl⟩:=h.pos (by omega)
 have hsz:(Tryz.prog.info? 5).map (·.size)=some 1:=rfl
 have hL:(cellsOf (xs.take 32)).length=32:=by rw [ja,jou];omega
 have hr:=run_copy_row joz W dT sT ty _ g 0 32 dCap ⟨b,o',none⟩ n c cur t (cellsOf (xs.take 32)) hu hsz hg (by rw [hL];exact (Nat.min_eq_right hn).symm) (fun j v hv=>by
  have hj:j < 32:=by
   have:=(jpz.1 hv).1
   rwa [hL] at this
  rw [jZ (by rw [jou];omega),YU hj] at hv
  injection hv with hv
  subst hv
  have:(⟨b,o',none⟩:Addr).add j=⟨b,o'+j,none⟩:=by unfold Addr.add;split <;> simp_all
  rw [this]
  exact hcl j (by omega)) (by rw [hL];omega) (fun v hv=>by
  obtain ⟨j,_,rfl⟩:=joP.1 hv
  rfl)
 have he:(cur.toList.take 0++cellsOf (xs.take 32)++cur.toList.drop (0+(cellsOf (xs.take 32)).length))=cellsOf (xs.take 32):=by
  rw [hL,jof (by simp [hc])];simp
 rw [he,hL] at hr
 rw [hr]
 exact H
def Z8 (xs:List UInt8) (er:Int) (w:World) (e:Ending) (w':World):Prop:=e= .returned (.tuple #[.agg (cellsOf xs).toArray, .int .i64 er])∧Ext w w'
theorem jjF {A:Option Addr}{n c:Nat}{bs:List UInt8}{w:World}(h:Bs w A n c bs) (hn:n < 32):
 Calls joz 119 #[.slice A n c] w (Z8 (jpp 32 0) 3 w):=by
 have c1:=h.le
 have c2:=h.cap
 have hal:=j2
 have hb:=zJ
 have hs:=j7
 have ho:=JI
 have hc:=Hj jU
 have hz:Hid ((w.alloc (jnX jr 23)).heap[w.heap.size]? =some (jnX jr 23)):=jps _ _
 have he:Hid (∀ C,Ext w ((w.alloc (jnX jr 23)).setRow w.heap.size C)):=fun C=>jpd ((jnQ w).alloc _) (joq _) _
 unfold Z8
 rw [hc.out]
 clear hc
 generalize jr=Z at *
 have q1':decide ((n:Int) < 32)=true:=decide_eq_true (by omega)
 clear h
 go_enter Tryz.func119,Tryz.ntmps119
 go_wp2_with (first
  | refine jm rfl _ _ rfl Z hb ?_
  | refine ws_ rfl 23 rfl w.heap.size Z rfl rfl (by with_reducible exact hz.out) (by rw [hs];rfl) rfl ho ?_)
 (try simp only [jnU,Exit.then])
 refine jnV (v:= .tuple #[.agg Z, .int .i64 3]) ?_ rfl ?_
 ·exact qj rfl _ _ w.heap.size 23 Z (0,0) _ _ rfl rfl (jpe _ _ _ _ _ _ hz.out) rfl rfl (by rw [hs];rfl)
 ·exact ⟨rfl,he.out _⟩
theorem jgM {A:Option Addr}{n c m:Nat}{bs:List UInt8}{w:World}(h:Bs w A n c bs) (hn:n=m+32) (hm:n≤100000000):
 Calls joz 119 #[.slice A n c] w (Z8 (bs.drop m) 0 w):=by
 have q1':decide ((n:Int) < 32)=false:=decide_eq_false (by omega)
 have hd:(n:Int) - 32=(m:Int):=by omega
 have c1:=h.le
 have c2:=h.cap
 have hl:=h.len
 have mn:m≤n:=by omega
 have CUT:=Hj (h.cut (k:=m) mn)
 have XL:(bs.drop m).length=32:=by rw [List.length_drop];omega
 have nm:n - m=32:=by omega
 rw [nm] at CUT
 have m1:m≤100000000:=by omega
 have hw:IntKind.i64.wrap (m:Int)=(m:Int):=jnZ _ (by omega)
 replace hn:=Hj hn
 clear h hl
 replace nm:=Hj nm
 generalize bs.drop m=xs at *
 have XS:(cellsOf xs).toArray.size=32:=by simp [ja,XL]
 have X1:=ji xs
 have hal:=j2
 have hz0:=j7
 generalize jr=Z at *
 have B0:Hid (((w.alloc (jnX Z 23)).alloc (jnX Z 23)).heap[w.heap.size]? =some (.cells Z 23 (0,0))∧((w.alloc (jnX Z 23)).alloc (jnX Z 23)).heap[w.heap.size+1]? =some (.cells Z 23 (0,0))∧Ext w ((w.alloc (jnX Z 23)).alloc (jnX Z 23))):=⟨jQ _ _ _,jK _ _ _,((jnQ w).alloc _).alloc _⟩
 go_enter Tryz.func119,Tryz.ntmps119
 go_upto_region 4 with fail
 refine jg (fun W=>W.heap[w.heap.size]? =some (.cells Z 23 (0,0))∧W.heap[w.heap.size+1]? =some (.cells Z 23 (0,0))∧Ext w W) B0.out ?_
 clear B0
 rintro w0 ⟨b0,b1,e0⟩
 have h0:=Hj (CUT.out.ext (e0.trans (jnQ w0).drew))
 have b0':Hid (w0.drew.heap[w.heap.size]? =some (.cells Z 23 (0,0))):=b0
 have b1':Hid (w0.drew.heap[w.heap.size+1]? =some (.cells Z 23 (0,0))):=b1
 have e0':Hid (Ext w w0.drew):=e0.drew
 clear b0 b1 e0 CUT
 go_wp2_with fail
 refine qgB w.heap.size [0,1,2,3,4,5,6] [6] ?_
 iterate 5 ((first | refine qR0 ?_ | refine qS ?_);go_frame)
 refine qV rfl (fun _=>True) (fun _ _=>trivial) (.slice (if c=m then A else A.map (·.add m)) (n - m) (c - m)) (fun w' _=>jgc rfl rfl rfl mn c1) ?_
 go_frame
 generalize w0.drew=W at *
 rw [nm.out]
 generalize (if c=m then A else A.map (·.add m))=A' at *
 generalize c - m=c' at *
 refine qD fun K hK=> ?_
 go_simp
 refine jbn (xs:=xs) rfl b1'.out h0.out (joq _) hz0 ?_
 rw [jpo (by omega)]
 have R1:Hid ((W.setRow (w.heap.size+1) (cellsOf xs).toArray).heap[w.heap.size+1]? =some (.cells (cellsOf xs).toArray 23 (0,0))):=jpe _ _ _ _ _ _ b1'.out
 have R0:Hid ((W.setRow (w.heap.size+1) (cellsOf xs).toArray).heap[w.heap.size]? =some (.cells Z 23 (0,0))):=(jpA _ _ _ _ (by omega)).trans b0'.out
 have E1:Hid (Ext w (W.setRow (w.heap.size+1) (cellsOf xs).toArray)):=jpd e0'.out (Nat.le_succ _) _
 go_simp
 refine hK.out _ _ (jpd (joo _ _) (Nat.le_succ _) _) ?_
 clear hK K
 refine jp ?_
 go_wp2_with (first
  | (refine vQ rfl (jd rfl rfl R1.out rfl rfl (by rw [XS];rfl)) ?_;go_frame)
  | (refine ws_ rfl 23 rfl w.heap.size (cellsOf xs).toArray rfl rfl R0.out (by rw [XS];rfl) (by rw [XS];exact hz0) X1 ?_;go_frame))
 (try simp only [jnU,Exit.then])
 refine jnV (v:= .tuple #[.agg (cellsOf xs).toArray, .int .i64 0]) ?_ rfl ?_
 ·exact qj rfl _ _ w.heap.size 23 (cellsOf xs).toArray (0,0) _ _ rfl rfl (jpe _ _ _ _ _ _ R0.out) rfl rfl (by rw [XS];rfl)
 ·exact ⟨rfl,jpd E1.out (joq _) _⟩
theorem jbE {w:World}{K:Array Value}(hK:K.size=32):(part 23 K 0).run joz w= .ok (.agg K) w:=by
 obtain ⟨i,hi,hz0,hz1,hz2⟩:=info_parts jfG
 have he:K.extract 0 32=K:=by rw [←hK];exact Array.extract_size
 simp [part,isAgg,jpn jpF,sizeOf,typeInfo,hi,hz1,he]
theorem jfb:∃ f:Field,(Tryz.prog.fieldsOf 178).toList= [f]∧f.type=23∧f.offset=0∧f.name≠ "_" :=by
 have h:((Tryz.prog.fieldsOf 178).toList.map fun f=>(f.name,f.type,f.offset))= [("bytes",23,0)]:=by kernel_rfl
 match hl:(Tryz.prog.fieldsOf 178).toList with
 | []=>rw [hl] at h;simp at h
 | [f]=>
   rw [hl] at h
   simp only [jpC,jpH,List.cons.injEq,and_true,Prod.mk.injEq] at h
   exact ⟨f,rfl,h.2.1,h.2.2,by rw [h.1];decide⟩
 | f::g::r=>rw [hl] at h;simp at h
theorem jgN {xs ys:List UInt8}(hx:xs.length=32) (hy:ys.length=32) (w:World):
 (Op.equalIn 10000 178 (.agg (cellsOf xs).toArray) (.agg (cellsOf ys).toArray)).run joz w= .ok (decide (xs=ys)) w:=by
 have hX:(cellsOf xs).toArray.size=32:=by simp [ja,hx]
 have hY:(cellsOf ys).toArray.size=32:=by simp [ja,hy]
 have hk:(Op.equalIn 9999 23 (.agg (cellsOf xs).toArray) (.agg (cellsOf ys).toArray)).run joz w= .ok (decide (xs=ys)) w:=by
  rw [zS,zS,run_equalIn_bytes w 9997 23 5 32 rfl rfl (fun _=>rfl) xs ys hx hy]
  congr 1
  rw [Bool.eq_iff_iff];simp
 obtain ⟨f,hf,ht,ho,hn⟩:=jfb
 rw [run_equalIn_struct w 9999 178 _ _ (by kernel_rfl) (by kernel_rfl),hf]
 simp only [Op.eqFields,ht,ho,if_pos hn,jpk,jbE hX,jbE hY,jpm,hk]
 cases decide (xs=ys) <;> rfl
theorem jgO:Tryz.prog.eqGuardType Tryz.prog.depth 178=false:=by kernel_rfl
theorem jcb {o:Oper}{a:Act}{w:World}{x y:Operand}{t':joE}{xs ys:List UInt8}{b:Bool}(hb:(!decide (xs=ys))=b) (lx:xs.length=32) (ly:ys.length=32) (ho:o.op= .binOp .neq 178 x y t') (hx:a.eval x= .agg (cellsOf xs).toArray) (hy:a.eval y= .agg (cellsOf ys).toArray):
 (jo0 a.eval o).run joz w= .ok (.value (.bool b)) w:=by
 unfold jo0
 simp only [ho,hx,hy,jpk,run_eqGuard_agg _ _ _ _ _ _ _ jgO,jpm,run_neq_struct,jgN lx ly,jpl,hb]
def JJ (xs:List UInt8) (er:Int) (w:World) (e:Ending) (w':World):Prop:=∃ A n c,e= .returned (.tuple #[.slice A n c, .int .i64 er])∧Own w.heap.size w' A n c xs∧Ext w w'
theorem jdp {A B:Option Addr}{n c m d:Nat}{ks bs cs:List UInt8}{w:World}(h:Bs w A n c bs) (h':Bs w B m d cs) (hm:m < 32):
 Calls joz 89 #[.agg (cellsOf ks).toArray, .slice A n c, .slice B m d] w (JJ [] 3 w):=by
 have TAG:Hid (∀ W,Ext w W→Calls joz 119 #[.slice B m d] W (Z8 (jpp 32 0) 3 W)):=fun W e=>jjF (h'.ext e) hm
 have ZL:(jpp 32 (0:UInt8)).length=32:=by simp
 generalize jpp 32 (0:UInt8)=zs at *
 have ZS:(cellsOf zs).toArray.size=32:=by simp [ja,ZL]
 have Z1:=ji zs
 have hal:=j2
 have hz0:=j7
 generalize jr=Z at *
 clear h h'
 generalize (cellsOf ks).toArray=KS
 go_enter Tryz.func89,Tryz.ntmps89
 go_wp2_with fail
 refine (TAG.out _ ((jnQ w).alloc _)).mono ?_
 rintro e v ⟨rfl,e1⟩
 have a1:Hid ((v.alloc (jnX Z 23)).heap[v.heap.size]? =some (.cells Z 23 (0,0))):=jps _ _
 go_wp2_with (refine ws_ rfl 23 rfl v.heap.size (cellsOf zs).toArray rfl rfl a1.out (by rw [ZS];rfl) (by rw [ZS];exact hz0) Z1 ?_;go_frame)
 go_ret2
 exact ⟨none,0,0,rfl,Own.nil _ _,((jnQ w).alloc _).trans (e1.trans (jpd ((jnQ v).alloc _) (joq _) _))⟩
theorem jeM {A B:Option Addr}{n c m d q:Nat}{ks bs cs:List UInt8}{w:World}(hk:ks.length=32) (h:Bs w A n c bs) (h':Bs w B m d cs) (hq:m=q+32) (hn:n≤1000000) (hm:m≤1000000){b:Bool}(hb:(!decide (YI ks bs (cs.take q)=cs.drop q))=b){tg:joE×Nat×Nat}(hG:Gl w tg):
 Calls joz 89 #[.agg (cellsOf ks).toArray, .slice A n c, .slice B m d] w (JJ (if b then [] else zi ks (cs.take q)) (if b then 4 else 0) w):=by
 obtain ⟨R,hR⟩:=ex_ ((if b then [] else zi ks (cs.take q)))
 obtain ⟨er,hE⟩:∃ er:Int,er=(if b then 4 else 0):=⟨_,rfl⟩
 rw [←hR,←hE]
 replace hR:=Hj hR
 replace hE:=Hj hE
 have qm:q≤m:=by omega
 have TAG:Hid (∀ W,Ext w W→Calls joz 119 #[.slice B m d] W (Z8 (cs.drop q) 0 W)):=fun W e=>jgM (h'.ext e) hq (by omega)
 have SEAL:Hid (∀ W,Ext w W→Calls joz 81 #[.agg (cellsOf ks).toArray] W fun e w'=>e= .returned (.agg (cellsOf (Qv ks)).toArray)∧Ext W w'):=fun W e=>JA hk (hG.kept e hG.lt)
 have TURN:Hid (∀ W,Ext w W→Calls joz 82 #[.agg (cellsOf (Qv ks)).toArray, .slice B q d] W (YA (zi ks (cs.take q)) W)):=fun W e=>QM ((h'.ext e).take qm) (by omega)
 have TAGOF:Hid (∀ W,Ext w W→Calls joz 83 #[.agg (cellsOf (Qv ks)).toArray, .slice A n c, .slice B q d] W fun e w'=>e= .returned (.agg (cellsOf (YI ks bs (cs.take q))).toArray)∧Ext W w'):=fun W e=>QO hk (h.ext e) ((h'.ext e).take qm) hn (by omega) (hG.kept e hG.lt)
 have ML:=Zn ks bs (cs.take q)
 have SL:=jaP hk
 have XL:(cs.drop q).length=32:=by rw [List.length_drop,h'.len];omega
 have z1:=h.le
 have z2:=h.cap
 have z3:=h'.le
 have z4:=h'.cap
 have hd:(m:Int) - 32=(q:Int):=by omega
 have q1:q≤1000000:=by omega
 have hw:IntKind.i64.wrap (q:Int)=(q:Int):=jnZ _ (by omega)
 replace hq:=Hj hq
 clear hG h h'
 generalize YI ks bs (cs.take q)=M at *
 generalize zi ks (cs.take q)=T at *
 generalize cs.drop q=xs at *
 generalize Qv ks=S at *
 replace hb:=Hj hb
 have KS:(cellsOf ks).toArray.size=32:=by simp [ja,hk]
 have XS:(cellsOf xs).toArray.size=32:=by simp [ja,XL]
 have X1:=ji xs
 have SS:(cellsOf S).toArray.size=96:=by simp [ja,SL]
 have S1:=ji S
 have ha1:=jnC
 have hz1:=Qx
 generalize Z96=Y at *
 have hbd:Hid (Tryz.prog.built 178 [(0, .agg (cellsOf xs).toArray)]=some (cellsOf xs).toArray):=jbO XS
 have ha2:=j2
 have hz2:=j7
 generalize jr=Z at *
 have P0:Hid (∀ s,Ext (w.alloc (jnX (cellsOf ks).toArray 23)) s→Ky s w.heap.size ks∧Ext w s):=fun s e=>⟨(Ky.boxed w hk).ext e,((jnQ w).alloc _).trans e⟩
 go_enter Tryz.func89,Tryz.ntmps89
 go_wp2_with fail
 refine (TAG.out _ (P0.out _ (jnQ _)).2).mono ?_
 rintro e v ⟨rfl,e1⟩
 have a1:Hid ((v.alloc (jnX Z 23)).heap[v.heap.size]? =some (.cells Z 23 (0,0))):=jps _ _
 have e5:Ext v ((v.alloc (jnX Z 23)).setRow v.heap.size (cellsOf xs).toArray):=jpd ((jnQ v).alloc _) (joq _) _
 go_upto_region 4 with (refine ws_ rfl 23 rfl v.heap.size (cellsOf xs).toArray rfl rfl a1.out (by rw [XS];rfl) (by rw [XS];exact hz2) X1 ?_;go_frame)
 obtain ⟨f,hf⟩:=ex_ v.heap.size
 refine jg (fun W=>∀ s,Ext W s→Ky s w.heap.size ks∧Ky s f xs∧Ext w s) (fun s e=>by
  have p:=P0.out s (e1.trans (e5.trans e))
  exact ⟨p.1,(show Ky _ f xs from ⟨by rw [hf];exact jpe _ _ _ _ _ _ a1.out,XL⟩).ext e,p.2⟩) ?_
 rw [←hf]
 clear hf a1 e5 e1 P0 TAG
 rintro w1 P1
 replace P1:=Hj P1
 have k0:=Hj (P1.out _ (jnQ _)).1
 go_wp2_with (refine wl_ rfl 23 rfl w.heap.size rfl k0.out.1 rfl rfl (by rw [KS];rfl) ?_;go_frame)
 refine (SEAL.out _ (P1.out _ (jnQ _)).2.2).mono ?_
 rintro e v ⟨rfl,e1⟩
 have a1:Hid ((v.alloc (jnX Y 174)).heap[v.heap.size]? =some (.cells Y 174 (0,0))):=jps _ _
 have e5:Ext v ((v.alloc (jnX Y 174)).setRow v.heap.size (cellsOf S).toArray):=jpd ((jnQ v).alloc _) (joq _) _
 go_upto_region 6 with (first
  | (refine ws_ rfl 174 rfl v.heap.size (cellsOf S).toArray rfl rfl a1.out (by rw [SS];rfl) (by rw [SS];exact hz1) S1 ?_;go_frame)
  | (refine vQ rfl (ji3 (k:=q) rfl rfl rfl (by omega)) ?_;go_frame))
 obtain ⟨g,hg⟩:=ex_ v.heap.size
 refine jg (fun W=>∀ s,Ext W s→s.heap[g]? =some (.cells (cellsOf S).toArray 174 (0,0))∧Ky s f xs∧Ext w s) (fun s e=>by
  have p:=P1.out s (e1.trans (e5.trans e))
  exact ⟨(e.block _ (by simp [hg])).trans (by rw [hg];exact jpe _ _ _ _ _ _ a1.out),p.2.1,p.2.2⟩) ?_
 rw [←hg]
 clear hg a1 e5 e1 P1 SEAL k0
 rintro w2 P2
 replace P2:=Hj P2
 go_wp2_with fail
 refine qgE [0,1,2,4,5,3,6] [3] ?_
 refine qV rfl (fun w'=>w'.heap[g]? =some (.cells (cellsOf S).toArray 174 (0,0))) (fun w' e=>(P2.out w' ((jnQ _).drew.trans e)).1) (.agg (cellsOf S).toArray) (fun w' hF=>jd rfl rfl hF rfl rfl (by rw [SS];rfl)) ?_
 go_frame
 iterate 2 ((first | refine qR0 ?_ | refine qS ?_);go_frame)
 refine qV rfl (fun w'=>w'.heap[f]? =some (.cells (cellsOf xs).toArray 23 (0,0))) (fun w' e=>(P2.out w' ((jnQ _).drew.trans e)).2.1.1) (.agg (cellsOf xs).toArray) (fun w' hF=>jd rfl rfl hF rfl rfl (by rw [XS];rfl)) ?_
 go_frame
 refine qV rfl (fun _=>True) (fun _ _=>trivial) (.agg (cellsOf xs).toArray) (fun w' _=>qe rfl (by simp only [jpG,jpC,jpH];exact hbd.out)) ?_
 go_frame
 refine qD fun K1 hK1=> ?_
 go_simp
 refine (TAGOF.out _ (P2.out _ (jnQ _).drew).2.2).mono ?_
 rintro e w3 ⟨rfl,e3⟩
 refine hK1.out _ _ e3 ?_
 clear hK1 K1
 try go_frame
 refine qV rfl (fun _=>True) (fun _ _=>trivial) (.bool b) (fun w' _=>jcb hb.out ML XL rfl rfl rfl) ?_
 go_frame
 refine jp ?_
 have P3:Hid (∀ s,Ext w3 s→s.heap[g]? =some (.cells (cellsOf S).toArray 174 (0,0))∧Ky s f xs∧Ext w s):=fun s e=>P2.out s ((jnQ _).drew.trans (e3.trans e))
 clear P2 e3 TAGOF hb hbd
 have k0:=Hj (P3.out _ (jnQ _)).1
 cases b
 ·obtain rfl:R=T:=hR.out
  obtain rfl:er=0:=hE.out
  clear hR hE
  go_wp2_with (refine wl_ rfl 174 rfl g rfl k0.out rfl rfl (by rw [SS];rfl) ?_;go_frame)
  refine (TURN.out _ (P3.out _ (jnQ _)).2.2).mono ?_
  rintro e w4 ⟨A4,n4,c4,rfl,o4,e4⟩
  go_wp2_with fail
  go_ret2
  exact ⟨A4,n4,c4,rfl,o4.lower (P3.out _ (jnQ _)).2.2.size,(P3.out _ e4).2.2⟩
 ·obtain rfl:R= []:=hR.out
  obtain rfl:er=4:=hE.out
  clear hR hE
  go_wp2_with fail
  go_ret2
  exact ⟨none,0,0,rfl,Own.nil _ _,(P3.out _ (jnQ _)).2.2⟩
end
end Go.Proofs.YtakpgbaijkhpmaaGreatDoor
