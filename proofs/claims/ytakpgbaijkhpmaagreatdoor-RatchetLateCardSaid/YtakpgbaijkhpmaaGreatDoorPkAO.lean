import Derived.Test.YtakpgbaijkhpmaaGreatDoorPkAN
import Derived.Test.YtakpgbaijkhpmaaGreatDoorPkAI
import Derived.Test.YtakpgbaijkhpmaaGreatDoorPkAG
import Derived.Test.YtakpgbaijkhpmaaGreatDoorPkAM
import Derived.Test.YtakpgbaijkhpmaaGreatDoorPkAH
import Derived.Test.YtakpgbaijkhpmaaGreatDoorPkAA
import Derived.Great.BuildSlice
import Derived.Maps.AppendAt
import Derived.OwnWalk
import Derived.Deep.DeepCutAuto
import Derived.Lib.LaidTab
import Derived.Deep.Matrix
open Array renaming all_eq_true_iff_forall_mem→joX
open Go renaming Program→joD,TypeId→joE,below_setRow→jpd,bodyPost_ret→jnV,cell_of_row→jpg,execOp→jo0,heap_alloc_new→jps,results_cell_row→jnW,run_underlying→jpn,setRow_heap→jpe,setRow_other→jpA,splice→jpb,wp_store_row→joe,zeroValue→joK
open Go.Act renaming put→joT
open Go.Builtin renaming append_→joc
open Go.Exit renaming inBlock→jnU
open Go.Instr renaming fill→jpq
open Go.IntWalk renaming i64_in→jnZ
open Go.Obj renaming cells→jnX
open Go.Proofs.Tryz renaming prog→joz,underlying47→jol
open Go.Result renaming andThen_ok→jpm
open Go.RowKit.Below renaming heap_setCell→jo9,refl→joo,trans→jop
open Go.Sem renaming run_bind→jpk,run_pure→jpl
open Go.Value renaming agg→jpr,int→joC,ownBlock→joa,pointer→jon
open Go.World.ownsRow renaming lt→job
open Int renaming le_refl→jok
open List renaming append_assoc→jpf,eq_nil_of_length_eq_zero→joy,getD→jot,getElem?_append_left→jpu,getElem?_append_right→jpt,getElem?_eq_none→jpc,getElem?_eq_some_iff→jpz,getElem?_map→joV,getElem?_take→jph,length_append→joI,length_take→jou,map_cons→jpC,map_nil→jpH,map_toArray→jpG,mem_append→joJ,mem_cons→joG,mem_cons_of_mem→jpE,mem_cons_self→jpD,mem_map→joP,mem_singleton→joH,not_mem_nil→jpB,range→jo3,replicate→jpp,size_toArray→jpw,take_left'→jpx,take_of_length_le→jpo
open Nat renaming add_mul→jnY,le_of_eq→jod,le_of_lt→jnT,le_refl→joq,le_trans→jo2,lt_of_lt_of_le→jos,lt_or_ge→jow,mul_assoc→jpL,zero_add→joB,zero_le→jor
open Option.some renaming inj→joF
open UInt8 renaming ofNat→jov
namespace Go.Proofs.YtakpgbaijkhpmaaGreatDoor
set_option maxHeartbeats 64000000
set_option linter.unusedSimpArgs false
set_option linter.unusedVariables false
set_option maxRecDepth 100000
section
open Go.ChangeShapes Go.WideShapes Go.ChangeAt Go.RowKit Go.Deep
theorem jfK (x l:Nat):qs x (qs l l)=qs (qs x l) l:=by
 unfold qs
 rw [Nat.mul_mod_mod,Nat.mod_mul_mod,jpL]
theorem Ur.so {w:World}{g r:Nat}{t:joE}{vs:List Nat}{C:Array Value}(h:Ur w g t vs) (hne:g≠r):Ur (w.setRow r C) g t vs:=(jpA _ _ _ _ hne).trans h
theorem Ur.q {w:World}{g:Nat}{t:joE}{vs:List Nat}(h:Ur w g t vs):Hid (∀ s,Ext w s→Ur s g t vs):=fun s e=>h.kept e h.lt
theorem zY (w:World) (C:Array Value) (T:joE):Hid ((w.alloc (jnX C T)).heap[w.heap.size]? =some (.cells C T (0,0))):=jps _ _
theorem yJ {a w:World}(e:Ext a w) (C:Array Value) (T:joE) (D:Array Value):Ext a ((w.alloc (jnX C T)).setRow w.heap.size D):=e.trans (jpd ((jnQ w).alloc _) (joq _) _)
theorem jdE {ks ps:List UInt8}{w:World}(hk:ks.length=32) (hp:ps.length=32):
 Calls joz 71 #[.agg (cellsOf ks).toArray, .agg (cellsOf ps).toArray] w fun e w'=>e= .returned (.agg (cellsOf (kL (jY ks (ofV ps)))).toArray)∧Ext w w':=by
 obtain ⟨x,hx⟩:=ex_ (ofV ps)
 have OFA:Hid (∀ W,Calls joz 99 #[.agg (cellsOf ps).toArray] W fun e w'=>∃ es,IsN es x∧e= .returned (.agg (jc es).toArray)∧Ext W w'):=fun W=>by rw [hx];exact jgt hp
 rw [←hx]
 obtain ⟨B,hB⟩:∃ B:Nat→Bool,B=fun m=>yk ks (254 - m):=⟨_,rfl⟩
 have BIT:Hid (∀ (m n:Nat) (W:World),m+n=254→Calls joz 100 #[.agg (cellsOf ks).toArray, .int .i64 (n:Int)] W fun e w'=>e= .returned (.bool (B m))∧Ext W w'):=fun m n W h=>by
  have:=jeT (ks:=ks) (n:=n) (w:=W) hk (by omega)
  rw [hB]
  show Calls _ _ _ _ fun e w'=>e= .returned (.bool (yk ks (254 - m)))∧_
  rw [show 254 - m=n by omega]
  exact this
 obtain ⟨S,hS⟩:∃ S:Nat→StN,S=Zg x B:=⟨_,rfl⟩
 have S1:Hid (∀ m,S (m+1)=YM (B m) (yM x (YM (B m) (S m)))):=fun m=>by rw [hS];rfl
 have RES:Hid (jY ks x=qs (S 255).1 (zL (S 255).2.2.1)):=by unfold Hid;rw [hS,hB];rfl
 have S0:Hid (S 0=(1,x,0,1)):=by unfold Hid;rw [hS];rfl
 clear hS hB hx
 have L_rk:=zx (jY ks x)
 have hrk:Hid (kL (jY ks x)=kL (qs (S 255).1 (zL (S 255).2.2.1))):=by unfold Hid;rw [RES.out]
 clear RES
 generalize kL (jY ks x)=rk at *
 have S_rk:(cellsOf rk).toArray.size=32:=by simp [ja,L_rk]
 have O_rk:=ji rk
 have S_ks:(cellsOf ks).toArray.size=32:=by simp [ja,hk]
 have S_ps:(cellsOf ps).toArray.size=32:=by simp [ja,hp]
 have hal:=zy
 have hbz:=Hj jd8
 have n_zn:=jjQ
 generalize J6=zn at *
 have S_zn:=jnE n_zn.len
 have O_zn:=jw zn
 have hb1:=Hj jaw
 have n_ow:=jji
 generalize jeK=ow at *
 have S_ow:=jnE n_ow.len
 have O_ow:=jw ow
 have hbf:=Hj jeo
 have n_fw:=ji4
 generalize jkj=fw at *
 have S_fw:=jnE n_fw.len
 have O_fw:=jw fw
 have hal2:∀ w,(joK 23).run joz w= .ok (.agg (cellsOf (jpp 32 0)).toArray) w:=fun w=>by rw [jU];exact j2 w
 have L_zk:(jpp 32 (0:UInt8)).length=32:=rfl
 generalize jpp 32 (0:UInt8)=zk at *
 have S_zk:(cellsOf zk).toArray.size=32:=by simp [ja,L_zk]
 have B0:Hid (Ky (((w.alloc (jnX (cellsOf ks).toArray 23)).alloc (jnX (cellsOf ps).toArray 23)).alloc (jnX (cellsOf zk).toArray 23)) w.heap.size ks∧Ky (((w.alloc (jnX (cellsOf ks).toArray 23)).alloc (jnX (cellsOf ps).toArray 23)).alloc (jnX (cellsOf zk).toArray 23)) (w.heap.size+1) ps∧Ky (((w.alloc (jnX (cellsOf ks).toArray 23)).alloc (jnX (cellsOf ps).toArray 23)).alloc (jnX (cellsOf zk).toArray 23)) (w.heap.size+1+1) zk∧Ext w (((w.alloc (jnX (cellsOf ks).toArray 23)).alloc (jnX (cellsOf ps).toArray 23)).alloc (jnX (cellsOf zk).toArray 23))):=⟨⟨jF _ _ _ _,hk⟩,⟨jH _ _ _ _,hp⟩,⟨jB _ _ _ _,L_zk⟩,(((jnQ w).alloc _).alloc _).alloc _⟩
 go_enter Tryz.func71,Tryz.ntmps71
 go_upto_region 1 with fail
 refine jg (fun W=>Ky W w.heap.size ks∧Ky W (w.heap.size+1) ps∧Ky W (w.heap.size+1+1) zk∧Ext w W) B0.out ?_
 clear B0
 rintro w0_ ⟨KS,KP,KZ,KE⟩
 go_wp2_with (refine wl_ rfl 23 rfl (w.heap.size+1) rfl KP.1 rfl rfl (by rw [S_ps];rfl) ?_;go_frame)
 refine (OFA.out _).mono ?_
 rintro e u_ ⟨cx,n_cx,rfl,e1⟩
 have S_cx:=jnE n_cx.len
 have O_cx:=jw cx
 have a1:=zY u_ (jc zn).toArray 200
 have E_:=yJ e1 (jc zn).toArray 200 (jc cx).toArray
 go_upto_region 2 with (first
  | (refine ws_ rfl 200 rfl u_.heap.size (jc cx).toArray rfl rfl a1.out (by rw [S_cx];rfl) (by rw [S_cx,S_zn]) O_cx ?_;simp only [joT]))
 obtain ⟨g5,hg_⟩:∃ g,g=u_.heap.size:=⟨_,rfl⟩
 have z5:w.heap.size+1+1 < g5:=by rw [hg_];exact jos (jh KZ.1) e1.size
 refine jg (fun W=>Ur W g5 200 cx∧Ky W w.heap.size ks∧Ky W (w.heap.size+1) ps∧Ky W (w.heap.size+1+1) zk∧Ext w W) ⟨by rw [hg_];exact jpe _ _ _ _ _ _ a1.out,
  KS.ext E_,
  KP.ext E_,
  KZ.ext E_,
  KE.trans E_⟩ ?_
 rw [←hg_]
 clear KS KP KZ KE hg_ a1 E_ e1 OFA
 rintro w1_ ⟨K5,KS,KP,KZ,KE⟩
 have a1:=zY w1_ (jc zn).toArray 200
 have E_:=yJ (jnQ w1_) (jc zn).toArray 200 (jc ow).toArray
 go_upto_region 3 with (first
  | (refine jm rfl _ _ rfl (jc ow).toArray (by simp only [jpG,jpC,jpH];exact hb1.out) ?_;go_frame)
  | (refine ws_ rfl 200 rfl w1_.heap.size (jc ow).toArray rfl rfl a1.out (by rw [S_ow];rfl) (by rw [S_ow,S_zn]) O_ow ?_;simp only [joT]))
 obtain ⟨g6,hg_⟩:∃ g,g=w1_.heap.size:=⟨_,rfl⟩
 have z6:g5 < g6:=by rw [hg_];exact K5.lt
 refine jg (fun W=>Ur W g5 200 cx∧Ur W g6 200 ow∧Ky W w.heap.size ks∧Ky W (w.heap.size+1) ps∧Ky W (w.heap.size+1+1) zk∧Ext w W) ⟨K5.kept E_ K5.lt,
  by rw [hg_];exact jpe _ _ _ _ _ _ a1.out,
  KS.ext E_,
  KP.ext E_,
  KZ.ext E_,
  KE.trans E_⟩ ?_
 rw [←hg_]
 clear K5 KS KP KZ KE hg_ a1 E_
 rintro w2_ ⟨K5,K6,KS,KP,KZ,KE⟩
 have a1:=zY w2_ (jc zn).toArray 200
 have E_:=yJ (jnQ w2_) (jc zn).toArray 200 (jc cx).toArray
 go_upto_region 4 with (first
  | (refine wl_ rfl 200 rfl g5 rfl K5 rfl rfl (by rw [S_cx];rfl) ?_;go_frame)
  | (refine ws_ rfl 200 rfl w2_.heap.size (jc cx).toArray rfl rfl a1.out (by rw [S_cx];rfl) (by rw [S_cx,S_zn]) O_cx ?_;simp only [joT]))
 obtain ⟨g7,hg_⟩:∃ g,g=w2_.heap.size:=⟨_,rfl⟩
 have z7:g6 < g7:=by rw [hg_];exact K6.lt
 refine jg (fun W=>Ur W g5 200 cx∧Ur W g6 200 ow∧Ur W g7 200 cx∧Ky W w.heap.size ks∧Ky W (w.heap.size+1) ps∧Ky W (w.heap.size+1+1) zk∧Ext w W) ⟨K5.kept E_ K5.lt,
  K6.kept E_ K6.lt,
  by rw [hg_];exact jpe _ _ _ _ _ _ a1.out,
  KS.ext E_,
  KP.ext E_,
  KZ.ext E_,
  KE.trans E_⟩ ?_
 rw [←hg_]
 clear K5 K6 KS KP KZ KE hg_ a1 E_
 rintro w3_ ⟨K5,K6,K7,KS,KP,KZ,KE⟩
 have a1:=zY w3_ (jc zn).toArray 200
 have E_:=yJ (jnQ w3_) (jc zn).toArray 200 (jc zn).toArray
 go_upto_region 5 with (first
  | (refine jm rfl _ _ rfl (jc zn).toArray (by simp only [jpG,jpC,jpH];exact hbz.out) ?_;go_frame)
  | (refine ws_ rfl 200 rfl w3_.heap.size (jc zn).toArray rfl rfl a1.out (by rw [S_zn];rfl) rfl O_zn ?_;simp only [joT]))
 obtain ⟨g8,hg_⟩:∃ g,g=w3_.heap.size:=⟨_,rfl⟩
 have z8:g7 < g8:=by rw [hg_];exact K7.lt
 refine jg (fun W=>Ur W g5 200 cx∧Ur W g6 200 ow∧Ur W g7 200 cx∧Ur W g8 200 zn∧Ky W w.heap.size ks∧Ky W (w.heap.size+1) ps∧Ky W (w.heap.size+1+1) zk∧Ext w W) ⟨K5.kept E_ K5.lt,
  K6.kept E_ K6.lt,
  K7.kept E_ K7.lt,
  by rw [hg_];exact jpe _ _ _ _ _ _ a1.out,
  KS.ext E_,
  KP.ext E_,
  KZ.ext E_,
  KE.trans E_⟩ ?_
 rw [←hg_]
 clear K5 K6 K7 KS KP KZ KE hg_ a1 E_
 rintro w4_ ⟨K5,K6,K7,K8,KS,KP,KZ,KE⟩
 have a1:=zY w4_ (jc zn).toArray 200
 have E_:=yJ (jnQ w4_) (jc zn).toArray 200 (jc ow).toArray
 go_upto_region 6 with (first
  | (refine jm rfl _ _ rfl (jc ow).toArray (by simp only [jpG,jpC,jpH];exact hb1.out) ?_;go_frame)
  | (refine ws_ rfl 200 rfl w4_.heap.size (jc ow).toArray rfl rfl a1.out (by rw [S_ow];rfl) (by rw [S_ow,S_zn]) O_ow ?_;simp only [joT]))
 obtain ⟨g9,hg_⟩:∃ g,g=w4_.heap.size:=⟨_,rfl⟩
 have z9:g8 < g9:=by rw [hg_];exact K8.lt
 refine jg (fun W=>Ur W g5 200 cx∧Ur W g6 200 ow∧Ur W g7 200 cx∧Ur W g8 200 zn∧Ur W g9 200 ow∧Ky W w.heap.size ks∧Ky W (w.heap.size+1) ps∧Ky W (w.heap.size+1+1) zk∧Ext w W) ⟨K5.kept E_ K5.lt,
  K6.kept E_ K6.lt,
  K7.kept E_ K7.lt,
  K8.kept E_ K8.lt,
  by rw [hg_];exact jpe _ _ _ _ _ _ a1.out,
  KS.ext E_,
  KP.ext E_,
  KZ.ext E_,
  KE.trans E_⟩ ?_
 rw [←hg_]
 clear K5 K6 K7 K8 KS KP KZ KE hg_ a1 E_
 rintro w5_ ⟨K5,K6,K7,K8,K9,KS,KP,KZ,KE⟩
 have P3:Hid (∀ s,Below g6 w5_ s→Ky s w.heap.size ks∧Ky s (w.heap.size+1+1) zk∧Ur s g5 200 cx∧Ext w s):=fun s e=>
  ⟨⟨(e.block _ (by omega)).trans KS.1,KS.2⟩,⟨(e.block _ (by omega)).trans KZ.1,KZ.2⟩,K5.kept e z6,jop KE (e.mono (by omega))⟩
 clear KS KP KZ KE K5
 go_wp2_with fail
 go_loopw [10] (fun iv wr=>∃ (m:Nat) (c6 c7 c8 c9:List Nat),m≤255∧iv= .int .i64 (254 - (m:Int))∧Ur wr g6 200 c6∧Ur wr g7 200 c7∧Ur wr g8 200 c8∧Ur wr g9 200 c9∧IsN c6 (S m).1∧IsN c7 (S m).2.1∧IsN c8 (S m).2.2.1∧IsN c9 (S m).2.2.2∧Below g6 w5_ wr) (fun iv _=>(intOf iv+1).toNat)
 case atStart=>
  exact ⟨0,ow,cx,zn,ow,jor _,rfl,K6,K7,K8,K9,by rw [S0.out];exact n_ow,by rw [S0.out];exact n_cx,by rw [S0.out];exact n_zn,by rw [S0.out];exact n_ow,joo _ _⟩
 case round=>
  clear K6 K7 K8 K9 S0
  obtain ⟨m,c6,c7,c8,c9,hm,rfl,K6,K7,K8,K9,n6,n7,n8,n9,KB⟩:=hrel
  by_cases hlt:m < 255
  ·obtain ⟨n,hn⟩:∃ n:Nat,m+n=254:=⟨254 - m,by omega⟩
   obtain ⟨b,hb⟩:∃ b:Int,b=254 - (m:Int):=⟨_,rfl⟩
   have hbn:(n:Int)=b:=by omega
   rw [←hb]
   have hbn1:Hid (b - 1=254 - ((m+1:Nat):Int)):=by unfold Hid;omega
   have hme:Hid ((b - 1+1).toNat < (b+1).toNat):=by unfold Hid;omega
   have b0:(0:Int)≤b:=by omega
   have b1:b≤254:=by omega
   have bw:IntKind.i64.wrap (b - 1)=b - 1:=jnZ _ (by omega)
   have BT:=Hj (fun W=>BIT.out m n W hn)
   rw [hbn] at BT
   have hm1:Hid (m+1≤255):=by unfold Hid;omega
   clear BIT hn hbn hb hlt hm hrk
   have S_c6:=jnE n6.len
   have S_c7:=jnE n7.len
   have S_c8:=jnE n8.len
   have S_c9:=jnE n9.len
   have O_c6:=jw c6
   have O_c7:=jw c7
   have O_c8:=jw c8
   have O_c9:=jw c9
   obtain ⟨va,hva⟩:∃ v,v=(S m).1:=⟨_,rfl⟩
   obtain ⟨vb,hvb⟩:∃ v,v=(S m).2.1:=⟨_,rfl⟩
   obtain ⟨vc,hvc⟩:∃ v,v=(S m).2.2.1:=⟨_,rfl⟩
   obtain ⟨vd,hvd⟩:∃ v,v=(S m).2.2.2:=⟨_,rfl⟩
   rw [←hva] at n6
   rw [←hvb] at n7
   rw [←hvc] at n8
   rw [←hvd] at n9
   have SM:Hid (∀ _:Unit,S m=(va,vb,vc,vd)):=fun _=>by rw [hva,hvb,hvc,hvd]
   clear hva hvb hvc hvd
   have S1m:Hid (∀ _:Unit,S (m+1)=YM (B m) (yM x (YM (B m) (va,vb,vc,vd)))):=fun _=>by rw [S1.out m,SM.out ()]
   clear S1 SM
   have K5:=(P3.out _ KB).2.2.1
   rcases Bool.eq_false_or_eq_true (B m) with hbt | hbt
   ·rw [hbt] at BT S1m
    clear hbt
    have KX:=(P3.out _ KB).1
    go_wp2_with (refine wl_ rfl 23 rfl w.heap.size rfl KX.1 rfl rfl (by rw [S_ks];rfl) ?_;go_frame)
    refine (BT.out _).mono ?_
    rintro e u_ ⟨rfl,e1⟩
    go_upto_region 10 with fail
    refine jg (fun W=>Ur W g5 200 cx∧Ur W g6 200 c6∧Ur W g7 200 c7∧Ur W g8 200 c8∧Ur W g9 200 c9∧Below g6 w5_ W) ⟨K5.kept e1 K5.lt,
     K6.kept e1 K6.lt,
     K7.kept e1 K7.lt,
     K8.kept e1 K8.lt,
     K9.kept e1 K9.lt,
     jop KB (e1.mono (jnT K6.lt))⟩ ?_
    clear K5 K6 K7 K8 K9 KB KX e1
    rintro w7_ ⟨K5,K6,K7,K8,K9,KB⟩
    have a1:=zY w7_ (jc zn).toArray 200
    have E_:=yJ (jnQ w7_) (jc zn).toArray 200 (jc c6).toArray
    go_upto_region 11 with (first
     | (refine wl_ rfl 200 rfl g6 rfl K6 rfl rfl (by rw [S_c6];rfl) ?_;go_frame)
     | (refine ws_ rfl 200 rfl w7_.heap.size (jc c6).toArray rfl rfl a1.out (by rw [S_c6];rfl) (by rw [S_c6,S_zn]) O_c6 ?_;simp only [joT]))
    obtain ⟨g11,hg_⟩:∃ g,g=w7_.heap.size:=⟨_,rfl⟩
    have z11:g9 < g11:=by rw [hg_];exact K9.lt
    refine jg (fun W=>Ur W g5 200 cx∧Ur W g6 200 c6∧Ur W g7 200 c7∧Ur W g8 200 c8∧Ur W g9 200 c9∧Ur W g11 200 c6∧Below g6 w5_ W) ⟨K5.kept E_ K5.lt,
     K6.kept E_ K6.lt,
     K7.kept E_ K7.lt,
     K8.kept E_ K8.lt,
     K9.kept E_ K9.lt,
     by rw [hg_];exact jpe _ _ _ _ _ _ a1.out,
     jop KB (E_.mono (jnT K6.lt))⟩ ?_
    rw [←hg_]
    clear K5 K6 K7 K8 K9 KB hg_ a1 E_
    rintro w8_ ⟨K5,K6,K7,K8,K9,K11,KB⟩
    go_upto_region 12 with (first
     | (refine wl_ rfl 200 rfl g7 rfl K7 rfl rfl (by rw [S_c7];rfl) ?_;go_frame)
     | (refine ws_ rfl 200 rfl g6 (jc c7).toArray rfl rfl K6 (by rw [S_c7];rfl) (by rw [S_c7,S_c6]) O_c7 ?_;simp only [joT]))
    refine jg (fun W=>Ur W g5 200 cx∧Ur W g6 200 c7∧Ur W g7 200 c7∧Ur W g8 200 c8∧Ur W g9 200 c9∧Ur W g11 200 c6∧Below g6 w5_ W) ⟨K5.so (by omega),
     jpe _ _ _ _ _ _ K6,
     K7.so (by omega),
     K8.so (by omega),
     K9.so (by omega),
     K11.so (by omega),
     jpd KB (by omega) _⟩ ?_
    clear K5 K6 K7 K8 K9 K11 KB
    rintro w9_ ⟨K5,K6,K7,K8,K9,K11,KB⟩
    go_upto_region 13 with (first
     | (refine wl_ rfl 200 rfl g11 rfl K11 rfl rfl (by rw [S_c6];rfl) ?_;go_frame)
     | (refine ws_ rfl 200 rfl g7 (jc c6).toArray rfl rfl K7 (by rw [S_c6];rfl) (by rw [S_c6,S_c7]) O_c6 ?_;simp only [joT]))
    refine jg (fun W=>Ur W g5 200 cx∧Ur W g6 200 c7∧Ur W g7 200 c6∧Ur W g8 200 c8∧Ur W g9 200 c9∧Ur W g11 200 c6∧Below g6 w5_ W) ⟨K5.so (by omega),
     K6.so (by omega),
     jpe _ _ _ _ _ _ K7,
     K8.so (by omega),
     K9.so (by omega),
     K11.so (by omega),
     jpd KB (by omega) _⟩ ?_
    clear K5 K6 K7 K8 K9 K11 KB
    rintro w10_ ⟨K5,K6,K7,K8,K9,K11,KB⟩
    go_upto_region 14 with (first
     | (refine wl_ rfl 200 rfl g8 rfl K8 rfl rfl (by rw [S_c8];rfl) ?_;go_frame)
     | (refine ws_ rfl 200 rfl g11 (jc c8).toArray rfl rfl K11 (by rw [S_c8];rfl) (by rw [S_c8,S_c6]) O_c8 ?_;simp only [joT]))
    refine jg (fun W=>Ur W g5 200 cx∧Ur W g6 200 c7∧Ur W g7 200 c6∧Ur W g8 200 c8∧Ur W g9 200 c9∧Ur W g11 200 c8∧Below g6 w5_ W) ⟨K5.so (by omega),
     K6.so (by omega),
     K7.so (by omega),
     K8.so (by omega),
     K9.so (by omega),
     jpe _ _ _ _ _ _ K11,
     jpd KB (by omega) _⟩ ?_
    clear K5 K6 K7 K8 K9 K11 KB
    rintro w11_ ⟨K5,K6,K7,K8,K9,K11,KB⟩
    go_upto_region 15 with (first
     | (refine wl_ rfl 200 rfl g9 rfl K9 rfl rfl (by rw [S_c9];rfl) ?_;go_frame)
     | (refine ws_ rfl 200 rfl g8 (jc c9).toArray rfl rfl K8 (by rw [S_c9];rfl) (by rw [S_c9,S_c8]) O_c9 ?_;simp only [joT]))
    refine jg (fun W=>Ur W g5 200 cx∧Ur W g6 200 c7∧Ur W g7 200 c6∧Ur W g8 200 c9∧Ur W g9 200 c9∧Ur W g11 200 c8∧Below g6 w5_ W) ⟨K5.so (by omega),
     K6.so (by omega),
     K7.so (by omega),
     jpe _ _ _ _ _ _ K8,
     K9.so (by omega),
     K11.so (by omega),
     jpd KB (by omega) _⟩ ?_
    clear K5 K6 K7 K8 K9 K11 KB
    rintro w12_ ⟨K5,K6,K7,K8,K9,K11,KB⟩
    go_upto_region 16 with (first
     | (refine wl_ rfl 200 rfl g11 rfl K11 rfl rfl (by rw [S_c8];rfl) ?_;go_frame)
     | (refine ws_ rfl 200 rfl g9 (jc c8).toArray rfl rfl K9 (by rw [S_c8];rfl) (by rw [S_c8,S_c9]) O_c8 ?_;simp only [joT]))
    refine jg (fun W=>Ur W g5 200 cx∧Ur W g6 200 c7∧Ur W g7 200 c6∧Ur W g8 200 c9∧Ur W g9 200 c8∧Ur W g11 200 c8∧Below g6 w5_ W) ⟨K5.so (by omega),
     K6.so (by omega),
     K7.so (by omega),
     K8.so (by omega),
     jpe _ _ _ _ _ _ K9,
     K11.so (by omega),
     jpd KB (by omega) _⟩ ?_
    clear K5 K6 K7 K8 K9 K11 KB
    rintro w13_ ⟨K5,K6,K7,K8,K9,K11,KB⟩
    clear K11
    go_wp2_with (first
     | (refine wl_ rfl 200 rfl g6 rfl K6 rfl rfl (by rw [S_c7];rfl) ?_;go_frame)
     | (refine wl_ rfl 200 rfl g8 rfl K8 rfl rfl (by rw [S_c9];rfl) ?_;go_frame))
    refine (yo n7 n9).mono ?_
    rintro e u_ ⟨c_101,n_101,rfl,e1⟩
    obtain ⟨v_102,hv_102⟩:∃ v,v=jnw vb vd:=⟨_,rfl⟩
    rw [←hv_102] at n_101
    replace hv_102:=Hj (fun _:Unit=>hv_102)
    have S_c_101:=jnE n_101.len
    have O_c_101:=jw c_101
    have a1:=zY u_ (jc zn).toArray 200
    have E_:=yJ e1 (jc zn).toArray 200 (jc c_101).toArray
    go_upto_region 17 with (first
     | (refine ws_ rfl 200 rfl u_.heap.size (jc c_101).toArray rfl rfl a1.out (by rw [S_c_101];rfl) (by rw [S_c_101,S_zn]) O_c_101 ?_;simp only [joT]))
    obtain ⟨g12,hg_⟩:∃ g,g=u_.heap.size:=⟨_,rfl⟩
    have z12:g9 < g12:=by rw [hg_];exact jos K9.lt e1.size
    refine jg (fun W=>Ur W g5 200 cx∧Ur W g6 200 c7∧Ur W g7 200 c6∧Ur W g8 200 c9∧Ur W g9 200 c8∧Ur W g12 200 c_101∧Below g6 w5_ W) ⟨K5.kept E_ K5.lt,
     K6.kept E_ K6.lt,
     K7.kept E_ K7.lt,
     K8.kept E_ K8.lt,
     K9.kept E_ K9.lt,
     by rw [hg_];exact jpe _ _ _ _ _ _ a1.out,
     jop KB (E_.mono (jnT K6.lt))⟩ ?_
    rw [←hg_]
    clear K5 K6 K7 K8 K9 KB hg_ a1 E_ e1
    rintro w14_ ⟨K5,K6,K7,K8,K9,K12,KB⟩
    go_wp2_with (first
     | (refine wl_ rfl 200 rfl g6 rfl K6 rfl rfl (by rw [S_c7];rfl) ?_;go_frame)
     | (refine wl_ rfl 200 rfl g8 rfl K8 rfl rfl (by rw [S_c9];rfl) ?_;go_frame))
    refine (yp n7 n9).mono ?_
    rintro e u_ ⟨c_103,n_103,rfl,e1⟩
    obtain ⟨v_104,hv_104⟩:∃ v,v=zO vb vd:=⟨_,rfl⟩
    rw [←hv_104] at n_103
    replace hv_104:=Hj (fun _:Unit=>hv_104)
    have S_c_103:=jnE n_103.len
    have O_c_103:=jw c_103
    have a1:=zY u_ (jc zn).toArray 200
    have E_:=yJ e1 (jc zn).toArray 200 (jc c_103).toArray
    go_upto_region 18 with (first
     | (refine ws_ rfl 200 rfl u_.heap.size (jc c_103).toArray rfl rfl a1.out (by rw [S_c_103];rfl) (by rw [S_c_103,S_zn]) O_c_103 ?_;simp only [joT]))
    obtain ⟨g13,hg_⟩:∃ g,g=u_.heap.size:=⟨_,rfl⟩
    have z13:g9 < g13:=by rw [hg_];exact jos K9.lt e1.size
    refine jg (fun W=>Ur W g5 200 cx∧Ur W g6 200 c7∧Ur W g7 200 c6∧Ur W g8 200 c9∧Ur W g9 200 c8∧Ur W g12 200 c_101∧Ur W g13 200 c_103∧Below g6 w5_ W) ⟨K5.kept E_ K5.lt,
     K6.kept E_ K6.lt,
     K7.kept E_ K7.lt,
     K8.kept E_ K8.lt,
     K9.kept E_ K9.lt,
     K12.kept E_ K12.lt,
     by rw [hg_];exact jpe _ _ _ _ _ _ a1.out,
     jop KB (E_.mono (jnT K6.lt))⟩ ?_
    rw [←hg_]
    clear K5 K6 K7 K8 K9 K12 KB hg_ a1 E_ e1
    rintro w15_ ⟨K5,K6,K7,K8,K9,K12,K13,KB⟩
    go_wp2_with (first
     | (refine wl_ rfl 200 rfl g12 rfl K12 rfl rfl (by rw [S_c_101];rfl) ?_;go_frame))
    refine (j9 n_101 n_101).mono ?_
    rintro e u_ ⟨c_105,n_105,rfl,e1⟩
    obtain ⟨v_106,hv_106⟩:∃ v,v=qs v_102 v_102:=⟨_,rfl⟩
    rw [←hv_106] at n_105
    replace hv_106:=Hj (fun _:Unit=>hv_106)
    have S_c_105:=jnE n_105.len
    have O_c_105:=jw c_105
    have a1:=zY u_ (jc zn).toArray 200
    have E_:=yJ e1 (jc zn).toArray 200 (jc c_105).toArray
    go_upto_region 19 with (first
     | (refine ws_ rfl 200 rfl u_.heap.size (jc c_105).toArray rfl rfl a1.out (by rw [S_c_105];rfl) (by rw [S_c_105,S_zn]) O_c_105 ?_;simp only [joT]))
    obtain ⟨g14,hg_⟩:∃ g,g=u_.heap.size:=⟨_,rfl⟩
    have z14:g9 < g14:=by rw [hg_];exact jos K9.lt e1.size
    refine jg (fun W=>Ur W g5 200 cx∧Ur W g6 200 c7∧Ur W g7 200 c6∧Ur W g8 200 c9∧Ur W g9 200 c8∧Ur W g12 200 c_101∧Ur W g13 200 c_103∧Ur W g14 200 c_105∧Below g6 w5_ W) ⟨K5.kept E_ K5.lt,
     K6.kept E_ K6.lt,
     K7.kept E_ K7.lt,
     K8.kept E_ K8.lt,
     K9.kept E_ K9.lt,
     K12.kept E_ K12.lt,
     K13.kept E_ K13.lt,
     by rw [hg_];exact jpe _ _ _ _ _ _ a1.out,
     jop KB (E_.mono (jnT K6.lt))⟩ ?_
    rw [←hg_]
    clear K5 K6 K7 K8 K9 K12 K13 KB hg_ a1 E_ e1
    rintro w16_ ⟨K5,K6,K7,K8,K9,K12,K13,K14,KB⟩
    go_wp2_with (first
     | (refine wl_ rfl 200 rfl g13 rfl K13 rfl rfl (by rw [S_c_103];rfl) ?_;go_frame))
    refine (j9 n_103 n_103).mono ?_
    rintro e u_ ⟨c_107,n_107,rfl,e1⟩
    obtain ⟨v_108,hv_108⟩:∃ v,v=qs v_104 v_104:=⟨_,rfl⟩
    rw [←hv_108] at n_107
    replace hv_108:=Hj (fun _:Unit=>hv_108)
    have S_c_107:=jnE n_107.len
    have O_c_107:=jw c_107
    have a1:=zY u_ (jc zn).toArray 200
    have E_:=yJ e1 (jc zn).toArray 200 (jc c_107).toArray
    go_upto_region 20 with (first
     | (refine ws_ rfl 200 rfl u_.heap.size (jc c_107).toArray rfl rfl a1.out (by rw [S_c_107];rfl) (by rw [S_c_107,S_zn]) O_c_107 ?_;simp only [joT]))
    obtain ⟨g15,hg_⟩:∃ g,g=u_.heap.size:=⟨_,rfl⟩
    have z15:g9 < g15:=by rw [hg_];exact jos K9.lt e1.size
    refine jg (fun W=>Ur W g5 200 cx∧Ur W g6 200 c7∧Ur W g7 200 c6∧Ur W g8 200 c9∧Ur W g9 200 c8∧Ur W g12 200 c_101∧Ur W g13 200 c_103∧Ur W g14 200 c_105∧Ur W g15 200 c_107∧Below g6 w5_ W) ⟨K5.kept E_ K5.lt,
     K6.kept E_ K6.lt,
     K7.kept E_ K7.lt,
     K8.kept E_ K8.lt,
     K9.kept E_ K9.lt,
     K12.kept E_ K12.lt,
     K13.kept E_ K13.lt,
     K14.kept E_ K14.lt,
     by rw [hg_];exact jpe _ _ _ _ _ _ a1.out,
     jop KB (E_.mono (jnT K6.lt))⟩ ?_
    rw [←hg_]
    clear K5 K6 K7 K8 K9 K12 K13 K14 KB hg_ a1 E_ e1
    rintro w17_ ⟨K5,K6,K7,K8,K9,K12,K13,K14,K15,KB⟩
    go_wp2_with (first
     | (refine wl_ rfl 200 rfl g14 rfl K14 rfl rfl (by rw [S_c_105];rfl) ?_;go_frame)
     | (refine wl_ rfl 200 rfl g15 rfl K15 rfl rfl (by rw [S_c_107];rfl) ?_;go_frame))
    refine (yp n_105 n_107).mono ?_
    rintro e u_ ⟨c_109,n_109,rfl,e1⟩
    obtain ⟨v_110,hv_110⟩:∃ v,v=zO v_106 v_108:=⟨_,rfl⟩
    rw [←hv_110] at n_109
    replace hv_110:=Hj (fun _:Unit=>hv_110)
    have S_c_109:=jnE n_109.len
    have O_c_109:=jw c_109
    have a1:=zY u_ (jc zn).toArray 200
    have E_:=yJ e1 (jc zn).toArray 200 (jc c_109).toArray
    go_upto_region 21 with (first
     | (refine ws_ rfl 200 rfl u_.heap.size (jc c_109).toArray rfl rfl a1.out (by rw [S_c_109];rfl) (by rw [S_c_109,S_zn]) O_c_109 ?_;simp only [joT]))
    obtain ⟨g16,hg_⟩:∃ g,g=u_.heap.size:=⟨_,rfl⟩
    have z16:g9 < g16:=by rw [hg_];exact jos K9.lt e1.size
    refine jg (fun W=>Ur W g5 200 cx∧Ur W g6 200 c7∧Ur W g7 200 c6∧Ur W g8 200 c9∧Ur W g9 200 c8∧Ur W g12 200 c_101∧Ur W g13 200 c_103∧Ur W g14 200 c_105∧Ur W g15 200 c_107∧Ur W g16 200 c_109∧Below g6 w5_ W) ⟨K5.kept E_ K5.lt,
     K6.kept E_ K6.lt,
     K7.kept E_ K7.lt,
     K8.kept E_ K8.lt,
     K9.kept E_ K9.lt,
     K12.kept E_ K12.lt,
     K13.kept E_ K13.lt,
     K14.kept E_ K14.lt,
     K15.kept E_ K15.lt,
     by rw [hg_];exact jpe _ _ _ _ _ _ a1.out,
     jop KB (E_.mono (jnT K6.lt))⟩ ?_
    rw [←hg_]
    clear K5 K6 K7 K8 K9 K12 K13 K14 K15 KB hg_ a1 E_ e1
    rintro w18_ ⟨K5,K6,K7,K8,K9,K12,K13,K14,K15,K16,KB⟩
    have Q7:=K7.q
    have Q9:=K9.q
    have Q12:=K12.q
    refine qgF (R:=Ext) jnQ (fun _ _ _=>Ext.trans) [0,1,2,3,4,5] [6] [0,0,3,0,15,0,63] [true,true,true,true,true,true,false] ?_
    refine jq (fun _=>jnQ _) _ rfl (v:= .agg (jc c6).toArray) (d:=57) rfl rfl ?_ ?_
    ·intro a_ w_ hev hR hk
     have e7:a_.eval (.tmp 7)=_:=hk 7 rfl
     exact (jd rfl e7 (Q7.out w_ (Ext.trans (jnQ _).drew hR)) rfl rfl (by rw [S_c6];rfl))
    refine jq (fun _=>jnQ _) _ rfl (v:= .agg (jc c8).toArray) (d:=58) rfl rfl ?_ ?_
    ·intro a_ w_ hev hR hk
     have e9:a_.eval (.tmp 9)=_:=hk 9 rfl
     exact (jd rfl e9 (Q9.out w_ (Ext.trans (jnQ _).drew hR)) rfl rfl (by rw [S_c8];rfl))
    refine jx _ rfl (fun u _=>∃ es,u= .agg (jc es).toArray∧IsN es (zO va vc)) (d:=59) rfl (fun _ _ _ h _=>h) rfl ?_ ?_
    ·intro a_ w_ hev hR hk K1 hK1
     have e56:a_.eval (.tmp 56)=_:=hk 56 rfl
     have e57:a_.eval (.tmp 57)=_:=hk 57 rfl
     clear hk
     have f56:=jz.trans e56
     have f57:=jz.trans e57
     go_simp
     refine (yp n6 n8).mono ?_
     rintro e_ w2_ ⟨fs_,hf_,rfl,x_⟩
     exact hK1.out _ _ x_ ⟨fs_,rfl,hf_⟩
    refine jq (fun _=>jnQ _) _ rfl (v:= .agg (jc c_101).toArray) (d:=60) rfl rfl ?_ ?_
    ·intro a_ w_ hev hR hk
     have e12:a_.eval (.tmp 12)=_:=hk 12 rfl
     exact (jd rfl e12 (Q12.out w_ (Ext.trans (jnQ _).drew hR)) rfl rfl (by rw [S_c_101];rfl))
    refine jx _ rfl (fun u _=>∃ es,u= .agg (jc es).toArray∧IsN es (qs (zO va vc) v_102)) (d:=61) rfl (fun _ _ _ h _=>h) rfl ?_ ?_
    ·intro a_ w_ hev hR hk K1 hK1
     obtain ⟨es_58,e58,n58⟩:∃ es,a_.eval (.tmp 58)= .agg (jc es).toArray∧IsN es _:=hk 58 rfl
     have e59:a_.eval (.tmp 59)=_:=hk 59 rfl
     clear hk
     have f58:=jz.trans e58
     have f59:=jz.trans e59
     go_simp
     refine (j9 n58 n_101).mono ?_
     rintro e_ w2_ ⟨fs_,hf_,rfl,x_⟩
     exact hK1.out _ _ x_ ⟨fs_,rfl,hf_⟩
    refine qY _ rfl (fun u w_=>∃ g,u= .pointer (some ⟨g,0,none⟩)∧w18_.drew.heap.size≤g∧w_.heap[g]? =some (.cells (jc zn).toArray 200 (0,0))) (d:=18) rfl (fun _ _ _ h e=>by obtain ⟨g,h1,h2,h3⟩:=h;exact ⟨g,h1,h2,(e.block g (jh h3)).trans h3⟩) rfl (by decide) (fun _ _ h=>by obtain ⟨g,h1,h2,h3⟩:=h;subst h1;exact ⟨g,rfl,jh h3⟩) ?_ ?_
    ·intro a_ w_ hev hR hk K1 hK1
     go_simp
     exact hK1.out _ _ ((jnQ _).alloc _) ⟨_,rfl,hR.size,jps _ _⟩ (fun _ q=>by cases q;exact joq _)
    intro v_ wq_ hR hV_ hN_
    obtain ⟨hv5,hv4,hv3,hv2,hv1,hv0,_⟩:=hV_
    replace hv0:v_ 0=_:=hv0
    replace hv1:v_ 1=_:=hv1
    skip
    replace hv3:v_ 3=_:=hv3
    skip
    skip
    dsimp only [yQ,zv]
    obtain ⟨es_2,hv2,hn_2⟩:=hv2
    obtain ⟨es_4,hv4,hn_4⟩:=hv4
    obtain ⟨g_5,hv5,gb_5,gc_5⟩:=hv5
    clear hN_
    rw [hv0,hv1,hv2,hv3,hv4,hv5]
    go_frame
    clear hv0 hv1 hv2 hv3 hv4 hv5
    generalize es_4=c_111 at *
    have n_111:=hn_4
    clear hn_2 hn_4
    obtain ⟨v_112,hv_112⟩:∃ v,v=qs (zO va vc) v_102:=⟨_,rfl⟩
    rw [←hv_112] at n_111
    replace hv_112:=Hj (fun _:Unit=>hv_112)
    have S_c_111:=jnE n_111.len
    have O_c_111:=jw c_111
    refine qi (z:=6) _ rfl rfl (by kernel_rfl) ?_
    intro K1 hK1
    refine joe _ _ _ rfl g_5 (jc c_111).toArray rfl rfl 200 (jc zn).toArray gc_5 (by rw [S_c_111];rfl) (by rw [S_c_111,S_zn]) O_c_111 ?_
    refine hK1.out _ _ ?_
    clear hK1 K1
    refine qT (by kernel_rfl) ?_
    have z17:g9 < g_5:=jos K9.lt gb_5
    have E_:Ext w18_ (wq_.setRow g_5 (jc c_111).toArray):=jpd ((jnQ w18_).drew.trans hR) gb_5 _
    refine yf (fun W=>Ur W g5 200 cx∧Ur W g6 200 c7∧Ur W g7 200 c6∧Ur W g8 200 c9∧Ur W g9 200 c8∧Ur W g12 200 c_101∧Ur W g13 200 c_103∧Ur W g14 200 c_105∧Ur W g15 200 c_107∧Ur W g16 200 c_109∧Ur W g_5 200 c_111∧Below g6 w5_ W) ⟨K5.kept E_ K5.lt,
     K6.kept E_ K6.lt,
     K7.kept E_ K7.lt,
     K8.kept E_ K8.lt,
     K9.kept E_ K9.lt,
     K12.kept E_ K12.lt,
     K13.kept E_ K13.lt,
     K14.kept E_ K14.lt,
     K15.kept E_ K15.lt,
     K16.kept E_ K16.lt,
     jpe _ _ _ _ _ _ gc_5,
     jop KB (E_.mono (jnT K6.lt))⟩ ?_
    clear K5 K6 K7 K8 K9 K12 K13 K14 K15 K16 KB E_ hR gc_5 gb_5 Q7 Q9 Q12
    rintro w19_ ⟨K5,K6,K7,K8,K9,K12,K13,K14,K15,K16,K17,KB⟩
    generalize g_5=g17 at *
    go_upto_region 22 with fail
    have Q7:=K7.q
    have Q9:=K9.q
    have Q13:=K13.q
    refine qgF (R:=Ext) jnQ (fun _ _ _=>Ext.trans) [0,1,2,3,4,5] [6] [0,0,3,0,15,0,63] [true,true,true,true,true,true,false] ?_
    refine jq (fun _=>jnQ _) _ rfl (v:= .agg (jc c6).toArray) (d:=62) rfl rfl ?_ ?_
    ·intro a_ w_ hev hR hk
     have e7:a_.eval (.tmp 7)=_:=hk 7 rfl
     exact (jd rfl e7 (Q7.out w_ (Ext.trans (jnQ _).drew hR)) rfl rfl (by rw [S_c6];rfl))
    refine jq (fun _=>jnQ _) _ rfl (v:= .agg (jc c8).toArray) (d:=63) rfl rfl ?_ ?_
    ·intro a_ w_ hev hR hk
     have e9:a_.eval (.tmp 9)=_:=hk 9 rfl
     exact (jd rfl e9 (Q9.out w_ (Ext.trans (jnQ _).drew hR)) rfl rfl (by rw [S_c8];rfl))
    refine jx _ rfl (fun u _=>∃ es,u= .agg (jc es).toArray∧IsN es (jnw va vc)) (d:=64) rfl (fun _ _ _ h _=>h) rfl ?_ ?_
    ·intro a_ w_ hev hR hk K1 hK1
     have e61:a_.eval (.tmp 61)=_:=hk 61 rfl
     have e62:a_.eval (.tmp 62)=_:=hk 62 rfl
     clear hk
     have f61:=jz.trans e61
     have f62:=jz.trans e62
     go_simp
     refine (yo n6 n8).mono ?_
     rintro e_ w2_ ⟨fs_,hf_,rfl,x_⟩
     exact hK1.out _ _ x_ ⟨fs_,rfl,hf_⟩
    refine jq (fun _=>jnQ _) _ rfl (v:= .agg (jc c_103).toArray) (d:=65) rfl rfl ?_ ?_
    ·intro a_ w_ hev hR hk
     have e13:a_.eval (.tmp 13)=_:=hk 13 rfl
     exact (jd rfl e13 (Q13.out w_ (Ext.trans (jnQ _).drew hR)) rfl rfl (by rw [S_c_103];rfl))
    refine jx _ rfl (fun u _=>∃ es,u= .agg (jc es).toArray∧IsN es (qs (jnw va vc) v_104)) (d:=66) rfl (fun _ _ _ h _=>h) rfl ?_ ?_
    ·intro a_ w_ hev hR hk K1 hK1
     obtain ⟨es_63,e63,n63⟩:∃ es,a_.eval (.tmp 63)= .agg (jc es).toArray∧IsN es _:=hk 63 rfl
     have e64:a_.eval (.tmp 64)=_:=hk 64 rfl
     clear hk
     have f63:=jz.trans e63
     have f64:=jz.trans e64
     go_simp
     refine (j9 n63 n_103).mono ?_
     rintro e_ w2_ ⟨fs_,hf_,rfl,x_⟩
     exact hK1.out _ _ x_ ⟨fs_,rfl,hf_⟩
    refine qY _ rfl (fun u w_=>∃ g,u= .pointer (some ⟨g,0,none⟩)∧w19_.drew.heap.size≤g∧w_.heap[g]? =some (.cells (jc zn).toArray 200 (0,0))) (d:=19) rfl (fun _ _ _ h e=>by obtain ⟨g,h1,h2,h3⟩:=h;exact ⟨g,h1,h2,(e.block g (jh h3)).trans h3⟩) rfl (by decide) (fun _ _ h=>by obtain ⟨g,h1,h2,h3⟩:=h;subst h1;exact ⟨g,rfl,jh h3⟩) ?_ ?_
    ·intro a_ w_ hev hR hk K1 hK1
     go_simp
     exact hK1.out _ _ ((jnQ _).alloc _) ⟨_,rfl,hR.size,jps _ _⟩ (fun _ q=>by cases q;exact joq _)
    intro v_ wq_ hR hV_ hN_
    obtain ⟨hv5,hv4,hv3,hv2,hv1,hv0,_⟩:=hV_
    replace hv0:v_ 0=_:=hv0
    replace hv1:v_ 1=_:=hv1
    skip
    replace hv3:v_ 3=_:=hv3
    skip
    skip
    dsimp only [yQ,zv]
    obtain ⟨es_2,hv2,hn_2⟩:=hv2
    obtain ⟨es_4,hv4,hn_4⟩:=hv4
    obtain ⟨g_5,hv5,gb_5,gc_5⟩:=hv5
    clear hN_
    rw [hv0,hv1,hv2,hv3,hv4,hv5]
    go_frame
    clear hv0 hv1 hv2 hv3 hv4 hv5
    generalize es_4=c_113 at *
    have n_113:=hn_4
    clear hn_2 hn_4
    obtain ⟨v_114,hv_114⟩:∃ v,v=qs (jnw va vc) v_104:=⟨_,rfl⟩
    rw [←hv_114] at n_113
    replace hv_114:=Hj (fun _:Unit=>hv_114)
    have S_c_113:=jnE n_113.len
    have O_c_113:=jw c_113
    refine qi (z:=6) _ rfl rfl (by kernel_rfl) ?_
    intro K1 hK1
    refine joe _ _ _ rfl g_5 (jc c_113).toArray rfl rfl 200 (jc zn).toArray gc_5 (by rw [S_c_113];rfl) (by rw [S_c_113,S_zn]) O_c_113 ?_
    refine hK1.out _ _ ?_
    clear hK1 K1
    refine qT (by kernel_rfl) ?_
    have z18:g9 < g_5:=jos K9.lt gb_5
    have E_:Ext w19_ (wq_.setRow g_5 (jc c_113).toArray):=jpd ((jnQ w19_).drew.trans hR) gb_5 _
    refine yf (fun W=>Ur W g5 200 cx∧Ur W g6 200 c7∧Ur W g7 200 c6∧Ur W g8 200 c9∧Ur W g9 200 c8∧Ur W g12 200 c_101∧Ur W g13 200 c_103∧Ur W g14 200 c_105∧Ur W g15 200 c_107∧Ur W g16 200 c_109∧Ur W g17 200 c_111∧Ur W g_5 200 c_113∧Below g6 w5_ W) ⟨K5.kept E_ K5.lt,
     K6.kept E_ K6.lt,
     K7.kept E_ K7.lt,
     K8.kept E_ K8.lt,
     K9.kept E_ K9.lt,
     K12.kept E_ K12.lt,
     K13.kept E_ K13.lt,
     K14.kept E_ K14.lt,
     K15.kept E_ K15.lt,
     K16.kept E_ K16.lt,
     K17.kept E_ K17.lt,
     jpe _ _ _ _ _ _ gc_5,
     jop KB (E_.mono (jnT K6.lt))⟩ ?_
    clear K5 K6 K7 K8 K9 K12 K13 K14 K15 K16 K17 KB E_ hR gc_5 gb_5 Q7 Q9 Q13
    rintro w20_ ⟨K5,K6,K7,K8,K9,K12,K13,K14,K15,K16,K17,K18,KB⟩
    generalize g_5=g18 at *
    clear K12
    clear K13
    go_wp2_with (first
     | (refine wl_ rfl 200 rfl g17 rfl K17 rfl rfl (by rw [S_c_111];rfl) ?_;go_frame)
     | (refine wl_ rfl 200 rfl g18 rfl K18 rfl rfl (by rw [S_c_113];rfl) ?_;go_frame))
    refine (yo n_111 n_113).mono ?_
    rintro e u_ ⟨c_115,n_115,rfl,e1⟩
    obtain ⟨v_116,hv_116⟩:∃ v,v=jnw v_112 v_114:=⟨_,rfl⟩
    rw [←hv_116] at n_115
    replace hv_116:=Hj (fun _:Unit=>hv_116)
    have S_c_115:=jnE n_115.len
    have O_c_115:=jw c_115
    have a1:=zY u_ (jc zn).toArray 200
    have E_:=yJ e1 (jc zn).toArray 200 (jc c_115).toArray
    go_upto_region 24 with (first
     | (refine ws_ rfl 200 rfl u_.heap.size (jc c_115).toArray rfl rfl a1.out (by rw [S_c_115];rfl) (by rw [S_c_115,S_zn]) O_c_115 ?_;simp only [joT]))
    obtain ⟨g19,hg_⟩:∃ g,g=u_.heap.size:=⟨_,rfl⟩
    have z19:g9 < g19:=by rw [hg_];exact jos K9.lt e1.size
    refine jg (fun W=>Ur W g5 200 cx∧Ur W g6 200 c7∧Ur W g7 200 c6∧Ur W g8 200 c9∧Ur W g9 200 c8∧Ur W g14 200 c_105∧Ur W g15 200 c_107∧Ur W g16 200 c_109∧Ur W g17 200 c_111∧Ur W g18 200 c_113∧Ur W g19 200 c_115∧Below g6 w5_ W) ⟨K5.kept E_ K5.lt,
     K6.kept E_ K6.lt,
     K7.kept E_ K7.lt,
     K8.kept E_ K8.lt,
     K9.kept E_ K9.lt,
     K14.kept E_ K14.lt,
     K15.kept E_ K15.lt,
     K16.kept E_ K16.lt,
     K17.kept E_ K17.lt,
     K18.kept E_ K18.lt,
     by rw [hg_];exact jpe _ _ _ _ _ _ a1.out,
     jop KB (E_.mono (jnT K6.lt))⟩ ?_
    rw [←hg_]
    clear K5 K6 K7 K8 K9 K14 K15 K16 K17 K18 KB hg_ a1 E_ e1
    rintro w21_ ⟨K5,K6,K7,K8,K9,K14,K15,K16,K17,K18,K19,KB⟩
    go_wp2_with (first
     | (refine wl_ rfl 200 rfl g17 rfl K17 rfl rfl (by rw [S_c_111];rfl) ?_;go_frame)
     | (refine wl_ rfl 200 rfl g18 rfl K18 rfl rfl (by rw [S_c_113];rfl) ?_;go_frame))
    refine (yp n_111 n_113).mono ?_
    rintro e u_ ⟨c_117,n_117,rfl,e1⟩
    obtain ⟨v_118,hv_118⟩:∃ v,v=zO v_112 v_114:=⟨_,rfl⟩
    rw [←hv_118] at n_117
    replace hv_118:=Hj (fun _:Unit=>hv_118)
    have S_c_117:=jnE n_117.len
    have O_c_117:=jw c_117
    have a1:=zY u_ (jc zn).toArray 200
    have E_:=yJ e1 (jc zn).toArray 200 (jc c_117).toArray
    go_upto_region 25 with (first
     | (refine ws_ rfl 200 rfl u_.heap.size (jc c_117).toArray rfl rfl a1.out (by rw [S_c_117];rfl) (by rw [S_c_117,S_zn]) O_c_117 ?_;simp only [joT]))
    obtain ⟨g20,hg_⟩:∃ g,g=u_.heap.size:=⟨_,rfl⟩
    have z20:g9 < g20:=by rw [hg_];exact jos K9.lt e1.size
    refine jg (fun W=>Ur W g5 200 cx∧Ur W g6 200 c7∧Ur W g7 200 c6∧Ur W g8 200 c9∧Ur W g9 200 c8∧Ur W g14 200 c_105∧Ur W g15 200 c_107∧Ur W g16 200 c_109∧Ur W g17 200 c_111∧Ur W g18 200 c_113∧Ur W g19 200 c_115∧Ur W g20 200 c_117∧Below g6 w5_ W) ⟨K5.kept E_ K5.lt,
     K6.kept E_ K6.lt,
     K7.kept E_ K7.lt,
     K8.kept E_ K8.lt,
     K9.kept E_ K9.lt,
     K14.kept E_ K14.lt,
     K15.kept E_ K15.lt,
     K16.kept E_ K16.lt,
     K17.kept E_ K17.lt,
     K18.kept E_ K18.lt,
     K19.kept E_ K19.lt,
     by rw [hg_];exact jpe _ _ _ _ _ _ a1.out,
     jop KB (E_.mono (jnT K6.lt))⟩ ?_
    rw [←hg_]
    clear K5 K6 K7 K8 K9 K14 K15 K16 K17 K18 K19 KB hg_ a1 E_ e1
    rintro w22_ ⟨K5,K6,K7,K8,K9,K14,K15,K16,K17,K18,K19,K20,KB⟩
    clear K17
    clear K18
    go_wp2_with (first
     | (refine wl_ rfl 200 rfl g19 rfl K19 rfl rfl (by rw [S_c_115];rfl) ?_;go_frame))
    refine (j9 n_115 n_115).mono ?_
    rintro e u_ ⟨c_119,n_119,rfl,e1⟩
    obtain ⟨v_120,hv_120⟩:∃ v,v=qs v_116 v_116:=⟨_,rfl⟩
    rw [←hv_120] at n_119
    replace hv_120:=Hj (fun _:Unit=>hv_120)
    have S_c_119:=jnE n_119.len
    have O_c_119:=jw c_119
    have mK5:=K5.kept e1 K5.lt
    have mK6:=K6.kept e1 K6.lt
    have mK7:=K7.kept e1 K7.lt
    have mK8:=K8.kept e1 K8.lt
    have mK9:=K9.kept e1 K9.lt
    have mK14:=K14.kept e1 K14.lt
    have mK15:=K15.kept e1 K15.lt
    have mK16:=K16.kept e1 K16.lt
    have mK19:=K19.kept e1 K19.lt
    have mK20:=K20.kept e1 K20.lt
    have mKB:=jop KB (e1.mono (jnT K6.lt))
    go_upto_region 26 with (first
     | (refine ws_ rfl 200 rfl g7 (jc c_119).toArray rfl rfl mK7 (by rw [S_c_119];rfl) (by rw [S_c_119,S_c6]) O_c_119 ?_;simp only [joT]))
    refine jg (fun W=>Ur W g5 200 cx∧Ur W g6 200 c7∧Ur W g7 200 c_119∧Ur W g8 200 c9∧Ur W g9 200 c8∧Ur W g14 200 c_105∧Ur W g15 200 c_107∧Ur W g16 200 c_109∧Ur W g19 200 c_115∧Ur W g20 200 c_117∧Below g6 w5_ W) ⟨mK5.so (by omega),
     mK6.so (by omega),
     jpe _ _ _ _ _ _ mK7,
     mK8.so (by omega),
     mK9.so (by omega),
     mK14.so (by omega),
     mK15.so (by omega),
     mK16.so (by omega),
     mK19.so (by omega),
     mK20.so (by omega),
     jpd mKB (by omega) _⟩ ?_
    clear K5 K6 K7 K8 K9 K14 K15 K16 K19 K20 KB e1 mK5 mK6 mK7 mK8 mK9 mK14 mK15 mK16 mK19 mK20 mKB
    rintro w23_ ⟨K5,K6,K7,K8,K9,K14,K15,K16,K19,K20,KB⟩
    clear K19
    have Q5:=K5.q
    have Q20:=K20.q
    refine qgF (R:=Ext) jnQ (fun _ _ _=>Ext.trans) [0,1,2,3,4] [5] [0,0,0,6,15,31] [true,true,true,true,true,false] ?_
    refine jq (fun _=>jnQ _) _ rfl (v:= .agg (jc cx).toArray) (d:=76) rfl rfl ?_ ?_
    ·intro a_ w_ hev hR hk
     have e5:a_.eval (.tmp 5)=_:=hk 5 rfl
     exact (jd rfl e5 (Q5.out w_ (Ext.trans (jnQ _).drew hR)) rfl rfl (by rw [S_cx];rfl))
    refine jq (fun _=>jnQ _) _ rfl (v:= .agg (jc c_117).toArray) (d:=77) rfl rfl ?_ ?_
    ·intro a_ w_ hev hR hk
     have e20:a_.eval (.tmp 20)=_:=hk 20 rfl
     exact (jd rfl e20 (Q20.out w_ (Ext.trans (jnQ _).drew hR)) rfl rfl (by rw [S_c_117];rfl))
    refine jq (fun _=>jnQ _) _ rfl (v:= .agg (jc c_117).toArray) (d:=78) rfl rfl ?_ ?_
    ·intro a_ w_ hev hR hk
     have e20:a_.eval (.tmp 20)=_:=hk 20 rfl
     exact (jd rfl e20 (Q20.out w_ (Ext.trans (jnQ _).drew hR)) rfl rfl (by rw [S_c_117];rfl))
    refine jx _ rfl (fun u _=>∃ es,u= .agg (jc es).toArray∧IsN es (qs v_118 v_118)) (d:=79) rfl (fun _ _ _ h _=>h) rfl ?_ ?_
    ·intro a_ w_ hev hR hk K1 hK1
     have e76:a_.eval (.tmp 76)=_:=hk 76 rfl
     have e77:a_.eval (.tmp 77)=_:=hk 77 rfl
     clear hk
     have f76:=jz.trans e76
     have f77:=jz.trans e77
     go_simp
     refine (j9 n_117 n_117).mono ?_
     rintro e_ w2_ ⟨fs_,hf_,rfl,x_⟩
     exact hK1.out _ _ x_ ⟨fs_,rfl,hf_⟩
    refine jx _ rfl (fun u _=>∃ es,u= .agg (jc es).toArray∧IsN es (qs x (qs v_118 v_118))) (d:=80) rfl (fun _ _ _ h _=>h) rfl ?_ ?_
    ·intro a_ w_ hev hR hk K1 hK1
     have e75:a_.eval (.tmp 75)=_:=hk 75 rfl
     obtain ⟨es_78,e78,n78⟩:∃ es,a_.eval (.tmp 78)= .agg (jc es).toArray∧IsN es _:=hk 78 rfl
     clear hk
     have f75:=jz.trans e75
     have f78:=jz.trans e78
     go_simp
     refine (j9 n_cx n78).mono ?_
     rintro e_ w2_ ⟨fs_,hf_,rfl,x_⟩
     exact hK1.out _ _ x_ ⟨fs_,rfl,hf_⟩
    intro v_ wq_ hR hV_ hN_
    obtain ⟨hv4,hv3,hv2,hv1,hv0,_⟩:=hV_
    replace hv0:v_ 0=_:=hv0
    replace hv1:v_ 1=_:=hv1
    replace hv2:v_ 2=_:=hv2
    skip
    skip
    dsimp only [yQ,zv]
    obtain ⟨es_3,hv3,hn_3⟩:=hv3
    obtain ⟨es_4,hv4,hn_4⟩:=hv4
    clear hN_
    rw [hv0,hv1,hv2,hv3,hv4]
    go_frame
    clear hv0 hv1 hv2 hv3 hv4
    generalize es_4=c_121 at *
    have n_121:=hn_4
    clear hn_3 hn_4
    obtain ⟨v_122,hv_122⟩:∃ v,v=qs x (qs v_118 v_118):=⟨_,rfl⟩
    rw [←hv_122] at n_121
    replace hv_122:=Hj (fun _:Unit=>hv_122)
    have S_c_121:=jnE n_121.len
    have O_c_121:=jw c_121
    have mm_:=K9.kept ((jnQ w23_).drew.trans hR) K9.lt
    refine qi (z:=5) _ rfl rfl (by kernel_rfl) ?_
    intro K1 hK1
    refine joe _ _ _ rfl g9 (jc c_121).toArray rfl rfl 200 (jc c8).toArray mm_ (by rw [S_c_121];rfl) (by rw [S_c_121,S_c8]) O_c_121 ?_
    refine hK1.out _ _ ?_
    clear hK1 K1
    refine qT (by kernel_rfl) ?_
    have mK5:=K5.kept ((jnQ w23_).drew.trans hR) K5.lt
    have mK6:=K6.kept ((jnQ w23_).drew.trans hR) K6.lt
    have mK7:=K7.kept ((jnQ w23_).drew.trans hR) K7.lt
    have mK8:=K8.kept ((jnQ w23_).drew.trans hR) K8.lt
    have mK9:=K9.kept ((jnQ w23_).drew.trans hR) K9.lt
    have mK14:=K14.kept ((jnQ w23_).drew.trans hR) K14.lt
    have mK15:=K15.kept ((jnQ w23_).drew.trans hR) K15.lt
    have mK16:=K16.kept ((jnQ w23_).drew.trans hR) K16.lt
    have mK20:=K20.kept ((jnQ w23_).drew.trans hR) K20.lt
    have mKB:=jop KB (((jnQ w23_).drew.trans hR).mono (jnT K6.lt))
    refine yf (fun W=>Ur W g5 200 cx∧Ur W g6 200 c7∧Ur W g7 200 c_119∧Ur W g8 200 c9∧Ur W g9 200 c_121∧Ur W g14 200 c_105∧Ur W g15 200 c_107∧Ur W g16 200 c_109∧Ur W g20 200 c_117∧Below g6 w5_ W) ⟨mK5.so (by omega),
     mK6.so (by omega),
     mK7.so (by omega),
     mK8.so (by omega),
     jpe _ _ _ _ _ _ mK9,
     mK14.so (by omega),
     mK15.so (by omega),
     mK16.so (by omega),
     mK20.so (by omega),
     jpd mKB (by omega) _⟩ ?_
    clear K5 K6 K7 K8 K9 K14 K15 K16 K20 KB mm_ hR mK5 mK6 mK7 mK8 mK9 mK14 mK15 mK16 mK20 mKB Q5 Q20
    rintro w24_ ⟨K5,K6,K7,K8,K9,K14,K15,K16,K20,KB⟩
    clear K20
    go_wp2_with (first
     | (refine wl_ rfl 200 rfl g14 rfl K14 rfl rfl (by rw [S_c_105];rfl) ?_;go_frame)
     | (refine wl_ rfl 200 rfl g15 rfl K15 rfl rfl (by rw [S_c_107];rfl) ?_;go_frame))
    refine (j9 n_105 n_107).mono ?_
    rintro e u_ ⟨c_123,n_123,rfl,e1⟩
    obtain ⟨v_124,hv_124⟩:∃ v,v=qs v_106 v_108:=⟨_,rfl⟩
    rw [←hv_124] at n_123
    replace hv_124:=Hj (fun _:Unit=>hv_124)
    have S_c_123:=jnE n_123.len
    have O_c_123:=jw c_123
    have mK5:=K5.kept e1 K5.lt
    have mK6:=K6.kept e1 K6.lt
    have mK7:=K7.kept e1 K7.lt
    have mK8:=K8.kept e1 K8.lt
    have mK9:=K9.kept e1 K9.lt
    have mK14:=K14.kept e1 K14.lt
    have mK15:=K15.kept e1 K15.lt
    have mK16:=K16.kept e1 K16.lt
    have mKB:=jop KB (e1.mono (jnT K6.lt))
    go_upto_region 28 with (first
     | (refine ws_ rfl 200 rfl g6 (jc c_123).toArray rfl rfl mK6 (by rw [S_c_123];rfl) (by rw [S_c_123,S_c7]) O_c_123 ?_;simp only [joT]))
    refine jg (fun W=>Ur W g5 200 cx∧Ur W g6 200 c_123∧Ur W g7 200 c_119∧Ur W g8 200 c9∧Ur W g9 200 c_121∧Ur W g14 200 c_105∧Ur W g15 200 c_107∧Ur W g16 200 c_109∧Below g6 w5_ W) ⟨mK5.so (by omega),
     jpe _ _ _ _ _ _ mK6,
     mK7.so (by omega),
     mK8.so (by omega),
     mK9.so (by omega),
     mK14.so (by omega),
     mK15.so (by omega),
     mK16.so (by omega),
     jpd mKB (by omega) _⟩ ?_
    clear K5 K6 K7 K8 K9 K14 K15 K16 KB e1 mK5 mK6 mK7 mK8 mK9 mK14 mK15 mK16 mKB
    rintro w25_ ⟨K5,K6,K7,K8,K9,K14,K15,K16,KB⟩
    clear K15
    have Q14:=K14.q
    have Q16:=K16.q
    refine qgF (R:=Ext) jnQ (fun _ _ _=>Ext.trans) [0,1,2,3,4,5,6] [7] [0,0,0,0,12,30,63,127] [true,true,true,true,true,true,true,false] ?_
    refine jq (fun _=>jnQ _) _ rfl (v:= .agg (jc c_109).toArray) (d:=84) rfl rfl ?_ ?_
    ·intro a_ w_ hev hR hk
     have e16:a_.eval (.tmp 16)=_:=hk 16 rfl
     exact (jd rfl e16 (Q16.out w_ (Ext.trans (jnQ _).drew hR)) rfl rfl (by rw [S_c_109];rfl))
    refine jq (fun _=>jnQ _) _ rfl (v:= .agg (jc c_105).toArray) (d:=85) rfl rfl ?_ ?_
    ·intro a_ w_ hev hR hk
     have e14:a_.eval (.tmp 14)=_:=hk 14 rfl
     exact (jd rfl e14 (Q14.out w_ (Ext.trans (jnQ _).drew hR)) rfl rfl (by rw [S_c_105];rfl))
    refine jq (fun _=>jnQ _) _ rfl (v:= .agg (jc fw).toArray) (d:=86) rfl rfl ?_ ?_
    ·intro a_ w_ hev hR hk
     exact (qe rfl (by simp only [jpG,jpC,jpH,hev.1];exact hbf.out))
    refine jq (fun _=>jnQ _) _ rfl (v:= .agg (jc c_109).toArray) (d:=87) rfl rfl ?_ ?_
    ·intro a_ w_ hev hR hk
     have e16:a_.eval (.tmp 16)=_:=hk 16 rfl
     exact (jd rfl e16 (Q16.out w_ (Ext.trans (jnQ _).drew hR)) rfl rfl (by rw [S_c_109];rfl))
    refine jx _ rfl (fun u _=>∃ es,u= .agg (jc es).toArray∧IsN es (qs 121665 v_110)) (d:=88) rfl (fun _ _ _ h _=>h) rfl ?_ ?_
    ·intro a_ w_ hev hR hk K1 hK1
     have e85:a_.eval (.tmp 85)=_:=hk 85 rfl
     have e86:a_.eval (.tmp 86)=_:=hk 86 rfl
     clear hk
     have f85:=jz.trans e85
     have f86:=jz.trans e86
     go_simp
     refine (j9 n_fw n_109).mono ?_
     rintro e_ w2_ ⟨fs_,hf_,rfl,x_⟩
     exact hK1.out _ _ x_ ⟨fs_,rfl,hf_⟩
    refine jx _ rfl (fun u _=>∃ es,u= .agg (jc es).toArray∧IsN es (jnw v_106 (qs 121665 v_110))) (d:=89) rfl (fun _ _ _ h _=>h) rfl ?_ ?_
    ·intro a_ w_ hev hR hk K1 hK1
     have e84:a_.eval (.tmp 84)=_:=hk 84 rfl
     obtain ⟨es_87,e87,n87⟩:∃ es,a_.eval (.tmp 87)= .agg (jc es).toArray∧IsN es _:=hk 87 rfl
     clear hk
     have f84:=jz.trans e84
     have f87:=jz.trans e87
     go_simp
     refine (yo n_105 n87).mono ?_
     rintro e_ w2_ ⟨fs_,hf_,rfl,x_⟩
     exact hK1.out _ _ x_ ⟨fs_,rfl,hf_⟩
    refine jx _ rfl (fun u _=>∃ es,u= .agg (jc es).toArray∧IsN es (qs v_110 (jnw v_106 (qs 121665 v_110)))) (d:=90) rfl (fun _ _ _ h _=>h) rfl ?_ ?_
    ·intro a_ w_ hev hR hk K1 hK1
     have e83:a_.eval (.tmp 83)=_:=hk 83 rfl
     obtain ⟨es_88,e88,n88⟩:∃ es,a_.eval (.tmp 88)= .agg (jc es).toArray∧IsN es _:=hk 88 rfl
     clear hk
     have f83:=jz.trans e83
     have f88:=jz.trans e88
     go_simp
     refine (j9 n_109 n88).mono ?_
     rintro e_ w2_ ⟨fs_,hf_,rfl,x_⟩
     exact hK1.out _ _ x_ ⟨fs_,rfl,hf_⟩
    intro v_ wq_ hR hV_ hN_
    obtain ⟨hv6,hv5,hv4,hv3,hv2,hv1,hv0,_⟩:=hV_
    replace hv0:v_ 0=_:=hv0
    replace hv1:v_ 1=_:=hv1
    replace hv2:v_ 2=_:=hv2
    replace hv3:v_ 3=_:=hv3
    skip
    skip
    skip
    dsimp only [yQ,zv]
    obtain ⟨es_4,hv4,hn_4⟩:=hv4
    obtain ⟨es_5,hv5,hn_5⟩:=hv5
    obtain ⟨es_6,hv6,hn_6⟩:=hv6
    clear hN_
    rw [hv0,hv1,hv2,hv3,hv4,hv5,hv6]
    go_frame
    clear hv0 hv1 hv2 hv3 hv4 hv5 hv6
    generalize es_6=c_125 at *
    have n_125:=hn_6
    clear hn_4 hn_5 hn_6
    obtain ⟨v_126,hv_126⟩:∃ v,v=qs v_110 (jnw v_106 (qs 121665 v_110)):=⟨_,rfl⟩
    rw [←hv_126] at n_125
    replace hv_126:=Hj (fun _:Unit=>hv_126)
    have S_c_125:=jnE n_125.len
    have O_c_125:=jw c_125
    have mm_:=K8.kept ((jnQ w25_).drew.trans hR) K8.lt
    refine qi (z:=7) _ rfl rfl (by kernel_rfl) ?_
    intro K1 hK1
    refine joe _ _ _ rfl g8 (jc c_125).toArray rfl rfl 200 (jc c9).toArray mm_ (by rw [S_c_125];rfl) (by rw [S_c_125,S_c9]) O_c_125 ?_
    refine hK1.out _ _ ?_
    clear hK1 K1
    refine qT (by kernel_rfl) ?_
    have mK5:=K5.kept ((jnQ w25_).drew.trans hR) K5.lt
    have mK6:=K6.kept ((jnQ w25_).drew.trans hR) K6.lt
    have mK7:=K7.kept ((jnQ w25_).drew.trans hR) K7.lt
    have mK8:=K8.kept ((jnQ w25_).drew.trans hR) K8.lt
    have mK9:=K9.kept ((jnQ w25_).drew.trans hR) K9.lt
    have mK14:=K14.kept ((jnQ w25_).drew.trans hR) K14.lt
    have mK16:=K16.kept ((jnQ w25_).drew.trans hR) K16.lt
    have mKB:=jop KB (((jnQ w25_).drew.trans hR).mono (jnT K6.lt))
    refine yf (fun W=>Ur W g5 200 cx∧Ur W g6 200 c_123∧Ur W g7 200 c_119∧Ur W g8 200 c_125∧Ur W g9 200 c_121∧Ur W g14 200 c_105∧Ur W g16 200 c_109∧Below g6 w5_ W) ⟨mK5.so (by omega),
     mK6.so (by omega),
     mK7.so (by omega),
     jpe _ _ _ _ _ _ mK8,
     mK9.so (by omega),
     mK14.so (by omega),
     mK16.so (by omega),
     jpd mKB (by omega) _⟩ ?_
    clear K5 K6 K7 K8 K9 K14 K16 KB mm_ hR mK5 mK6 mK7 mK8 mK9 mK14 mK16 mKB Q14 Q16
    rintro w26_ ⟨K5,K6,K7,K8,K9,K14,K16,KB⟩
    clear K14
    clear K16
    have KX:=(P3.out _ KB).1
    go_wp2_with (refine wl_ rfl 23 rfl w.heap.size rfl KX.1 rfl rfl (by rw [S_ks];rfl) ?_;go_frame)
    refine (BT.out _).mono ?_
    rintro e u_ ⟨rfl,e1⟩
    go_upto_region 30 with fail
    refine jg (fun W=>Ur W g5 200 cx∧Ur W g6 200 c_123∧Ur W g7 200 c_119∧Ur W g8 200 c_125∧Ur W g9 200 c_121∧Below g6 w5_ W) ⟨K5.kept e1 K5.lt,
     K6.kept e1 K6.lt,
     K7.kept e1 K7.lt,
     K8.kept e1 K8.lt,
     K9.kept e1 K9.lt,
     jop KB (e1.mono (jnT K6.lt))⟩ ?_
    clear K5 K6 K7 K8 K9 KB KX e1
    rintro w27_ ⟨K5,K6,K7,K8,K9,KB⟩
    have a1:=zY w27_ (jc zn).toArray 200
    have E_:=yJ (jnQ w27_) (jc zn).toArray 200 (jc c_123).toArray
    go_upto_region 31 with (first
     | (refine wl_ rfl 200 rfl g6 rfl K6 rfl rfl (by rw [S_c_123];rfl) ?_;go_frame)
     | (refine ws_ rfl 200 rfl w27_.heap.size (jc c_123).toArray rfl rfl a1.out (by rw [S_c_123];rfl) (by rw [S_c_123,S_zn]) O_c_123 ?_;simp only [joT]))
    obtain ⟨g21,hg_⟩:∃ g,g=w27_.heap.size:=⟨_,rfl⟩
    have z21:g9 < g21:=by rw [hg_];exact K9.lt
    refine jg (fun W=>Ur W g5 200 cx∧Ur W g6 200 c_123∧Ur W g7 200 c_119∧Ur W g8 200 c_125∧Ur W g9 200 c_121∧Ur W g21 200 c_123∧Below g6 w5_ W) ⟨K5.kept E_ K5.lt,
     K6.kept E_ K6.lt,
     K7.kept E_ K7.lt,
     K8.kept E_ K8.lt,
     K9.kept E_ K9.lt,
     by rw [hg_];exact jpe _ _ _ _ _ _ a1.out,
     jop KB (E_.mono (jnT K6.lt))⟩ ?_
    rw [←hg_]
    clear K5 K6 K7 K8 K9 KB hg_ a1 E_
    rintro w28_ ⟨K5,K6,K7,K8,K9,K21,KB⟩
    go_upto_region 32 with (first
     | (refine wl_ rfl 200 rfl g7 rfl K7 rfl rfl (by rw [S_c_119];rfl) ?_;go_frame)
     | (refine ws_ rfl 200 rfl g6 (jc c_119).toArray rfl rfl K6 (by rw [S_c_119];rfl) (by rw [S_c_119,S_c_123]) O_c_119 ?_;simp only [joT]))
    refine jg (fun W=>Ur W g5 200 cx∧Ur W g6 200 c_119∧Ur W g7 200 c_119∧Ur W g8 200 c_125∧Ur W g9 200 c_121∧Ur W g21 200 c_123∧Below g6 w5_ W) ⟨K5.so (by omega),
     jpe _ _ _ _ _ _ K6,
     K7.so (by omega),
     K8.so (by omega),
     K9.so (by omega),
     K21.so (by omega),
     jpd KB (by omega) _⟩ ?_
    clear K5 K6 K7 K8 K9 K21 KB
    rintro w29_ ⟨K5,K6,K7,K8,K9,K21,KB⟩
    go_upto_region 33 with (first
     | (refine wl_ rfl 200 rfl g21 rfl K21 rfl rfl (by rw [S_c_123];rfl) ?_;go_frame)
     | (refine ws_ rfl 200 rfl g7 (jc c_123).toArray rfl rfl K7 (by rw [S_c_123];rfl) (by rw [S_c_123,S_c_119]) O_c_123 ?_;simp only [joT]))
    refine jg (fun W=>Ur W g5 200 cx∧Ur W g6 200 c_119∧Ur W g7 200 c_123∧Ur W g8 200 c_125∧Ur W g9 200 c_121∧Ur W g21 200 c_123∧Below g6 w5_ W) ⟨K5.so (by omega),
     K6.so (by omega),
     jpe _ _ _ _ _ _ K7,
     K8.so (by omega),
     K9.so (by omega),
     K21.so (by omega),
     jpd KB (by omega) _⟩ ?_
    clear K5 K6 K7 K8 K9 K21 KB
    rintro w30_ ⟨K5,K6,K7,K8,K9,K21,KB⟩
    go_upto_region 34 with (first
     | (refine wl_ rfl 200 rfl g8 rfl K8 rfl rfl (by rw [S_c_125];rfl) ?_;go_frame)
     | (refine ws_ rfl 200 rfl g21 (jc c_125).toArray rfl rfl K21 (by rw [S_c_125];rfl) (by rw [S_c_125,S_c_123]) O_c_125 ?_;simp only [joT]))
    refine jg (fun W=>Ur W g5 200 cx∧Ur W g6 200 c_119∧Ur W g7 200 c_123∧Ur W g8 200 c_125∧Ur W g9 200 c_121∧Ur W g21 200 c_125∧Below g6 w5_ W) ⟨K5.so (by omega),
     K6.so (by omega),
     K7.so (by omega),
     K8.so (by omega),
     K9.so (by omega),
     jpe _ _ _ _ _ _ K21,
     jpd KB (by omega) _⟩ ?_
    clear K5 K6 K7 K8 K9 K21 KB
    rintro w31_ ⟨K5,K6,K7,K8,K9,K21,KB⟩
    go_upto_region 35 with (first
     | (refine wl_ rfl 200 rfl g9 rfl K9 rfl rfl (by rw [S_c_121];rfl) ?_;go_frame)
     | (refine ws_ rfl 200 rfl g8 (jc c_121).toArray rfl rfl K8 (by rw [S_c_121];rfl) (by rw [S_c_121,S_c_125]) O_c_121 ?_;simp only [joT]))
    refine jg (fun W=>Ur W g5 200 cx∧Ur W g6 200 c_119∧Ur W g7 200 c_123∧Ur W g8 200 c_121∧Ur W g9 200 c_121∧Ur W g21 200 c_125∧Below g6 w5_ W) ⟨K5.so (by omega),
     K6.so (by omega),
     K7.so (by omega),
     jpe _ _ _ _ _ _ K8,
     K9.so (by omega),
     K21.so (by omega),
     jpd KB (by omega) _⟩ ?_
    clear K5 K6 K7 K8 K9 K21 KB
    rintro w32_ ⟨K5,K6,K7,K8,K9,K21,KB⟩
    go_wp2_with (first
     | (refine wl_ rfl 200 rfl g21 rfl K21 rfl rfl (by rw [S_c_125];rfl) ?_;go_frame)
     | (refine ws_ rfl 200 rfl g9 (jc c_125).toArray rfl rfl K9 (by rw [S_c_125];rfl) (by rw [S_c_125,S_c_121]) O_c_125 ?_;simp only [joT]))
    have NX:S (m+1)=(v_120,v_124,v_122,v_126):=by
     rw [S1m.out ()]
     replace hv_102:=hv_102.out ()
     replace hv_104:=hv_104.out ()
     replace hv_106:=hv_106.out ()
     replace hv_108:=hv_108.out ()
     replace hv_110:=hv_110.out ()
     replace hv_112:=hv_112.out ()
     replace hv_114:=hv_114.out ()
     replace hv_116:=hv_116.out ()
     replace hv_118:=hv_118.out ()
     replace hv_120:=hv_120.out ()
     replace hv_122:=hv_122.out ()
     replace hv_124:=hv_124.out ()
     replace hv_126:=hv_126.out ()
     subst hv_126 hv_124 hv_122 hv_120 hv_118 hv_116 hv_114 hv_112 hv_110 hv_108 hv_106 hv_104 hv_102
     rw [jfK x]
     rfl
    exact ⟨⟨m+1,c_119,c_123,c_121,c_125,hm1.out,by rw [←hbn1.out],K6.so (by omega),
     K7.so (by omega),
     K8.so (by omega),
     jpe _ _ _ _ _ _ K9,by rw [NX];exact n_119,by rw [NX];exact n_123,by rw [NX];exact n_121,by rw [NX];exact n_125,jpd KB (by omega) _⟩,by simp [intOf];omega⟩
   ·rw [hbt] at BT S1m
    clear hbt
    have KX:=(P3.out _ KB).1
    go_wp2_with (refine wl_ rfl 23 rfl w.heap.size rfl KX.1 rfl rfl (by rw [S_ks];rfl) ?_;go_frame)
    refine (BT.out _).mono ?_
    rintro e u_ ⟨rfl,e1⟩
    go_upto_region 16 with fail
    refine jg (fun W=>Ur W g5 200 cx∧Ur W g6 200 c6∧Ur W g7 200 c7∧Ur W g8 200 c8∧Ur W g9 200 c9∧Below g6 w5_ W) ⟨K5.kept e1 K5.lt,
     K6.kept e1 K6.lt,
     K7.kept e1 K7.lt,
     K8.kept e1 K8.lt,
     K9.kept e1 K9.lt,
     jop KB (e1.mono (jnT K6.lt))⟩ ?_
    clear K5 K6 K7 K8 K9 KB KX e1
    rintro w7_ ⟨K5,K6,K7,K8,K9,KB⟩
    go_wp2_with (first
     | (refine wl_ rfl 200 rfl g6 rfl K6 rfl rfl (by rw [S_c6];rfl) ?_;go_frame)
     | (refine wl_ rfl 200 rfl g8 rfl K8 rfl rfl (by rw [S_c8];rfl) ?_;go_frame))
    refine (yo n6 n8).mono ?_
    rintro e u_ ⟨c_201,n_201,rfl,e1⟩
    obtain ⟨v_202,hv_202⟩:∃ v,v=jnw va vc:=⟨_,rfl⟩
    rw [←hv_202] at n_201
    replace hv_202:=Hj (fun _:Unit=>hv_202)
    have S_c_201:=jnE n_201.len
    have O_c_201:=jw c_201
    have a1:=zY u_ (jc zn).toArray 200
    have E_:=yJ e1 (jc zn).toArray 200 (jc c_201).toArray
    go_upto_region 17 with (first
     | (refine ws_ rfl 200 rfl u_.heap.size (jc c_201).toArray rfl rfl a1.out (by rw [S_c_201];rfl) (by rw [S_c_201,S_zn]) O_c_201 ?_;simp only [joT]))
    obtain ⟨g12,hg_⟩:∃ g,g=u_.heap.size:=⟨_,rfl⟩
    have z12:g9 < g12:=by rw [hg_];exact jos K9.lt e1.size
    refine jg (fun W=>Ur W g5 200 cx∧Ur W g6 200 c6∧Ur W g7 200 c7∧Ur W g8 200 c8∧Ur W g9 200 c9∧Ur W g12 200 c_201∧Below g6 w5_ W) ⟨K5.kept E_ K5.lt,
     K6.kept E_ K6.lt,
     K7.kept E_ K7.lt,
     K8.kept E_ K8.lt,
     K9.kept E_ K9.lt,
     by rw [hg_];exact jpe _ _ _ _ _ _ a1.out,
     jop KB (E_.mono (jnT K6.lt))⟩ ?_
    rw [←hg_]
    clear K5 K6 K7 K8 K9 KB hg_ a1 E_ e1
    rintro w8_ ⟨K5,K6,K7,K8,K9,K12,KB⟩
    go_wp2_with (first
     | (refine wl_ rfl 200 rfl g6 rfl K6 rfl rfl (by rw [S_c6];rfl) ?_;go_frame)
     | (refine wl_ rfl 200 rfl g8 rfl K8 rfl rfl (by rw [S_c8];rfl) ?_;go_frame))
    refine (yp n6 n8).mono ?_
    rintro e u_ ⟨c_203,n_203,rfl,e1⟩
    obtain ⟨v_204,hv_204⟩:∃ v,v=zO va vc:=⟨_,rfl⟩
    rw [←hv_204] at n_203
    replace hv_204:=Hj (fun _:Unit=>hv_204)
    have S_c_203:=jnE n_203.len
    have O_c_203:=jw c_203
    have a1:=zY u_ (jc zn).toArray 200
    have E_:=yJ e1 (jc zn).toArray 200 (jc c_203).toArray
    go_upto_region 18 with (first
     | (refine ws_ rfl 200 rfl u_.heap.size (jc c_203).toArray rfl rfl a1.out (by rw [S_c_203];rfl) (by rw [S_c_203,S_zn]) O_c_203 ?_;simp only [joT]))
    obtain ⟨g13,hg_⟩:∃ g,g=u_.heap.size:=⟨_,rfl⟩
    have z13:g9 < g13:=by rw [hg_];exact jos K9.lt e1.size
    refine jg (fun W=>Ur W g5 200 cx∧Ur W g6 200 c6∧Ur W g7 200 c7∧Ur W g8 200 c8∧Ur W g9 200 c9∧Ur W g12 200 c_201∧Ur W g13 200 c_203∧Below g6 w5_ W) ⟨K5.kept E_ K5.lt,
     K6.kept E_ K6.lt,
     K7.kept E_ K7.lt,
     K8.kept E_ K8.lt,
     K9.kept E_ K9.lt,
     K12.kept E_ K12.lt,
     by rw [hg_];exact jpe _ _ _ _ _ _ a1.out,
     jop KB (E_.mono (jnT K6.lt))⟩ ?_
    rw [←hg_]
    clear K5 K6 K7 K8 K9 K12 KB hg_ a1 E_ e1
    rintro w9_ ⟨K5,K6,K7,K8,K9,K12,K13,KB⟩
    go_wp2_with (first
     | (refine wl_ rfl 200 rfl g12 rfl K12 rfl rfl (by rw [S_c_201];rfl) ?_;go_frame))
    refine (j9 n_201 n_201).mono ?_
    rintro e u_ ⟨c_205,n_205,rfl,e1⟩
    obtain ⟨v_206,hv_206⟩:∃ v,v=qs v_202 v_202:=⟨_,rfl⟩
    rw [←hv_206] at n_205
    replace hv_206:=Hj (fun _:Unit=>hv_206)
    have S_c_205:=jnE n_205.len
    have O_c_205:=jw c_205
    have a1:=zY u_ (jc zn).toArray 200
    have E_:=yJ e1 (jc zn).toArray 200 (jc c_205).toArray
    go_upto_region 19 with (first
     | (refine ws_ rfl 200 rfl u_.heap.size (jc c_205).toArray rfl rfl a1.out (by rw [S_c_205];rfl) (by rw [S_c_205,S_zn]) O_c_205 ?_;simp only [joT]))
    obtain ⟨g14,hg_⟩:∃ g,g=u_.heap.size:=⟨_,rfl⟩
    have z14:g9 < g14:=by rw [hg_];exact jos K9.lt e1.size
    refine jg (fun W=>Ur W g5 200 cx∧Ur W g6 200 c6∧Ur W g7 200 c7∧Ur W g8 200 c8∧Ur W g9 200 c9∧Ur W g12 200 c_201∧Ur W g13 200 c_203∧Ur W g14 200 c_205∧Below g6 w5_ W) ⟨K5.kept E_ K5.lt,
     K6.kept E_ K6.lt,
     K7.kept E_ K7.lt,
     K8.kept E_ K8.lt,
     K9.kept E_ K9.lt,
     K12.kept E_ K12.lt,
     K13.kept E_ K13.lt,
     by rw [hg_];exact jpe _ _ _ _ _ _ a1.out,
     jop KB (E_.mono (jnT K6.lt))⟩ ?_
    rw [←hg_]
    clear K5 K6 K7 K8 K9 K12 K13 KB hg_ a1 E_ e1
    rintro w10_ ⟨K5,K6,K7,K8,K9,K12,K13,K14,KB⟩
    go_wp2_with (first
     | (refine wl_ rfl 200 rfl g13 rfl K13 rfl rfl (by rw [S_c_203];rfl) ?_;go_frame))
    refine (j9 n_203 n_203).mono ?_
    rintro e u_ ⟨c_207,n_207,rfl,e1⟩
    obtain ⟨v_208,hv_208⟩:∃ v,v=qs v_204 v_204:=⟨_,rfl⟩
    rw [←hv_208] at n_207
    replace hv_208:=Hj (fun _:Unit=>hv_208)
    have S_c_207:=jnE n_207.len
    have O_c_207:=jw c_207
    have a1:=zY u_ (jc zn).toArray 200
    have E_:=yJ e1 (jc zn).toArray 200 (jc c_207).toArray
    go_upto_region 20 with (first
     | (refine ws_ rfl 200 rfl u_.heap.size (jc c_207).toArray rfl rfl a1.out (by rw [S_c_207];rfl) (by rw [S_c_207,S_zn]) O_c_207 ?_;simp only [joT]))
    obtain ⟨g15,hg_⟩:∃ g,g=u_.heap.size:=⟨_,rfl⟩
    have z15:g9 < g15:=by rw [hg_];exact jos K9.lt e1.size
    refine jg (fun W=>Ur W g5 200 cx∧Ur W g6 200 c6∧Ur W g7 200 c7∧Ur W g8 200 c8∧Ur W g9 200 c9∧Ur W g12 200 c_201∧Ur W g13 200 c_203∧Ur W g14 200 c_205∧Ur W g15 200 c_207∧Below g6 w5_ W) ⟨K5.kept E_ K5.lt,
     K6.kept E_ K6.lt,
     K7.kept E_ K7.lt,
     K8.kept E_ K8.lt,
     K9.kept E_ K9.lt,
     K12.kept E_ K12.lt,
     K13.kept E_ K13.lt,
     K14.kept E_ K14.lt,
     by rw [hg_];exact jpe _ _ _ _ _ _ a1.out,
     jop KB (E_.mono (jnT K6.lt))⟩ ?_
    rw [←hg_]
    clear K5 K6 K7 K8 K9 K12 K13 K14 KB hg_ a1 E_ e1
    rintro w11_ ⟨K5,K6,K7,K8,K9,K12,K13,K14,K15,KB⟩
    go_wp2_with (first
     | (refine wl_ rfl 200 rfl g14 rfl K14 rfl rfl (by rw [S_c_205];rfl) ?_;go_frame)
     | (refine wl_ rfl 200 rfl g15 rfl K15 rfl rfl (by rw [S_c_207];rfl) ?_;go_frame))
    refine (yp n_205 n_207).mono ?_
    rintro e u_ ⟨c_209,n_209,rfl,e1⟩
    obtain ⟨v_210,hv_210⟩:∃ v,v=zO v_206 v_208:=⟨_,rfl⟩
    rw [←hv_210] at n_209
    replace hv_210:=Hj (fun _:Unit=>hv_210)
    have S_c_209:=jnE n_209.len
    have O_c_209:=jw c_209
    have a1:=zY u_ (jc zn).toArray 200
    have E_:=yJ e1 (jc zn).toArray 200 (jc c_209).toArray
    go_upto_region 21 with (first
     | (refine ws_ rfl 200 rfl u_.heap.size (jc c_209).toArray rfl rfl a1.out (by rw [S_c_209];rfl) (by rw [S_c_209,S_zn]) O_c_209 ?_;simp only [joT]))
    obtain ⟨g16,hg_⟩:∃ g,g=u_.heap.size:=⟨_,rfl⟩
    have z16:g9 < g16:=by rw [hg_];exact jos K9.lt e1.size
    refine jg (fun W=>Ur W g5 200 cx∧Ur W g6 200 c6∧Ur W g7 200 c7∧Ur W g8 200 c8∧Ur W g9 200 c9∧Ur W g12 200 c_201∧Ur W g13 200 c_203∧Ur W g14 200 c_205∧Ur W g15 200 c_207∧Ur W g16 200 c_209∧Below g6 w5_ W) ⟨K5.kept E_ K5.lt,
     K6.kept E_ K6.lt,
     K7.kept E_ K7.lt,
     K8.kept E_ K8.lt,
     K9.kept E_ K9.lt,
     K12.kept E_ K12.lt,
     K13.kept E_ K13.lt,
     K14.kept E_ K14.lt,
     K15.kept E_ K15.lt,
     by rw [hg_];exact jpe _ _ _ _ _ _ a1.out,
     jop KB (E_.mono (jnT K6.lt))⟩ ?_
    rw [←hg_]
    clear K5 K6 K7 K8 K9 K12 K13 K14 K15 KB hg_ a1 E_ e1
    rintro w12_ ⟨K5,K6,K7,K8,K9,K12,K13,K14,K15,K16,KB⟩
    have Q7:=K7.q
    have Q9:=K9.q
    have Q12:=K12.q
    refine qgF (R:=Ext) jnQ (fun _ _ _=>Ext.trans) [0,1,2,3,4,5] [6] [0,0,3,0,15,0,63] [true,true,true,true,true,true,false] ?_
    refine jq (fun _=>jnQ _) _ rfl (v:= .agg (jc c7).toArray) (d:=57) rfl rfl ?_ ?_
    ·intro a_ w_ hev hR hk
     have e7:a_.eval (.tmp 7)=_:=hk 7 rfl
     exact (jd rfl e7 (Q7.out w_ (Ext.trans (jnQ _).drew hR)) rfl rfl (by rw [S_c7];rfl))
    refine jq (fun _=>jnQ _) _ rfl (v:= .agg (jc c9).toArray) (d:=58) rfl rfl ?_ ?_
    ·intro a_ w_ hev hR hk
     have e9:a_.eval (.tmp 9)=_:=hk 9 rfl
     exact (jd rfl e9 (Q9.out w_ (Ext.trans (jnQ _).drew hR)) rfl rfl (by rw [S_c9];rfl))
    refine jx _ rfl (fun u _=>∃ es,u= .agg (jc es).toArray∧IsN es (zO vb vd)) (d:=59) rfl (fun _ _ _ h _=>h) rfl ?_ ?_
    ·intro a_ w_ hev hR hk K1 hK1
     have e56:a_.eval (.tmp 56)=_:=hk 56 rfl
     have e57:a_.eval (.tmp 57)=_:=hk 57 rfl
     clear hk
     have f56:=jz.trans e56
     have f57:=jz.trans e57
     go_simp
     refine (yp n7 n9).mono ?_
     rintro e_ w2_ ⟨fs_,hf_,rfl,x_⟩
     exact hK1.out _ _ x_ ⟨fs_,rfl,hf_⟩
    refine jq (fun _=>jnQ _) _ rfl (v:= .agg (jc c_201).toArray) (d:=60) rfl rfl ?_ ?_
    ·intro a_ w_ hev hR hk
     have e12:a_.eval (.tmp 12)=_:=hk 12 rfl
     exact (jd rfl e12 (Q12.out w_ (Ext.trans (jnQ _).drew hR)) rfl rfl (by rw [S_c_201];rfl))
    refine jx _ rfl (fun u _=>∃ es,u= .agg (jc es).toArray∧IsN es (qs (zO vb vd) v_202)) (d:=61) rfl (fun _ _ _ h _=>h) rfl ?_ ?_
    ·intro a_ w_ hev hR hk K1 hK1
     obtain ⟨es_58,e58,n58⟩:∃ es,a_.eval (.tmp 58)= .agg (jc es).toArray∧IsN es _:=hk 58 rfl
     have e59:a_.eval (.tmp 59)=_:=hk 59 rfl
     clear hk
     have f58:=jz.trans e58
     have f59:=jz.trans e59
     go_simp
     refine (j9 n58 n_201).mono ?_
     rintro e_ w2_ ⟨fs_,hf_,rfl,x_⟩
     exact hK1.out _ _ x_ ⟨fs_,rfl,hf_⟩
    refine qY _ rfl (fun u w_=>∃ g,u= .pointer (some ⟨g,0,none⟩)∧w12_.drew.heap.size≤g∧w_.heap[g]? =some (.cells (jc zn).toArray 200 (0,0))) (d:=18) rfl (fun _ _ _ h e=>by obtain ⟨g,h1,h2,h3⟩:=h;exact ⟨g,h1,h2,(e.block g (jh h3)).trans h3⟩) rfl (by decide) (fun _ _ h=>by obtain ⟨g,h1,h2,h3⟩:=h;subst h1;exact ⟨g,rfl,jh h3⟩) ?_ ?_
    ·intro a_ w_ hev hR hk K1 hK1
     go_simp
     exact hK1.out _ _ ((jnQ _).alloc _) ⟨_,rfl,hR.size,jps _ _⟩ (fun _ q=>by cases q;exact joq _)
    intro v_ wq_ hR hV_ hN_
    obtain ⟨hv5,hv4,hv3,hv2,hv1,hv0,_⟩:=hV_
    replace hv0:v_ 0=_:=hv0
    replace hv1:v_ 1=_:=hv1
    skip
    replace hv3:v_ 3=_:=hv3
    skip
    skip
    dsimp only [yQ,zv]
    obtain ⟨es_2,hv2,hn_2⟩:=hv2
    obtain ⟨es_4,hv4,hn_4⟩:=hv4
    obtain ⟨g_5,hv5,gb_5,gc_5⟩:=hv5
    clear hN_
    rw [hv0,hv1,hv2,hv3,hv4,hv5]
    go_frame
    clear hv0 hv1 hv2 hv3 hv4 hv5
    generalize es_4=c_211 at *
    have n_211:=hn_4
    clear hn_2 hn_4
    obtain ⟨v_212,hv_212⟩:∃ v,v=qs (zO vb vd) v_202:=⟨_,rfl⟩
    rw [←hv_212] at n_211
    replace hv_212:=Hj (fun _:Unit=>hv_212)
    have S_c_211:=jnE n_211.len
    have O_c_211:=jw c_211
    refine qi (z:=6) _ rfl rfl (by kernel_rfl) ?_
    intro K1 hK1
    refine joe _ _ _ rfl g_5 (jc c_211).toArray rfl rfl 200 (jc zn).toArray gc_5 (by rw [S_c_211];rfl) (by rw [S_c_211,S_zn]) O_c_211 ?_
    refine hK1.out _ _ ?_
    clear hK1 K1
    refine qT (by kernel_rfl) ?_
    have z17:g9 < g_5:=jos K9.lt gb_5
    have E_:Ext w12_ (wq_.setRow g_5 (jc c_211).toArray):=jpd ((jnQ w12_).drew.trans hR) gb_5 _
    refine yf (fun W=>Ur W g5 200 cx∧Ur W g6 200 c6∧Ur W g7 200 c7∧Ur W g8 200 c8∧Ur W g9 200 c9∧Ur W g12 200 c_201∧Ur W g13 200 c_203∧Ur W g14 200 c_205∧Ur W g15 200 c_207∧Ur W g16 200 c_209∧Ur W g_5 200 c_211∧Below g6 w5_ W) ⟨K5.kept E_ K5.lt,
     K6.kept E_ K6.lt,
     K7.kept E_ K7.lt,
     K8.kept E_ K8.lt,
     K9.kept E_ K9.lt,
     K12.kept E_ K12.lt,
     K13.kept E_ K13.lt,
     K14.kept E_ K14.lt,
     K15.kept E_ K15.lt,
     K16.kept E_ K16.lt,
     jpe _ _ _ _ _ _ gc_5,
     jop KB (E_.mono (jnT K6.lt))⟩ ?_
    clear K5 K6 K7 K8 K9 K12 K13 K14 K15 K16 KB E_ hR gc_5 gb_5 Q7 Q9 Q12
    rintro w13_ ⟨K5,K6,K7,K8,K9,K12,K13,K14,K15,K16,K17,KB⟩
    generalize g_5=g17 at *
    go_upto_region 22 with fail
    have Q7:=K7.q
    have Q9:=K9.q
    have Q13:=K13.q
    refine qgF (R:=Ext) jnQ (fun _ _ _=>Ext.trans) [0,1,2,3,4,5] [6] [0,0,3,0,15,0,63] [true,true,true,true,true,true,false] ?_
    refine jq (fun _=>jnQ _) _ rfl (v:= .agg (jc c7).toArray) (d:=62) rfl rfl ?_ ?_
    ·intro a_ w_ hev hR hk
     have e7:a_.eval (.tmp 7)=_:=hk 7 rfl
     exact (jd rfl e7 (Q7.out w_ (Ext.trans (jnQ _).drew hR)) rfl rfl (by rw [S_c7];rfl))
    refine jq (fun _=>jnQ _) _ rfl (v:= .agg (jc c9).toArray) (d:=63) rfl rfl ?_ ?_
    ·intro a_ w_ hev hR hk
     have e9:a_.eval (.tmp 9)=_:=hk 9 rfl
     exact (jd rfl e9 (Q9.out w_ (Ext.trans (jnQ _).drew hR)) rfl rfl (by rw [S_c9];rfl))
    refine jx _ rfl (fun u _=>∃ es,u= .agg (jc es).toArray∧IsN es (jnw vb vd)) (d:=64) rfl (fun _ _ _ h _=>h) rfl ?_ ?_
    ·intro a_ w_ hev hR hk K1 hK1
     have e61:a_.eval (.tmp 61)=_:=hk 61 rfl
     have e62:a_.eval (.tmp 62)=_:=hk 62 rfl
     clear hk
     have f61:=jz.trans e61
     have f62:=jz.trans e62
     go_simp
     refine (yo n7 n9).mono ?_
     rintro e_ w2_ ⟨fs_,hf_,rfl,x_⟩
     exact hK1.out _ _ x_ ⟨fs_,rfl,hf_⟩
    refine jq (fun _=>jnQ _) _ rfl (v:= .agg (jc c_203).toArray) (d:=65) rfl rfl ?_ ?_
    ·intro a_ w_ hev hR hk
     have e13:a_.eval (.tmp 13)=_:=hk 13 rfl
     exact (jd rfl e13 (Q13.out w_ (Ext.trans (jnQ _).drew hR)) rfl rfl (by rw [S_c_203];rfl))
    refine jx _ rfl (fun u _=>∃ es,u= .agg (jc es).toArray∧IsN es (qs (jnw vb vd) v_204)) (d:=66) rfl (fun _ _ _ h _=>h) rfl ?_ ?_
    ·intro a_ w_ hev hR hk K1 hK1
     obtain ⟨es_63,e63,n63⟩:∃ es,a_.eval (.tmp 63)= .agg (jc es).toArray∧IsN es _:=hk 63 rfl
     have e64:a_.eval (.tmp 64)=_:=hk 64 rfl
     clear hk
     have f63:=jz.trans e63
     have f64:=jz.trans e64
     go_simp
     refine (j9 n63 n_203).mono ?_
     rintro e_ w2_ ⟨fs_,hf_,rfl,x_⟩
     exact hK1.out _ _ x_ ⟨fs_,rfl,hf_⟩
    refine qY _ rfl (fun u w_=>∃ g,u= .pointer (some ⟨g,0,none⟩)∧w13_.drew.heap.size≤g∧w_.heap[g]? =some (.cells (jc zn).toArray 200 (0,0))) (d:=19) rfl (fun _ _ _ h e=>by obtain ⟨g,h1,h2,h3⟩:=h;exact ⟨g,h1,h2,(e.block g (jh h3)).trans h3⟩) rfl (by decide) (fun _ _ h=>by obtain ⟨g,h1,h2,h3⟩:=h;subst h1;exact ⟨g,rfl,jh h3⟩) ?_ ?_
    ·intro a_ w_ hev hR hk K1 hK1
     go_simp
     exact hK1.out _ _ ((jnQ _).alloc _) ⟨_,rfl,hR.size,jps _ _⟩ (fun _ q=>by cases q;exact joq _)
    intro v_ wq_ hR hV_ hN_
    obtain ⟨hv5,hv4,hv3,hv2,hv1,hv0,_⟩:=hV_
    replace hv0:v_ 0=_:=hv0
    replace hv1:v_ 1=_:=hv1
    skip
    replace hv3:v_ 3=_:=hv3
    skip
    skip
    dsimp only [yQ,zv]
    obtain ⟨es_2,hv2,hn_2⟩:=hv2
    obtain ⟨es_4,hv4,hn_4⟩:=hv4
    obtain ⟨g_5,hv5,gb_5,gc_5⟩:=hv5
    clear hN_
    rw [hv0,hv1,hv2,hv3,hv4,hv5]
    go_frame
    clear hv0 hv1 hv2 hv3 hv4 hv5
    generalize es_4=c_213 at *
    have n_213:=hn_4
    clear hn_2 hn_4
    obtain ⟨v_214,hv_214⟩:∃ v,v=qs (jnw vb vd) v_204:=⟨_,rfl⟩
    rw [←hv_214] at n_213
    replace hv_214:=Hj (fun _:Unit=>hv_214)
    have S_c_213:=jnE n_213.len
    have O_c_213:=jw c_213
    refine qi (z:=6) _ rfl rfl (by kernel_rfl) ?_
    intro K1 hK1
    refine joe _ _ _ rfl g_5 (jc c_213).toArray rfl rfl 200 (jc zn).toArray gc_5 (by rw [S_c_213];rfl) (by rw [S_c_213,S_zn]) O_c_213 ?_
    refine hK1.out _ _ ?_
    clear hK1 K1
    refine qT (by kernel_rfl) ?_
    have z18:g9 < g_5:=jos K9.lt gb_5
    have E_:Ext w13_ (wq_.setRow g_5 (jc c_213).toArray):=jpd ((jnQ w13_).drew.trans hR) gb_5 _
    refine yf (fun W=>Ur W g5 200 cx∧Ur W g6 200 c6∧Ur W g7 200 c7∧Ur W g8 200 c8∧Ur W g9 200 c9∧Ur W g12 200 c_201∧Ur W g13 200 c_203∧Ur W g14 200 c_205∧Ur W g15 200 c_207∧Ur W g16 200 c_209∧Ur W g17 200 c_211∧Ur W g_5 200 c_213∧Below g6 w5_ W) ⟨K5.kept E_ K5.lt,
     K6.kept E_ K6.lt,
     K7.kept E_ K7.lt,
     K8.kept E_ K8.lt,
     K9.kept E_ K9.lt,
     K12.kept E_ K12.lt,
     K13.kept E_ K13.lt,
     K14.kept E_ K14.lt,
     K15.kept E_ K15.lt,
     K16.kept E_ K16.lt,
     K17.kept E_ K17.lt,
     jpe _ _ _ _ _ _ gc_5,
     jop KB (E_.mono (jnT K6.lt))⟩ ?_
    clear K5 K6 K7 K8 K9 K12 K13 K14 K15 K16 K17 KB E_ hR gc_5 gb_5 Q7 Q9 Q13
    rintro w14_ ⟨K5,K6,K7,K8,K9,K12,K13,K14,K15,K16,K17,K18,KB⟩
    generalize g_5=g18 at *
    clear K12
    clear K13
    go_wp2_with (first
     | (refine wl_ rfl 200 rfl g17 rfl K17 rfl rfl (by rw [S_c_211];rfl) ?_;go_frame)
     | (refine wl_ rfl 200 rfl g18 rfl K18 rfl rfl (by rw [S_c_213];rfl) ?_;go_frame))
    refine (yo n_211 n_213).mono ?_
    rintro e u_ ⟨c_215,n_215,rfl,e1⟩
    obtain ⟨v_216,hv_216⟩:∃ v,v=jnw v_212 v_214:=⟨_,rfl⟩
    rw [←hv_216] at n_215
    replace hv_216:=Hj (fun _:Unit=>hv_216)
    have S_c_215:=jnE n_215.len
    have O_c_215:=jw c_215
    have a1:=zY u_ (jc zn).toArray 200
    have E_:=yJ e1 (jc zn).toArray 200 (jc c_215).toArray
    go_upto_region 24 with (first
     | (refine ws_ rfl 200 rfl u_.heap.size (jc c_215).toArray rfl rfl a1.out (by rw [S_c_215];rfl) (by rw [S_c_215,S_zn]) O_c_215 ?_;simp only [joT]))
    obtain ⟨g19,hg_⟩:∃ g,g=u_.heap.size:=⟨_,rfl⟩
    have z19:g9 < g19:=by rw [hg_];exact jos K9.lt e1.size
    refine jg (fun W=>Ur W g5 200 cx∧Ur W g6 200 c6∧Ur W g7 200 c7∧Ur W g8 200 c8∧Ur W g9 200 c9∧Ur W g14 200 c_205∧Ur W g15 200 c_207∧Ur W g16 200 c_209∧Ur W g17 200 c_211∧Ur W g18 200 c_213∧Ur W g19 200 c_215∧Below g6 w5_ W) ⟨K5.kept E_ K5.lt,
     K6.kept E_ K6.lt,
     K7.kept E_ K7.lt,
     K8.kept E_ K8.lt,
     K9.kept E_ K9.lt,
     K14.kept E_ K14.lt,
     K15.kept E_ K15.lt,
     K16.kept E_ K16.lt,
     K17.kept E_ K17.lt,
     K18.kept E_ K18.lt,
     by rw [hg_];exact jpe _ _ _ _ _ _ a1.out,
     jop KB (E_.mono (jnT K6.lt))⟩ ?_
    rw [←hg_]
    clear K5 K6 K7 K8 K9 K14 K15 K16 K17 K18 KB hg_ a1 E_ e1
    rintro w15_ ⟨K5,K6,K7,K8,K9,K14,K15,K16,K17,K18,K19,KB⟩
    go_wp2_with (first
     | (refine wl_ rfl 200 rfl g17 rfl K17 rfl rfl (by rw [S_c_211];rfl) ?_;go_frame)
     | (refine wl_ rfl 200 rfl g18 rfl K18 rfl rfl (by rw [S_c_213];rfl) ?_;go_frame))
    refine (yp n_211 n_213).mono ?_
    rintro e u_ ⟨c_217,n_217,rfl,e1⟩
    obtain ⟨v_218,hv_218⟩:∃ v,v=zO v_212 v_214:=⟨_,rfl⟩
    rw [←hv_218] at n_217
    replace hv_218:=Hj (fun _:Unit=>hv_218)
    have S_c_217:=jnE n_217.len
    have O_c_217:=jw c_217
    have a1:=zY u_ (jc zn).toArray 200
    have E_:=yJ e1 (jc zn).toArray 200 (jc c_217).toArray
    go_upto_region 25 with (first
     | (refine ws_ rfl 200 rfl u_.heap.size (jc c_217).toArray rfl rfl a1.out (by rw [S_c_217];rfl) (by rw [S_c_217,S_zn]) O_c_217 ?_;simp only [joT]))
    obtain ⟨g20,hg_⟩:∃ g,g=u_.heap.size:=⟨_,rfl⟩
    have z20:g9 < g20:=by rw [hg_];exact jos K9.lt e1.size
    refine jg (fun W=>Ur W g5 200 cx∧Ur W g6 200 c6∧Ur W g7 200 c7∧Ur W g8 200 c8∧Ur W g9 200 c9∧Ur W g14 200 c_205∧Ur W g15 200 c_207∧Ur W g16 200 c_209∧Ur W g17 200 c_211∧Ur W g18 200 c_213∧Ur W g19 200 c_215∧Ur W g20 200 c_217∧Below g6 w5_ W) ⟨K5.kept E_ K5.lt,
     K6.kept E_ K6.lt,
     K7.kept E_ K7.lt,
     K8.kept E_ K8.lt,
     K9.kept E_ K9.lt,
     K14.kept E_ K14.lt,
     K15.kept E_ K15.lt,
     K16.kept E_ K16.lt,
     K17.kept E_ K17.lt,
     K18.kept E_ K18.lt,
     K19.kept E_ K19.lt,
     by rw [hg_];exact jpe _ _ _ _ _ _ a1.out,
     jop KB (E_.mono (jnT K6.lt))⟩ ?_
    rw [←hg_]
    clear K5 K6 K7 K8 K9 K14 K15 K16 K17 K18 K19 KB hg_ a1 E_ e1
    rintro w16_ ⟨K5,K6,K7,K8,K9,K14,K15,K16,K17,K18,K19,K20,KB⟩
    clear K17
    clear K18
    go_wp2_with (first
     | (refine wl_ rfl 200 rfl g19 rfl K19 rfl rfl (by rw [S_c_215];rfl) ?_;go_frame))
    refine (j9 n_215 n_215).mono ?_
    rintro e u_ ⟨c_219,n_219,rfl,e1⟩
    obtain ⟨v_220,hv_220⟩:∃ v,v=qs v_216 v_216:=⟨_,rfl⟩
    rw [←hv_220] at n_219
    replace hv_220:=Hj (fun _:Unit=>hv_220)
    have S_c_219:=jnE n_219.len
    have O_c_219:=jw c_219
    have mK5:=K5.kept e1 K5.lt
    have mK6:=K6.kept e1 K6.lt
    have mK7:=K7.kept e1 K7.lt
    have mK8:=K8.kept e1 K8.lt
    have mK9:=K9.kept e1 K9.lt
    have mK14:=K14.kept e1 K14.lt
    have mK15:=K15.kept e1 K15.lt
    have mK16:=K16.kept e1 K16.lt
    have mK19:=K19.kept e1 K19.lt
    have mK20:=K20.kept e1 K20.lt
    have mKB:=jop KB (e1.mono (jnT K6.lt))
    go_upto_region 26 with (first
     | (refine ws_ rfl 200 rfl g7 (jc c_219).toArray rfl rfl mK7 (by rw [S_c_219];rfl) (by rw [S_c_219,S_c7]) O_c_219 ?_;simp only [joT]))
    refine jg (fun W=>Ur W g5 200 cx∧Ur W g6 200 c6∧Ur W g7 200 c_219∧Ur W g8 200 c8∧Ur W g9 200 c9∧Ur W g14 200 c_205∧Ur W g15 200 c_207∧Ur W g16 200 c_209∧Ur W g19 200 c_215∧Ur W g20 200 c_217∧Below g6 w5_ W) ⟨mK5.so (by omega),
     mK6.so (by omega),
     jpe _ _ _ _ _ _ mK7,
     mK8.so (by omega),
     mK9.so (by omega),
     mK14.so (by omega),
     mK15.so (by omega),
     mK16.so (by omega),
     mK19.so (by omega),
     mK20.so (by omega),
     jpd mKB (by omega) _⟩ ?_
    clear K5 K6 K7 K8 K9 K14 K15 K16 K19 K20 KB e1 mK5 mK6 mK7 mK8 mK9 mK14 mK15 mK16 mK19 mK20 mKB
    rintro w17_ ⟨K5,K6,K7,K8,K9,K14,K15,K16,K19,K20,KB⟩
    clear K19
    have Q5:=K5.q
    have Q20:=K20.q
    refine qgF (R:=Ext) jnQ (fun _ _ _=>Ext.trans) [0,1,2,3,4] [5] [0,0,0,6,15,31] [true,true,true,true,true,false] ?_
    refine jq (fun _=>jnQ _) _ rfl (v:= .agg (jc cx).toArray) (d:=76) rfl rfl ?_ ?_
    ·intro a_ w_ hev hR hk
     have e5:a_.eval (.tmp 5)=_:=hk 5 rfl
     exact (jd rfl e5 (Q5.out w_ (Ext.trans (jnQ _).drew hR)) rfl rfl (by rw [S_cx];rfl))
    refine jq (fun _=>jnQ _) _ rfl (v:= .agg (jc c_217).toArray) (d:=77) rfl rfl ?_ ?_
    ·intro a_ w_ hev hR hk
     have e20:a_.eval (.tmp 20)=_:=hk 20 rfl
     exact (jd rfl e20 (Q20.out w_ (Ext.trans (jnQ _).drew hR)) rfl rfl (by rw [S_c_217];rfl))
    refine jq (fun _=>jnQ _) _ rfl (v:= .agg (jc c_217).toArray) (d:=78) rfl rfl ?_ ?_
    ·intro a_ w_ hev hR hk
     have e20:a_.eval (.tmp 20)=_:=hk 20 rfl
     exact (jd rfl e20 (Q20.out w_ (Ext.trans (jnQ _).drew hR)) rfl rfl (by rw [S_c_217];rfl))
    refine jx _ rfl (fun u _=>∃ es,u= .agg (jc es).toArray∧IsN es (qs v_218 v_218)) (d:=79) rfl (fun _ _ _ h _=>h) rfl ?_ ?_
    ·intro a_ w_ hev hR hk K1 hK1
     have e76:a_.eval (.tmp 76)=_:=hk 76 rfl
     have e77:a_.eval (.tmp 77)=_:=hk 77 rfl
     clear hk
     have f76:=jz.trans e76
     have f77:=jz.trans e77
     go_simp
     refine (j9 n_217 n_217).mono ?_
     rintro e_ w2_ ⟨fs_,hf_,rfl,x_⟩
     exact hK1.out _ _ x_ ⟨fs_,rfl,hf_⟩
    refine jx _ rfl (fun u _=>∃ es,u= .agg (jc es).toArray∧IsN es (qs x (qs v_218 v_218))) (d:=80) rfl (fun _ _ _ h _=>h) rfl ?_ ?_
    ·intro a_ w_ hev hR hk K1 hK1
     have e75:a_.eval (.tmp 75)=_:=hk 75 rfl
     obtain ⟨es_78,e78,n78⟩:∃ es,a_.eval (.tmp 78)= .agg (jc es).toArray∧IsN es _:=hk 78 rfl
     clear hk
     have f75:=jz.trans e75
     have f78:=jz.trans e78
     go_simp
     refine (j9 n_cx n78).mono ?_
     rintro e_ w2_ ⟨fs_,hf_,rfl,x_⟩
     exact hK1.out _ _ x_ ⟨fs_,rfl,hf_⟩
    intro v_ wq_ hR hV_ hN_
    obtain ⟨hv4,hv3,hv2,hv1,hv0,_⟩:=hV_
    replace hv0:v_ 0=_:=hv0
    replace hv1:v_ 1=_:=hv1
    replace hv2:v_ 2=_:=hv2
    skip
    skip
    dsimp only [yQ,zv]
    obtain ⟨es_3,hv3,hn_3⟩:=hv3
    obtain ⟨es_4,hv4,hn_4⟩:=hv4
    clear hN_
    rw [hv0,hv1,hv2,hv3,hv4]
    go_frame
    clear hv0 hv1 hv2 hv3 hv4
    generalize es_4=c_221 at *
    have n_221:=hn_4
    clear hn_3 hn_4
    obtain ⟨v_222,hv_222⟩:∃ v,v=qs x (qs v_218 v_218):=⟨_,rfl⟩
    rw [←hv_222] at n_221
    replace hv_222:=Hj (fun _:Unit=>hv_222)
    have S_c_221:=jnE n_221.len
    have O_c_221:=jw c_221
    have mm_:=K9.kept ((jnQ w17_).drew.trans hR) K9.lt
    refine qi (z:=5) _ rfl rfl (by kernel_rfl) ?_
    intro K1 hK1
    refine joe _ _ _ rfl g9 (jc c_221).toArray rfl rfl 200 (jc c9).toArray mm_ (by rw [S_c_221];rfl) (by rw [S_c_221,S_c9]) O_c_221 ?_
    refine hK1.out _ _ ?_
    clear hK1 K1
    refine qT (by kernel_rfl) ?_
    have mK5:=K5.kept ((jnQ w17_).drew.trans hR) K5.lt
    have mK6:=K6.kept ((jnQ w17_).drew.trans hR) K6.lt
    have mK7:=K7.kept ((jnQ w17_).drew.trans hR) K7.lt
    have mK8:=K8.kept ((jnQ w17_).drew.trans hR) K8.lt
    have mK9:=K9.kept ((jnQ w17_).drew.trans hR) K9.lt
    have mK14:=K14.kept ((jnQ w17_).drew.trans hR) K14.lt
    have mK15:=K15.kept ((jnQ w17_).drew.trans hR) K15.lt
    have mK16:=K16.kept ((jnQ w17_).drew.trans hR) K16.lt
    have mK20:=K20.kept ((jnQ w17_).drew.trans hR) K20.lt
    have mKB:=jop KB (((jnQ w17_).drew.trans hR).mono (jnT K6.lt))
    refine yf (fun W=>Ur W g5 200 cx∧Ur W g6 200 c6∧Ur W g7 200 c_219∧Ur W g8 200 c8∧Ur W g9 200 c_221∧Ur W g14 200 c_205∧Ur W g15 200 c_207∧Ur W g16 200 c_209∧Ur W g20 200 c_217∧Below g6 w5_ W) ⟨mK5.so (by omega),
     mK6.so (by omega),
     mK7.so (by omega),
     mK8.so (by omega),
     jpe _ _ _ _ _ _ mK9,
     mK14.so (by omega),
     mK15.so (by omega),
     mK16.so (by omega),
     mK20.so (by omega),
     jpd mKB (by omega) _⟩ ?_
    clear K5 K6 K7 K8 K9 K14 K15 K16 K20 KB mm_ hR mK5 mK6 mK7 mK8 mK9 mK14 mK15 mK16 mK20 mKB Q5 Q20
    rintro w18_ ⟨K5,K6,K7,K8,K9,K14,K15,K16,K20,KB⟩
    clear K20
    go_wp2_with (first
     | (refine wl_ rfl 200 rfl g14 rfl K14 rfl rfl (by rw [S_c_205];rfl) ?_;go_frame)
     | (refine wl_ rfl 200 rfl g15 rfl K15 rfl rfl (by rw [S_c_207];rfl) ?_;go_frame))
    refine (j9 n_205 n_207).mono ?_
    rintro e u_ ⟨c_223,n_223,rfl,e1⟩
    obtain ⟨v_224,hv_224⟩:∃ v,v=qs v_206 v_208:=⟨_,rfl⟩
    rw [←hv_224] at n_223
    replace hv_224:=Hj (fun _:Unit=>hv_224)
    have S_c_223:=jnE n_223.len
    have O_c_223:=jw c_223
    have mK5:=K5.kept e1 K5.lt
    have mK6:=K6.kept e1 K6.lt
    have mK7:=K7.kept e1 K7.lt
    have mK8:=K8.kept e1 K8.lt
    have mK9:=K9.kept e1 K9.lt
    have mK14:=K14.kept e1 K14.lt
    have mK15:=K15.kept e1 K15.lt
    have mK16:=K16.kept e1 K16.lt
    have mKB:=jop KB (e1.mono (jnT K6.lt))
    go_upto_region 28 with (first
     | (refine ws_ rfl 200 rfl g6 (jc c_223).toArray rfl rfl mK6 (by rw [S_c_223];rfl) (by rw [S_c_223,S_c6]) O_c_223 ?_;simp only [joT]))
    refine jg (fun W=>Ur W g5 200 cx∧Ur W g6 200 c_223∧Ur W g7 200 c_219∧Ur W g8 200 c8∧Ur W g9 200 c_221∧Ur W g14 200 c_205∧Ur W g15 200 c_207∧Ur W g16 200 c_209∧Below g6 w5_ W) ⟨mK5.so (by omega),
     jpe _ _ _ _ _ _ mK6,
     mK7.so (by omega),
     mK8.so (by omega),
     mK9.so (by omega),
     mK14.so (by omega),
     mK15.so (by omega),
     mK16.so (by omega),
     jpd mKB (by omega) _⟩ ?_
    clear K5 K6 K7 K8 K9 K14 K15 K16 KB e1 mK5 mK6 mK7 mK8 mK9 mK14 mK15 mK16 mKB
    rintro w19_ ⟨K5,K6,K7,K8,K9,K14,K15,K16,KB⟩
    clear K15
    have Q14:=K14.q
    have Q16:=K16.q
    refine qgF (R:=Ext) jnQ (fun _ _ _=>Ext.trans) [0,1,2,3,4,5,6] [7] [0,0,0,0,12,30,63,127] [true,true,true,true,true,true,true,false] ?_
    refine jq (fun _=>jnQ _) _ rfl (v:= .agg (jc c_209).toArray) (d:=84) rfl rfl ?_ ?_
    ·intro a_ w_ hev hR hk
     have e16:a_.eval (.tmp 16)=_:=hk 16 rfl
     exact (jd rfl e16 (Q16.out w_ (Ext.trans (jnQ _).drew hR)) rfl rfl (by rw [S_c_209];rfl))
    refine jq (fun _=>jnQ _) _ rfl (v:= .agg (jc c_205).toArray) (d:=85) rfl rfl ?_ ?_
    ·intro a_ w_ hev hR hk
     have e14:a_.eval (.tmp 14)=_:=hk 14 rfl
     exact (jd rfl e14 (Q14.out w_ (Ext.trans (jnQ _).drew hR)) rfl rfl (by rw [S_c_205];rfl))
    refine jq (fun _=>jnQ _) _ rfl (v:= .agg (jc fw).toArray) (d:=86) rfl rfl ?_ ?_
    ·intro a_ w_ hev hR hk
     exact (qe rfl (by simp only [jpG,jpC,jpH,hev.1];exact hbf.out))
    refine jq (fun _=>jnQ _) _ rfl (v:= .agg (jc c_209).toArray) (d:=87) rfl rfl ?_ ?_
    ·intro a_ w_ hev hR hk
     have e16:a_.eval (.tmp 16)=_:=hk 16 rfl
     exact (jd rfl e16 (Q16.out w_ (Ext.trans (jnQ _).drew hR)) rfl rfl (by rw [S_c_209];rfl))
    refine jx _ rfl (fun u _=>∃ es,u= .agg (jc es).toArray∧IsN es (qs 121665 v_210)) (d:=88) rfl (fun _ _ _ h _=>h) rfl ?_ ?_
    ·intro a_ w_ hev hR hk K1 hK1
     have e85:a_.eval (.tmp 85)=_:=hk 85 rfl
     have e86:a_.eval (.tmp 86)=_:=hk 86 rfl
     clear hk
     have f85:=jz.trans e85
     have f86:=jz.trans e86
     go_simp
     refine (j9 n_fw n_209).mono ?_
     rintro e_ w2_ ⟨fs_,hf_,rfl,x_⟩
     exact hK1.out _ _ x_ ⟨fs_,rfl,hf_⟩
    refine jx _ rfl (fun u _=>∃ es,u= .agg (jc es).toArray∧IsN es (jnw v_206 (qs 121665 v_210))) (d:=89) rfl (fun _ _ _ h _=>h) rfl ?_ ?_
    ·intro a_ w_ hev hR hk K1 hK1
     have e84:a_.eval (.tmp 84)=_:=hk 84 rfl
     obtain ⟨es_87,e87,n87⟩:∃ es,a_.eval (.tmp 87)= .agg (jc es).toArray∧IsN es _:=hk 87 rfl
     clear hk
     have f84:=jz.trans e84
     have f87:=jz.trans e87
     go_simp
     refine (yo n_205 n87).mono ?_
     rintro e_ w2_ ⟨fs_,hf_,rfl,x_⟩
     exact hK1.out _ _ x_ ⟨fs_,rfl,hf_⟩
    refine jx _ rfl (fun u _=>∃ es,u= .agg (jc es).toArray∧IsN es (qs v_210 (jnw v_206 (qs 121665 v_210)))) (d:=90) rfl (fun _ _ _ h _=>h) rfl ?_ ?_
    ·intro a_ w_ hev hR hk K1 hK1
     have e83:a_.eval (.tmp 83)=_:=hk 83 rfl
     obtain ⟨es_88,e88,n88⟩:∃ es,a_.eval (.tmp 88)= .agg (jc es).toArray∧IsN es _:=hk 88 rfl
     clear hk
     have f83:=jz.trans e83
     have f88:=jz.trans e88
     go_simp
     refine (j9 n_209 n88).mono ?_
     rintro e_ w2_ ⟨fs_,hf_,rfl,x_⟩
     exact hK1.out _ _ x_ ⟨fs_,rfl,hf_⟩
    intro v_ wq_ hR hV_ hN_
    obtain ⟨hv6,hv5,hv4,hv3,hv2,hv1,hv0,_⟩:=hV_
    replace hv0:v_ 0=_:=hv0
    replace hv1:v_ 1=_:=hv1
    replace hv2:v_ 2=_:=hv2
    replace hv3:v_ 3=_:=hv3
    skip
    skip
    skip
    dsimp only [yQ,zv]
    obtain ⟨es_4,hv4,hn_4⟩:=hv4
    obtain ⟨es_5,hv5,hn_5⟩:=hv5
    obtain ⟨es_6,hv6,hn_6⟩:=hv6
    clear hN_
    rw [hv0,hv1,hv2,hv3,hv4,hv5,hv6]
    go_frame
    clear hv0 hv1 hv2 hv3 hv4 hv5 hv6
    generalize es_6=c_225 at *
    have n_225:=hn_6
    clear hn_4 hn_5 hn_6
    obtain ⟨v_226,hv_226⟩:∃ v,v=qs v_210 (jnw v_206 (qs 121665 v_210)):=⟨_,rfl⟩
    rw [←hv_226] at n_225
    replace hv_226:=Hj (fun _:Unit=>hv_226)
    have S_c_225:=jnE n_225.len
    have O_c_225:=jw c_225
    have mm_:=K8.kept ((jnQ w19_).drew.trans hR) K8.lt
    refine qi (z:=7) _ rfl rfl (by kernel_rfl) ?_
    intro K1 hK1
    refine joe _ _ _ rfl g8 (jc c_225).toArray rfl rfl 200 (jc c8).toArray mm_ (by rw [S_c_225];rfl) (by rw [S_c_225,S_c8]) O_c_225 ?_
    refine hK1.out _ _ ?_
    clear hK1 K1
    refine qT (by kernel_rfl) ?_
    have mK5:=K5.kept ((jnQ w19_).drew.trans hR) K5.lt
    have mK6:=K6.kept ((jnQ w19_).drew.trans hR) K6.lt
    have mK7:=K7.kept ((jnQ w19_).drew.trans hR) K7.lt
    have mK8:=K8.kept ((jnQ w19_).drew.trans hR) K8.lt
    have mK9:=K9.kept ((jnQ w19_).drew.trans hR) K9.lt
    have mK14:=K14.kept ((jnQ w19_).drew.trans hR) K14.lt
    have mK16:=K16.kept ((jnQ w19_).drew.trans hR) K16.lt
    have mKB:=jop KB (((jnQ w19_).drew.trans hR).mono (jnT K6.lt))
    refine yf (fun W=>Ur W g5 200 cx∧Ur W g6 200 c_223∧Ur W g7 200 c_219∧Ur W g8 200 c_225∧Ur W g9 200 c_221∧Ur W g14 200 c_205∧Ur W g16 200 c_209∧Below g6 w5_ W) ⟨mK5.so (by omega),
     mK6.so (by omega),
     mK7.so (by omega),
     jpe _ _ _ _ _ _ mK8,
     mK9.so (by omega),
     mK14.so (by omega),
     mK16.so (by omega),
     jpd mKB (by omega) _⟩ ?_
    clear K5 K6 K7 K8 K9 K14 K16 KB mm_ hR mK5 mK6 mK7 mK8 mK9 mK14 mK16 mKB Q14 Q16
    rintro w20_ ⟨K5,K6,K7,K8,K9,K14,K16,KB⟩
    clear K14
    clear K16
    have KX:=(P3.out _ KB).1
    go_wp2_with (refine wl_ rfl 23 rfl w.heap.size rfl KX.1 rfl rfl (by rw [S_ks];rfl) ?_;go_frame)
    refine (BT.out _).mono ?_
    rintro e u_ ⟨rfl,e1⟩
    clear KX
    go_wp2_with fail
    have NX:S (m+1)=(v_224,v_220,v_226,v_222):=by
     rw [S1m.out ()]
     replace hv_202:=hv_202.out ()
     replace hv_204:=hv_204.out ()
     replace hv_206:=hv_206.out ()
     replace hv_208:=hv_208.out ()
     replace hv_210:=hv_210.out ()
     replace hv_212:=hv_212.out ()
     replace hv_214:=hv_214.out ()
     replace hv_216:=hv_216.out ()
     replace hv_218:=hv_218.out ()
     replace hv_220:=hv_220.out ()
     replace hv_222:=hv_222.out ()
     replace hv_224:=hv_224.out ()
     replace hv_226:=hv_226.out ()
     subst hv_226 hv_224 hv_222 hv_220 hv_218 hv_216 hv_214 hv_212 hv_210 hv_208 hv_206 hv_204 hv_202
     rw [jfK x]
     rfl
    exact ⟨⟨m+1,c_223,c_219,c_225,c_221,hm1.out,by rw [←hbn1.out],K6.kept e1 K6.lt,
     K7.kept e1 K7.lt,
     K8.kept e1 K8.lt,
     K9.kept e1 K9.lt,by rw [NX];exact n_223,by rw [NX];exact n_219,by rw [NX];exact n_225,by rw [NX];exact n_221,jop KB (e1.mono (jnT K6.lt))⟩,by simp [intOf];omega⟩
  ·obtain rfl:m=255:=by omega
   have S_c6:=jnE n6.len
   have S_c8:=jnE n8.len
   have Q6:=K6.q
   have Q8:=K8.q
   have QZ:Hid (∀ s,Ext wr s→Ky s (w.heap.size+1+1) zk∧Ext w s):=fun s e=>by
    have:=P3.out s (jop KB (e.mono (jnT K6.lt)))
    exact ⟨this.2.1,this.2.2.2⟩
   have NKC:Hid (∀ (W:World) (es:List Nat),IsN es (qs (S 255).1 (zL (S 255).2.2.1))→Calls joz 104 #[.agg (jc es).toArray] W fun e w'=>e= .returned (.agg (cellsOf rk).toArray)∧Ext W w'):=fun W es h=>by rw [hrk.out];exact jeD h
   clear K6 K7 K8 K9 n7 n9 KB P3 BIT S1
   go_wp2_with fail
   refine qgF (R:=Ext) jnQ (fun _ _ _=>Ext.trans) [0,1,2,3,4] [5] [0,0,2,7,15,31] [true,true,true,true,true,false] ?_
   refine jq (fun _=>jnQ _) _ rfl (v:= .agg (jc c6).toArray) (d:=100) rfl rfl ?_ ?_
   ·intro a_ w_ hev hR hk
    have e6:a_.eval (.tmp 6)=_:=hk 6 rfl
    exact (jd rfl e6 (Q6.out w_ (Ext.trans (jnQ _).drew hR)) rfl rfl (by rw [S_c6];rfl))
   refine jq (fun _=>jnQ _) _ rfl (v:= .agg (jc c8).toArray) (d:=101) rfl rfl ?_ ?_
   ·intro a_ w_ hev hR hk
    have e8:a_.eval (.tmp 8)=_:=hk 8 rfl
    exact (jd rfl e8 (Q8.out w_ (Ext.trans (jnQ _).drew hR)) rfl rfl (by rw [S_c8];rfl))
   refine jx _ rfl (fun u _=>∃ es,u= .agg (jc es).toArray∧IsN es (zL (S 255).2.2.1)) (d:=102) rfl (fun _ _ _ h _=>h) rfl ?_ ?_
   ·intro a_ w_ hev hR hk K1 hK1
    have e100:a_.eval (.tmp 100)=_:=hk 100 rfl
    clear hk
    have f100:=jz.trans e100
    go_simp
    refine (jeC n8).mono ?_
    rintro e_ w2_ ⟨fs_,hf_,rfl,x_⟩
    exact hK1.out _ _ x_ ⟨fs_,rfl,hf_⟩
   refine jx _ rfl (fun u _=>∃ es,u= .agg (jc es).toArray∧IsN es (qs (S 255).1 (zL (S 255).2.2.1))) (d:=103) rfl (fun _ _ _ h _=>h) rfl ?_ ?_
   ·intro a_ w_ hev hR hk K1 hK1
    have e99:a_.eval (.tmp 99)=_:=hk 99 rfl
    obtain ⟨es_101,e101,n101⟩:∃ es,a_.eval (.tmp 101)= .agg (jc es).toArray∧IsN es _:=hk 101 rfl
    clear hk
    have f99:=jz.trans e99
    have f101:=jz.trans e101
    go_simp
    refine (j9 n6 n101).mono ?_
    rintro e_ w2_ ⟨fs_,hf_,rfl,x_⟩
    exact hK1.out _ _ x_ ⟨fs_,rfl,hf_⟩
   refine jx _ rfl (fun u _=>u= .agg (cellsOf rk).toArray) (d:=104) rfl (fun _ _ _ h _=>h) rfl ?_ ?_
   ·intro a_ w_ hev hR hk K1 hK1
    obtain ⟨es_102,e102,n102⟩:∃ es,a_.eval (.tmp 102)= .agg (jc es).toArray∧IsN es _:=hk 102 rfl
    clear hk
    have f102:=jz.trans e102
    go_simp
    refine (NKC.out _ _ n102).mono ?_
    rintro e_ w2_ ⟨rfl,x_⟩
    exact hK1.out _ _ x_ rfl
   intro v_ wq_ hR hV_ hN_
   obtain ⟨hv4,hv3,hv2,hv1,hv0,_⟩:=hV_
   replace hv0:v_ 0=_:=hv0
   replace hv1:v_ 1=_:=hv1
   skip
   skip
   replace hv4:v_ 4=_:=hv4
   dsimp only [yQ,zv]
   obtain ⟨es_2,hv2,hn_2⟩:=hv2
   obtain ⟨es_3,hv3,hn_3⟩:=hv3
   clear hN_
   rw [hv0,hv1,hv2,hv3,hv4]
   go_frame
   clear hv0 hv1 hv2 hv3 hv4
   have kz:=Hj (QZ.out wq_ ((jnQ _).drew.trans hR))
   refine qi (z:=5) _ rfl rfl (by kernel_rfl) ?_
   intro K1 hK1
   refine joe _ _ _ rfl (w.heap.size+1+1) (cellsOf rk).toArray rfl rfl 23 (cellsOf zk).toArray kz.out.1.1 (by rw [S_rk];rfl) (by rw [S_rk,S_zk]) O_rk ?_
   refine hK1.out _ _ ?_
   clear hK1 K1
   refine qT (by kernel_rfl) ?_
   clear hR
   go_wp2_with fail
   (try simp only [jnU,Exit.then])
   refine jnV (jnW rfl _ _ (w.heap.size+1+1) 23 (cellsOf rk).toArray (0,0) _ rfl (jpe _ _ _ _ _ _ kz.out.1.1) rfl rfl (by rw [S_rk];rfl)) rfl ?_
   exact ⟨rfl,jpd kz.out.2 (by omega) _⟩
theorem jdy {ks:List UInt8}{w:World}(hk:ks.length=32):
 Calls joz 40 #[.agg (cellsOf ks).toArray] w fun e w'=>e= .returned (.agg (cellsOf (kL (jY ks 9))).toArray)∧Ext w w':=by
 have MU:Hid (∀ W,Calls joz 71 #[.agg (cellsOf ks).toArray, .agg (cellsOf jdf).toArray] W fun e w'=>e= .returned (.agg (cellsOf (kL (jY ks 9))).toArray)∧Ext W w'):=fun W=>by
  have:=jdE (w:=W) hk (show jdf.length=32 from rfl)
  rwa [jk2] at this
 have L_rk:=zx (jY ks 9)
 generalize kL (jY ks 9)=rk at *
 have S_rk:(cellsOf rk).toArray.size=32:=by simp [ja,L_rk]
 have O_rk:=ji rk
 have S_ks:(cellsOf ks).toArray.size=32:=by simp [ja,hk]
 have hb:=Hj jg9
 generalize jdf=k9 at *
 have hal:∀ w,(joK 23).run joz w= .ok (.agg (cellsOf (jpp 32 0)).toArray) w:=fun w=>by rw [jU];exact j2 w
 have L_zk:(jpp 32 (0:UInt8)).length=32:=rfl
 generalize jpp 32 (0:UInt8)=zk at *
 have S_zk:(cellsOf zk).toArray.size=32:=by simp [ja,L_zk]
 have B0:Hid (Ky ((w.alloc (jnX (cellsOf ks).toArray 23)).alloc (jnX (cellsOf zk).toArray 23)) w.heap.size ks∧Ky ((w.alloc (jnX (cellsOf ks).toArray 23)).alloc (jnX (cellsOf zk).toArray 23)) (w.heap.size+1) zk∧Ext w ((w.alloc (jnX (cellsOf ks).toArray 23)).alloc (jnX (cellsOf zk).toArray 23))):=⟨⟨jQ _ _ _,hk⟩,⟨jK _ _ _,L_zk⟩,((jnQ w).alloc _).alloc _⟩
 go_enter Tryz.func40,Tryz.ntmps40
 go_wp2_with (first
  | (refine wl_ rfl 23 rfl w.heap.size rfl B0.out.1.1 rfl rfl (by rw [S_ks];rfl) ?_;go_frame)
  | (refine jm rfl _ _ rfl (cellsOf k9).toArray (by simp only [jpG,jpC,jpH];exact hb.out) ?_;go_frame))
 refine (MU.out _).mono ?_
 rintro e w1 ⟨rfl,e1⟩
 have kr:=Hj (B0.out.2.1.ext e1)
 have kx:Hid (Ext w w1):=B0.out.2.2.trans e1
 clear B0 MU e1
 go_wp2_with (refine ws_ rfl 23 rfl (w.heap.size+1) (cellsOf rk).toArray rfl rfl kr.out.1 (by rw [S_rk];rfl) (by rw [S_rk,S_zk]) O_rk ?_;go_frame)
 (try simp only [jnU,Exit.then])
 refine jnV (jnW rfl _ _ (w.heap.size+1) 23 (cellsOf rk).toArray (0,0) _ rfl (jpe _ _ _ _ _ _ kr.out.1) rfl rfl (by rw [S_rk];rfl)) rfl ?_
 exact ⟨rfl,jpd kx.out (by omega) _⟩
theorem jdH {w:World}{A:Option Addr}{n c:Nat}{xs:List UInt8}(h:Bs w A n c xs) (hn:n≤1000000):
 Calls joz 18 #[.slice A n c] w fun e w'=>e= .returned (.agg (cellsOf (j3 xs)).toArray)∧Ext w w':=by
 have SUM:Hid (∀ W,Ext w W→Calls joz 39 #[.slice A n c] W fun e w'=>e= .returned (.agg (cellsOf (jC [] xs)).toArray)∧Ext W w'):=fun W e=>jcD (h.ext e) hn
 have BAS:Hid (∀ W,Ext w W→Calls joz 40 #[.agg (cellsOf (jC [] xs)).toArray] W fun e w'=>e= .returned (.agg (cellsOf (kL (jY (jC [] xs) 9))).toArray)∧Ext W w'):=fun W e=>jdy (qr _ _)
 have BLT:=Hj (Zv (qr [] xs) (zx (jY (jC [] xs) 9)))
 have RLe:=yU xs
 have hR_:Hid (jC [] xs++kL (jY (jC [] xs) 9)=j3 xs):=rfl
 rw [hR_.out] at BLT
 clear hn
 have L_sk:=qr [] xs
 have L_pk:=zx (jY (jC [] xs) 9)
 clear hR_
 generalize kL (jY (jC [] xs) 9)=pk at *
 generalize jC [] xs=sk at *
 generalize j3 xs=rr at *
 have S_sk:(cellsOf sk).toArray.size=32:=by simp [ja,L_sk]
 have O_sk:=ji sk
 have S_rr:(cellsOf rr).toArray.size=64:=by simp [ja,RLe]
 have O_rr:=ji rr
 have hal:∀ w,(joK 23).run joz w= .ok (.agg (cellsOf (jpp 32 0)).toArray) w:=fun w=>by rw [jU];exact j2 w
 have hal2:=yS
 have L_zk:(jpp 32 (0:UInt8)).length=32:=rfl
 have L_zp:(jpp 64 (0:UInt8)).length=64:=by simp
 generalize jpp 32 (0:UInt8)=zk at *
 generalize jpp 64 (0:UInt8)=zp at *
 have S_zk:(cellsOf zk).toArray.size=32:=by simp [ja,L_zk]
 have S_zp:(cellsOf zp).toArray.size=64:=by simp [ja,L_zp]
 have B0:Hid (Kp (w.alloc (jnX (cellsOf zp).toArray 31)) w.heap.size zp∧Ext w (w.alloc (jnX (cellsOf zp).toArray 31))):=⟨⟨jps _ _,L_zp⟩,(jnQ w).alloc _⟩
 go_enter Tryz.func18,Tryz.ntmps18
 go_wp2_with fail
 refine (SUM.out _ B0.out.2).mono ?_
 rintro e u_ ⟨rfl,e1⟩
 have a1:Hid ((u_.alloc (jnX (cellsOf zk).toArray 23)).heap[u_.heap.size]? =some (.cells (cellsOf zk).toArray 23 (0,0))):=jps _ _
 have E_:Ext (w.alloc (jnX (cellsOf zp).toArray 31)) ((u_.alloc (jnX (cellsOf zk).toArray 23)).setRow u_.heap.size (cellsOf sk).toArray):=e1.trans (jpd ((jnQ u_).alloc _) (joq _) _)
 go_upto_region 2 with (refine ws_ rfl 23 rfl u_.heap.size (cellsOf sk).toArray rfl rfl a1.out (by rw [S_sk];rfl) (by rw [S_sk,S_zk]) O_sk ?_;simp only [joT])
 obtain ⟨g3,hg_⟩:∃ g,g=u_.heap.size:=⟨_,rfl⟩
 obtain ⟨r,hr_⟩:=ex_ w.heap.size
 refine jg (fun W=>Ky W g3 sk∧Kp W r zp∧Ext w W) ⟨⟨by rw [hg_];exact jpe _ _ _ _ _ _ a1.out,L_sk⟩,by rw [hr_];exact B0.out.1.ext E_,B0.out.2.trans E_⟩ ?_
 rw [←hg_,←hr_]
 replace hr_:=Hj hr_
 clear hg_ a1 E_ e1 B0 SUM
 rintro w1 ⟨k1,p1,x1⟩
 have Q1:Hid (∀ s,Ext w1 s→Ky s g3 sk∧Kp s r zp∧Ext w s):=fun s e=>⟨k1.ext e,p1.ext e,x1.trans e⟩
 clear k1 p1 x1
 refine qgF (R:=Ext) jnQ (fun _ _ _=>Ext.trans) [0,1,2,3] [4] [0,0,2,7,15] [true,true,true,true,false] ?_
 refine jq (fun _=>jnQ _) _ rfl (v:= .agg (cellsOf sk).toArray) (d:=7) rfl rfl ?_ ?_
 ·intro a_ w_ hev hR hk
  have e3:a_.eval (.tmp 3)=_:=hk 3 rfl
  exact (jd rfl e3 (Q1.out w_ (Ext.trans (jnQ _).drew hR)).1.1 rfl rfl (by rw [S_sk];rfl))
 refine jq (fun _=>jnQ _) _ rfl (v:= .agg (cellsOf sk).toArray) (d:=8) rfl rfl ?_ ?_
 ·intro a_ w_ hev hR hk
  have e3:a_.eval (.tmp 3)=_:=hk 3 rfl
  exact (jd rfl e3 (Q1.out w_ (Ext.trans (jnQ _).drew hR)).1.1 rfl rfl (by rw [S_sk];rfl))
 refine jx _ rfl (fun u _=>u= .agg (cellsOf pk).toArray) (d:=9) rfl (fun _ _ _ h _=>h) rfl ?_ ?_
 ·intro a_ w_ hev hR hk K1 hK1
  have e7:a_.eval (.tmp 7)=_:=hk 7 rfl
  clear hk
  have f7:=jz.trans e7
  go_simp
  refine (BAS.out _ (Q1.out w_ (Ext.trans (jnQ _).drew hR)).2.2).mono ?_
  rintro e_ w2_ ⟨rfl,x_⟩
  exact hK1.out _ _ x_ rfl
 refine jq (fun _=>jnQ _) _ rfl (v:= .agg (cellsOf rr).toArray) (d:=10) rfl rfl ?_ ?_
 ·intro a_ w_ hev hR hk
  have e6:a_.eval (.tmp 6)=_:=hk 6 rfl
  have e8:a_.eval (.tmp 8)=_:=hk 8 rfl
  exact (qe rfl (by simp only [jpG,jpC,jpH,e6,e8];exact BLT.out))
 intro v_ w2 hR hV_ hN_
 obtain ⟨hv3,hv2,hv1,hv0,_⟩:=hV_
 replace hv0:v_ 0=_:=hv0
 replace hv1:v_ 1=_:=hv1
 replace hv2:v_ 2=_:=hv2
 replace hv3:v_ 3=_:=hv3
 dsimp only [yQ,zv]
 clear hN_
 rw [hv0,hv1,hv2,hv3]
 go_frame
 clear hv0 hv1 hv2 hv3
 have kz:=Hj (Q1.out w2 ((jnQ _).drew.trans hR)).2
 refine qi (z:=4) _ rfl rfl (by kernel_rfl) ?_
 intro K1 hK1
 refine joe _ _ _ rfl r (cellsOf rr).toArray rfl rfl 31 (cellsOf zp).toArray kz.out.1.1 (by rw [S_rr];rfl) (by rw [S_rr,S_zp]) O_rr ?_
 refine hK1.out _ _ ?_
 clear hK1 K1
 refine qT (by kernel_rfl) ?_
 clear hR Q1
 go_wp2_with fail
 (try simp only [jnU,Exit.then])
 refine jnV (jnW rfl _ _ r 31 (cellsOf rr).toArray (0,0) _ rfl (jpe _ _ _ _ _ _ kz.out.1.1) rfl rfl (by rw [S_rr];rfl)) rfl ?_
 exact ⟨rfl,jpd kz.out.2 (by rw [hr_.out];exact joq _) _⟩
theorem Bs.lit8 (w:World) (t:joE) (xs:List UInt8) (cs:Array Value) (hcs:cs=(xs.map fun x=>joC .u8 (x.toNat:Int)).toArray) (n:Nat) (hn:xs.length=n) (hm:n≤1000000):
 Bs (w.alloc (.cells cs t)) (some ⟨w.heap.size,0,none⟩) n n xs:=by
 subst hcs
 have hr:=World.rowIs_alloc w (xs.map fun x=>joC .u8 (x.toNat:Int)).toArray t (fun i=> .int .u8 (bt xs i:Int)) (fun i hi=>by
  have hi':i < xs.length:=by simpa using hi
  simp [bt,jot,hi'])
 refine ⟨hn,joq _,by unfold maxLen;omega,fun _=>⟨w.heap.size,0,rfl,by simp,fun j hj=> ?_⟩⟩
 rw [joB]
 exact hr.cell (by simp;omega)
theorem Bs.one8 (w:World) (t:joE) (x:UInt8) (v:Int) (hv:v=(x.toNat:Int)):Bs (w.alloc (.cells #[.int .u8 v] t)) (some ⟨w.heap.size,0,none⟩) 1 1 [x]:=
 Bs.lit8 w t [x] _ (by rw [hv];rfl) 1 rfl (by omega)
end
section
open Go.ChangeShapes Go.WideShapes Go.ChangeAt Go.RowKit Go.Deep Go.Maps
def zP:List UInt8:=j3 [98]
theorem jay:zP.length=64:=yU _
theorem jds:zP.drop 32=jE [98]:=by
 unfold zP
 rw [jaz]
 exact List.drop_left' (qr _ _)
theorem Y6 (x:List UInt8):(j3 x).take 32=jC [] x:=by rw [jaz];exact jpx (qr _ _)
theorem jeN (x:List UInt8):(j3 x).drop 32=jE x:=by rw [jaz];exact List.drop_left' (qr _ _)
def J2 (shared:List UInt8):Rt:=qg (ZU shared (jE [98])) (j3 (jO [120] 0))
theorem jft (shared:List UInt8):qh (ZU shared (jE [98])) (j3 (jO [120] 0))=0:=by
 unfold qh qE
 rw [Y6]
 exact jek _ _
theorem jel (w:World) (x:Int):(convert 33 33 (.slice (some ⟨w.heap.size,0,none⟩) 1 1)).run joz (w.alloc (.cells #[.int .u8 x] 5))= .ok (.slice (some ⟨w.heap.size,0,none⟩) 1 1) (w.alloc (.cells #[.int .u8 x] 5 (1,2))):=Qn w _ 1 1
theorem Bs.one13 (w:World) (x:UInt8) (v:Int) (hv:v=(x.toNat:Int)):Bs (w.alloc (.cells #[.int .u8 v] 5 (1,2))) (some ⟨w.heap.size,0,none⟩) 1 1 [x]:=by
 subst hv
 refine ⟨rfl,joq _,by unfold maxLen;omega,fun _=>⟨w.heap.size,0,rfl,by rw [je];omega,fun j hj=> ?_⟩⟩
 obtain rfl:j=0:=by omega
 rw [jpg _ _ _ _ _ (1,2) (jps _ _)]
 rfl
theorem QD {B:Nat}{w:World}{o o':Obj}(h:B≤w.heap.size):Below B (w.alloc o) (w.alloc o'):=⟨rfl,rfl,rfl,by rw [je,je];exact joq _,fun i hi=>by
 have e:Ext w (w.alloc o):=(jnQ w).alloc o
 have e':Ext w (w.alloc o'):=(jnQ w).alloc o'
 rw [e.block i (by omega),e'.block i (by omega)]⟩
theorem jdr {B x:Nat}{w:World}{o o':Obj}(h:B≤w.heap.size):Ot (fun i=>i=x∨B≤i) (w.alloc o) (w.alloc o'):=by
 have z:=QD (o:=o) (o':=o') h
 exact ⟨z.os,z.tape,z.output,z.size,fun i _ hn=>z.block i (by omega)⟩
def jjJ:List Value:= [.pointer none, .pointer none]
theorem JD (w:World):(joK 28).run joz w= .ok (.agg jjJ.toArray) w:=by kernel_rfl
theorem jd6 (a b:Nat):Tryz.prog.built 28 [(0, .pointer (some ⟨a,0,none⟩)),(1, .pointer (some ⟨b,0,none⟩))]=some #[.pointer (some ⟨a,0,none⟩), .pointer (some ⟨b,0,none⟩)]:=by kernel_rfl
def jh1 (s kp mb g lo:Nat) (shared:List UInt8):Pty:=⟨s,kp,mb,g,lo,[120],1,⟨J2 shared,[],0⟩⟩
def jjk (s kp mb g lo:Nat) (shared:List UInt8):Pty:=⟨s,kp,mb,g,lo,[121],0,⟨YB shared zP,[],0⟩⟩
theorem jbQ {w:World}{shared:List UInt8}(lr:shared.length=32){tg tp:joE×Nat×Nat}(hG:Gl w tg) (hP:Gp w tp):
 Calls joz 17 #[.agg (cellsOf shared).toArray] w fun e w'=>∃ sa ka ma ga la sb kb mb gb lb,e= .returned (.agg #[.pointer (some ⟨sa,0,none⟩), .pointer (some ⟨sb,0,none⟩)])∧Duo w' (jh1 sa ka ma ga la shared) (jjk sb kb mb gb lb shared) tg tp∧Ext w w'∧w.heap.size≤la∧w.heap.size≤lb:=by
 have PAI:Hid (∀ (W:World) (A:Option Addr) (c:Nat),Bs W A 1 c [98]→Calls joz 18 #[.slice A 1 c] W fun e w'=>e= .returned (.agg (cellsOf zP).toArray)∧Ext W w'):=fun W A c h=>jdH h (by omega)
 have NEW:Hid (∀ (W:World) (A:Option Addr) (c:Nat) (x:UInt8),Ext w W→Bs W A 1 c [x]→Calls joz 27 #[.slice A 1 c] W fun e w'=>∃ g,e= .returned (.pointer (some ⟨g,0,none⟩))∧SrcSt w' W.heap.size g [x] 0∧Ext W w'):=fun W A c x e h=>jgs h (by omega) (hG.kept e hG.lt)
 have gl:=hG.lt
 have pl:=hP.lt
 have GG:Hid (∀ W,Ext w W→Gl W tg∧Gp W tp):=fun W e=>⟨hG.kept e hG.lt,hP.ext e⟩
 have BEG:Hid (∀ (W:World) (lo gs:Nat),SrcSt W lo gs [120] 0→Ext w W→1 < lo→Calls joz 26 #[.agg (cellsOf shared).toArray, .agg (cellsOf (jE [98])).toArray, .pointer (some ⟨gs,0,none⟩)] W fun e w'=>SrcSt w' lo gs [120] 1∧W.grownBy w' (some gs)∧∃ sg kp mb,e= .returned (.tuple #[.pointer (some ⟨sg,0,none⟩), .int .i64 0])∧(W.heap.size≤sg∧W.heap.size≤kp∧W.heap.size≤mb)∧SS w' sg kp mb gs ⟨J2 shared,[],0⟩):=fun W lo gs z1 z2 z3=>
  (jbe lr (YH _) z1 (by omega) (GG.out W z2).1 (GG.out W z2).2 z3).mono fun e w' q=>by
    obtain ⟨q1,q2,q3 | q3⟩:=q
    ·exact ⟨q1,q2,q3.2⟩
    ·exact absurd (jft shared) q3.1
 have ANS:Hid (∀ (W:World) (gs:Nat),Calls joz 36 #[.agg (cellsOf shared).toArray, .agg (cellsOf zP).toArray, .pointer (some ⟨gs,0,none⟩)] W fun e w'=>∃ sg kp mb,e= .returned (.pointer (some ⟨sg,0,none⟩))∧(W.heap.size≤sg∧W.heap.size≤kp∧W.heap.size≤mb)∧SS w' sg kp mb gs ⟨YB shared zP,[],0⟩∧Ext W w'):=fun W gs=>Z9 lr jay
 have L_o:=jay
 have PUB:=Hj (fun _:Unit=>jds)
 have Lpb:=YH [98]
 have PSP:Hid (cellsOf zP=cellsOf (zP.take 32)++(cellsOf (jE [98])++ [])):=by
  rw [←jds,List.append_nil,←Yr,List.take_append_drop];exact Hj rfl
 have LPT:(cellsOf (zP.take 32)).length=32:=by rw [ja,jou,jay];rfl
 clear hG hP
 obtain ⟨pA,hpA⟩:∃ f:Nat→Nat→Nat→Nat→Nat→Pty,f=fun s kp mb g lo=>jh1 s kp mb g lo shared:=⟨_,rfl⟩
 obtain ⟨BA0,hBA0⟩:∃ x,x=J2 shared:=⟨_,rfl⟩
 obtain ⟨AN0,hAN0⟩:∃ x,x=YB shared zP:=⟨_,rfl⟩
 rw [←hBA0] at BEG
 rw [←hAN0] at ANS
 have PA:Hid (∀ s kp mb g lo,jh1 s kp mb g lo shared=⟨s,kp,mb,g,lo,[120],1,⟨BA0,[],0⟩⟩):=fun s kp mb g lo=>by rw [hBA0];rfl
 have PB:Hid (∀ s kp mb g lo,jjk s kp mb g lo shared=⟨s,kp,mb,g,lo,[121],0,⟨AN0,[],0⟩⟩):=fun s kp mb g lo=>by rw [hAN0];rfl
 clear hpA pA hBA0 hAN0
 generalize jE [98]=pb at *
 generalize zP=ob at *
 have S_sh:(cellsOf shared).toArray.size=32:=by simp [ja,lr]
 have S_o:(cellsOf ob).toArray.size=64:=by simp [ja,L_o]
 have O_o:=ji ob
 have C_pb:(cellsOf pb).length=32:=by rw [ja,Lpb]
 have halp:=yS
 have L_zp:(jpp 64 (0:UInt8)).length=64:=rfl
 generalize jpp 64 (0:UInt8)=zp at *
 have S_zp:(cellsOf zp).toArray.size=64:=by simp [ja,L_zp]
 have hal2:=JD
 obtain ⟨T0,hT0⟩:∃ x,x=jjJ:=⟨_,rfl⟩
 rw [←hT0] at hal2
 have S_T0:T0.toArray.size=2:=by rw [hT0];rfl
 clear hT0
 obtain ⟨r,hr⟩:=ex_ w.heap.size
 have B0:Hid (Cb ((w.alloc (.cells (cellsOf shared).toArray 23)).alloc (.cells T0.toArray 28)) r 23 (cellsOf shared)∧Cb ((w.alloc (.cells (cellsOf shared).toArray 23)).alloc (.cells T0.toArray 28)) (r+1) 28 T0∧Ext w ((w.alloc (.cells (cellsOf shared).toArray 23)).alloc (.cells T0.toArray 28))):=by rw [hr];exact ⟨jQ _ _ _,jK _ _ _,((jnQ w).alloc _).alloc _⟩
 go_enter Tryz.func17,Tryz.ntmps17
 go_upto_region 1 with fail
 refine jg (fun W=>Cb W r 23 (cellsOf shared)∧Cb W (r+1) 28 T0∧Ext w W) B0.out ?_
 rw [←hr]
 have wr_:w.heap.size≤r:=jod hr.symm
 clear B0
 replace hr:=Hj hr
 rintro w0 ⟨k1,k2,x0⟩
 have P0:Hid (∀ u,Ext w0 u→Cb u r 23 (cellsOf shared)∧Cb u (r+1) 28 T0∧Ext w u):=fun u x=>⟨k1.ext x,k2.ext x,x0.trans x⟩
 have l2:=k2.lt
 have L1:=Hj (PAI.out _ _ _ (Bs.one13 w0 98 98 rfl))
 have cv0:=jel w0 98
 clear k1 k2 x0 PAI
 go_wp2_with fail
 refine L1.out.mono ?_
 rintro e w1 ⟨rfl,x1⟩
 have y1:=Hj (((jnQ w0).alloc (.cells #[.int .u8 98] 5 (1,2))).trans x1)
 have Y:Hid (Cb ((w1.alloc (.cells (cellsOf zp).toArray 31)).setRow w1.heap.size (cellsOf ob).toArray) w1.heap.size 31 (cellsOf ob)∧Ext w1 ((w1.alloc (.cells (cellsOf zp).toArray 31)).setRow w1.heap.size (cellsOf ob).toArray)):=⟨Cb.set (Cb.new _ _ _),Ext.newRow _ _ _⟩
 have w01:=y1.out.size
 clear L1 x1 cv0
 go_upto_region 2 with (refine ws_ rfl 31 rfl w1.heap.size (cellsOf ob).toArray rfl rfl (jps _ _) (by rw [S_o];rfl) (by rw [S_o,S_zp]) O_o ?_;simp only [joT])
 obtain ⟨g3,hg3⟩:∃ x,x=w1.heap.size:=⟨_,rfl⟩
 refine jg (fun W=>Cb W w1.heap.size 31 (cellsOf ob)∧Ext w1 W) Y.out ?_
 rw [←hg3]
 have w1g:w1.heap.size≤g3:=jod hg3.symm
 clear Y
 replace hg3:=Hj hg3
 rintro w2 ⟨k3,x2⟩
 have P2:Hid (∀ u,Below w2.heap.size w2.drew u→Cb u g3 31 (cellsOf ob)∧Cb u r 23 (cellsOf shared)∧Cb u (r+1) 28 T0∧Ext w u):=fun u x=>by
  have x':Ext w2 u:=Ext.trans (jnQ w2).drew x
  obtain ⟨a1,a2,a3⟩:=P0.out u ((y1.out.trans x2).trans x')
  exact ⟨k3.ext x',a1,a2,a3⟩
 have P2m:Hid (∀ u,Below w2.heap.size w2.drew u→∀ j v,(cellsOf pb)[j]? =some v→u.cell? ⟨g3,32+j,none⟩=some v):=fun u x=>(P2.out u x).1.mid PSP.out LPT
 have l3:=k3.lt
 clear P0 k3 x2 y1
 refine qgB w2.heap.size [0,1,2,3,4,5,6,7,8,9,10,11] [3,4,5,6] ?_
 refine qV rfl (fun w'=>w'.heap[r]? =some (.cells (cellsOf shared).toArray 23 (0,0))) (fun w' e=>(P2.out w' e).2.1) (.agg (cellsOf shared).toArray) (fun w' hF=>jd rfl rfl hF rfl rfl (by rw [S_sh];rfl)) ?_
 go_frame
 repeat ((first | refine qR0 ?_ | refine qS ?_);go_frame)
 refine qV rfl (fun w'=>∀ q_ v,(cellsOf pb)[q_]? =some v→w'.cell? ⟨g3,32+q_,none⟩=some v) (fun w' e=>P2m.out w' e) (.agg (cellsOf pb).toArray) (fun w' hF=>jy rfl rfl hF rfl rfl (by rw [C_pb];rfl)) ?_
 go_frame
 have X2:Hid (Below w2.heap.size w2.drew w2.drew):=joo _ _
 have z2:w2.heap.size≤w2.drew.heap.size:=joq _
 generalize w2.drew=V at *
 refine qD fun K hK=> ?_
 go_simp
 have b3:=Hj (Bs.one13 V 120 120 rfl)
 have e3:Ext V (V.alloc (.cells #[.int .u8 120] 5 (1,2))):=(jnQ V).alloc _
 have cv:=jel V 120
 refine hK.out _ _ (((jnQ V).alloc _).mono z2) ?_
 clear hK K
 try go_frame
 refine qD fun K hK=> ?_
 go_simp
 refine hK.out _ _ (QD z2) ?_
 clear hK K
 try go_frame
 replace X2:=Hj (jop X2.out (e3.mono z2))
 clear cv
 repeat ((first | refine qR0 ?_ | refine qS ?_);go_frame)
 have N3:=Hj (NEW.out _ _ _ 120 (P2.out _ X2.out).2.2.2 b3.out)
 have z3:w2.heap.size≤(V.alloc (.cells #[.int .u8 120] 5 (1,2))).heap.size:=jo2 z2 e3.size
 clear e3 b3
 generalize V.alloc (.cells #[.int .u8 120] 5 (1,2))=V3 at *
 refine qD fun K hK=> ?_
 go_simp
 refine N3.out.mono ?_
 rintro e w4 ⟨ga,rfl,s4,x4⟩
 refine hK.out _ _ (x4.mono z3) ?_
 clear hK K
 try go_frame
 replace X2:=Hj (jop X2.out (x4.mono z3))
 have z4:=jo2 z3 x4.size
 have ws:=(P2.out _ X2.out).2.2.2.size
 have wV3:w.heap.size≤V3.heap.size:=by omega
 have lga:=s4.1
 have BG:=Hj (BEG.out w4 V3.heap.size ga s4 (P2.out _ X2.out).2.2.2 (by omega))
 obtain ⟨la,hla⟩:∃ x,x=V3.heap.size:=⟨_,rfl⟩
 rw [←hla] at BG lga
 have wla:w2.heap.size≤la:=by omega
 have lgs:=s4.lt
 clear N3 s4 x4 BEG hla
 repeat ((first | refine qR0 ?_ | refine qS ?_);go_frame)
 refine qD fun K hK=> ?_
 go_simp
 refine BG.out.mono ?_
 rintro e w5 ⟨s5,g5,sa,ka,ma,rfl,⟨l1,l2',l3'⟩,ss5⟩
 have X5:Below w2.heap.size w4 w5:=⟨g5.os,g5.tape,g5.output,g5.size,fun i hi=>g5.block i (by omega) (fun z=>by have:=joF z;omega)⟩
 refine hK.out _ _ X5 ?_
 clear hK K
 try go_frame
 replace X2:=Hj (jop X2.out X5)
 have z5:=jo2 z4 g5.size
 replace s5:=Hj s5
 replace ss5:=Hj ss5
 clear BG X5 g5
 repeat ((first | refine qR0 ?_ | refine qS ?_);go_frame)
 refine jp ?_
 have P5:Hid (∀ u,Ext w5 u→Cb u g3 31 (cellsOf ob)∧Cb u r 23 (cellsOf shared)∧Cb u (r+1) 28 T0∧Ext w u):=fun u x=>P2.out u (jop X2.out (x.mono z5))
 have lsa:=ss5.out.sl
 have lka:=ss5.out.kl
 have lma:=ss5.out.ml
 clear P2 P2m X2
 go_upto_region 5 with fail
 have P6:Hid (∀ u,Ot (fun i=>i=r+1∨w5.heap.size≤i) w5.drew u→Cb u g3 31 (cellsOf ob)∧Cb u r 23 (cellsOf shared)):=fun u x=>by
  obtain ⟨a1,a2,_,_⟩:=P5.out w5.drew (jnQ w5).drew
  have a1l:=a1.lt
  have a2l:=a2.lt
  have q5:w5.drew.heap.size=w5.heap.size:=rfl
  exact ⟨x.block a1 (by omega),x.block a2 (by omega)⟩
 have z50:w5.heap.size≤w5.drew.heap.size:=joq _
 have X6:Hid (Ext w5 w5.drew):=(jnQ w5).drew
 refine qgR (R:=Ot (fun i=>i=r+1∨w5.heap.size≤i)) (Ot.refl _) (fun _ _ _=>Ot.trans) [0,1,2,3,4,5,6,7,8] [3,4,5,6,8] ?_
 repeat ((first | refine qR0 ?_ | refine qS ?_);go_frame)
 refine qV rfl (fun w'=>w'.heap[r]? =some (.cells (cellsOf shared).toArray 23 (0,0))) (fun w' e=>(P6.out w' e).2) (.agg (cellsOf shared).toArray) (fun w' hF=>jd rfl rfl hF rfl rfl (by rw [S_sh];rfl)) ?_
 go_frame
 refine qV rfl (fun w'=>w'.heap[g3]? =some (.cells (cellsOf ob).toArray 31 (0,0))) (fun w' e=>(P6.out w' e).1) (.agg (cellsOf ob).toArray) (fun w' hF=>jd rfl rfl hF rfl rfl (by rw [S_o];rfl)) ?_
 go_frame
 generalize w5.drew=V at *
 refine qD fun K hK=> ?_
 go_simp
 have b3:=Hj (Bs.one13 V 121 121 rfl)
 have e3:Ext V (V.alloc (.cells #[.int .u8 121] 5 (1,2))):=(jnQ V).alloc _
 have cv:=jel V 121
 refine hK.out _ _ (Ot.of_ext ((jnQ V).alloc _)) ?_
 clear hK K
 try go_frame
 refine qD fun K hK=> ?_
 go_simp
 refine hK.out _ _ (jdr z50) ?_
 clear hK K
 try go_frame
 replace X6:=Hj (X6.out.trans e3)
 clear cv
 repeat ((first | refine qR0 ?_ | refine qS ?_);go_frame)
 have N3:=Hj (NEW.out _ _ _ 121 (P5.out _ X6.out).2.2.2 b3.out)
 clear e3 b3 NEW
 generalize V.alloc (.cells #[.int .u8 121] 5 (1,2))=V3 at *
 refine qD fun K hK=> ?_
 go_simp
 refine N3.out.mono ?_
 rintro e w7 ⟨gb,rfl,s7,x7⟩
 refine hK.out _ _ (Ot.of_ext x7) ?_
 clear hK K
 try go_frame
 have z6:=X6.out.size
 replace X6:=Hj (X6.out.trans x7)
 obtain ⟨lb,hlb⟩:∃ x,x=V3.heap.size:=⟨_,rfl⟩
 rw [←hlb] at s7 z6
 have lgb:=s7.1
 have lgs7:=s7.lt
 replace s7:=Hj s7
 clear N3 x7 hlb
 repeat ((first | refine qR0 ?_ | refine qS ?_);go_frame)
 have AN:=Hj (ANS.out w7 gb)
 clear ANS
 refine qD fun K hK=> ?_
 go_simp
 refine AN.out.mono ?_
 rintro e w8 ⟨sb,kb,mb,rfl,⟨m1,m2,m3⟩,ss8,x8⟩
 refine hK.out _ _ (Ot.of_ext x8) ?_
 clear hK K
 try go_frame
 refine qV rfl (fun _=>True) (fun _ _=>trivial) (.agg #[.pointer (some ⟨sa,0,none⟩), .pointer (some ⟨sb,0,none⟩)]) (fun w' _=>qe rfl (by simp only [jpG,jpC,jpH];exact jd6 sa sb)) ?_
 go_frame
 replace X6:=Hj (X6.out.trans x8)
 obtain ⟨_,_,k2,xw⟩:=P5.out w8 X6.out
 replace k2:Hid (Cb w8 (r+1) 28 T0):=k2
 have g8:=GG.out w8 xw
 have sA:=s5.out.ext X6.out
 have ssA:=ss5.out.ext X6.out
 have sB:=s7.out.ext x8
 have nr:r+1 < w2.heap.size:=by omega
 have RW:w8.grownBy (w8.setRow (r+1) #[.pointer (some ⟨sa,0,none⟩), .pointer (some ⟨sb,0,none⟩)]) (some (r+1)):=qG _ _ _
 have FIN:Hid (Duo (w8.setRow (r+1) #[.pointer (some ⟨sa,0,none⟩), .pointer (some ⟨sb,0,none⟩)]) (jh1 sa ka ma ga la shared) (jjk sb kb mb gb lb shared) tg tp∧Ext w (w8.setRow (r+1) #[.pointer (some ⟨sa,0,none⟩), .pointer (some ⟨sb,0,none⟩)])):=by
  have hb:∀ i,i < w8.heap.size→i≠r+1→(w8.setRow (r+1) #[.pointer (some ⟨sa,0,none⟩), .pointer (some ⟨sb,0,none⟩)]).heap[i]? =w8.heap[i]? :=fun i hi hne=>RW.block i hi (fun z=>hne (joF z))
  rw [PA.out,PB.out]
  refine ⟨⟨⟨ssA.stay (hb _ ssA.sl (by omega)) (hb _ ssA.kl (by omega)) (hb _ ssA.ml (by omega)),sA.other RW (.inl (by omega)),by dsimp only;omega,by dsimp only;omega⟩,⟨ss8.stay (hb _ ss8.sl (by omega)) (hb _ ss8.kl (by omega)) (hb _ ss8.ml (by omega)),sB.other RW (.inl (by omega)),by dsimp only;omega,by dsimp only;omega⟩,by dsimp only;omega,⟨by unfold Off;dsimp only;omega,by unfold Off;dsimp only;omega⟩,⟨by unfold Off;dsimp only;omega,by unfold Off;dsimp only;omega⟩,(hb _ g8.1.lt (by omega)).trans g8.1,(hb _ g8.2.lt (by omega)).trans g8.2⟩,jpd xw (by omega) _⟩
 have OO: #[jon (some ⟨sa,0,none⟩), .pointer (some ⟨sb,0,none⟩)].all (·.oneCell')=true:=qC (L:= [jon (some ⟨sa,0,none⟩), .pointer (some ⟨sb,0,none⟩)]) (fun v hv=>by
  rcases joG.1 hv with rfl | hv
  ·rfl
  ·rcases joG.1 hv with rfl | hv
   ·rfl
   ·cases hv)
 clear P5 P6 X6 s5 ss5 s7 ss8 x8 sA ssA sB g8 xw RW AN PA PB GG
 refine qD fun K hK=> ?_
 refine joe _ _ _ rfl (r+1) #[.pointer (some ⟨sa,0,none⟩), .pointer (some ⟨sb,0,none⟩)] rfl rfl 28 T0.toArray k2.out rfl (by rw [S_T0];rfl) OO ?_
 refine hK.out _ _ (Ot.row _ _ (.inl rfl)) ?_
 clear hK K
 try simp only [joT]
 refine jp ?_
 go_wp2_with fail
 (try simp only [jnU,Exit.then])
 refine jnV (jnW rfl _ _ (r+1) 28 #[.pointer (some ⟨sa,0,none⟩), .pointer (some ⟨sb,0,none⟩)] (0,0) _ rfl (jpe _ _ _ _ _ _ k2.out) rfl rfl rfl) rfl ?_
 exact ⟨sa,ka,ma,ga,la,sb,kb,mb,gb,lb,rfl,FIN.out.1,FIN.out.2,by omega,by omega⟩
end
section
open Go.ChangeShapes Go.WideShapes Go.ChangeAt Go.RowKit Go.Deep
theorem jgQ {ks ns:List UInt8}{n:Nat}{bs:List UInt8}:yY ks ns n (yY ks ns n bs)=bs:=by
 refine Y0 (by rw [yE,yE]) fun j hj=> ?_
 rw [yE,yE] at hj
 rw [jad (by rw [yE];exact hj),jad hj,Nat.xor_assoc,Nat.xor_self,Nat.xor_zero]
theorem jdO (ks bs:List UInt8):zi ks (zi ks bs)=bs:=jgQ
theorem jaO {ks bs ts:List UInt8}{n:Nat}(h:ts.length=n):(qA ks bs ts).take n=zi ks ts:=by
 unfold qA
 exact jpx (by rw [JW];exact h)
theorem je0 {ks bs ts:List UInt8}{n:Nat}(h:ts.length=n):(qA ks bs ts).drop n=YI ks bs (zi ks ts):=by
 unfold qA
 exact List.drop_left' (by rw [JW];exact h)
end
section
open Go.ChangeShapes Go.WideShapes Go.ChangeAt Go.RowKit Go.Deep Go.Maps
theorem jdq (k data text:List UInt8):J4 k data (qA k data text)=0∧J5 k data (qA k data text)=text:=by
 have hl:=JV k data text
 have h1: ¬ (qA k data text).length < 32:=by omega
 have h2:(qA k data text).length - 32=text.length:=by omega
 have h3:YI k data ((qA k data text).take text.length)=(qA k data text).drop text.length:=by rw [jaO rfl,je0 rfl]
 unfold J4 J5
 rw [if_neg h1,if_neg h1,h2,if_pos h3,if_pos h3,jaO rfl,jdO]
 exact ⟨rfl,rfl⟩
structure Ahead (s u:Rt) (x y:List UInt8):Prop where
 own:s.own=j3 x
 uown:u.own=j3 y
 si:s.si=true
 mt:s.mt=false
 ho:s.ho=true
 ot:s.ot=jE y
 un: ¬(u.ho=true∧jE x=u.ot)
 root:s.root=jM (jC u.root (zu (jC [] x) (jE y))) yG
 sc:s.sc=Yg (jM (jC u.root (zu (jC [] x) (jE y))) vI) s.sm.toNat
 sm:0≤s.sm
 fwd:u.ri=true→s.bf≤u.rm
structure Insync (s u:Rt) (x y:List UInt8):Prop where
 own:s.own=j3 x
 uown:u.own=j3 y
 si:s.si=true
 mt:s.mt=false
 ho:s.ho=true
 ot:s.ot=jE y
 uho:u.ho=true
 uot:u.ot=jE x
 umt:u.mt=true
 uri:u.ri=true
 root:s.root=u.root
 sc:s.sc=Yg u.rc (s.sm - u.rm).toNat
 rm:0≤u.rm∧u.rm≤s.sm
theorem jiy {s:Rt}{x:List UInt8}(h:s.own=j3 x):s.sec=jC [] x:=by unfold Rt.sec;rw [h,Y6]
theorem jaE {s:Rt}{x:List UInt8}(h:s.own=j3 x):s.pub=jE x:=by unfold Rt.pub;rw [h,jeN]
theorem jf9 (a b:List UInt8):zu (jC [] a) (jE b)=zu (jC [] b) (jE a):=jhh
theorem QX {s u:Rt}{x y:List UInt8}(h:Ahead s u x y):YG u (jE x)=0∧Insync s (za u (jE x)) x y∧(za u (jE x)).rm=0∧(za u (jE x)).sm=u.sm:=by
 have hc:YY u (jE x)=zu (jC [] x) (jE y):=by unfold YY;rw [jiy h.uown];exact jf9 y x
 have he:YG u (jE x)=0:=by unfold YG;rw [hc];exact jek _ _
 have hs:za u (jE x)={u with root:=s.root,ri:=true,rc:=jM (jC u.root (zu (jC [] x) (jE y))) vI,rm:=0,ho:=true,ot:=jE x,mt:=true}:=by
  unfold za
  rw [if_pos he,hc,h.root]
 rw [hs]
 refine ⟨he,⟨h.own,h.uown,h.si,h.mt,h.ho,h.ot,rfl,rfl,rfl,rfl,rfl,?_,jok 0,h.sm⟩,rfl,rfl⟩
 show s.sc=Yg (jM (jC u.root (zu (jC [] x) (jE y))) vI) (s.sm - 0).toNat
 rw [Int.sub_zero]
 exact h.sc
theorem jbD {s u:Rt}{x y:List UInt8}(h:Ahead s u x y) (L:List Ke) (p:Int):opA ⟨u,L,p⟩ (jE x) s.bf=(⟨za u (jE x),L,p⟩,0):=by
 obtain ⟨_,_,_,A4⟩:=jcu ⟨u,L,p⟩ (jE x) s.bf
 rw [A4 h.un (fun z=>by have:=h.fwd z.1;have z2:=z.2;dsimp only at z2;omega)]
 rw [(QX h).1]
theorem jgG (u:Rt) (L:List Ke) (p:Int):qO u u.rm=0∧jX ⟨u,L,p⟩ u.rm=⟨u,L,p⟩:=by
 have h0:Jf u u.rm=0:=by unfold Jf;omega
 have e:qO u u.rm=0:=by unfold qO;rw [h0];rfl
 refine ⟨e,?_⟩
 have:=(yu ⟨u,L,p⟩ u.rm).2 e
 rw [this]
 have hw:wkL u u.rm= []:=by unfold wkL;rw [if_pos e,h0];rfl
 have hc:wkC u u.rm=u.rc:=by unfold wkC;rw [if_pos e,h0];rfl
 dsimp only
 rw [hw,hc]
 rfl
theorem jbM {s u:Rt}{x y:List UInt8}(h:Insync s u x y) (hm:u.rm=s.sm) (p:Int) (data text:List UInt8):
 zj ⟨u,[],p⟩ s.sm data (qA (jM s.sc qd) data text)=(⟨yX u,[],p⟩,text,0)∧Insync (jW s) (yX u) x y∧(yX u).rm=(jW s).sm:=by
 obtain ⟨e0,e1⟩:=jgG u [] p
 have hsc:s.sc=u.rc:=by have:=h.sc;rw [hm,Int.sub_self] at this;exact this
 obtain ⟨_,_,B3⟩:=jnA ⟨u,[],p⟩ s.sm
 rw [←hm] at B3 ⊢
 have hB:opB ⟨u,[],p⟩ u.rm=(⟨yX u,[],p⟩,0):=by
  rw [B3 (by rintro (z | z);dsimp only at z;rw [h.uri] at z;cases z;dsimp only at z;omega) e0,e1]
 have hK:opK ⟨u,[],p⟩ u.rm=jM s.sc qd:=by unfold opK;rw [e1,hsc]
 refine ⟨?_,⟨h.own,h.uown,h.si,h.mt,h.ho,h.ot,h.uho,h.uot,h.umt,h.uri,h.root,?_,?_⟩,?_⟩
 ·unfold zj
  rw [hB,if_neg (fun z=>z rfl),hK]
  rw [(jdq _ _ _).1,(jdq _ _ _).2]
 ·show jM s.sc vI=Yg (jM u.rc vI) (s.sm+1 - (u.rm+1)).toNat
  rw [hsc,show s.sm+1 - (u.rm+1)=0 by omega]
  rfl
 ·show 0≤u.rm+1∧u.rm+1≤s.sm+1
  have:=h.rm;omega
 ·show u.rm+1=s.sm+1
  omega
theorem jal {s u:Rt}{x y:List UInt8}(h:Ahead s u x y) (h0:s.sm=0) (p:Int) (bs text:List UInt8) (hk:okH s.bf s.sm=true):
 yt ⟨u,[],p⟩ bs (jE x) s.bf s.sm (qA (jM s.sc qd) (qb bs (jE x) s.bf s.sm) text)=0∧Ym ⟨u,[],p⟩ bs (jE x) s.bf s.sm (qA (jM s.sc qd) (qb bs (jE x) s.bf s.sm) text)=text∧
 zf ⟨u,[],p⟩ bs (jE x) s.bf s.sm (qA (jM s.sc qd) (qb bs (jE x) s.bf s.sm) text)=⟨yX (za u (jE x)),[],p⟩∧Insync (jW s) (yX (za u (jE x))) x y∧(yX (za u (jE x))).rm=(jW s).sm:=by
 obtain ⟨_,f2,f3,_⟩:=QX h
 obtain ⟨t1,t2,t3⟩:=jbM f2 (f3.trans h0.symm) p (qb bs (jE x) s.bf s.sm) text
 have ho:vZ ⟨u,[],p⟩ (jE x) s.bf s.sm (qb bs (jE x) s.bf s.sm) (qA (jM s.sc qd) (qb bs (jE x) s.bf s.sm) text)=(⟨yX (za u (jE x)),[],p⟩,text,0):=by
  rw [(QI _ _ _ _ _ _).2.2 rfl (by rw [jbD h]),jbD h]
  exact t1
 have e:yt ⟨u,[],p⟩ bs (jE x) s.bf s.sm (qA (jM s.sc qd) (qb bs (jE x) s.bf s.sm) text)=0:=by unfold yt;rw [hk,ho];rfl
 exact ⟨e,by unfold Ym;rw [if_pos e,ho],by unfold zf;rw [if_pos e,ho],t2,t3⟩
theorem Zw (shared:List UInt8):Ahead (J2 shared) (YB shared zP) (jO [120] 0) [98]∧(J2 shared).sm=0∧(J2 shared).bf=0∧(J2 shared).ri=false:=by
 have he:=jft shared
 have hc:qE (ZU shared (jE [98])) (j3 (jO [120] 0))=zu (jC [] (jO [120] 0)) (jE [98]):=by unfold qE;rw [Y6];rfl
 have hs:J2 shared={ZU shared (jE [98]) with own:=j3 (jO [120] 0),root:=jM (jC shared (zu (jC [] (jO [120] 0)) (jE [98]))) yG,bf:=0,si:=true,sc:=jM (jC shared (zu (jC [] (jO [120] 0)) (jE [98]))) vI,sm:=0,mt:=false}:=by
  unfold J2 qg
  rw [if_pos he,hc]
  rfl
 rw [hs]
 exact ⟨⟨rfl,rfl,rfl,rfl,rfl,rfl,(fun q=>absurd q.1 (fun z=>by cases z)),rfl,rfl,jok 0,(fun q=>by cases q)⟩,rfl,rfl,rfl⟩
theorem jeZ {s:Rt}{p text:List UInt8}(si:s.si=true) (mt:s.mt=false) (ht:text.length≤300) (hk:okH s.bf s.sm=true):
 qW s p text=0∧yj s p text=jW s∧yI s p text=hdC s.pub s.bf s.sm∧(∀ bs,yH s p bs text=qA (jM s.sc qd) (qb bs s.pub s.bf s.sm) text)∧∀ k,yg s text k=k:=by
 have hT:qN s p=s:=by unfold qN;rw [mt];rfl
 have e:qW s p text=0:=by
  unfold qW
  rw [if_neg (fun z=>by rw [si] at z;cases z.1),if_neg (by omega),if_neg (fun z=>by rw [mt] at z;cases z.1),hT,hk]
  rfl
 refine ⟨e,by unfold yj;rw [if_pos e,hT],by unfold yI;rw [if_pos e,hT],fun bs=>by unfold yH;rw [if_pos e,hT],fun k=>by unfold yg;rw [if_pos (.inr (.inr mt))]⟩
def mkK (c:List UInt8) (i:Nat):List UInt8:=jM (Yg c i) qd
theorem jmI (ks:List UInt8) (a:Nat):∀ b,Yg (Yg ks a) b=Yg ks (a+b)
 | 0=>rfl
 | b+1=>by rw [Yg,jmI ks a b];rfl
def jmG (pk:List UInt8):Int→Int→List (List UInt8)→List Ke
 | _,_,[]=> []
 | p,n,k::r=>⟨pk,n,k,p⟩::jmG pk (p+1) (n+1) r
theorem jny (pk:List UInt8):∀ (ks:List (List UInt8)) (p n:Int),(jmG pk p n ks).length=ks.length
 | [],_,_=>rfl
 | _::r,p,n=>by rw [jmG,List.length_cons,jny pk r,List.length_cons]
theorem jmK (pk:List UInt8):∀ (ks:List (List UInt8)) (p n:Int) (x:Ke),x∈jmG pk p n ks→x.pk=pk∧∃ i:Nat,ks[i]? =some x.k∧x.n=n+i
 | [],_,_,_,h=>by cases h
 | k::r,p,n,x,h=>by
   rw [jmG,joG] at h
   rcases h with rfl | h
   ·exact ⟨rfl,0,rfl,by simp⟩
   ·obtain ⟨h1,i,h2,h3⟩:=jmK pk r _ _ x h
    exact ⟨h1,i+1,h2,by rw [h3];omega⟩
theorem jmQ (pk:List UInt8):∀ (ks:List (List UInt8)) (p n:Int) (i:Nat),i < ks.length→yZ (jmG pk p n ks) pk (n+i)=true
 | [],_,_,_,h=>by cases h
 | k::r,p,n,0,_=>by unfold yZ;rw [jmG,List.any_cons,show Ke.at pk (n+((0:Nat):Int)) ⟨pk,n,k,p⟩=true from Ke.at_iff.2 ⟨rfl,by simp⟩];rfl
 | k::r,p,n,i+1,h=>by
   have:=jmQ pk r (p+1) (n+1) i (by simpa using h)
   unfold yZ at this ⊢
   rw [jmG,List.any_cons,show n+((i+1:Nat):Int)=n+1+i by omega,this,Bool.or_true]
theorem jm6 (L M:List Ke) (pk:List UInt8) (n:Int):yZ (L++M) pk n=(yZ L pk n||yZ M pk n):=by unfold yZ;rw [List.any_append]
theorem jmN (pk:List UInt8):∀ (ks:List (List UInt8)) (L:List Ke) (p n:Int),0≤n→(∀ x∈L,x.pk=pk→x.n < n)→L.length+ks.length≤8→yP pk L p n ks=(L++jmG pk p n ks,p+ks.length)
 | [],L,p,n,_,_,_=>by simp [yP,jmG]
 | k::r,L,p,n,h0,hL,hl=>by
   have hf:yZ L pk n=false:=by
    cases h:yZ L pk n
    ·rfl
    ·obtain ⟨a,b,c⟩:=ja0 h
     have:=hL _ a b
     omega
   have he:Jt L pk n=0:=by unfold Jt;rw [if_neg (by omega),if_neg (by rw [hf];decide)]
   rw [List.length_cons] at hl
   have h1:jcz L ⟨pk,n,k,p⟩=L++ [⟨pk,n,k,p⟩]:=by
    unfold jcz jeS
    rw [if_pos he,if_pos (by omega)]
   have ih:=jmN pk r (L++ [⟨pk,n,k,p⟩]) (p+1) (n+1) (by omega) (fun x hx hp=>by
    rw [joJ,joH] at hx
    rcases hx with hx | rfl
    ·have:=hL x hx hp;omega
    ·dsimp only;omega) (by rw [joI,List.length_singleton];omega)
   rw [yP,h1,show jdw L p pk n=p+1 by unfold jdw;rw [if_pos he]]
   refine ih.trans ?_
   rw [jmG,jpf,List.singleton_append,List.length_cons]
   congr 1
   omega
theorem jnc (c:List UInt8) (m i:Nat){k:List UInt8}(h:(Y2 c m)[i]? =some k):i < m∧k=mkK c i:=by
 unfold Y2 at h
 rw [joV,Option.map_eq_some_iff] at h
 obtain ⟨j,h1,rfl⟩:=h
 obtain ⟨a,b⟩:=jpz.1 h1
 rw [List.getElem_range] at b
 rw [List.length_range] at a
 subst b
 exact ⟨a,rfl⟩
structure LateS (c pk:List UInt8) (t:Rz) (come:Nat→Bool) (r:Nat):Prop where
 ho:t.s.ho=true
 ot:t.s.ot=pk
 ri:t.s.ri=true
 rm:t.s.rm=(r:Int)
 rc:t.s.rc=Yg c r
 mem:∀ x∈t.L,x.pk=pk∧∃ j:Nat,j < r∧come j=false∧x.n=(j:Int)∧x.k=mkK c j
 has:∀ j:Nat,j < r→come j=false→yZ t.L pk (j:Int)=true
 fut:∀ j:Nat,r≤j→come j=false
 len:t.L.length≤r
section
variable {c pk:List UInt8}{t:Rz}{come:Nat→Bool}{r i:Nat}{prev:Int}{data body:List UInt8}
theorem LateS.none (h:LateS c pk t come r) (hi:r≤i∨come i=true):yZ t.L pk (i:Int)=false:=by
 cases q:yZ t.L pk (i:Int)
 ·rfl
 ·obtain ⟨a,_,b⟩:=ja0 q
  obtain ⟨_,j,h1,h2,h3,_⟩:=h.mem _ a
  obtain rfl:j=i:=by omega
  rcases hi with z | z
  ·omega
  ·rw [h2] at z;cases z
theorem LateS.tail (h:LateS c pk t come r) (hi:r≤i∨come i=true) (data body:List UInt8):vZ t pk prev i data body=zj t i data body:=by
 have hA:=(jcu t pk prev).1 h.ho h.ot.symm
 rw [(QI _ _ _ _ _ _).2.2 (h.none hi) (by rw [hA]),hA]
theorem jno (h:LateS c pk t come r) (hi:come i=true):vZ t pk prev i data body=(t,[],5):=by
 have hr:i < r:=Nat.lt_of_not_le fun z=>by have:=h.fut i z;rw [hi] at this;cases this
 rw [h.tail (.inr hi)]
 have hB:=(jnA t (i:Int)).1 (.inr (by rw [h.rm];omega))
 unfold zj
 rw [hB,if_pos (show ((5:Int)≠0) by decide)]
theorem jmO (h:LateS c pk t come r) (hr:i < r) (hi:come i=false):
 vZ t pk prev i data body=(⟨t.s,yN t.L pk i,t.puts⟩,J5 (mkK c i) data body,J4 (mkK c i) data body)∧LateS c pk ⟨t.s,yN t.L pk i,t.puts⟩ (fun j=>come j||j==i) r:=by
 have hh:=h.has i hr hi
 obtain ⟨a,_,b⟩:=ja0 hh
 obtain ⟨_,j,h1,h2,h3,h4⟩:=h.mem _ a
 obtain rfl:j=i:=by omega
 refine ⟨by rw [(QI _ _ _ _ _ _).1 hh,h4],⟨h.ho,h.ot,h.ri,h.rm,h.rc,fun x hx=> ?_,fun k hk hc=> ?_,fun k hk=> ?_,jo2 (List.length_filter_le _ _) h.len⟩⟩
 ·obtain ⟨hx,hn⟩:=List.mem_filter.1 hx
  obtain ⟨e1,k,e2,e3,e4,e5⟩:=h.mem x hx
  refine ⟨e1,k,e2,?_,e4,e5⟩
  rw [e3,Bool.false_or]
  cases q:k==j
  ·rfl
  ·rw [eq_of_beq q] at e4
   rw [Ke.at_iff.2 ⟨e1,e4⟩] at hn
   cases hn
 ·rw [Bool.or_eq_false_iff] at hc
  obtain ⟨e1,e2,e3⟩:=ja0 (h.has k hk hc.1)
  have hne:k≠j:=fun z=>by have:=hc.2;rw [z] at this;simp at this
  refine List.any_eq_true.2 ⟨_,List.mem_filter.2 ⟨e1,?_⟩,Ke.at_iff.2 ⟨e2,e3⟩⟩
  cases q:(ye t.L pk (k:Int)).at pk (j:Int)
  ·rfl
  ·have:=(Ke.at_iff.1 q).2
   omega
 ·show (come k||k==j)=false
  rw [h.fut k hk,Bool.false_or]
  exact beq_false_of_ne (by omega)
theorem jmW {s:Rt}(hm:s.rm=(r:Int)) (hr:r≤i):Jf s (i:Int)=((i - r:Nat):Int)∧qO s i=if 8 < i - r then 6 else 0:=by
 have e:Jf s (i:Int)=((i - r:Nat):Int):=by unfold Jf;omega
 refine ⟨e,?_⟩
 unfold qO
 rw [e]
 by_cases z:8 < i - r
 ·rw [if_pos z,if_pos (.inr (by omega))]
 ·rw [if_neg z,if_neg (by omega)]
theorem jmU (h:LateS c pk t come r) (hr:r≤i) (hi:i≤8):
 ∃ t',(∀ data body,zj t i data body=(t',J5 (mkK c i) data body,J4 (mkK c i) data body))∧LateS c pk t' (fun j=>come j||j==i) (i+1)∧t'.puts=t.puts+((i - r:Nat):Int)∧t'.L=t.L++jmG pk t.puts r (Y2 t.s.rc (i - r)):=by
 obtain ⟨e1,e2⟩:=jmW (i:=i) h.rm hr
 rw [if_neg (by omega)] at e2
 have ml:(Y2 t.s.rc (i - r)).length=i - r:=by simp [Y2]
 have hl:=h.len
 have hP:=jmN pk (Y2 t.s.rc (i - r)) t.L t.puts r (by omega) (fun x hx _=>by
  obtain ⟨_,j,h1,_,h3,_⟩:=h.mem x hx
  omega) (by rw [ml];omega)
 rw [ml] at hP
 have hS:jX t (i:Int)=⟨{t.s with rc:=Yg t.s.rc (i - r),rm:=(i:Int)},t.L++jmG pk t.puts r (Y2 t.s.rc (i - r)),t.puts+((i - r:Nat):Int)⟩:=by
  unfold jX
  rw [if_pos e2,e1,Int.toNat_natCast,h.ot,h.rm]
  dsimp only
  rw [hP]
 have hB:=(jnA t (i:Int)).2.2 (by rw [h.ri,h.rm];rintro (z | z);cases z;omega) e2
 have hrc:Yg t.s.rc (i - r)=Yg c i:=by rw [h.rc,jmI,Nat.add_sub_cancel' hr]
 have hK:opK t (i:Int)=mkK c i:=by unfold opK mkK;rw [hS];dsimp only;rw [hrc]
 refine ⟨⟨yX (jX t i).s,(jX t i).L,(jX t i).puts⟩,fun data body=> ?_,?_,?_,?_⟩
 ·unfold zj
  rw [hB,if_neg (fun z=>z rfl),hK]
 ·rw [hS]
  refine ⟨h.ho,h.ot,h.ri,?_,?_,fun x hx=> ?_,fun k hk hc=> ?_,fun k hk=> ?_,?_⟩
  ·show (i:Int)+1=_;omega
  ·show jM (Yg t.s.rc (i - r)) vI=Yg c (i+1)
   rw [hrc];rfl
  ·rw [joJ] at hx
   rcases hx with hx | hx
   ·obtain ⟨q1,j,q2,q3,q4,q5⟩:=h.mem x hx
    refine ⟨q1,j,by omega,?_,q4,q5⟩
    rw [q3,Bool.false_or]
    exact beq_false_of_ne (by omega)
   ·obtain ⟨q1,j,q2,q3⟩:=jmK _ _ _ _ x hx
    obtain ⟨q4,q5⟩:=jnc _ _ _ q2
    refine ⟨q1,r+j,by omega,?_,by rw [q3];omega,?_⟩
    ·rw [h.fut _ (by omega),Bool.false_or]
     exact beq_false_of_ne (by omega)
    ·rw [q5]
     unfold mkK
     rw [h.rc,jmI]
  ·rw [Bool.or_eq_false_iff] at hc
   have hne:k≠i:=fun z=>by have:=hc.2;rw [z] at this;simp at this
   show yZ (t.L++_) pk _=true
   rw [jm6]
   rcases jow k r with z | z
   ·rw [h.has k z hc.1];rfl
   ·have:=jmQ pk (Y2 t.s.rc (i - r)) t.puts r (k - r) (by rw [ml];omega)
    rw [show (r:Int)+((k - r:Nat):Int)=(k:Int) by omega] at this
    rw [this,Bool.or_true]
  ·show (come k||k==i)=false
   rw [h.fut k (by omega),Bool.false_or]
   exact beq_false_of_ne (by omega)
  ·show (t.L++_).length≤i+1
   rw [joI,jny,ml];omega
 ·rw [hS]
 ·rw [hS]
end
theorem jmZ {s u:Rt}{x y:List UInt8}(h:Ahead s u x y) (p:Int):LateS (za u (jE x)).rc (jE x) ⟨za u (jE x),[],p⟩ (fun _=>false) 0:=by
 obtain ⟨_,f,f3,_⟩:=QX h
 exact ⟨f.uho,f.uot,f.uri,f3,rfl,(fun x hx=>absurd hx jpB),(fun j hj=>by omega),(fun _ _=>rfl),joq 0⟩
theorem jm0 {s u:Rt}{x y:List UInt8}(h:Ahead s u x y) (p:Int) (n:Int) (data body:List UInt8):vZ ⟨u,[],p⟩ (jE x) s.bf n data body=zj ⟨za u (jE x),[],p⟩ n data body:=by
 rw [(QI _ _ _ _ _ _).2.2 rfl (by rw [jbD h]),jbD h]
theorem jiV (w:World) (o:Obj) (C:Array Value) (n c:Nat):(convert 33 33 (.slice (some ⟨w.heap.size+1,0,none⟩) n c)).run joz ((w.alloc o).alloc (.cells C 5))= .ok (.slice (some ⟨w.heap.size+1,0,none⟩) n c) ((w.alloc o).alloc (.cells C 5 (C.size,C.size+1))):=by
 have:=Qn (w.alloc o) C n c
 rwa [je] at this
theorem Bs.lit13 (w:World) (t:joE) (fr:Nat×Nat) (xs:List UInt8) (cs:Array Value) (hcs:cs=(xs.map fun x=>joC .u8 (x.toNat:Int)).toArray) (n:Nat) (hn:xs.length=n) (hm:n≤1000000):
 Bs (w.alloc (.cells cs t fr)) (some ⟨w.heap.size,0,none⟩) n n xs:=by
 refine ⟨hn,joq _,by unfold maxLen;omega,fun _=>⟨w.heap.size,0,rfl,by rw [je];omega,fun j hj=> ?_⟩⟩
 rw [jpg _ _ _ _ _ fr (jps _ _),hcs]
 simp [bt,jot,show j < xs.length by omega]
theorem Bs.two13 {w u:World}{b off n c i j:Nat}{xs:List UInt8}(h:Bs w (some ⟨b,off,none⟩) n c xs) (x:Two i j w u) (h1:b≠i) (h2:b≠j):Bs u (some ⟨b,off,none⟩) n c xs:=
 ⟨h.1,h.2.1,h.2.2.1,fun h0=>by
   obtain ⟨b',off',e,hb,hc⟩:=h.2.2.2 h0
   cases e
   exact ⟨b,off,rfl,jos hb x.2.2.2.1,fun k hk=>(World.cell?_of_block (x.2.2.2.2 b hb h1 h2)).trans (hc k hk)⟩⟩
theorem JP {w:World}{a b:Pty}{tg tp:joE×Nat×Nat}(h:Duo w a b tg tp){A B:Option Addr}{m1 c1 m2 c2:Nat}{bs text:List UInt8}(hk:a.k < 1000000) (hm1:m1≤900000) (hM:∀ u,Two a.s a.g w u→Bs u A m1 c1 bs∧Bs u B m2 c2 text)
 {E:Int} {H:List Value} {SB:List UInt8} {S':Rt} {K':Nat} (hE:qW a.t.s a.pair text=E) (hH:yI a.t.s a.pair text=H) (hB:yH a.t.s a.pair bs text=SB) (hS:yj a.t.s a.pair text=S') (hK:yg a.t.s text a.k=K'):
 Calls joz 21 #[.pointer (some ⟨a.s,0,none⟩), .slice A m1 c1, .slice B m2 c2] w fun e w'=>∃ A' n' c',e= .returned (.tuple #[.agg H.toArray, .slice A' n' c', .int .i64 E])∧Own w.heap.size w' A' n' c' SB∧Duo w' {a with k:=K',t:=⟨S',a.t.L,a.t.puts⟩} b tg tp∧Two a.s a.g w w':=by
 subst hE hH hB hS hK
 exact jhl h hk hm1 hM
theorem jbw {w:World}{a b:Pty}{tg tp:joE×Nat×Nat}(h:Duo w a b tg tp){A B:Option Addr}{m1 c1 m2 c2:Nat}{bs body pk:List UInt8}{prev n:Int}(hp:a.t.puts≤1000000000) (hb:Bs w A m1 c1 bs) (hb':Bs w B m2 c2 body) (hm1:m1≤900000) (hm2:m2≤1000000) (lp:pk.length=32)
 {E:Int} {T:List UInt8} {S':Rz} (hE:yt a.t bs pk prev n body=E) (hT:Ym a.t bs pk prev n body=T) (hS:zf a.t bs pk prev n body=S'):
 Calls joz 23 #[.pointer (some ⟨a.s,0,none⟩), .slice A m1 c1, .agg (hdC pk prev n).toArray, .slice B m2 c2] w fun e w'=>∃ A' n' c' kp' mb',e= .returned (.tuple #[.slice A' n' c', .int .i64 E])∧Own w.heap.size w' A' n' c' T∧Duo w' {a with kp:=kp',mb:=mb',t:=S'} b tg tp∧w.grownBy w' (some a.s):=by
 subst hE hT hS
 exact jhk h hp hb hb' hm1 hm2 lp
def Qe:List UInt8:=1::jpp 31 0
theorem jde:Tryz.prog.built 23 [(0, .int .u8 1)]=some (cellsOf Qe).toArray:=by kernel_rfl
theorem jg5 (shared:List UInt8) (p text bs:List UInt8) (k:Nat):qW (YB shared zP) p text=7∧yj (YB shared zP) p text=YB shared zP∧yI (YB shared zP) p text=hdC (jpp 32 0) 0 0∧yH (YB shared zP) p bs text= []∧yg (YB shared zP) text k=k:=by
 have e:qW (YB shared zP) p text=7:=by unfold qW;rw [if_pos ⟨rfl,rfl⟩]
 exact ⟨e,by unfold yj;rw [e];rfl,by unfold yI;rw [e];rfl,by unfold yH;rw [e];rfl,by unfold yg;rw [if_pos (.inl ⟨rfl,rfl⟩)]⟩
theorem jbd {w:World}{tg tp:joE×Nat×Nat}(hG:Gl w tg) (hP:Gp w tp):
 Calls joz 15 #[] w fun e w'=>e= .returned (.bool true)∧Ext w w':=by
 have TW:=Hj (jbQ (w:=w) (shared:=Qe) rfl hG hP)
 have bk:=Hj jde
 have gl:=hG.lt
 have pl:=hP.lt
 obtain ⟨mE,mS,mH,mB,mK⟩:=jg5 Qe (j3 (jO [121] 0)) [] [] 0
 obtain ⟨aA,a0,a1,a2⟩:=Zw Qe
 have okA:okH (J2 Qe).bf (J2 Qe).sm=true:=by rw [a0,a1];rfl
 obtain ⟨sE,sS,sH,sB,sK⟩:=jeZ (p:=j3 (jO [120] 1)) (text:= [104,101,108,108,111]) aA.si aA.mt (by decide) okA
 obtain ⟨hE,hT,_,_,_⟩:=jal aA a0 0 [120] [104,101,108,108,111] okA
 rw [jaE aA.own] at sH sB
 have SB1:=sB [120]
 clear hG hP aA a0 a1 a2 sB
 obtain ⟨ans,hans⟩:∃ x,x=YB Qe zP:=⟨_,rfl⟩
 obtain ⟨beg,hbeg⟩:∃ x,x=J2 Qe:=⟨_,rfl⟩
 have TW2:Hid (Calls joz 17 #[.agg (cellsOf Qe).toArray] w fun e w'=>∃ sa ka ma ga la sb kb mb gb lb,e= .returned (.agg #[.pointer (some ⟨sa,0,none⟩), .pointer (some ⟨sb,0,none⟩)])∧Duo w' ⟨sa,ka,ma,ga,la,[120],1,⟨beg,[],0⟩⟩ ⟨sb,kb,mb,gb,lb,[121],0,⟨ans,[],0⟩⟩ tg tp∧Ext w w'∧w.heap.size≤la∧w.heap.size≤lb):=by rw [hans,hbeg];exact TW
 rw [←hans] at mE mS mH mB mK hE hT
 rw [←hbeg] at sE sS sH SB1 sK hE hT okA
 clear TW hans hbeg okA
 have DS1:Hid (∀ (W:World) (sa ka ma ga la sb kb mb gb lb:Nat),Duo W ⟨sa,ka,ma,ga,la,[120],1,⟨beg,[],0⟩⟩ ⟨sb,kb,mb,gb,lb,[121],0,⟨ans,[],0⟩⟩ tg tp→Calls joz 21 #[.pointer (some ⟨sb,0,none⟩), .slice none 0 0, .slice none 0 0] W fun e w'=>∃ A' n' c',e= .returned (.tuple #[.agg (hdC (jpp 32 0) 0 0).toArray, .slice A' n' c', .int .i64 7])∧Own W.heap.size w' A' n' c' []∧Duo w' ⟨sb,kb,mb,gb,lb,[121],0,⟨ans,[],0⟩⟩ ⟨sa,ka,ma,ga,la,[120],1,⟨beg,[],0⟩⟩ tg tp∧Two sb gb W w'):=fun W sa ka ma ga la sb kb mb gb lb D=>
  JP D.swap (bs:= []) (text:= []) (by show (0:Nat) < 1000000;omega) (by omega) (fun u _=>⟨Bs.nil u,Bs.nil u⟩) mE mH mB mS mK
 have DS2:Hid (∀ (W:World) (sa ka ma ga la sb kb mb gb lb b1 b2:Nat),Duo W ⟨sa,ka,ma,ga,la,[120],1,⟨beg,[],0⟩⟩ ⟨sb,kb,mb,gb,lb,[121],0,⟨ans,[],0⟩⟩ tg tp→Bs W (some ⟨b1,0,none⟩) 1 1 [120]→Bs W (some ⟨b2,0,none⟩) 5 5 [104,101,108,108,111]→(b1≠sa∧b1≠ga)→(b2≠sa∧b2≠ga)→Calls joz 21 #[.pointer (some ⟨sa,0,none⟩), .slice (some ⟨b1,0,none⟩) 1 1, .slice (some ⟨b2,0,none⟩) 5 5] W fun e w'=>∃ A' n' c',e= .returned (.tuple #[.agg (hdC (jE (jO [120] 0)) beg.bf beg.sm).toArray, .slice A' n' c', .int .i64 0])∧Own W.heap.size w' A' n' c' (qA (jM beg.sc qd) (qb [120] (jE (jO [120] 0)) beg.bf beg.sm) [104,101,108,108,111])∧Duo w' ⟨sa,ka,ma,ga,la,[120],1,⟨jW beg,[],0⟩⟩ ⟨sb,kb,mb,gb,lb,[121],0,⟨ans,[],0⟩⟩ tg tp∧Two sa ga W w'):=fun W sa ka ma ga la sb kb mb gb lb b1 b2 D h1 h2 n1 n2=>
  JP D (by show (1:Nat) < 1000000;omega) (by omega) (fun u x=>⟨h1.two13 x n1.1 n1.2,h2.two13 x n2.1 n2.2⟩) sE sH SB1 sS (sK 1)
 have LSB:=JV (jM beg.sc qd) (qb [120] (jE (jO [120] 0)) beg.bf beg.sm) [104,101,108,108,111]
 have DR:Hid (∀ (W:World) (sa ka ma ga la sb kb mb gb lb b1:Nat) (A':Option Addr) (n' c':Nat),Duo W ⟨sa,ka,ma,ga,la,[120],1,⟨jW beg,[],0⟩⟩ ⟨sb,kb,mb,gb,lb,[121],0,⟨ans,[],0⟩⟩ tg tp→Bs W (some ⟨b1,0,none⟩) 1 1 [120]→Bs W A' n' c' (qA (jM beg.sc qd) (qb [120] (jE (jO [120] 0)) beg.bf beg.sm) [104,101,108,108,111])→Calls joz 23 #[.pointer (some ⟨sb,0,none⟩), .slice (some ⟨b1,0,none⟩) 1 1, .agg (hdC (jE (jO [120] 0)) beg.bf beg.sm).toArray, .slice A' n' c'] W fun e w'=>∃ A2 n2 c2,e= .returned (.tuple #[.slice A2 n2 c2, .int .i64 0])∧Own W.heap.size w' A2 n2 c2 [104,101,108,108,111]∧W.grownBy w' (some sb)):=fun W sa ka ma ga la sb kb mb gb lb b1 A' n' c' D h1 h2=>
  (jbw D.swap (by show (0:Int)≤1000000000;decide) h1 h2 (by omega) (by have:=h2.len;rw [LSB] at this;show n'≤1000000;simp at this;omega) (YH _) hE hT rfl).mono fun e w' q=>by
    obtain ⟨A2,n2,c2,_,_,q1,q2,_,q4⟩:=q
    exact ⟨A2,n2,c2,q1,q2,q4⟩
 generalize qA (jM beg.sc qd) (qb [120] (jE (jO [120] 0)) beg.bf beg.sm) [104,101,108,108,111]=SB at *
 have L_H1:=yz (YH (jO [120] 0)) beg.bf beg.sm
 have O_H1:(hdC (jE (jO [120] 0)) beg.bf beg.sm).toArray.all (·.oneCell')=true:=YZ
 have L_hz:(hdC (jpp 32 0) 0 0).length=34:=yz rfl _ _
 have O_hz:(hdC (jpp 32 0) 0 0).toArray.all (·.oneCell')=true:=YZ
 have hal:=Jp
 generalize hdC (jE (jO [120] 0)) beg.bf beg.sm=H1 at *
 generalize hdC (jpp 32 0) 0 0=ZH at *
 have S_H1:H1.toArray.size=34:=by rw [jpw,L_H1]
 have S_hz:ZH.toArray.size=34:=by rw [jpw,L_hz]
 generalize jW beg=beg2 at *
 clear sE sS sH SB1 sK mE mS mH mB mK hE hT LSB L_H1 L_hz
 have hal2:=JD
 obtain ⟨T0,hT0⟩:∃ x,x=jjJ:=⟨_,rfl⟩
 rw [←hT0] at hal2
 have S_T0:T0.toArray.size=2:=by rw [hT0];rfl
 clear hT0
 generalize (cellsOf Qe).toArray=K1 at *
 have CV:Hid (∀ (W:World) A n c (ys:List UInt8),Bs W A n c ys→(convert 33 9 (.slice A n c)).run joz W= .ok (.string (vR ys)) W):=fun W A n c ys h=>jfz h
 go_enter Tryz.func15,Tryz.ntmps15
 go_wp2_with (first | ((with_reducible refine jm (o:=⟨some 10, .build 23 _,_,_,_,_⟩) ?_ 23 _ rfl K1 ?_ ?_);(·rfl);(·simp only [jpG,jpC,jpH];exact bk.out);go_frame))
 refine TW2.out.mono ?_
 rintro e w1 ⟨sa,ka,ma,ga,la,sb,kb,mb,gb,lb,rfl,D1,x1,l1,l2⟩
 have a1:=D1.pa.ss.sl
 have a2:=D1.pa.gs
 have b1:=D1.pb.ss.sl
 have b2:=D1.pb.gs
 dsimp only at a1 a2 b1 b2
 have OO: #[jon (some ⟨sa,0,none⟩), .pointer (some ⟨sb,0,none⟩)].all (·.oneCell')=true:=qC (L:= [jon (some ⟨sa,0,none⟩), .pointer (some ⟨sb,0,none⟩)]) (fun v hv=>by
  rcases joG.1 hv with rfl | hv
  ·rfl
  ·rcases joG.1 hv with rfl | hv
   ·rfl
   ·cases hv)
 have Y:Hid (Cb ((w1.alloc (.cells T0.toArray 28)).setRow w1.heap.size #[.pointer (some ⟨sa,0,none⟩), .pointer (some ⟨sb,0,none⟩)]) w1.heap.size 28 [.pointer (some ⟨sa,0,none⟩), .pointer (some ⟨sb,0,none⟩)]∧Ext w1 ((w1.alloc (.cells T0.toArray 28)).setRow w1.heap.size #[.pointer (some ⟨sa,0,none⟩), .pointer (some ⟨sb,0,none⟩)])):=⟨Cb.set (L':= [.pointer (some ⟨sa,0,none⟩), .pointer (some ⟨sb,0,none⟩)]) (Cb.new _ _ _),Ext.newRow _ _ _⟩
 replace D1:=Hj D1
 replace x1:=Hj x1
 clear TW2 bk
 go_upto_region 2 with (refine ws_ rfl 28 rfl w1.heap.size #[.pointer (some ⟨sa,0,none⟩), .pointer (some ⟨sb,0,none⟩)] rfl rfl (jps _ _) rfl (by rw [S_T0];rfl) OO ?_;simp only [joT])
 obtain ⟨r1,hr1⟩:∃ x,x=w1.heap.size:=⟨_,rfl⟩
 refine jg (fun W=>Cb W w1.heap.size 28 [.pointer (some ⟨sa,0,none⟩), .pointer (some ⟨sb,0,none⟩)]∧Ext w1 W) Y.out ?_
 rw [←hr1]
 have wr1:w1.heap.size≤r1:=jod hr1.symm
 clear Y
 replace hr1:=Hj hr1
 rintro w2 ⟨k1,x2⟩
 have D2:=D1.out.ext x2
 have X2:=Hj (x1.out.trans x2)
 have S2:=Hj (DS1.out w2 _ _ _ _ _ _ _ _ _ _ D2)
 have c0:=k1.cell (j:=0) rfl
 have c1:=k1.cell (j:=1) rfl
 have r1l:=k1.lt
 replace k1:=Hj k1
 clear D1 x1 x2 D2 DS1
 go_wp2_with fail
 refine S2.out.mono ?_
 rintro e w3 ⟨A3,n3,d3,rfl,_,D3,t3⟩
 have k3:Cb w3 r1 28 [.pointer (some ⟨sa,0,none⟩), .pointer (some ⟨sb,0,none⟩)]:=t3.block k1.out (by omega) (by omega)
 have X3:Ext w w3:=by
  have hl:=D3.pa.src.1
  dsimp only at hl
  exact Two.ext X2.out t3 (by omega) (by omega)
 have Y:Hid (Ext w3 ((w3.alloc (.cells ZH.toArray 47)).setRow w3.heap.size ZH.toArray)):=Ext.newRow _ _ _
 replace D3:=Hj D3
 clear S2 k1 X2 t3 c0 c1
 go_upto_region 5 with (refine ws_ rfl 47 rfl w3.heap.size ZH.toArray rfl rfl (jps _ _) (by rw [S_hz];rfl) rfl O_hz ?_;simp only [joT])
 refine jg (fun W=>Ext w3 W) Y.out ?_
 clear Y
 rintro w4 x4
 have k4:=k3.ext x4
 have c0:=k4.cell (j:=0) rfl
 have D4:=D3.out.swap.ext x4
 have X4:=Hj (X3.trans x4)
 have r4l:=k4.lt
 have hcv:=Qn
 have hcv1:=jiV
 have v1:Hid (Bs ((w4.alloc (jnX #[.int .u8 120] 5 (1,2))).alloc (jnX #[.int .u8 104, .int .u8 101, .int .u8 108, .int .u8 108, .int .u8 111] 5 (5,6))) (some ⟨w4.heap.size,0,none⟩) 1 1 [120]):=(Bs.lit13 w4 _ (1,2) [120] _ rfl 1 rfl (by omega)).ext ((jnQ _).alloc _)
 have v2:Hid (Bs ((w4.alloc (jnX #[.int .u8 120] 5 (1,2))).alloc (jnX #[.int .u8 104, .int .u8 101, .int .u8 108, .int .u8 108, .int .u8 111] 5 (5,6))) (some ⟨w4.heap.size+1,0,none⟩) 5 5 [104,101,108,108,111]):=by
  have:=Bs.lit13 (w4.alloc (jnX #[.int .u8 120] 5 (1,2))) 5 (5,6) [104,101,108,108,111] _ rfl 5 rfl (by omega)
  rwa [je] at this
 have x5:Hid (Ext w4 ((w4.alloc (jnX #[.int .u8 120] 5 (1,2))).alloc (jnX #[.int .u8 104, .int .u8 101, .int .u8 108, .int .u8 108, .int .u8 111] 5 (5,6)))):=((jnQ w4).alloc _).alloc _
 have S5:=Hj (DS2.out _ _ _ _ _ _ _ _ _ _ _ _ _ (D4.ext x5.out) v1.out v2.out ⟨by omega,by omega⟩ ⟨by omega,by omega⟩)
 replace D4:=Hj D4
 replace k4:=Hj k4
 clear DS2 D3 k3 X3 x4
 go_wp2_with fail
 refine S5.out.mono ?_
 rintro e w6 ⟨A6,n6,d6,rfl,o6,D6,t6⟩
 have k6:Cb w6 r1 28 [.pointer (some ⟨sa,0,none⟩), .pointer (some ⟨sb,0,none⟩)]:=t6.block (k4.out.ext x5.out) (by omega) (by omega)
 have X6:Ext w w6:=by
  have hl:=D6.pa.src.1
  dsimp only at hl
  exact Two.ext (X4.out.trans x5.out) t6 (by omega) (by omega)
 have Y:Hid (Cb ((w6.alloc (.cells ZH.toArray 47)).setRow w6.heap.size H1.toArray) w6.heap.size 47 H1∧Ext w6 ((w6.alloc (.cells ZH.toArray 47)).setRow w6.heap.size H1.toArray)):=⟨Cb.set (Cb.new _ _ _),Ext.newRow _ _ _⟩
 have b6:=o6.bs
 replace D6:=Hj D6
 replace b6:=Hj b6
 clear S5 k4 X4 x5 t6 o6 c0 v1 v2 D4
 go_upto_region 6 with (refine ws_ rfl 47 rfl w6.heap.size H1.toArray rfl rfl (jps _ _) (by rw [S_H1];rfl) (by rw [S_H1,S_hz]) O_H1 ?_;simp only [joT])
 obtain ⟨r5,hr5⟩:∃ x,x=w6.heap.size:=⟨_,rfl⟩
 refine jg (fun W=>Cb W w6.heap.size 47 H1∧Ext w6 W) Y.out ?_
 rw [←hr5]
 clear Y
 replace hr5:=Hj hr5
 rintro w7 ⟨k5,x7⟩
 have k7:=k6.ext x7
 have c1:=k7.cell (j:=1) rfl
 have v1:Hid (Bs (w7.alloc (jnX #[.int .u8 120] 5 (1,2))) (some ⟨w7.heap.size,0,none⟩) 1 1 [120]):=Bs.lit13 w7 _ (1,2) [120] _ rfl 1 rfl (by omega)
 have x8:Hid (Ext w7 (w7.alloc (jnX #[.int .u8 120] 5 (1,2)))):=(jnQ w7).alloc _
 have k58:Hid (Cb (w7.alloc (jnX #[.int .u8 120] 5 (1,2))) r5 47 H1):=k5.ext x8.out
 have R8:=Hj (DR.out _ _ _ _ _ _ _ _ _ _ _ _ A6 n6 d6 ((D6.out.ext x7).ext x8.out) v1.out ((b6.out.ext x7).ext x8.out))
 have lbb:=D6.out.pb.src.1
 dsimp only at lbb
 have X8:=Hj ((X6.trans x7).trans x8.out)
 clear DR D6 k6 X6 b6 k5 x7 k7
 go_wp2_with (first | ((with_reducible refine js (o:=⟨some 43,_,_,_,_,_⟩) ?_ 47 _ rfl r5 ?_ 47 H1.toArray (0,0) _ ?_ jol ?_ ?_ ?_);(·rfl);(·rfl);(·exact k58.out);(·rfl);(·rw [S_H1];rfl);go_frame))
 refine R8.out.mono ?_
 rintro e w9 ⟨A9,n9,d9,rfl,o9,g9⟩
 have F:Hid (Ext w w9):=JQ X8.out g9 (by omega)
 have cv:=CV.out _ _ _ _ _ o9.bs
 have u7:((vR [104,101,108,108,111]).toList== [104,101,108,108,111])=true:=by simp [vR]
 generalize vR [104,101,108,108,111]=HS at *
 clear R8 X8 x8 k58 v1 o9 g9 c1 CV
 go_wp2_with fail
 all_goals (go_ret;exact ⟨rfl,F.out⟩)
theorem Pm.cb {w w':World}{a:Pty}{r:Nat}{T:joE}{L:List Value}(h:Pm w a) (hr:Cb w r T L) (hT:116≠T∧184≠T) (hg:a.g < r) (e:Two r r w w'):Pm w' a:=by
 have s1:a.s≠r:=zt h.ss.sq hr hT.1
 have s2:a.kp≠r:=zt h.ss.sk.cb hr hT.2
 have s3:a.mb≠r:=fun z=>by
  obtain ⟨es,c,q⟩:=h.ss.sk.mp.obj
  unfold Cb at hr
  rw [←z,q] at hr
  cases hr
 have hx:=e.2.2.2.2
 exact ⟨h.ss.stay (hx _ h.ss.sl s1 s1) (hx _ h.ss.kl s2 s2) (hx _ h.ss.ml s3 s3),h.src.two e (.inr hg) (.inr hg),h.gs,h.pr⟩
theorem Duo.cb {w w':World}{a b:Pty}{tg tp:joE×Nat×Nat}{r:Nat}{T:joE}{L:List Value}(h:Duo w a b tg tp) (hr:Cb w r T L) (hT:116≠T∧184≠T) (ha:a.g < r) (hb:b.g < r) (e:Two r r w w'):Duo w' a b tg tp:=by
 have p1:=h.pa.pr
 have p2:=h.pa.src.1.2
 exact ⟨h.pa.cb hr hT ha e,h.pb.cb hr hT hb e,h.ne,h.ab,h.ba,e.block h.gl (by omega) (by omega),e.block h.gp (by omega) (by omega)⟩
theorem Two.setCellR (w:World) (r o:Nat) (v:Value):Two r r w (w.setCell ⟨r,o,none⟩ v):=⟨rfl,rfl,rfl,by simp [World.setCell],fun i _ h _=>jo9 w ⟨r,o,none⟩ v i h⟩
structure SpkA (c pk:List UInt8) (i:Nat) (s:Rt):Prop where
 lp:pk.length=32
 si:s.si=true
 mt:s.mt=false
 pub:s.pub=pk
 bf:s.bf=0
 sm:s.sm=(i:Int)
 sc:s.sc=Yg c i
def jnx (c pk:List UInt8) (i:Nat) (text:List UInt8):List UInt8:=qA (mkK c i) (qb [] pk 0 i) text
theorem jmJ (c pk:List UInt8) (i:Nat) (text:List UInt8):(jnx c pk i text).length=text.length+32:=JV _ _ _
theorem jm2 {i:Nat}(hi:i≤1000000):okH 0 (i:Int)=true:=by
 unfold okH upB
 simp
 omega
theorem SpkA.say {c pk:List UInt8}{i:Nat}{s:Rt}(h:SpkA c pk i s) (hi:i≤1000000){text:List UInt8}(ht:text.length≤300) (p:List UInt8):
 qW s p text=0∧yj s p text=jW s∧yI s p text=hdC pk 0 i∧yH s p [] text=jnx c pk i text∧(∀ k,yg s text k=k)∧SpkA c pk (i+1) (jW s):=by
 obtain ⟨e,eS,eH,eB,eK⟩:=jeZ (p:=p) h.si h.mt ht (by rw [h.bf,h.sm];exact jm2 hi)
 have eB':=eB []
 rw [h.pub,h.bf,h.sm] at eH eB'
 rw [h.sc] at eB'
 refine ⟨e,eS,eH,eB',eK,⟨h.lp,h.si,h.mt,h.pub,h.bf,?_,?_⟩⟩
 ·show s.sm+1=_;rw [h.sm];omega
 ·show jM s.sc vI=_;rw [h.sc];rfl
def HrB (u:Rt) (c pk:List UInt8) (t:Rz) (come:Nat→Bool) (r:Nat):Prop:=
 t.puts≤(r:Int)∧((r=0∧t=⟨u,[],0⟩∧come=fun _=>false)∨(1≤r∧LateS c pk t come r))
structure Bgn (u:Rt) (c pk:List UInt8):Prop where
 late:LateS c pk ⟨za u pk,[],0⟩ (fun _=>false) 0
 first:∀ (n:Int) (data body:List UInt8),vZ ⟨u,[],0⟩ pk 0 n data body=zj ⟨za u pk,[],0⟩ n data body
theorem jnb {s u:Rt}{x y:List UInt8}(h:Ahead s u x y) (h0:s.sm=0) (hb:s.bf=0):Bgn u s.sc (jE x)∧SpkA s.sc (jE x) 0 s:=by
 obtain ⟨_,f,f3,_⟩:=QX h
 have hl:=jmZ h 0
 have hc:=f.sc
 rw [f3,h0] at hc
 have hc':s.sc=(za u (jE x)).rc:=hc
 refine ⟨⟨by rw [hc'];exact hl,fun n data body=> ?_⟩,⟨YH x,h.si,h.mt,jaE h.own,hb,h0,rfl⟩⟩
 have:=jm0 h 0 n data body
 rw [hb] at this
 exact this
theorem jne (shared:List UInt8){z:List UInt8}(hz:z=jO [120] 0):Bgn (YB shared zP) (J2 shared).sc (jE z)∧SpkA (J2 shared).sc (jE z) 0 (J2 shared):=by
 obtain ⟨h,h0,hb,_⟩:=Zw shared
 rw [←hz] at h
 exact jnb h h0 hb
section
variable {u:Rt}{c pk:List UInt8}{t:Rz}{come:Nat→Bool}{r i:Nat}{data body:List UInt8}
theorem jm8 (g:Bgn u c pk) (h:HrB u c pk t come r) (hr:r≤i) (hi:i≤8):
 ∃ t',(∀ data body,vZ t pk 0 i data body=(t',J5 (mkK c i) data body,J4 (mkK c i) data body))∧HrB u c pk t' (fun j=>come j||j==i) (i+1)∧t'.L.length=t.L.length+(i - r)∧∃ ks,t'.L=t.L++jmG pk t.puts r ks:=by
 obtain ⟨hp,⟨rfl,rfl,rfl⟩ | ⟨h1,h⟩⟩:=h
 ·obtain ⟨t',q1,q2,q3,q4⟩:=jmU g.late hr hi
  have q3':t'.puts=0+((i - 0:Nat):Int):=q3
  refine ⟨t',fun data body=>(g.first _ _ _).trans (q1 data body),⟨by omega, .inr ⟨by omega,q2⟩⟩,?_,_,q4⟩
  rw [q4,joI,jny]
  simp [Y2]
 ·obtain ⟨t',q1,q2,q3,q4⟩:=jmU h hr hi
  refine ⟨t',fun data body=>(h.tail (.inl hr) data body).trans (q1 data body),⟨by omega, .inr ⟨by omega,q2⟩⟩,?_,_,q4⟩
  rw [q4,joI,jny]
  simp [Y2]
theorem jnn (h:HrB u c pk t come r) (hi:come i=true):vZ t pk 0 i data body=(t,[],5):=by
 obtain ⟨_,⟨rfl,rfl,rfl⟩ | ⟨_,h⟩⟩:=h
 ·cases hi
 ·exact jno h hi
theorem jm3 (h:HrB u c pk t come r) (hr:i < r) (hi:come i=false):
 (∀ data body,vZ t pk 0 i data body=(⟨t.s,yN t.L pk i,t.puts⟩,J5 (mkK c i) data body,J4 (mkK c i) data body))∧HrB u c pk ⟨t.s,yN t.L pk i,t.puts⟩ (fun j=>come j||j==i) r:=by
 obtain ⟨hp,⟨rfl,_⟩ | ⟨h1,h⟩⟩:=h
 ·omega
 ·exact ⟨fun data body=>(jmO (prev:=0) (data:=data) (body:=body) h hr hi).1,hp, .inr ⟨h1,(jmO (prev:=0) (data:= []) (body:= []) h hr hi).2⟩⟩
theorem jmR (h:HrB u c pk t come r) (hc:∀ j,j < r→come j=true):t.L= []:=by
 obtain ⟨_,⟨rfl,rfl,rfl⟩ | ⟨_,h⟩⟩:=h
 ·rfl
 ·refine List.eq_nil_iff_forall_not_mem.2 fun x hx=> ?_
  obtain ⟨_,j,h1,h2,_⟩:=h.mem x hx
  rw [hc j h1] at h2
  cases h2
theorem jmP {t1:Rz}{bs T:List UInt8}{E:Int}(hk:okH 0 (i:Int)=true) (ho:vZ t pk 0 i (qb bs pk 0 i) body=(t1,T,E)):
 yt t bs pk 0 i body=E∧Ym t bs pk 0 i body=(if E=0 then T else [])∧zf t bs pk 0 i body=if E=0 then t1 else t:=by
 have e:yt t bs pk 0 i body=E:=by unfold yt;rw [hk,ho];rfl
 exact ⟨e,by unfold Ym;rw [e,ho],by unfold zf;rw [e,ho]⟩
end
def One (c pk:List UInt8) (W:World) (sa ga la sb gb lb i:Nat) (Q:Rz→Prop) (tg tp:joE×Nat×Nat):Prop:=
 ∃ (ka ma kb mb:Nat) (s:Rt) (t:Rz),Duo W ⟨sa,ka,ma,ga,la,[120],1,⟨s,[],0⟩⟩ ⟨sb,kb,mb,gb,lb,[121],0,t⟩ tg tp∧SpkA c pk i s∧Q t
section
variable {c pk:List UInt8}{W W':World}{sa ga la sb gb lb i:Nat}{Q Q':Rz→Prop}{tg tp:joE×Nat×Nat}
theorem One.ext (h:One c pk W sa ga la sb gb lb i Q tg tp) (e:Ext W W'):One c pk W' sa ga la sb gb lb i Q tg tp:=by
 obtain ⟨ka,ma,kb,mb,s,t,D,h⟩:=h
 exact ⟨ka,ma,kb,mb,s,t,D.ext e,h⟩
theorem One.mono (h:One c pk W sa ga la sb gb lb i Q tg tp) (hQ:∀ t,Q t→Q' t):One c pk W sa ga la sb gb lb i Q' tg tp:=by
 obtain ⟨ka,ma,kb,mb,s,t,D,h,q⟩:=h
 exact ⟨ka,ma,kb,mb,s,t,D,h,hQ t q⟩
theorem One.cb (h:One c pk W sa ga la sb gb lb i Q tg tp){r:Nat}{T:joE}{L:List Value}(hr:Cb W r T L) (hT:116≠T∧184≠T) (ha:ga < r) (hb:gb < r) (e:Two r r W W'):One c pk W' sa ga la sb gb lb i Q tg tp:=by
 obtain ⟨ka,ma,kb,mb,s,t,D,h⟩:=h
 exact ⟨ka,ma,kb,mb,s,t,D.cb hr hT ha hb e,h⟩
theorem One.lp (h:One c pk W sa ga la sb gb lb i Q tg tp):pk.length=32:=by
 obtain ⟨ka,ma,kb,mb,s,t,D,h,q⟩:=h
 exact h.lp
theorem jmV (h:One c pk W sa ga la sb gb lb i Q tg tp) (hi:i≤1000){B:Option Addr}{m2 c2:Nat}{text:List UInt8}(ht:text.length≤300) (hM:∀ u,Two sa ga W u→Bs u B m2 c2 text):
 Calls joz 21 #[.pointer (some ⟨sa,0,none⟩), .slice none 0 0, .slice B m2 c2] W fun e w'=>∃ (A':Option Addr) (n' c':Nat),e= .returned (.tuple #[.agg (hdC pk 0 i).toArray, .slice A' n' c', .int .i64 0])∧Own W.heap.size w' A' n' c' (jnx c pk i text)∧One c pk w' sa ga la sb gb lb (i+1) Q tg tp∧Two sa ga W w':=by
 obtain ⟨ka,ma,kb,mb,s,t,D,C,q⟩:=h
 obtain ⟨e1,e2,e3,e4,e5,e6⟩:=C.say (by omega) ht (j3 (jO [120] 1))
 refine (JP D (bs:= []) (text:=text) (by show 1 < 1000000;omega) (jor _) (fun x e=>⟨Bs.nil x,hM x e⟩) e1 e3 e4 e2 (e5 1)).mono ?_
 rintro e w' ⟨A',n',c',rfl,O,D',t'⟩
 exact ⟨A',n',c',rfl,O,⟨ka,ma,kb,mb,_,t,D',e6,q⟩,t'⟩
theorem jmM (h:One c pk W sa ga la sb gb lb i Q tg tp){j:Nat}{B:Option Addr}{m2 c2:Nat}{body T:List UInt8}{E:Int}(hB:Bs W B m2 c2 body) (hm:m2≤1000000)
 (hQ:∀ t,Q t→t.puts≤1000000000∧yt t [] pk 0 j body=E∧Ym t [] pk 0 j body=T∧Q' (zf t [] pk 0 j body)):
 Calls joz 23 #[.pointer (some ⟨sb,0,none⟩), .slice none 0 0, .agg (hdC pk 0 j).toArray, .slice B m2 c2] W fun e w'=>∃ (A':Option Addr) (n' c':Nat),e= .returned (.tuple #[.slice A' n' c', .int .i64 E])∧Own W.heap.size w' A' n' c' T∧One c pk w' sa ga la sb gb lb i Q' tg tp∧W.grownBy w' (some sb):=by
 obtain ⟨ka,ma,kb,mb,s,t,D,C,q⟩:=h
 obtain ⟨h1,h2,h3,h4⟩:=hQ t q
 refine (jbw D.swap h1 (Bs.nil W) hB (jor _) hm C.lp (E:=E) (T:=T) (S':=zf t [] pk 0 j body) h2 h3 rfl).mono ?_
 rintro e w' ⟨A',n',c',kp,mb',q1,q2,q3,q4⟩
 exact ⟨A',n',c',q1,q2,⟨ka,ma,kp,mb',s,_,q3.swap,C,h4⟩,q4⟩
theorem jmL (h:One c pk W sa ga la sb gb lb i Q tg tp){N:Nat}(hQ:∀ t,Q t→t.L.length=N):
 Calls joz 25 #[.pointer (some ⟨sb,0,none⟩)] W fun e w'=>e= .returned (.int .i64 (N:Int))∧Ext W w':=by
 obtain ⟨ka,ma,kb,mb,s,t,D,C,q⟩:=h
 have:=jan D.pb.ss
 rw [hQ t q] at this
 exact this
end
theorem jnd {w:World}{shared:List UInt8}(lr:shared.length=32){tg tp:joE×Nat×Nat}(hG:Gl w tg) (hP:Gp w tp):
 Calls joz 17 #[.agg (cellsOf shared).toArray] w fun e w'=>∃ sa ga la sb gb lb u c pk,e= .returned (.agg #[.pointer (some ⟨sa,0,none⟩), .pointer (some ⟨sb,0,none⟩)])∧Bgn u c pk∧One c pk w' sa ga la sb gb lb 0 (fun t=>HrB u c pk t (fun _=>false) 0) tg tp∧Ext w w'∧(w.heap.size≤sa∧sa < w'.heap.size)∧(w.heap.size≤ga∧ga < w'.heap.size)∧(w.heap.size≤sb∧sb < w'.heap.size)∧(w.heap.size≤gb∧gb < w'.heap.size):=by
 refine (jbQ lr hG hP).mono ?_
 rintro e w' ⟨sa,ka,ma,ga,la,sb,kb,mb,gb,lb,rfl,D,x,l1,l2⟩
 have a1:=D.pa.ss.sl
 have a2:=D.pa.gs
 have a3:=D.pa.src.1
 have b1:=D.pb.ss.sl
 have b2:=D.pb.gs
 have b3:=D.pb.src.1
 dsimp only [jh1,jjk] at a1 a2 a3 b1 b2 b3
 obtain ⟨z,hz⟩:=ex_ (jO [120] 0)
 obtain ⟨g,s⟩:=jne shared hz
 exact ⟨sa,ga,la,sb,gb,lb,_,_,_,rfl,g,⟨ka,ma,kb,mb,_,_,D,s,⟨jok 0, .inl ⟨rfl,rfl,rfl⟩⟩⟩,x,by omega,by omega,by omega,by omega⟩
end
section
open Go.ChangeShapes Go.WideShapes Go.ChangeAt Go.RowKit Go.Deep
def OwnC (B:Nat) (w:World) (e:joE) (s:Nat) (A:Option Addr) (n c:Nat) (L:List (List Value)):Prop:=w.ownsRow B e s (.slice A n c) n L.flatten∧(∀ x∈L,x.length=s)∧L.length=n
section
variable {B:Nat}{w w':World}{e:joE}{s:Nat}{A:Option Addr}{n c:Nat}{L:List (List Value)}
theorem OwnC.nil (B:Nat) (w:World) (e:joE) (s:Nat):OwnC B w e s none 0 0 []:=⟨World.ownsRow_nil w B _ s,fun x hx=>by simp at hx,rfl⟩
theorem OwnC.ge (h:OwnC B w e s A n c L):∀ g,joa (.slice A n c)=some g→B≤g:=fun g hg=>(job h.1 g hg).1
theorem OwnC.ext (h:OwnC B w e s A n c L) (x:Ext w w'):OwnC B w' e s A n c L:=by
 refine ⟨⟨h.1.1,?_⟩,h.2⟩
 rcases h.1.2 with h | ⟨g,cap,cur,hv,hb,hg,r⟩
 ·exact .inl h
 ·exact .inr ⟨g,cap,cur,hv,hb,(x.block g (jh hg)).trans hg,r⟩
theorem OwnC.cells (h:OwnC B w e s A n c L):0 < n→∃ b,A=some ⟨b,0,none⟩∧b < w.heap.size∧B≤b∧∀ q v,L.flatten[q]? =some v→w.cell? ⟨b,q,none⟩=some v:=fun h0=>by
 rcases h.1.2 with ⟨hv,hn⟩ | ⟨g,cap,cur,hv,hb,hg,hnc,hcm,hcs,htk⟩
 ·omega
 ·injection hv with h1 h2 h3
  subst h1
  refine ⟨g,rfl,jh hg,hb,fun q v hq=> ?_⟩
  rw [←htk,jph] at hq
  split at hq
  ·rw [jpg w g _ _ _ _ hg]
   simpa using hq
  ·cases hq
end
theorem Z2 {α:Type}{s:Nat}:∀ {L:List (List α)},(∀ x∈L,x.length=s)→∀ {j i:Nat},j < L.length→i < s→L.flatten[j*s+i]? =(L.getD j [])[i]?
 | [],_,j,_,h,_=>absurd h (by simp)
 | x::L,hl,0,i,_,hi=>by
   have hx:=hl x (jpD ..)
   rw [List.flatten_cons,jpu (by omega)]
   simp
 | x::L,hl,j+1,i,hj,hi=>by
   have hx:=hl x (jpD ..)
   rw [List.flatten_cons,jpt (by rw [hx,jnY];omega),hx,show (j+1)*s+i - s=j*s+i by rw [jnY];omega,Z2 (fun y hy=>hl y (jpE _ hy)) (by simpa using hj) hi]
   simp
theorem q8 {P:joD}{w:World}{ops:Array Oper}{rest:List Oper}{o:Oper}{a:Act}{Q:Exit→Act→World→Prop}(hgd:o.guard=none){B:Nat}{t e te:joE}{s bytes:Nat}{z:Value}(ht:P.underlying t=some (.slice e)) (hinfo:(P.info? e).map (fun i=>(i.zero,i.size,i.bytes))=some (some z,s,bytes)) (hzs:z.cells.size=s) (s0:0 < s) (hbytes:bytes≤1000000)
 {A:Option Addr} {n c g:Nat} {L:List (List Value)} {cs:List Value} {fr:Nat×Nat} {x y:Operand}
 (ho:o.op= .call {callee:= .builtin .append,args:= #[x,y],argTypes:= #[t,t]}) (hx:a.eval x= .slice A n c) (hy:a.eval y= .slice (some ⟨g,0,none⟩) 1 1)
 (h:OwnC B w e s A n c L) (hg:w.heap[g]? =some (.cells cs.toArray te fr)) (hk:cs.length=s) (h1:∀ u∈cs,u.oneCell'=true) (hm:n≤1000) (hB:B≤w.heap.size)
 (hK:∀ A'' c'' w',OwnC B w' e s A'' (n+1) c'' (L++ [cs])→w.grownBy w' (joa (.slice A n c))→Below B w w'→wpList P ops Q rest (a.put o.dst (.slice A'' (n+1) c'')) w'):wpList P ops Q (o::rest) a w:=by
 refine wpList_plain hgd fun K hK'=> ?_
 obtain ⟨i,hi,hz0,hz1,hz2⟩:=info_parts hinfo
 obtain ⟨v',w',hr,hown,hgr,_,_⟩:=run_append_own_at (P:=P) w B t o.type e i z s bytes ht hi hz0 hz1 hz2 hzs s0 (.slice A n c) n L.flatten h.1 ⟨g,0,none⟩ 1 1 cs (by rw [hk,Nat.one_mul]) (fun j u hu=>by
  have hadd:(⟨g,0,none⟩:Addr).add j=⟨g,j,none⟩:=by unfold Addr.add;split <;> simp_all
  rw [hadd,jpg w g j _ _ _ hg]
  simpa using hu) h1 (by unfold maxLen;omega) (by
   have:(n+1)*bytes≤1001*1000000:=Nat.mul_le_mul (by omega) hbytes
   omega) hB
 have ee:L.flatten++cs=(L++ [cs]).flatten:=by simp
 rw [ee] at hown
 have hl1:∀ x∈L++ [cs],x.length=s:=fun x hx=>by
  rcases joJ.1 hx with q | q
  ·exact h.2.1 x q
  ·simp at q;subst q;exact hk
 have hl2:(L++ [cs]).length=n+1:=by rw [joI,h.2.2];rfl
 have hform:∃ A'' c'',v'= .slice A'' (n+1) c'':=by
  rcases hown.2 with ⟨hv,hn⟩ | ⟨g',cap,cur,hv,_⟩
  ·omega
  ·exact ⟨_,_,hv⟩
 obtain ⟨A'',c'',rfl⟩:=hform
 unfold Oper.wp jo0
 simp only [ho,resolve,invoke,builtin,jpk,jpl,jpm,jpG,jpC,jpH,hx,hy,hr]
 exact hK' _ _ (hK A'' c'' w' ⟨hown,hl1,hl2⟩ hgr ((joo B w).grown hgr hB h.ge))
theorem qk {P:joD}{w:World}{ops:Array Oper}{rest:List Oper}{o:Oper}{a:Act}{Q:Exit→Act→World→Prop}(hgd:o.guard=none){t e:joE}{s bytes:Nat}{z:Value}(ht:P.underlying t=some (.slice e)) (hinfo:(P.info? e).map (fun i=>(i.zero,i.size,i.bytes))=some (some z,s,bytes)) (hzs:z.cells.size=s) (s0:0 < s) (s1:s≤1000000)
 {cs:List Value} {x:Operand} {g:Nat} (hk:cs.length=s) (hg:w.heap.size=g)
 (ho:o.op= .buildSlice t 1 #[(0,x)]) (hx:(a.eval x).cells=cs.toArray)
 (h:wpList P ops Q rest (a.put o.dst (.slice (some ⟨g,0,none⟩) 1 1)) (w.alloc (.cells cs.toArray e))):wpList P ops Q (o::rest) a w:=by
 subst hg
 obtain ⟨i,hi,hz0,hz1,hz2⟩:=info_parts hinfo
 refine wpList_buildSlice hgd t e 1 _ ho cs.toArray i _ ht hi hz0 (by rw [hz1];omega) (by rw [hz1];omega) ?_ h
 rw [hz1]
 simp only [jpG,jpC,jpH]
 have:=Great.fill_whole (s:=s) s0 [a.eval x] ((Array.range (1*s)).map (z.cells[·% z.cells.size]!)) (fun v hv=>by
  simp only [joH] at hv
  subst hv
  rw [hx]
  simpa using hk) (by simp)
 simp only [List.zipIdx_cons,List.zipIdx_nil,jpC,jpH,List.flatMap_cons,List.flatMap_nil,List.append_nil,hx] at this
 exact this
theorem OwnC.lit {B:Nat}{w:World}{e:joE}{s g:Nat}{L:List (List Value)}(hL:∀ x∈L,x.length=s) (h0:0 < L.length) (hn:L.length≤1000) (hB:B≤g) (h:w.heap[g]? =some (.cells L.flatten.toArray e (0,0))):OwnC B w e s (some ⟨g,0,none⟩) L.length L.length L:=by
 have hl:∀ {M:List (List Value)},(∀ x∈M,x.length=s)→M.flatten.length=M.length*s:=by
  intro M
  induction M with
  | nil=>intro _;simp
  | cons x M ih=>intro hM;rw [List.flatten_cons,joI,hM x (jpD ..),ih (fun y hy=>hM y (jpE _ hy)),List.length_cons,jnY];omega
 refine ⟨⟨hl hL, .inr ⟨g,L.length,_,rfl,hB,h,joq _,by unfold maxLen;omega,by simpa using hl hL,?_⟩⟩,hL,rfl⟩
 rw [jpo]
 simpa using jod (hl hL)
def Cs (w:World) (s:Nat) (A:Option Addr) (n c:Nat) (K:List (List Value)):Prop:=
 (K.length=n∧(∀ x∈K,x.length=s))∧(n≤c∧c≤maxLen)∧(0 < n→∃ b off,A=some ⟨b,off,none⟩∧b < w.heap.size∧∀ q v,K.flatten[q]? =some v→w.cell? ⟨b,off+q,none⟩=some v)
section
variable {w w':World}{s:Nat}{A:Option Addr}{n c:Nat}{K:List (List Value)}
theorem Y7 {α:Type}{s:Nat}:∀ {L:List (List α)},(∀ x∈L,x.length=s)→L.flatten.length=L.length*s
 | [],_=>by simp
 | x::L,h=>by
   rw [List.flatten_cons,joI,h x (jpD ..),Y7 fun y hy=>h y (jpE _ hy),List.length_cons,jnY]
   omega
end
section
variable {w w':World}{s:Nat}{A:Option Addr}{n c:Nat}{K:List (List Value)}
end
theorem jnG {P:joD}{w:World}{B:Nat}{t e ty:joE}{s bytes:Nat}{z:Value}(ht:P.underlying t=some (.slice e)) (hinfo:(P.info? e).map (fun i=>(i.zero,i.size,i.bytes))=some (some z,s,bytes)) (hzs:z.cells.size=s) (s0:0 < s) (hbytes:bytes≤1000000)
 {A A':Option Addr} {n c m c':Nat} {L K:List (List Value)} (h:OwnC B w e s A n c L) (hr:Cs w s A' m c' K) (h1:∀ x∈K,∀ u∈x,u.oneCell'=true) (hm:n+m≤1000) (hB:B≤w.heap.size):
 ∃ A'' c'' w',(joc #[t,t] ty #[.slice A n c, .slice A' m c']).run P w= .ok (.slice A'' (n+m) c'') w'∧OwnC B w' e s A'' (n+m) c'' (L++K)∧w.grownBy w' (joa (.slice A n c))∧(joa (.slice A'' (n+m) c'')=joa (.slice A n c)∨joa (.slice A'' (n+m) c'')=some w.heap.size):=by
 obtain ⟨i,hi,hz0,hz1,hz2⟩:=info_parts hinfo
 have hl2:(∀ x∈L++K,x.length=s)∧(L++K).length=n+m:=⟨fun x hx=>by
  rcases joJ.1 hx with q | q
  ·exact h.2.1 x q
  ·exact hr.1.2 x q,by rw [joI,h.2.2,hr.1.1]⟩
 rcases A' with _ | a
 ·have hm0:m=0:=by
   rcases Nat.eq_zero_or_pos m with h0 | h0
   ·exact h0
   ·obtain ⟨b,off,e,_⟩:=hr.2.2 h0
    cases e
  subst hm0
  have hK:K= []:=joy hr.1.1
  subst hK
  refine ⟨A,c,w,?_,by simpa using h,⟨rfl,rfl,rfl,joq _,fun _ _ _=>rfl⟩, .inl rfl⟩
  rcases h.1.2 with ⟨hv,hn⟩ | ⟨g,cap,cur,hv,_,_,hnc,_⟩
  ·rw [hv]
   subst hn
   injection hv with _ _ h3
   subst h3
   simp [joc,jpn ht,sizeOf,typeInfo,hi,Builtin.lenOf,Builtin.firstCells]
   exact Eq.symm ‹A=none›
  ·rw [hv]
   injection hv with _ _ h3
   subst h3
   simp [joc,jpn ht,sizeOf,typeInfo,hi,Builtin.lenOf,Builtin.firstCells,hnc,storeCells]
   exact Eq.symm ‹A=some _›
 ·obtain ⟨v',w',hrun,hown,hgr,_,how⟩:=run_append_own_at (P:=P) w B t ty e i z s bytes ht hi hz0 hz1 hz2 hzs s0 (.slice A n c) n L.flatten h.1 a m c' K.flatten (by rw [Y7 hr.1.2,hr.1.1]) (fun j u hu=>by
   have h0:0 < m:=by
    rcases Nat.eq_zero_or_pos m with q | q
    ·rw [joy (hr.1.1.trans q)] at hu;simp at hu
    ·exact q
   obtain ⟨b,off,e1,hb,hc⟩:=hr.2.2 h0
   injection e1 with e1
   subst e1
   have hadd:(⟨b,off,none⟩:Addr).add j=⟨b,off+j,none⟩:=by unfold Addr.add;split <;> simp_all
   rw [hadd]
   exact hc j u hu) (fun u hu=>by
   obtain ⟨x,hx,hux⟩:=List.mem_flatten.1 hu
   exact h1 x hx u hux) (by unfold maxLen;omega) (by
   have:(n+m)*bytes≤1000*1000000:=Nat.mul_le_mul (by omega) hbytes
   omega) hB
  rw [←List.flatten_append] at hown
  have hform:∃ A'' c'',v'= .slice A'' (n+m) c'':=by
   rcases hown.2 with ⟨hv,hn⟩ | ⟨g',cap,cur,hv,_⟩
   ·exact ⟨none,0,by rw [hv,hn]⟩
   ·exact ⟨_,_,hv⟩
  obtain ⟨A'',c'',rfl⟩:=hform
  exact ⟨A'',c'',w',hrun,⟨hown,hl2⟩,hgr,how⟩
theorem ZM {P:joD}{w:World}{o:Oper}{a:Act}{H:Act→World→Prop}{Q:Exit→Act→World→Prop}{B:Nat}{t e:joE}{s bytes:Nat}{z:Value}(ht:P.underlying t=some (.slice e)) (hinfo:(P.info? e).map (fun i=>(i.zero,i.size,i.bytes))=some (some z,s,bytes)) (hzs:z.cells.size=s) (s0:0 < s) (hbytes:bytes≤1000000)
 {A A':Option Addr} {n c m c':Nat} {L K:List (List Value)} {x y:Operand} (ho:o.op= .call {callee:= .builtin .append,args:= #[x,y],argTypes:= #[t,t]}) (hx:a.eval x= .slice A n c) (hy:a.eval y= .slice A' m c')
 (h:OwnC B w e s A n c L) (hr:Cs w s A' m c' K) (h1:∀ x∈K,∀ u∈x,u.oneCell'=true) (hm:n+m≤1000) (hB:B≤w.heap.size)
 (hK:∀ A'' c'' w',OwnC B w' e s A'' (n+m) c'' (L++K)→w.grownBy w' (joa (.slice A n c))→Below B w w'→H (a.put o.dst (.slice A'' (n+m) c'')) w'):o.wp P a w H Q:=by
 obtain ⟨A'',c'',w',hrun,h2,h3,_⟩:=jnG (ty:=o.type) ht hinfo hzs s0 hbytes h hr h1 hm hB
 unfold Oper.wp jo0
 simp only [ho,resolve,invoke,builtin,jpk,jpl,jpm,jpG,jpC,jpH,hx,hy,hrun]
 exact hK A'' c'' w' h2 h3 ((joo B w).grown h3 hB h.ge)
theorem Y5 {P:joD}{w:World}{ops:Array Oper}{rest:List Oper}{o:Oper}{a:Act}{Q:Exit→Act→World→Prop}(hgd:o.guard=none){B:Nat}{t e:joE}{s bytes:Nat}{z:Value}(ht:P.underlying t=some (.slice e)) (hinfo:(P.info? e).map (fun i=>(i.zero,i.size,i.bytes))=some (some z,s,bytes)) (hzs:z.cells.size=s) (s0:0 < s) (hbytes:bytes≤1000000)
 {A A':Option Addr} {n c m c':Nat} {L K:List (List Value)} {x y:Operand} (ho:o.op= .call {callee:= .builtin .append,args:= #[x,y],argTypes:= #[t,t]}) (hx:a.eval x= .slice A n c) (hy:a.eval y= .slice A' m c')
 (h:OwnC B w e s A n c L) (hr:Cs w s A' m c' K) (h1:∀ x∈K,∀ u∈x,u.oneCell'=true) (hm:n+m≤1000) (hB:B≤w.heap.size)
 (hK:∀ A'' c'' w',OwnC B w' e s A'' (n+m) c'' (L++K)→w.grownBy w' (joa (.slice A n c))→Below B w w'→wpList P ops Q rest (a.put o.dst (.slice A'' (n+m) c'')) w'):wpList P ops Q (o::rest) a w:=
 wpList_plain hgd fun _ hK'=>ZM ht hinfo hzs s0 hbytes ho hx hy h hr h1 hm hB fun A'' c'' w' h2 h3 h4=>hK' _ _ (hK A'' c'' w' h2 h3 h4)
def jml (zs:List Int) (k:Nat):Int:=zs.getD k 0
def Is (w:World) (A:Option Addr) (n c:Nat) (zs:List Int):Prop:=
 zs.length=n∧n≤c∧c≤maxLen∧(0 < n→∃ b off,A=some ⟨b,off,none⟩∧b < w.heap.size∧∀ j,j < n→w.cell? ⟨b,off+j,none⟩=some (.int .i64 (jml zs j))∧ -9223372036854775808≤jml zs j∧jml zs j≤9223372036854775807)
section
variable {w w':World}{A:Option Addr}{n c:Nat}{zs:List Int}
theorem Is.len (h:Is w A n c zs):zs.length=n:=h.1
theorem Is.le (h:Is w A n c zs):n≤c:=h.2.1
theorem Is.cap (h:Is w A n c zs):c≤9223372036854775807:=h.2.2.1
theorem Is.nil (w:World):Is w none 0 0 []:=⟨rfl,joq _,jor _,fun h=>absurd h (by omega)⟩
theorem Is.pos (h:Is w A n c zs) (hn:0 < n):∃ b off,A=some ⟨b,off,none⟩∧b < w.heap.size∧∀ j,j < n→w.cell? ⟨b,off+j,none⟩=some (.int .i64 (jml zs j))∧ -9223372036854775808≤jml zs j∧jml zs j≤9223372036854775807:=h.2.2.2 hn
theorem Is.ext (h:Is w A n c zs) (he:Ext w w'):Is w' A n c zs:=
 ⟨h.1,h.2.1,h.2.2.1,fun hn=>by
   obtain ⟨b,off,e,hb,hc⟩:=h.2.2.2 hn
   exact ⟨b,off,e,jos hb he.size,fun j hj=>⟨(he.cell hb).trans (hc j hj).1,(hc j hj).2⟩⟩⟩
end
section
variable {H:Type}{enc:joE×Value→H}{W:World}{P:joD}
theorem jmo {t e:joE}{a:Option Addr}{len cap:Nat}{d:DataW H}{p:List MemPlace}(ht:P.underlying t=some (.slice e)) (he:P.underlying e=some (.int .i64)) (hc:P.cellsOf e=1)
 (h:DataW.Trod enc P W 0 (fun _=>true) true t (.slice a len cap) d p):∃ zs,Is W a len cap zs:=by
 obtain ⟨fuel,hf⟩:=h
 rcases open_ints ht he hc hf with ⟨hcs,_⟩ | ⟨x,l,c,zs,hcs,_,hl,hm,hz,_,hcell,hwz⟩
 ·simp [Value.cells] at hcs
  obtain ⟨rfl,rfl,rfl⟩:=hcs
  exact ⟨[],Is.nil W⟩
 ·simp [Value.cells] at hcs
  obtain ⟨rfl,rfl,rfl⟩:=hcs
  have hz':zs.length=cap:=by simpa using hz
  refine ⟨zs.take len,by simp;omega,hl,hm,fun h0=> ?_⟩
  obtain ⟨b,off,rfl,hcl⟩:=ints_at hcell (by omega)
  refine ⟨b,off,rfl,?_,fun j hj=> ?_⟩
  ·have:=hcl 0 (by omega)
   exact World.block_lt_of_cell? W _ this
  ·have hj':j < zs.length:=by omega
   have hb: -9223372036854775808≤zs[j]∧zs[j]≤9223372036854775807:=by simpa [Lit.wf,IntKind.min,IntKind.max,IntKind.signed,IntKind.bits] using hwz _ (List.getElem_mem hj')
   have e:jml (zs.take len) j=zs[j]:=by simp [jml,jot,hj',hj]
   rw [e]
   refine ⟨?_,hb⟩
   rw [hcl j hj']
   simp [jot,hj']
end
end
section
open Go.ChangeShapes Go.WideShapes Go.ChangeAt Go.RowKit Go.Deep Go.Maps
def msC (H:List Value) (A:Option Addr) (n c:Nat):List Value:= [.int .i64 0]++(H++([.slice A n c]++ [.slice none 0 0]))
theorem jm1 {H:List Value}(h:H.length=34) (A:Option Addr) (n c:Nat):(msC H A n c).length=37:=by simp [msC,h]
theorem jna {H:List Value}(h:H.length=34) (A:Option Addr) (n c:Nat):Tryz.prog.built 51 [(1, .agg H.toArray),(2, .slice A n c)]=some (msC H A n c).toArray:=by
 have h':∃ pl:Nat→Option (Nat×Nat),(pl 1=some (1,34)∧pl 2=some (35,1))∧∀ ps,Tryz.prog.built 51 ps=jpq pl ([joC .i64 0]++(hdC (jpp 32 0) 0 0++([Value.slice none 0 0]++ [Value.slice none 0 0]))).toArray ps:=⟨(#[(0,1),(1,34),(35,1),(36,1)][·]?),⟨rfl,rfl⟩,fun ps=>by kernel_rfl⟩
 obtain ⟨pl,⟨h1,h2⟩,hp⟩:=h'
 have lz:(hdC (jpp 32 0) 0 0).length=34:=yz rfl _ _
 rw [hp]
 generalize hdC (jpp 32 0) 0 0=Z at *
 rw [qK h1 (by simp [qo,h]) (by simp [lz])]
 have e1:jpb ([joC .i64 0]++(Z++([Value.slice none 0 0]++ [.slice none 0 0]))) 1 (jpr H.toArray).cells.toList= [joC .i64 0]++(H++([Value.slice none 0 0]++ [.slice none 0 0])):=qB (p:= [joC .i64 0]) rfl (by rw [lz];simp [qo,h])
 rw [e1,qK h2 rfl (by simp [h])]
 have e2:jpb ([joC .i64 0]++(H++([Value.slice none 0 0]++ [.slice none 0 0]))) 35 (Value.slice A n c).cells.toList=msC H A n c:=by
  rw [←jpf]
  refine (qB (p:= [joC .i64 0]++H) (y:= [Value.slice none 0 0]) (z:= [Value.slice A n c]) (q:= [Value.slice none 0 0]) (by simp [h]) rfl).trans ?_
  rw [jpf]
  rfl
 rw [e2]
 rfl
theorem jnf {H:List Value}(h:H.toArray.all (·.oneCell')=true) (A:Option Addr) (n c:Nat):(msC H A n c).toArray.all (·.oneCell')=true:=qC fun v hv=>by
 simp only [msC,joJ,joH] at hv
 rcases hv with rfl | hv | rfl | rfl
 ·rfl
 ·exact (joX.1 h) v (by simpa using hv)
 ·rfl
 ·rfl
theorem jnM:(Tryz.prog.info? 51).map (fun i=>(i.zero,i.size,i.bytes))=some (some (.agg (msC (hdC (jpp 32 0) 0 0) none 0 0).toArray),37,(Tryz.prog.info? 51).elim 0 (·.bytes)):=by kernel_rfl
theorem jnI:(Tryz.prog.info? 51).elim 0 (·.bytes)≤1000000:=by decide+kernel
theorem jnK:(Tryz.prog.info? 3).map (fun i=>(i.zero,i.size,i.bytes))=some (some (.int .i64 0),1,8):=by kernel_rfl
theorem jnJ:(Tryz.prog.info? 4).map (fun i=>(i.zero,i.size,i.bytes))=some (some (.bool false),1,1):=by kernel_rfl
theorem jnL (n:Nat) (hn:n≤1000000) (w:World):
 (Instr.makeSlice 67 (.int .i64 (n:Int)) (.int .i64 (n:Int))).run joz w= .ok (.slice (some ⟨w.heap.size,0,none⟩) n n) (w.alloc (.cells (madeCells #[.bool false] n) 4)):=
 run_make_row' _ _ _ 1 Tryz.underlying67 jnJ rfl .i64 .i64 n (by omega) (by omega) w
def Lq (u:Rt) (c pk:List UInt8) (N:Nat) (cm:Nat→Bool) (t:Rz):Prop:=∃ r,r≤N∧HrB u c pk t cm r
theorem jnP {u:Rt}{c pk:List UInt8}{N k:Nat}{cm:Nat→Bool}{t:Rz}(h:Lq u c pk N cm t) (hN:N≤8) (hk:k < N) (hc:cm k=true) (body:List UInt8):
 t.puts≤1000000000∧yt t [] pk 0 k body=5∧Ym t [] pk 0 k body= []∧Lq u c pk N cm (zf t [] pk 0 k body):=by
 obtain ⟨r,hr,h⟩:=h
 have q:=jnn (data:=qb [] pk 0 k) (body:=body) h hc
 obtain ⟨r1,r2,r3⟩:=jmP (jm2 (by omega)) q
 exact ⟨by have:=h.1;omega,r1,r2,by rw [r3];exact ⟨r,hr,h⟩⟩
theorem jnO {u:Rt}{c pk:List UInt8}{N k:Nat}{cm:Nat→Bool}{t:Rz}(g:Bgn u c pk) (h:Lq u c pk N cm t) (hN:N≤8) (hk:k < N) (hc:cm k=false) (text:List UInt8):
 t.puts≤1000000000∧yt t [] pk 0 k (jnx c pk k text)=0∧Ym t [] pk 0 k (jnx c pk k text)=text∧Lq u c pk N (fun j=>cm j||j==k) (zf t [] pk 0 k (jnx c pk k text)):=by
 obtain ⟨r,hr,h⟩:=h
 obtain ⟨o1,o2⟩:=jdq (mkK c k) (qb [] pk 0 k) text
 have:∃ t' r',r'≤N∧(∀ data body,vZ t pk 0 k data body=(t',J5 (mkK c k) data body,J4 (mkK c k) data body))∧HrB u c pk t' (fun j=>cm j||j==k) r':=by
  rcases jow k r with z | z
  ·obtain ⟨q1,q2⟩:=jm3 h z hc
   exact ⟨_,r,hr,q1,q2⟩
  ·obtain ⟨t',q1,q2,_⟩:=jm8 g h z (by omega)
   exact ⟨t',k+1,hk,q1,q2⟩
 obtain ⟨t',r',hr',q1,q2⟩:=this
 obtain ⟨r1,r2,r3⟩:=jmP (t:=t) (bs:= []) (body:=jnx c pk k text) (jm2 (by omega)) (q1 (qb [] pk 0 k) (jnx c pk k text))
 unfold jnx at *
 rw [o1] at r1 r2 r3
 rw [if_pos rfl] at r2 r3
 exact ⟨by have:=h.1;omega,r1,r2.trans o2,by rw [r3];exact ⟨r',hr',q2⟩⟩
theorem jnN {u:Rt}{c pk:List UInt8}{N:Nat}{cm:Nat→Bool}{t:Rz}(h:Lq u c pk N cm t) (hc:∀ j,j < N→cm j=true):t.L.length=0:=by
 obtain ⟨r,hr,h⟩:=h
 rw [jmR h (fun j hj=>hc j (by omega))]
 rfl
theorem Own.at0 {B:Nat}{w:World}{A:Option Addr}{n c:Nat}{xs:List UInt8}(h:Own B w A n c xs) (h0:0 < n):∃ g C,A=some ⟨g,0,none⟩∧B≤g∧w.heap[g]? =some (.cells C 5 (0,0)):=by
 rcases h.2 with ⟨hv,hn⟩ | ⟨g,cap,cur,hv,hge,hg,_⟩
 ·omega
 ·injection hv with q1 _ _
  exact ⟨g,cur,q1,hge,hg⟩
theorem Bs.samB {w w':World}{b o n c:Nat}{xs:List UInt8}(h:Bs w (some ⟨b,o,none⟩) n c xs) (hb:b < w'.heap.size) (e:w'.heap[b]? =w.heap[b]?):Bs w' (some ⟨b,o,none⟩) n c xs:=
 ⟨h.1,h.2.1,h.2.2.1,fun h0=>by
   obtain ⟨b',off,q,hbl,hc⟩:=h.2.2.2 h0
   cases q
   exact ⟨b,o,rfl,hb,fun j hj=>(World.cell?_of_block e).trans (hc j hj)⟩⟩
theorem OwnC.keep13 {B:Nat}{w w':World}{e:joE}{s:Nat}{A:Option Addr}{n c:Nat}{L:List (List Value)}(h:OwnC B w e s A n c L) (K:∀ i cs,w.heap[i]? =some (.cells cs e (0,0))→B≤i→w'.heap[i]? =some (.cells cs e (0,0))):OwnC B w' e s A n c L:=by
 refine ⟨⟨h.1.1,?_⟩,h.2⟩
 rcases h.1.2 with h | ⟨g,cap,cur,hv,hb,hg,r⟩
 ·exact .inl h
 ·exact .inr ⟨g,cap,cur,hv,hb,K _ _ hg hb,r⟩
theorem OwnC.blk13 {B:Nat}{w:World}{e:joE}{s:Nat}{A:Option Addr}{n c:Nat}{L:List (List Value)}(h:OwnC B w e s A n c L):joa (.slice A n c)=none∨∃ g C,joa (.slice A n c)=some g∧B≤g∧w.heap[g]? =some (.cells C e (0,0)):=by
 rcases h.1.2 with ⟨hv,_⟩ | ⟨g,cap,cur,hv,hb,hg,r⟩
 ·rw [hv];exact .inl rfl
 ·rw [hv];exact .inr ⟨g,cur,rfl,hb,hg⟩
def MsAt (c pk:List UInt8) (B:Nat) (W:World) (j:Nat) (C:List Value):Prop:=
 ∃ b n d C8,C=msC (hdC pk 0 (j:Int)) (some ⟨b,0,none⟩) n d∧B≤b∧W.heap[b]? =some (.cells C8 5 (0,0))∧Bs W (some ⟨b,0,none⟩) n d (jnx c pk j [jov j])
theorem MsAt.same {c pk:List UInt8}{B:Nat}{W W':World}{j:Nat}{C:List Value}(h:MsAt c pk B W j C) (K:∀ i C,W.heap[i]? =some (.cells C 5 (0,0))→B≤i→W'.heap[i]? =W.heap[i]?):MsAt c pk B W' j C:=by
 obtain ⟨b,n,d,C8,h1,h2,h3,h4⟩:=h
 have e:=K b C8 h3 h2
 exact ⟨b,n,d,C8,h1,h2,e.trans h3,h4.samB (jh (e.trans h3)) e⟩
theorem MsAt.ext {c pk:List UInt8}{B:Nat}{W W':World}{j:Nat}{C:List Value}(h:MsAt c pk B W j C) (e:Ext W W'):MsAt c pk B W' j C:=h.same fun i _ q _=>e.block i (jh q)
theorem MsAt.two {c pk:List UInt8}{B x y:Nat}{W W':World}{j:Nat}{C:List Value}(h:MsAt c pk B W j C) (t:Two x y W W') (hx:x < B) (hy:y < B):MsAt c pk B W' j C:=h.same fun i _ q hi=>t.2.2.2.2 i (jh q) (by omega) (by omega)
theorem MsAt.row {c pk:List UInt8}{B:Nat}{W W':World}{j:Nat}{C:List Value}(h:MsAt c pk B W j C){row:Option Nat}(g:W.grownBy W' row) (hr:row=none∨∃ r D T,row=some r∧W.heap[r]? =some (.cells D T (0,0))∧T≠5):MsAt c pk B W' j C:=h.same fun i C q hi=>by
 refine g.block i (jh q) fun z=> ?_
 rcases hr with rfl | ⟨r,D,T,rfl,h2,h3⟩
 ·cases z
 ·cases z
  rw [q] at h2
  injection h2 with h2
  injection h2 with _ h2 _
  exact h3 h2.symm
theorem One.row {c pk:List UInt8}{W W':World}{sa ga la sb gb lb i:Nat}{Q:Rz→Prop}{tg tp:joE×Nat×Nat}(h:One c pk W sa ga la sb gb lb i Q tg tp){row:Option Nat}(g:W.grownBy W' row) (hr:row=none∨∃ r D T,row=some r∧W.heap[r]? =some (.cells D T (0,0))∧(116≠T∧184≠T)∧ga < r∧gb < r):One c pk W' sa ga la sb gb lb i Q tg tp:=by
 rcases hr with rfl | ⟨r,D,T,rfl,h2,h3,h4,h5⟩
 ·exact h.ext ⟨g.os,g.tape,g.output,g.size,fun i hi=>g.block i hi (fun z=>by cases z)⟩
 ·have hC:Cb W r T D.toList:=by unfold Cb;rw [h2]
  exact h.cb hC h3 h4 h5 (Two.of_grown g)
def jl (zs:List Int):List (List Value):=zs.map fun z=> [joC .i64 z]
theorem Y8 (zs:List Int):(jl zs).flatten=zs.map (joC .i64):=by
 induction zs with
 | nil=>rfl
 | cons z zs ih=>rw [show jl (z::zs)= [joC .i64 z]::jl zs from rfl,List.flatten_cons,ih];rfl
theorem Y9 (zs:List Int):(jl zs).length=zs.length:=by simp [jl]
theorem jnH (zs:List Int):∀ x∈jl zs,x.length=1:=fun x hx=>by
 obtain ⟨z,_,rfl⟩:=joP.1 hx
 rfl
theorem Is.cs {w:World}{A:Option Addr}{n c:Nat}{zs:List Int}(h:Is w A n c zs):Cs w 1 A n c (jl zs):=by
 refine ⟨⟨by rw [Y9];exact h.len,jnH zs⟩,⟨h.le,h.2.2.1⟩,fun h0=> ?_⟩
 obtain ⟨b,off,rfl,hb,hc⟩:=h.pos h0
 refine ⟨b,off,rfl,hb,fun q v hq=> ?_⟩
 rw [Y8,joV,Option.map_eq_some_iff] at hq
 obtain ⟨z,hz,rfl⟩:=hq
 obtain ⟨hl,hz⟩:=jpz.1 hz
 have:=(hc q (by rw [←h.len];exact hl)).1
 rw [this]
 simp [jml,jot,hl,hz]
theorem OwnC.int_at {B:Nat}{w:World}{A:Option Addr}{n c:Nat}{ys:List Int}(h:OwnC B w 3 1 A n c (jl ys)){q:Nat}{z:Int}(hz:ys[q]? =some z) (h0:0 < n):∃ b,A=some ⟨b,0,none⟩∧w.cell? ⟨b,q,none⟩=some (.int .i64 z):=by
 obtain ⟨b,h1,_,_,h4⟩:=h.cells h0
 exact ⟨b,h1,h4 q _ (by rw [Y8,joV,hz];rfl)⟩
end
section
open Go.ChangeShapes Go.WideShapes Go.ChangeAt Go.RowKit Go.Deep
def jhC:List Int:= [1779033703,3144134277,1013904242,2773480762,1359893119,2600822924,528734635,1541459225]
theorem jhv:Tryz.prog.globalNamed "palfrey/blake.initial" =some 0:=by kernel_rfl
theorem jep:(Tryz.prog.globals[0]?).map (·.type)=some 218:=by kernel_rfl
theorem jgg {W:World}(h:Lib.TabIs joz W "palfrey/blake.initial" .u32 jhC):∃ tg,Gl W tg:=by
 unfold Lib.TabIs World.var? at h
 rw [jhv] at h
 simp only [Option.bind_some] at h
 cases hh:W.heap[0]? with
 | none=>rw [hh] at h;cases h
 | some o=>
   rw [hh] at h
   cases o with
   | cells cs t fr=>
     simp only [Option.some.injEq] at h
     subst h
     exact ⟨(t,fr),hh⟩
   | _=>cases h
theorem jer {W:World}{rest:List (String×DataW Unit)}(h:laidMet joz (("palfrey/blake.initial",Lib.tabData .u32 jhC)::rest) W):∃ tg,Gl W tg:=
 jgg (Lib.tabIs_of_head (rest:=rest) jhv jep Tryz.underlying218 Tryz.underlying133 (by kernel_rfl) (by kernel_rfl) h)
def jeR:List Int:= [4294967277,4294967295,4294967295,4294967295,4294967295,4294967295,4294967295,2147483647]
theorem jhw:Tryz.prog.globalNamed "palfrey/field.prime" =some 1:=by kernel_rfl
theorem jeq:(Tryz.prog.globals[1]?).map (·.type)=some 218:=by kernel_rfl
theorem jgh {W:World}(h:Lib.TabIs joz W "palfrey/field.prime" .u32 jeR):∃ tg,Gp W tg:=by
 unfold Lib.TabIs World.var? at h
 rw [jhw] at h
 simp only [Option.bind_some] at h
 cases hh:W.heap[1]? with
 | none=>rw [hh] at h;cases h
 | some o=>
   rw [hh] at h
   cases o with
   | cells cs t fr=>
     simp only [Option.some.injEq] at h
     subst h
     refine ⟨(t,fr),?_⟩
     unfold Gp
     rw [←jgy]
     exact hh
   | _=>cases h
theorem jes {W:World}{rest:List (String×DataW Unit)}(h:laidMet joz (("palfrey/field.prime",Lib.tabData .u32 jeR)::rest) W):∃ tg,Gp W tg:=
 jgh (Lib.tabIs_of_head (rest:=rest) jhw jeq Tryz.underlying218 Tryz.underlying133 (by kernel_rfl) (by kernel_rfl) h)
theorem jck {P:joD}{W:World}{x:String×DataW Unit}{rest:List (String×DataW Unit)}(h:laidMet P (x::rest) W):laidMet P rest W:=by
 obtain ⟨n,d⟩:=x
 obtain ⟨ps,⟨g,t,cs,fuel,p,q,_,_,_,_,hr,rfl⟩,hnd,hall⟩:=h
 exact ⟨q,hr,(List.nodup_append.1 hnd).2.1,fun b off hm=>hall b off (List.mem_append_right _ hm)⟩
theorem jb0 {W:World}{rest:List (String×DataW Unit)}(h:laidMet joz (("palfrey/field.prime",Lib.tabData .u32 jeR)::("palfrey/blake.initial",Lib.tabData .u32 jhC)::rest) W):(∃ tp,Gp W tp)∧∃ tg,Gl W tg:=
 ⟨jes h,jer (jck h)⟩
theorem jmY {a:Int}(h:(Lit.int .i64 a).wf=true): -9223372036854775808≤a∧a≤9223372036854775807:=by
 simpa [Lit.wf,IntKind.min,IntKind.max,IntKind.signed,IntKind.bits] using h
section
variable {H:Type}{enc:joE×Value→H}{W:World}{P:joD}
end
section
variable {H:Type}{enc:joE×Value→H}{W:World}{P:joD}
theorem jct {r:Reach}{b n:Nat}{t e:joE}{v:Value}(ht:P.underlying t=some (.array n e)) (h:Value.okWide P W r b t v):∃ cs,v= .agg cs∧cs.size=P.cellsOf t:=by
 simp only [Value.okWide,ht] at h
 obtain ⟨cs,h1,h2,_⟩:=h
 exact ⟨cs,h1,h2⟩
def jhb:Option Value→Nat
 | some (.int _ z)=>z.toNat
 | _=>0
theorem jbg {n fuel:Nat}{t e:joE}{cs:List Value}{x:DataW H×List MemPlace}(ht:P.underlying t=some (.array n e)) (he:P.underlying e=some (.int .u8)) (hce:P.cellsOf e=1) (hct:P.cellsOf t=n)
 (hf:DataW.trod enc P W 0 (fun _=>true) true fuel t cs=some x):∃ xs,cs=cellsOf xs∧xs.length=n:=by
 cases fuel with
 | zero=>simp [DataW.trod] at hf
 | succ fuel=>
   simp only [DataW.trod,ht,hce,hct,Nat.mul_one] at hf
   split at hf
   ·rename_i hl
    obtain ⟨xs,hm,hx⟩:=Option.map_eq_some_iff.1 hf
    have hcell:∀ i,i < n→∃ z:Int,cs[i]? =some (.int .u8 z)∧0≤z∧z≤255:=fun i hi=>by
     obtain ⟨y,hy,hfy⟩:=Lib.mapM_at hm i i (by simp [hi])
     obtain ⟨z,hc,rfl,hw⟩:=DataW.trod_int he hfy
     have h1:cs[i]? =some (.int .u8 z):=by
      have:=congrArg (·[0]?) hc
      simpa [jph,List.getElem?_drop] using this
     have hb:0≤z∧z≤255:=by simpa [Lit.wf,IntKind.min,IntKind.max,IntKind.signed,IntKind.bits] using hw
     exact ⟨z,h1,hb⟩
    refine ⟨(jo3 n).map fun i=>jov (jhb cs[i]?),?_,by simp⟩
    apply List.ext_getElem?
    intro i
    by_cases hi:i < n
    ·obtain ⟨z,h1,h2,h3⟩:=hcell i hi
     have h4:=jZ (xs:=(jo3 n).map fun i=>jov (jhb cs[i]?)) (j:=i) (by simp;exact hi)
     rw [h1]
     refine Eq.trans ?_ h4.symm
     congr 2
     unfold bt
     simp [jot,hi,h1,jhb]
     omega
    ·rw [jpc (by omega),jpc (by simp [ja];omega)]
   ·cases hf
theorem jdg {r:Reach}{b n:Nat}{t e:joE}{v:Value}{d:DataW H}{p:List MemPlace}(ht:P.underlying t=some (.array n e)) (he:P.underlying e=some (.int .u8)) (hce:P.cellsOf e=1) (hct:P.cellsOf t=n)
 (hv:Value.okWide P W r b t v) (h:DataW.Trod enc P W 0 (fun _=>true) true t v d p):∃ xs,v= .agg (cellsOf xs).toArray∧xs.length=n:=by
 obtain ⟨cs,rfl,hsz⟩:=jct ht hv
 obtain ⟨fuel,hf⟩:=h
 obtain ⟨xs,hx,hl⟩:=jbg ht he hce hct hf
 refine ⟨xs,?_,hl⟩
 congr 1
 apply Array.ext'
 rw [←hx];rfl
end
end
end Go.Proofs.YtakpgbaijkhpmaaGreatDoor
