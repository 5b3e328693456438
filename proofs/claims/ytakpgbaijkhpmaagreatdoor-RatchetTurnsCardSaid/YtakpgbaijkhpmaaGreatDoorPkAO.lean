import Derived.Test.YtakpgbaijkhpmaaGreatDoorPkAN
import Derived.Test.YtakpgbaijkhpmaaGreatDoorPkAI
import Derived.Test.YtakpgbaijkhpmaaGreatDoorPkAG
import Derived.Test.YtakpgbaijkhpmaaGreatDoorPkAM
import Derived.Test.YtakpgbaijkhpmaaGreatDoorPkAH
import Derived.Test.YtakpgbaijkhpmaaGreatDoorPkAA
import Derived.Lib.LaidTab
import Derived.Deep.Matrix
open Go renaming Program→joD,TypeId→joE,below_setRow→jpd,bodyPost_ret→jpY,cell_of_row→jpg,heap_alloc_new→jps,results_cell_row→jpZ,setRow_heap→jpe,setRow_other→jpA,wp_store_row→joe,zeroValue→joK
open Go.Act renaming put→joT
open Go.Exit renaming inBlock→jpX
open Go.IntWalk renaming i64_in→jp2
open Go.Obj renaming cells→jp0
open Go.Proofs.Tryz renaming prog→joz,underlying47→jol
open Go.RowKit.Below renaming heap_setCell→jo9,refl→joo,trans→jop
open Go.Value renaming int→joC,pointer→jon
open Int renaming le_refl→jok
open List renaming getD→jot,getElem?_eq_none→jpc,getElem?_take→jph,length_take→jou,map_cons→jpC,map_nil→jpH,map_toArray→jpG,mem_cons→joG,range→jo3,replicate→jpp,size_toArray→jpw,take_left'→jpx
open Nat renaming le_of_eq→jod,le_of_lt→jpW,le_refl→joq,le_trans→jo2,lt_of_lt_of_le→jos,mul_assoc→jpL,zero_le→jor
open Option.some renaming inj→joF
open UInt8 renaming ofNat→jov
namespace Go.Proofs.YtakpgbaijkhpmaaGreatDoor
set_option maxHeartbeats 64000000
set_option linter.unusedSimpArgs false
set_option linter.unusedVariables false
set_option maxRecDepth 100000
section
open Go.ChangeShapes Go.WideShapes Go.ChangeAt Go.RowKit Go.Deep
theorem jfK (x l:Nat):qs x (qs l l)=qs (qs x l) l:=by
 unfold qs
 rw [Nat.mul_mod_mod,Nat.mod_mul_mod,jpL]
theorem Ur.so {w:World}{g r:Nat}{t:joE}{vs:List Nat}{C:Array Value}(h:Ur w g t vs) (hne:g≠r):Ur (w.setRow r C) g t vs:=(jpA _ _ _ _ hne).trans h
theorem Ur.q {w:World}{g:Nat}{t:joE}{vs:List Nat}(h:Ur w g t vs):Hid (∀ s,Ext w s→Ur s g t vs):=fun s e=>h.kept e h.lt
theorem zY (w:World) (C:Array Value) (T:joE):Hid ((w.alloc (jp0 C T)).heap[w.heap.size]? =some (.cells C T (0,0))):=jps _ _
theorem yJ {a w:World}(e:Ext a w) (C:Array Value) (T:joE) (D:Array Value):Ext a ((w.alloc (jp0 C T)).setRow w.heap.size D):=e.trans (jpd ((jnQ w).alloc _) (joq _) _)
theorem jdE {ks ps:List UInt8}{w:World}(hk:ks.length=32) (hp:ps.length=32):
 Calls joz 71 #[.agg (cellsOf ks).toArray, .agg (cellsOf ps).toArray] w fun e w'=>e= .returned (.agg (cellsOf (kL (jY ks (ofV ps)))).toArray)∧Ext w w':=by
 obtain ⟨x,hx⟩:=ex_ (ofV ps)
 have OFA:Hid (∀ W,Calls joz 99 #[.agg (cellsOf ps).toArray] W fun e w'=>∃ es,IsN es x∧e= .returned (.agg (jc es).toArray)∧Ext W w'):=fun W=>by rw [hx];exact jgt hp
 rw [←hx]
 obtain ⟨B,hB⟩:∃ B:Nat→Bool,B=fun m=>yk ks (254 - m):=⟨_,rfl⟩
 have BIT:Hid (∀ (m n:Nat) (W:World),m+n=254→Calls joz 100 #[.agg (cellsOf ks).toArray, .int .i64 (n:Int)] W fun e w'=>e= .returned (.bool (B m))∧Ext W w'):=fun m n W h=>by
  have:=jeT (ks:=ks) (n:=n) (w:=W) hk (by omega)
  rw [hB]
  show Calls _ _ _ _ fun e w'=>e= .returned (.bool (yk ks (254 - m)))∧_
  rw [show 254 - m=n by omega]
  exact this
 obtain ⟨S,hS⟩:∃ S:Nat→StN,S=Zg x B:=⟨_,rfl⟩
 have S1:Hid (∀ m,S (m+1)=YM (B m) (yM x (YM (B m) (S m)))):=fun m=>by rw [hS];rfl
 have RES:Hid (jY ks x=qs (S 255).1 (zL (S 255).2.2.1)):=by unfold Hid;rw [hS,hB];rfl
 have S0:Hid (S 0=(1,x,0,1)):=by unfold Hid;rw [hS];rfl
 clear hS hB hx
 have L_rk:=zx (jY ks x)
 have hrk:Hid (kL (jY ks x)=kL (qs (S 255).1 (zL (S 255).2.2.1))):=by unfold Hid;rw [RES.out]
 clear RES
 generalize kL (jY ks x)=rk at *
 have S_rk:(cellsOf rk).toArray.size=32:=by simp [ja,L_rk]
 have O_rk:=ji rk
 have S_ks:(cellsOf ks).toArray.size=32:=by simp [ja,hk]
 have S_ps:(cellsOf ps).toArray.size=32:=by simp [ja,hp]
 have hal:=zy
 have hbz:=Hj jd8
 have n_zn:=jjQ
 generalize J6=zn at *
 have S_zn:=jnE n_zn.len
 have O_zn:=jw zn
 have hb1:=Hj jaw
 have n_ow:=jji
 generalize jeK=ow at *
 have S_ow:=jnE n_ow.len
 have O_ow:=jw ow
 have hbf:=Hj jeo
 have n_fw:=ji4
 generalize jkj=fw at *
 have S_fw:=jnE n_fw.len
 have O_fw:=jw fw
 have hal2:∀ w,(joK 23).run joz w= .ok (.agg (cellsOf (jpp 32 0)).toArray) w:=fun w=>by rw [jU];exact j2 w
 have L_zk:(jpp 32 (0:UInt8)).length=32:=rfl
 generalize jpp 32 (0:UInt8)=zk at *
 have S_zk:(cellsOf zk).toArray.size=32:=by simp [ja,L_zk]
 have B0:Hid (Ky (((w.alloc (jp0 (cellsOf ks).toArray 23)).alloc (jp0 (cellsOf ps).toArray 23)).alloc (jp0 (cellsOf zk).toArray 23)) w.heap.size ks∧Ky (((w.alloc (jp0 (cellsOf ks).toArray 23)).alloc (jp0 (cellsOf ps).toArray 23)).alloc (jp0 (cellsOf zk).toArray 23)) (w.heap.size+1) ps∧Ky (((w.alloc (jp0 (cellsOf ks).toArray 23)).alloc (jp0 (cellsOf ps).toArray 23)).alloc (jp0 (cellsOf zk).toArray 23)) (w.heap.size+1+1) zk∧Ext w (((w.alloc (jp0 (cellsOf ks).toArray 23)).alloc (jp0 (cellsOf ps).toArray 23)).alloc (jp0 (cellsOf zk).toArray 23))):=⟨⟨jF _ _ _ _,hk⟩,⟨jH _ _ _ _,hp⟩,⟨jB _ _ _ _,L_zk⟩,(((jnQ w).alloc _).alloc _).alloc _⟩
 go_enter Tryz.func71,Tryz.ntmps71
 go_upto_region 1 with fail
 refine jg (fun W=>Ky W w.heap.size ks∧Ky W (w.heap.size+1) ps∧Ky W (w.heap.size+1+1) zk∧Ext w W) B0.out ?_
 clear B0
 rintro w0_ ⟨KS,KP,KZ,KE⟩
 go_wp2_with (refine wl_ rfl 23 rfl (w.heap.size+1) rfl KP.1 rfl rfl (by rw [S_ps];rfl) ?_;go_frame)
 refine (OFA.out _).mono ?_
 rintro e u_ ⟨cx,n_cx,rfl,e1⟩
 have S_cx:=jnE n_cx.len
 have O_cx:=jw cx
 have a1:=zY u_ (jc zn).toArray 200
 have E_:=yJ e1 (jc zn).toArray 200 (jc cx).toArray
 go_upto_region 2 with (first
  | (refine ws_ rfl 200 rfl u_.heap.size (jc cx).toArray rfl rfl a1.out (by rw [S_cx];rfl) (by rw [S_cx,S_zn]) O_cx ?_;simp only [joT]))
 obtain ⟨g5,hg_⟩:∃ g,g=u_.heap.size:=⟨_,rfl⟩
 have z5:w.heap.size+1+1 < g5:=by rw [hg_];exact jos (jh KZ.1) e1.size
 refine jg (fun W=>Ur W g5 200 cx∧Ky W w.heap.size ks∧Ky W (w.heap.size+1) ps∧Ky W (w.heap.size+1+1) zk∧Ext w W) ⟨by rw [hg_];exact jpe _ _ _ _ _ _ a1.out,
  KS.ext E_,
  KP.ext E_,
  KZ.ext E_,
  KE.trans E_⟩ ?_
 rw [←hg_]
 clear KS KP KZ KE hg_ a1 E_ e1 OFA
 rintro w1_ ⟨K5,KS,KP,KZ,KE⟩
 have a1:=zY w1_ (jc zn).toArray 200
 have E_:=yJ (jnQ w1_) (jc zn).toArray 200 (jc ow).toArray
 go_upto_region 3 with (first
  | (refine jm rfl _ _ rfl (jc ow).toArray (by simp only [jpG,jpC,jpH];exact hb1.out) ?_;go_frame)
  | (refine ws_ rfl 200 rfl w1_.heap.size (jc ow).toArray rfl rfl a1.out (by rw [S_ow];rfl) (by rw [S_ow,S_zn]) O_ow ?_;simp only [joT]))
 obtain ⟨g6,hg_⟩:∃ g,g=w1_.heap.size:=⟨_,rfl⟩
 have z6:g5 < g6:=by rw [hg_];exact K5.lt
 refine jg (fun W=>Ur W g5 200 cx∧Ur W g6 200 ow∧Ky W w.heap.size ks∧Ky W (w.heap.size+1) ps∧Ky W (w.heap.size+1+1) zk∧Ext w W) ⟨K5.kept E_ K5.lt,
  by rw [hg_];exact jpe _ _ _ _ _ _ a1.out,
  KS.ext E_,
  KP.ext E_,
  KZ.ext E_,
  KE.trans E_⟩ ?_
 rw [←hg_]
 clear K5 KS KP KZ KE hg_ a1 E_
 rintro w2_ ⟨K5,K6,KS,KP,KZ,KE⟩
 have a1:=zY w2_ (jc zn).toArray 200
 have E_:=yJ (jnQ w2_) (jc zn).toArray 200 (jc cx).toArray
 go_upto_region 4 with (first
  | (refine wl_ rfl 200 rfl g5 rfl K5 rfl rfl (by rw [S_cx];rfl) ?_;go_frame)
  | (refine ws_ rfl 200 rfl w2_.heap.size (jc cx).toArray rfl rfl a1.out (by rw [S_cx];rfl) (by rw [S_cx,S_zn]) O_cx ?_;simp only [joT]))
 obtain ⟨g7,hg_⟩:∃ g,g=w2_.heap.size:=⟨_,rfl⟩
 have z7:g6 < g7:=by rw [hg_];exact K6.lt
 refine jg (fun W=>Ur W g5 200 cx∧Ur W g6 200 ow∧Ur W g7 200 cx∧Ky W w.heap.size ks∧Ky W (w.heap.size+1) ps∧Ky W (w.heap.size+1+1) zk∧Ext w W) ⟨K5.kept E_ K5.lt,
  K6.kept E_ K6.lt,
  by rw [hg_];exact jpe _ _ _ _ _ _ a1.out,
  KS.ext E_,
  KP.ext E_,
  KZ.ext E_,
  KE.trans E_⟩ ?_
 rw [←hg_]
 clear K5 K6 KS KP KZ KE hg_ a1 E_
 rintro w3_ ⟨K5,K6,K7,KS,KP,KZ,KE⟩
 have a1:=zY w3_ (jc zn).toArray 200
 have E_:=yJ (jnQ w3_) (jc zn).toArray 200 (jc zn).toArray
 go_upto_region 5 with (first
  | (refine jm rfl _ _ rfl (jc zn).toArray (by simp only [jpG,jpC,jpH];exact hbz.out) ?_;go_frame)
  | (refine ws_ rfl 200 rfl w3_.heap.size (jc zn).toArray rfl rfl a1.out (by rw [S_zn];rfl) rfl O_zn ?_;simp only [joT]))
 obtain ⟨g8,hg_⟩:∃ g,g=w3_.heap.size:=⟨_,rfl⟩
 have z8:g7 < g8:=by rw [hg_];exact K7.lt
 refine jg (fun W=>Ur W g5 200 cx∧Ur W g6 200 ow∧Ur W g7 200 cx∧Ur W g8 200 zn∧Ky W w.heap.size ks∧Ky W (w.heap.size+1) ps∧Ky W (w.heap.size+1+1) zk∧Ext w W) ⟨K5.kept E_ K5.lt,
  K6.kept E_ K6.lt,
  K7.kept E_ K7.lt,
  by rw [hg_];exact jpe _ _ _ _ _ _ a1.out,
  KS.ext E_,
  KP.ext E_,
  KZ.ext E_,
  KE.trans E_⟩ ?_
 rw [←hg_]
 clear K5 K6 K7 KS KP KZ KE hg_ a1 E_
 rintro w4_ ⟨K5,K6,K7,K8,KS,KP,KZ,KE⟩
 have a1:=zY w4_ (jc zn).toArray 200
 have E_:=yJ (jnQ w4_) (jc zn).toArray 200 (jc ow).toArray
 go_upto_region 6 with (first
  | (refine jm rfl _ _ rfl (jc ow).toArray (by simp only [jpG,jpC,jpH];exact hb1.out) ?_;go_frame)
  | (refine ws_ rfl 200 rfl w4_.heap.size (jc ow).toArray rfl rfl a1.out (by rw [S_ow];rfl) (by rw [S_ow,S_zn]) O_ow ?_;simp only [joT]))
 obtain ⟨g9,hg_⟩:∃ g,g=w4_.heap.size:=⟨_,rfl⟩
 have z9:g8 < g9:=by rw [hg_];exact K8.lt
 refine jg (fun W=>Ur W g5 200 cx∧Ur W g6 200 ow∧Ur W g7 200 cx∧Ur W g8 200 zn∧Ur W g9 200 ow∧Ky W w.heap.size ks∧Ky W (w.heap.size+1) ps∧Ky W (w.heap.size+1+1) zk∧Ext w W) ⟨K5.kept E_ K5.lt,
  K6.kept E_ K6.lt,
  K7.kept E_ K7.lt,
  K8.kept E_ K8.lt,
  by rw [hg_];exact jpe _ _ _ _ _ _ a1.out,
  KS.ext E_,
  KP.ext E_,
  KZ.ext E_,
  KE.trans E_⟩ ?_
 rw [←hg_]
 clear K5 K6 K7 K8 KS KP KZ KE hg_ a1 E_
 rintro w5_ ⟨K5,K6,K7,K8,K9,KS,KP,KZ,KE⟩
 have P3:Hid (∀ s,Below g6 w5_ s→Ky s w.heap.size ks∧Ky s (w.heap.size+1+1) zk∧Ur s g5 200 cx∧Ext w s):=fun s e=>
  ⟨⟨(e.block _ (by omega)).trans KS.1,KS.2⟩,⟨(e.block _ (by omega)).trans KZ.1,KZ.2⟩,K5.kept e z6,jop KE (e.mono (by omega))⟩
 clear KS KP KZ KE K5
 go_wp2_with fail
 go_loopw [10] (fun iv wr=>∃ (m:Nat) (c6 c7 c8 c9:List Nat),m≤255∧iv= .int .i64 (254 - (m:Int))∧Ur wr g6 200 c6∧Ur wr g7 200 c7∧Ur wr g8 200 c8∧Ur wr g9 200 c9∧IsN c6 (S m).1∧IsN c7 (S m).2.1∧IsN c8 (S m).2.2.1∧IsN c9 (S m).2.2.2∧Below g6 w5_ wr) (fun iv _=>(intOf iv+1).toNat)
 case atStart=>
  exact ⟨0,ow,cx,zn,ow,jor _,rfl,K6,K7,K8,K9,by rw [S0.out];exact n_ow,by rw [S0.out];exact n_cx,by rw [S0.out];exact n_zn,by rw [S0.out];exact n_ow,joo _ _⟩
 case round=>
  clear K6 K7 K8 K9 S0
  obtain ⟨m,c6,c7,c8,c9,hm,rfl,K6,K7,K8,K9,n6,n7,n8,n9,KB⟩:=hrel
  by_cases hlt:m < 255
  ·obtain ⟨n,hn⟩:∃ n:Nat,m+n=254:=⟨254 - m,by omega⟩
   obtain ⟨b,hb⟩:∃ b:Int,b=254 - (m:Int):=⟨_,rfl⟩
   have hbn:(n:Int)=b:=by omega
   rw [←hb]
   have hbn1:Hid (b - 1=254 - ((m+1:Nat):Int)):=by unfold Hid;omega
   have hme:Hid ((b - 1+1).toNat < (b+1).toNat):=by unfold Hid;omega
   have b0:(0:Int)≤b:=by omega
   have b1:b≤254:=by omega
   have bw:IntKind.i64.wrap (b - 1)=b - 1:=jp2 _ (by omega)
   have BT:=Hj (fun W=>BIT.out m n W hn)
   rw [hbn] at BT
   have hm1:Hid (m+1≤255):=by unfold Hid;omega
   clear BIT hn hbn hb hlt hm hrk
   have S_c6:=jnE n6.len
   have S_c7:=jnE n7.len
   have S_c8:=jnE n8.len
   have S_c9:=jnE n9.len
   have O_c6:=jw c6
   have O_c7:=jw c7
   have O_c8:=jw c8
   have O_c9:=jw c9
   obtain ⟨va,hva⟩:∃ v,v=(S m).1:=⟨_,rfl⟩
   obtain ⟨vb,hvb⟩:∃ v,v=(S m).2.1:=⟨_,rfl⟩
   obtain ⟨vc,hvc⟩:∃ v,v=(S m).2.2.1:=⟨_,rfl⟩
   obtain ⟨vd,hvd⟩:∃ v,v=(S m).2.2.2:=⟨_,rfl⟩
   rw [←hva] at n6
   rw [←hvb] at n7
   rw [←hvc] at n8
   rw [←hvd] at n9
   have SM:Hid (∀ _:Unit,S m=(va,vb,vc,vd)):=fun _=>by rw [hva,hvb,hvc,hvd]
   clear hva hvb hvc hvd
   have S1m:Hid (∀ _:Unit,S (m+1)=YM (B m) (yM x (YM (B m) (va,vb,vc,vd)))):=fun _=>by rw [S1.out m,SM.out ()]
   clear S1 SM
   have K5:=(P3.out _ KB).2.2.1
   rcases Bool.eq_false_or_eq_true (B m) with hbt | hbt
   ·rw [hbt] at BT S1m
    clear hbt
    have KX:=(P3.out _ KB).1
    go_wp2_with (refine wl_ rfl 23 rfl w.heap.size rfl KX.1 rfl rfl (by rw [S_ks];rfl) ?_;go_frame)
    refine (BT.out _).mono ?_
    rintro e u_ ⟨rfl,e1⟩
    go_upto_region 10 with fail
    refine jg (fun W=>Ur W g5 200 cx∧Ur W g6 200 c6∧Ur W g7 200 c7∧Ur W g8 200 c8∧Ur W g9 200 c9∧Below g6 w5_ W) ⟨K5.kept e1 K5.lt,
     K6.kept e1 K6.lt,
     K7.kept e1 K7.lt,
     K8.kept e1 K8.lt,
     K9.kept e1 K9.lt,
     jop KB (e1.mono (jpW K6.lt))⟩ ?_
    clear K5 K6 K7 K8 K9 KB KX e1
    rintro w7_ ⟨K5,K6,K7,K8,K9,KB⟩
    have a1:=zY w7_ (jc zn).toArray 200
    have E_:=yJ (jnQ w7_) (jc zn).toArray 200 (jc c6).toArray
    go_upto_region 11 with (first
     | (refine wl_ rfl 200 rfl g6 rfl K6 rfl rfl (by rw [S_c6];rfl) ?_;go_frame)
     | (refine ws_ rfl 200 rfl w7_.heap.size (jc c6).toArray rfl rfl a1.out (by rw [S_c6];rfl) (by rw [S_c6,S_zn]) O_c6 ?_;simp only [joT]))
    obtain ⟨g11,hg_⟩:∃ g,g=w7_.heap.size:=⟨_,rfl⟩
    have z11:g9 < g11:=by rw [hg_];exact K9.lt
    refine jg (fun W=>Ur W g5 200 cx∧Ur W g6 200 c6∧Ur W g7 200 c7∧Ur W g8 200 c8∧Ur W g9 200 c9∧Ur W g11 200 c6∧Below g6 w5_ W) ⟨K5.kept E_ K5.lt,
     K6.kept E_ K6.lt,
     K7.kept E_ K7.lt,
     K8.kept E_ K8.lt,
     K9.kept E_ K9.lt,
     by rw [hg_];exact jpe _ _ _ _ _ _ a1.out,
     jop KB (E_.mono (jpW K6.lt))⟩ ?_
    rw [←hg_]
    clear K5 K6 K7 K8 K9 KB hg_ a1 E_
    rintro w8_ ⟨K5,K6,K7,K8,K9,K11,KB⟩
    go_upto_region 12 with (first
     | (refine wl_ rfl 200 rfl g7 rfl K7 rfl rfl (by rw [S_c7];rfl) ?_;go_frame)
     | (refine ws_ rfl 200 rfl g6 (jc c7).toArray rfl rfl K6 (by rw [S_c7];rfl) (by rw [S_c7,S_c6]) O_c7 ?_;simp only [joT]))
    refine jg (fun W=>Ur W g5 200 cx∧Ur W g6 200 c7∧Ur W g7 200 c7∧Ur W g8 200 c8∧Ur W g9 200 c9∧Ur W g11 200 c6∧Below g6 w5_ W) ⟨K5.so (by omega),
     jpe _ _ _ _ _ _ K6,
     K7.so (by omega),
     K8.so (by omega),
     K9.so (by omega),
     K11.so (by omega),
     jpd KB (by omega) _⟩ ?_
    clear K5 K6 K7 K8 K9 K11 KB
    rintro w9_ ⟨K5,K6,K7,K8,K9,K11,KB⟩
    go_upto_region 13 with (first
     | (refine wl_ rfl 200 rfl g11 rfl K11 rfl rfl (by rw [S_c6];rfl) ?_;go_frame)
     | (refine ws_ rfl 200 rfl g7 (jc c6).toArray rfl rfl K7 (by rw [S_c6];rfl) (by rw [S_c6,S_c7]) O_c6 ?_;simp only [joT]))
    refine jg (fun W=>Ur W g5 200 cx∧Ur W g6 200 c7∧Ur W g7 200 c6∧Ur W g8 200 c8∧Ur W g9 200 c9∧Ur W g11 200 c6∧Below g6 w5_ W) ⟨K5.so (by omega),
     K6.so (by omega),
     jpe _ _ _ _ _ _ K7,
     K8.so (by omega),
     K9.so (by omega),
     K11.so (by omega),
     jpd KB (by omega) _⟩ ?_
    clear K5 K6 K7 K8 K9 K11 KB
    rintro w10_ ⟨K5,K6,K7,K8,K9,K11,KB⟩
    go_upto_region 14 with (first
     | (refine wl_ rfl 200 rfl g8 rfl K8 rfl rfl (by rw [S_c8];rfl) ?_;go_frame)
     | (refine ws_ rfl 200 rfl g11 (jc c8).toArray rfl rfl K11 (by rw [S_c8];rfl) (by rw [S_c8,S_c6]) O_c8 ?_;simp only [joT]))
    refine jg (fun W=>Ur W g5 200 cx∧Ur W g6 200 c7∧Ur W g7 200 c6∧Ur W g8 200 c8∧Ur W g9 200 c9∧Ur W g11 200 c8∧Below g6 w5_ W) ⟨K5.so (by omega),
     K6.so (by omega),
     K7.so (by omega),
     K8.so (by omega),
     K9.so (by omega),
     jpe _ _ _ _ _ _ K11,
     jpd KB (by omega) _⟩ ?_
    clear K5 K6 K7 K8 K9 K11 KB
    rintro w11_ ⟨K5,K6,K7,K8,K9,K11,KB⟩
    go_upto_region 15 with (first
     | (refine wl_ rfl 200 rfl g9 rfl K9 rfl rfl (by rw [S_c9];rfl) ?_;go_frame)
     | (refine ws_ rfl 200 rfl g8 (jc c9).toArray rfl rfl K8 (by rw [S_c9];rfl) (by rw [S_c9,S_c8]) O_c9 ?_;simp only [joT]))
    refine jg (fun W=>Ur W g5 200 cx∧Ur W g6 200 c7∧Ur W g7 200 c6∧Ur W g8 200 c9∧Ur W g9 200 c9∧Ur W g11 200 c8∧Below g6 w5_ W) ⟨K5.so (by omega),
     K6.so (by omega),
     K7.so (by omega),
     jpe _ _ _ _ _ _ K8,
     K9.so (by omega),
     K11.so (by omega),
     jpd KB (by omega) _⟩ ?_
    clear K5 K6 K7 K8 K9 K11 KB
    rintro w12_ ⟨K5,K6,K7,K8,K9,K11,KB⟩
    go_upto_region 16 with (first
     | (refine wl_ rfl 200 rfl g11 rfl K11 rfl rfl (by rw [S_c8];rfl) ?_;go_frame)
     | (refine ws_ rfl 200 rfl g9 (jc c8).toArray rfl rfl K9 (by rw [S_c8];rfl) (by rw [S_c8,S_c9]) O_c8 ?_;simp only [joT]))
    refine jg (fun W=>Ur W g5 200 cx∧Ur W g6 200 c7∧Ur W g7 200 c6∧Ur W g8 200 c9∧Ur W g9 200 c8∧Ur W g11 200 c8∧Below g6 w5_ W) ⟨K5.so (by omega),
     K6.so (by omega),
     K7.so (by omega),
     K8.so (by omega),
     jpe _ _ _ _ _ _ K9,
     K11.so (by omega),
     jpd KB (by omega) _⟩ ?_
    clear K5 K6 K7 K8 K9 K11 KB
    rintro w13_ ⟨K5,K6,K7,K8,K9,K11,KB⟩
    clear K11
    go_wp2_with (first
     | (refine wl_ rfl 200 rfl g6 rfl K6 rfl rfl (by rw [S_c7];rfl) ?_;go_frame)
     | (refine wl_ rfl 200 rfl g8 rfl K8 rfl rfl (by rw [S_c9];rfl) ?_;go_frame))
    refine (yo n7 n9).mono ?_
    rintro e u_ ⟨c_101,n_101,rfl,e1⟩
    obtain ⟨v_102,hv_102⟩:∃ v,v=jnw vb vd:=⟨_,rfl⟩
    rw [←hv_102] at n_101
    replace hv_102:=Hj (fun _:Unit=>hv_102)
    have S_c_101:=jnE n_101.len
    have O_c_101:=jw c_101
    have a1:=zY u_ (jc zn).toArray 200
    have E_:=yJ e1 (jc zn).toArray 200 (jc c_101).toArray
    go_upto_region 17 with (first
     | (refine ws_ rfl 200 rfl u_.heap.size (jc c_101).toArray rfl rfl a1.out (by rw [S_c_101];rfl) (by rw [S_c_101,S_zn]) O_c_101 ?_;simp only [joT]))
    obtain ⟨g12,hg_⟩:∃ g,g=u_.heap.size:=⟨_,rfl⟩
    have z12:g9 < g12:=by rw [hg_];exact jos K9.lt e1.size
    refine jg (fun W=>Ur W g5 200 cx∧Ur W g6 200 c7∧Ur W g7 200 c6∧Ur W g8 200 c9∧Ur W g9 200 c8∧Ur W g12 200 c_101∧Below g6 w5_ W) ⟨K5.kept E_ K5.lt,
     K6.kept E_ K6.lt,
     K7.kept E_ K7.lt,
     K8.kept E_ K8.lt,
     K9.kept E_ K9.lt,
     by rw [hg_];exact jpe _ _ _ _ _ _ a1.out,
     jop KB (E_.mono (jpW K6.lt))⟩ ?_
    rw [←hg_]
    clear K5 K6 K7 K8 K9 KB hg_ a1 E_ e1
    rintro w14_ ⟨K5,K6,K7,K8,K9,K12,KB⟩
    go_wp2_with (first
     | (refine wl_ rfl 200 rfl g6 rfl K6 rfl rfl (by rw [S_c7];rfl) ?_;go_frame)
     | (refine wl_ rfl 200 rfl g8 rfl K8 rfl rfl (by rw [S_c9];rfl) ?_;go_frame))
    refine (yp n7 n9).mono ?_
    rintro e u_ ⟨c_103,n_103,rfl,e1⟩
    obtain ⟨v_104,hv_104⟩:∃ v,v=zO vb vd:=⟨_,rfl⟩
    rw [←hv_104] at n_103
    replace hv_104:=Hj (fun _:Unit=>hv_104)
    have S_c_103:=jnE n_103.len
    have O_c_103:=jw c_103
    have a1:=zY u_ (jc zn).toArray 200
    have E_:=yJ e1 (jc zn).toArray 200 (jc c_103).toArray
    go_upto_region 18 with (first
     | (refine ws_ rfl 200 rfl u_.heap.size (jc c_103).toArray rfl rfl a1.out (by rw [S_c_103];rfl) (by rw [S_c_103,S_zn]) O_c_103 ?_;simp only [joT]))
    obtain ⟨g13,hg_⟩:∃ g,g=u_.heap.size:=⟨_,rfl⟩
    have z13:g9 < g13:=by rw [hg_];exact jos K9.lt e1.size
    refine jg (fun W=>Ur W g5 200 cx∧Ur W g6 200 c7∧Ur W g7 200 c6∧Ur W g8 200 c9∧Ur W g9 200 c8∧Ur W g12 200 c_101∧Ur W g13 200 c_103∧Below g6 w5_ W) ⟨K5.kept E_ K5.lt,
     K6.kept E_ K6.lt,
     K7.kept E_ K7.lt,
     K8.kept E_ K8.lt,
     K9.kept E_ K9.lt,
     K12.kept E_ K12.lt,
     by rw [hg_];exact jpe _ _ _ _ _ _ a1.out,
     jop KB (E_.mono (jpW K6.lt))⟩ ?_
    rw [←hg_]
    clear K5 K6 K7 K8 K9 K12 KB hg_ a1 E_ e1
    rintro w15_ ⟨K5,K6,K7,K8,K9,K12,K13,KB⟩
    go_wp2_with (first
     | (refine wl_ rfl 200 rfl g12 rfl K12 rfl rfl (by rw [S_c_101];rfl) ?_;go_frame))
    refine (j9 n_101 n_101).mono ?_
    rintro e u_ ⟨c_105,n_105,rfl,e1⟩
    obtain ⟨v_106,hv_106⟩:∃ v,v=qs v_102 v_102:=⟨_,rfl⟩
    rw [←hv_106] at n_105
    replace hv_106:=Hj (fun _:Unit=>hv_106)
    have S_c_105:=jnE n_105.len
    have O_c_105:=jw c_105
    have a1:=zY u_ (jc zn).toArray 200
    have E_:=yJ e1 (jc zn).toArray 200 (jc c_105).toArray
    go_upto_region 19 with (first
     | (refine ws_ rfl 200 rfl u_.heap.size (jc c_105).toArray rfl rfl a1.out (by rw [S_c_105];rfl) (by rw [S_c_105,S_zn]) O_c_105 ?_;simp only [joT]))
    obtain ⟨g14,hg_⟩:∃ g,g=u_.heap.size:=⟨_,rfl⟩
    have z14:g9 < g14:=by rw [hg_];exact jos K9.lt e1.size
    refine jg (fun W=>Ur W g5 200 cx∧Ur W g6 200 c7∧Ur W g7 200 c6∧Ur W g8 200 c9∧Ur W g9 200 c8∧Ur W g12 200 c_101∧Ur W g13 200 c_103∧Ur W g14 200 c_105∧Below g6 w5_ W) ⟨K5.kept E_ K5.lt,
     K6.kept E_ K6.lt,
     K7.kept E_ K7.lt,
     K8.kept E_ K8.lt,
     K9.kept E_ K9.lt,
     K12.kept E_ K12.lt,
     K13.kept E_ K13.lt,
     by rw [hg_];exact jpe _ _ _ _ _ _ a1.out,
     jop KB (E_.mono (jpW K6.lt))⟩ ?_
    rw [←hg_]
    clear K5 K6 K7 K8 K9 K12 K13 KB hg_ a1 E_ e1
    rintro w16_ ⟨K5,K6,K7,K8,K9,K12,K13,K14,KB⟩
    go_wp2_with (first
     | (refine wl_ rfl 200 rfl g13 rfl K13 rfl rfl (by rw [S_c_103];rfl) ?_;go_frame))
    refine (j9 n_103 n_103).mono ?_
    rintro e u_ ⟨c_107,n_107,rfl,e1⟩
    obtain ⟨v_108,hv_108⟩:∃ v,v=qs v_104 v_104:=⟨_,rfl⟩
    rw [←hv_108] at n_107
    replace hv_108:=Hj (fun _:Unit=>hv_108)
    have S_c_107:=jnE n_107.len
    have O_c_107:=jw c_107
    have a1:=zY u_ (jc zn).toArray 200
    have E_:=yJ e1 (jc zn).toArray 200 (jc c_107).toArray
    go_upto_region 20 with (first
     | (refine ws_ rfl 200 rfl u_.heap.size (jc c_107).toArray rfl rfl a1.out (by rw [S_c_107];rfl) (by rw [S_c_107,S_zn]) O_c_107 ?_;simp only [joT]))
    obtain ⟨g15,hg_⟩:∃ g,g=u_.heap.size:=⟨_,rfl⟩
    have z15:g9 < g15:=by rw [hg_];exact jos K9.lt e1.size
    refine jg (fun W=>Ur W g5 200 cx∧Ur W g6 200 c7∧Ur W g7 200 c6∧Ur W g8 200 c9∧Ur W g9 200 c8∧Ur W g12 200 c_101∧Ur W g13 200 c_103∧Ur W g14 200 c_105∧Ur W g15 200 c_107∧Below g6 w5_ W) ⟨K5.kept E_ K5.lt,
     K6.kept E_ K6.lt,
     K7.kept E_ K7.lt,
     K8.kept E_ K8.lt,
     K9.kept E_ K9.lt,
     K12.kept E_ K12.lt,
     K13.kept E_ K13.lt,
     K14.kept E_ K14.lt,
     by rw [hg_];exact jpe _ _ _ _ _ _ a1.out,
     jop KB (E_.mono (jpW K6.lt))⟩ ?_
    rw [←hg_]
    clear K5 K6 K7 K8 K9 K12 K13 K14 KB hg_ a1 E_ e1
    rintro w17_ ⟨K5,K6,K7,K8,K9,K12,K13,K14,K15,KB⟩
    go_wp2_with (first
     | (refine wl_ rfl 200 rfl g14 rfl K14 rfl rfl (by rw [S_c_105];rfl) ?_;go_frame)
     | (refine wl_ rfl 200 rfl g15 rfl K15 rfl rfl (by rw [S_c_107];rfl) ?_;go_frame))
    refine (yp n_105 n_107).mono ?_
    rintro e u_ ⟨c_109,n_109,rfl,e1⟩
    obtain ⟨v_110,hv_110⟩:∃ v,v=zO v_106 v_108:=⟨_,rfl⟩
    rw [←hv_110] at n_109
    replace hv_110:=Hj (fun _:Unit=>hv_110)
    have S_c_109:=jnE n_109.len
    have O_c_109:=jw c_109
    have a1:=zY u_ (jc zn).toArray 200
    have E_:=yJ e1 (jc zn).toArray 200 (jc c_109).toArray
    go_upto_region 21 with (first
     | (refine ws_ rfl 200 rfl u_.heap.size (jc c_109).toArray rfl rfl a1.out (by rw [S_c_109];rfl) (by rw [S_c_109,S_zn]) O_c_109 ?_;simp only [joT]))
    obtain ⟨g16,hg_⟩:∃ g,g=u_.heap.size:=⟨_,rfl⟩
    have z16:g9 < g16:=by rw [hg_];exact jos K9.lt e1.size
    refine jg (fun W=>Ur W g5 200 cx∧Ur W g6 200 c7∧Ur W g7 200 c6∧Ur W g8 200 c9∧Ur W g9 200 c8∧Ur W g12 200 c_101∧Ur W g13 200 c_103∧Ur W g14 200 c_105∧Ur W g15 200 c_107∧Ur W g16 200 c_109∧Below g6 w5_ W) ⟨K5.kept E_ K5.lt,
     K6.kept E_ K6.lt,
     K7.kept E_ K7.lt,
     K8.kept E_ K8.lt,
     K9.kept E_ K9.lt,
     K12.kept E_ K12.lt,
     K13.kept E_ K13.lt,
     K14.kept E_ K14.lt,
     K15.kept E_ K15.lt,
     by rw [hg_];exact jpe _ _ _ _ _ _ a1.out,
     jop KB (E_.mono (jpW K6.lt))⟩ ?_
    rw [←hg_]
    clear K5 K6 K7 K8 K9 K12 K13 K14 K15 KB hg_ a1 E_ e1
    rintro w18_ ⟨K5,K6,K7,K8,K9,K12,K13,K14,K15,K16,KB⟩
    have Q7:=K7.q
    have Q9:=K9.q
    have Q12:=K12.q
    refine qgF (R:=Ext) jnQ (fun _ _ _=>Ext.trans) [0,1,2,3,4,5] [6] [0,0,3,0,15,0,63] [true,true,true,true,true,true,false] ?_
    refine jnT (fun _=>jnQ _) _ rfl (v:= .agg (jc c6).toArray) (d:=57) rfl rfl ?_ ?_
    ·intro a_ w_ hev hR hk
     have e7:a_.eval (.tmp 7)=_:=hk 7 rfl
     exact (jd rfl e7 (Q7.out w_ (Ext.trans (jnQ _).drew hR)) rfl rfl (by rw [S_c6];rfl))
    refine jnT (fun _=>jnQ _) _ rfl (v:= .agg (jc c8).toArray) (d:=58) rfl rfl ?_ ?_
    ·intro a_ w_ hev hR hk
     have e9:a_.eval (.tmp 9)=_:=hk 9 rfl
     exact (jd rfl e9 (Q9.out w_ (Ext.trans (jnQ _).drew hR)) rfl rfl (by rw [S_c8];rfl))
    refine jx _ rfl (fun u _=>∃ es,u= .agg (jc es).toArray∧IsN es (zO va vc)) (d:=59) rfl (fun _ _ _ h _=>h) rfl ?_ ?_
    ·intro a_ w_ hev hR hk K1 hK1
     have e56:a_.eval (.tmp 56)=_:=hk 56 rfl
     have e57:a_.eval (.tmp 57)=_:=hk 57 rfl
     clear hk
     have f56:=jz.trans e56
     have f57:=jz.trans e57
     go_simp
     refine (yp n6 n8).mono ?_
     rintro e_ w2_ ⟨fs_,hf_,rfl,x_⟩
     exact hK1.out _ _ x_ ⟨fs_,rfl,hf_⟩
    refine jnT (fun _=>jnQ _) _ rfl (v:= .agg (jc c_101).toArray) (d:=60) rfl rfl ?_ ?_
    ·intro a_ w_ hev hR hk
     have e12:a_.eval (.tmp 12)=_:=hk 12 rfl
     exact (jd rfl e12 (Q12.out w_ (Ext.trans (jnQ _).drew hR)) rfl rfl (by rw [S_c_101];rfl))
    refine jx _ rfl (fun u _=>∃ es,u= .agg (jc es).toArray∧IsN es (qs (zO va vc) v_102)) (d:=61) rfl (fun _ _ _ h _=>h) rfl ?_ ?_
    ·intro a_ w_ hev hR hk K1 hK1
     obtain ⟨es_58,e58,n58⟩:∃ es,a_.eval (.tmp 58)= .agg (jc es).toArray∧IsN es _:=hk 58 rfl
     have e59:a_.eval (.tmp 59)=_:=hk 59 rfl
     clear hk
     have f58:=jz.trans e58
     have f59:=jz.trans e59
     go_simp
     refine (j9 n58 n_101).mono ?_
     rintro e_ w2_ ⟨fs_,hf_,rfl,x_⟩
     exact hK1.out _ _ x_ ⟨fs_,rfl,hf_⟩
    refine qY _ rfl (fun u w_=>∃ g,u= .pointer (some ⟨g,0,none⟩)∧w18_.drew.heap.size≤g∧w_.heap[g]? =some (.cells (jc zn).toArray 200 (0,0))) (d:=18) rfl (fun _ _ _ h e=>by obtain ⟨g,h1,h2,h3⟩:=h;exact ⟨g,h1,h2,(e.block g (jh h3)).trans h3⟩) rfl (by decide) (fun _ _ h=>by obtain ⟨g,h1,h2,h3⟩:=h;subst h1;exact ⟨g,rfl,jh h3⟩) ?_ ?_
    ·intro a_ w_ hev hR hk K1 hK1
     go_simp
     exact hK1.out _ _ ((jnQ _).alloc _) ⟨_,rfl,hR.size,jps _ _⟩ (fun _ q=>by cases q;exact joq _)
    intro v_ wq_ hR hV_ hN_
    obtain ⟨hv5,hv4,hv3,hv2,hv1,hv0,_⟩:=hV_
    replace hv0:v_ 0=_:=hv0
    replace hv1:v_ 1=_:=hv1
    skip
    replace hv3:v_ 3=_:=hv3
    skip
    skip
    dsimp only [yQ,zv]
    obtain ⟨es_2,hv2,hn_2⟩:=hv2
    obtain ⟨es_4,hv4,hn_4⟩:=hv4
    obtain ⟨g_5,hv5,gb_5,gc_5⟩:=hv5
    clear hN_
    rw [hv0,hv1,hv2,hv3,hv4,hv5]
    go_frame
    clear hv0 hv1 hv2 hv3 hv4 hv5
    generalize es_4=c_111 at *
    have n_111:=hn_4
    clear hn_2 hn_4
    obtain ⟨v_112,hv_112⟩:∃ v,v=qs (zO va vc) v_102:=⟨_,rfl⟩
    rw [←hv_112] at n_111
    replace hv_112:=Hj (fun _:Unit=>hv_112)
    have S_c_111:=jnE n_111.len
    have O_c_111:=jw c_111
    refine qi (z:=6) _ rfl rfl (by kernel_rfl) ?_
    intro K1 hK1
    refine joe _ _ _ rfl g_5 (jc c_111).toArray rfl rfl 200 (jc zn).toArray gc_5 (by rw [S_c_111];rfl) (by rw [S_c_111,S_zn]) O_c_111 ?_
    refine hK1.out _ _ ?_
    clear hK1 K1
    refine qT (by kernel_rfl) ?_
    have z17:g9 < g_5:=jos K9.lt gb_5
    have E_:Ext w18_ (wq_.setRow g_5 (jc c_111).toArray):=jpd ((jnQ w18_).drew.trans hR) gb_5 _
    refine yf (fun W=>Ur W g5 200 cx∧Ur W g6 200 c7∧Ur W g7 200 c6∧Ur W g8 200 c9∧Ur W g9 200 c8∧Ur W g12 200 c_101∧Ur W g13 200 c_103∧Ur W g14 200 c_105∧Ur W g15 200 c_107∧Ur W g16 200 c_109∧Ur W g_5 200 c_111∧Below g6 w5_ W) ⟨K5.kept E_ K5.lt,
     K6.kept E_ K6.lt,
     K7.kept E_ K7.lt,
     K8.kept E_ K8.lt,
     K9.kept E_ K9.lt,
     K12.kept E_ K12.lt,
     K13.kept E_ K13.lt,
     K14.kept E_ K14.lt,
     K15.kept E_ K15.lt,
     K16.kept E_ K16.lt,
     jpe _ _ _ _ _ _ gc_5,
     jop KB (E_.mono (jpW K6.lt))⟩ ?_
    clear K5 K6 K7 K8 K9 K12 K13 K14 K15 K16 KB E_ hR gc_5 gb_5 Q7 Q9 Q12
    rintro w19_ ⟨K5,K6,K7,K8,K9,K12,K13,K14,K15,K16,K17,KB⟩
    generalize g_5=g17 at *
    go_upto_region 22 with fail
    have Q7:=K7.q
    have Q9:=K9.q
    have Q13:=K13.q
    refine qgF (R:=Ext) jnQ (fun _ _ _=>Ext.trans) [0,1,2,3,4,5] [6] [0,0,3,0,15,0,63] [true,true,true,true,true,true,false] ?_
    refine jnT (fun _=>jnQ _) _ rfl (v:= .agg (jc c6).toArray) (d:=62) rfl rfl ?_ ?_
    ·intro a_ w_ hev hR hk
     have e7:a_.eval (.tmp 7)=_:=hk 7 rfl
     exact (jd rfl e7 (Q7.out w_ (Ext.trans (jnQ _).drew hR)) rfl rfl (by rw [S_c6];rfl))
    refine jnT (fun _=>jnQ _) _ rfl (v:= .agg (jc c8).toArray) (d:=63) rfl rfl ?_ ?_
    ·intro a_ w_ hev hR hk
     have e9:a_.eval (.tmp 9)=_:=hk 9 rfl
     exact (jd rfl e9 (Q9.out w_ (Ext.trans (jnQ _).drew hR)) rfl rfl (by rw [S_c8];rfl))
    refine jx _ rfl (fun u _=>∃ es,u= .agg (jc es).toArray∧IsN es (jnw va vc)) (d:=64) rfl (fun _ _ _ h _=>h) rfl ?_ ?_
    ·intro a_ w_ hev hR hk K1 hK1
     have e61:a_.eval (.tmp 61)=_:=hk 61 rfl
     have e62:a_.eval (.tmp 62)=_:=hk 62 rfl
     clear hk
     have f61:=jz.trans e61
     have f62:=jz.trans e62
     go_simp
     refine (yo n6 n8).mono ?_
     rintro e_ w2_ ⟨fs_,hf_,rfl,x_⟩
     exact hK1.out _ _ x_ ⟨fs_,rfl,hf_⟩
    refine jnT (fun _=>jnQ _) _ rfl (v:= .agg (jc c_103).toArray) (d:=65) rfl rfl ?_ ?_
    ·intro a_ w_ hev hR hk
     have e13:a_.eval (.tmp 13)=_:=hk 13 rfl
     exact (jd rfl e13 (Q13.out w_ (Ext.trans (jnQ _).drew hR)) rfl rfl (by rw [S_c_103];rfl))
    refine jx _ rfl (fun u _=>∃ es,u= .agg (jc es).toArray∧IsN es (qs (jnw va vc) v_104)) (d:=66) rfl (fun _ _ _ h _=>h) rfl ?_ ?_
    ·intro a_ w_ hev hR hk K1 hK1
     obtain ⟨es_63,e63,n63⟩:∃ es,a_.eval (.tmp 63)= .agg (jc es).toArray∧IsN es _:=hk 63 rfl
     have e64:a_.eval (.tmp 64)=_:=hk 64 rfl
     clear hk
     have f63:=jz.trans e63
     have f64:=jz.trans e64
     go_simp
     refine (j9 n63 n_103).mono ?_
     rintro e_ w2_ ⟨fs_,hf_,rfl,x_⟩
     exact hK1.out _ _ x_ ⟨fs_,rfl,hf_⟩
    refine qY _ rfl (fun u w_=>∃ g,u= .pointer (some ⟨g,0,none⟩)∧w19_.drew.heap.size≤g∧w_.heap[g]? =some (.cells (jc zn).toArray 200 (0,0))) (d:=19) rfl (fun _ _ _ h e=>by obtain ⟨g,h1,h2,h3⟩:=h;exact ⟨g,h1,h2,(e.block g (jh h3)).trans h3⟩) rfl (by decide) (fun _ _ h=>by obtain ⟨g,h1,h2,h3⟩:=h;subst h1;exact ⟨g,rfl,jh h3⟩) ?_ ?_
    ·intro a_ w_ hev hR hk K1 hK1
     go_simp
     exact hK1.out _ _ ((jnQ _).alloc _) ⟨_,rfl,hR.size,jps _ _⟩ (fun _ q=>by cases q;exact joq _)
    intro v_ wq_ hR hV_ hN_
    obtain ⟨hv5,hv4,hv3,hv2,hv1,hv0,_⟩:=hV_
    replace hv0:v_ 0=_:=hv0
    replace hv1:v_ 1=_:=hv1
    skip
    replace hv3:v_ 3=_:=hv3
    skip
    skip
    dsimp only [yQ,zv]
    obtain ⟨es_2,hv2,hn_2⟩:=hv2
    obtain ⟨es_4,hv4,hn_4⟩:=hv4
    obtain ⟨g_5,hv5,gb_5,gc_5⟩:=hv5
    clear hN_
    rw [hv0,hv1,hv2,hv3,hv4,hv5]
    go_frame
    clear hv0 hv1 hv2 hv3 hv4 hv5
    generalize es_4=c_113 at *
    have n_113:=hn_4
    clear hn_2 hn_4
    obtain ⟨v_114,hv_114⟩:∃ v,v=qs (jnw va vc) v_104:=⟨_,rfl⟩
    rw [←hv_114] at n_113
    replace hv_114:=Hj (fun _:Unit=>hv_114)
    have S_c_113:=jnE n_113.len
    have O_c_113:=jw c_113
    refine qi (z:=6) _ rfl rfl (by kernel_rfl) ?_
    intro K1 hK1
    refine joe _ _ _ rfl g_5 (jc c_113).toArray rfl rfl 200 (jc zn).toArray gc_5 (by rw [S_c_113];rfl) (by rw [S_c_113,S_zn]) O_c_113 ?_
    refine hK1.out _ _ ?_
    clear hK1 K1
    refine qT (by kernel_rfl) ?_
    have z18:g9 < g_5:=jos K9.lt gb_5
    have E_:Ext w19_ (wq_.setRow g_5 (jc c_113).toArray):=jpd ((jnQ w19_).drew.trans hR) gb_5 _
    refine yf (fun W=>Ur W g5 200 cx∧Ur W g6 200 c7∧Ur W g7 200 c6∧Ur W g8 200 c9∧Ur W g9 200 c8∧Ur W g12 200 c_101∧Ur W g13 200 c_103∧Ur W g14 200 c_105∧Ur W g15 200 c_107∧Ur W g16 200 c_109∧Ur W g17 200 c_111∧Ur W g_5 200 c_113∧Below g6 w5_ W) ⟨K5.kept E_ K5.lt,
     K6.kept E_ K6.lt,
     K7.kept E_ K7.lt,
     K8.kept E_ K8.lt,
     K9.kept E_ K9.lt,
     K12.kept E_ K12.lt,
     K13.kept E_ K13.lt,
     K14.kept E_ K14.lt,
     K15.kept E_ K15.lt,
     K16.kept E_ K16.lt,
     K17.kept E_ K17.lt,
     jpe _ _ _ _ _ _ gc_5,
     jop KB (E_.mono (jpW K6.lt))⟩ ?_
    clear K5 K6 K7 K8 K9 K12 K13 K14 K15 K16 K17 KB E_ hR gc_5 gb_5 Q7 Q9 Q13
    rintro w20_ ⟨K5,K6,K7,K8,K9,K12,K13,K14,K15,K16,K17,K18,KB⟩
    generalize g_5=g18 at *
    clear K12
    clear K13
    go_wp2_with (first
     | (refine wl_ rfl 200 rfl g17 rfl K17 rfl rfl (by rw [S_c_111];rfl) ?_;go_frame)
     | (refine wl_ rfl 200 rfl g18 rfl K18 rfl rfl (by rw [S_c_113];rfl) ?_;go_frame))
    refine (yo n_111 n_113).mono ?_
    rintro e u_ ⟨c_115,n_115,rfl,e1⟩
    obtain ⟨v_116,hv_116⟩:∃ v,v=jnw v_112 v_114:=⟨_,rfl⟩
    rw [←hv_116] at n_115
    replace hv_116:=Hj (fun _:Unit=>hv_116)
    have S_c_115:=jnE n_115.len
    have O_c_115:=jw c_115
    have a1:=zY u_ (jc zn).toArray 200
    have E_:=yJ e1 (jc zn).toArray 200 (jc c_115).toArray
    go_upto_region 24 with (first
     | (refine ws_ rfl 200 rfl u_.heap.size (jc c_115).toArray rfl rfl a1.out (by rw [S_c_115];rfl) (by rw [S_c_115,S_zn]) O_c_115 ?_;simp only [joT]))
    obtain ⟨g19,hg_⟩:∃ g,g=u_.heap.size:=⟨_,rfl⟩
    have z19:g9 < g19:=by rw [hg_];exact jos K9.lt e1.size
    refine jg (fun W=>Ur W g5 200 cx∧Ur W g6 200 c7∧Ur W g7 200 c6∧Ur W g8 200 c9∧Ur W g9 200 c8∧Ur W g14 200 c_105∧Ur W g15 200 c_107∧Ur W g16 200 c_109∧Ur W g17 200 c_111∧Ur W g18 200 c_113∧Ur W g19 200 c_115∧Below g6 w5_ W) ⟨K5.kept E_ K5.lt,
     K6.kept E_ K6.lt,
     K7.kept E_ K7.lt,
     K8.kept E_ K8.lt,
     K9.kept E_ K9.lt,
     K14.kept E_ K14.lt,
     K15.kept E_ K15.lt,
     K16.kept E_ K16.lt,
     K17.kept E_ K17.lt,
     K18.kept E_ K18.lt,
     by rw [hg_];exact jpe _ _ _ _ _ _ a1.out,
     jop KB (E_.mono (jpW K6.lt))⟩ ?_
    rw [←hg_]
    clear K5 K6 K7 K8 K9 K14 K15 K16 K17 K18 KB hg_ a1 E_ e1
    rintro w21_ ⟨K5,K6,K7,K8,K9,K14,K15,K16,K17,K18,K19,KB⟩
    go_wp2_with (first
     | (refine wl_ rfl 200 rfl g17 rfl K17 rfl rfl (by rw [S_c_111];rfl) ?_;go_frame)
     | (refine wl_ rfl 200 rfl g18 rfl K18 rfl rfl (by rw [S_c_113];rfl) ?_;go_frame))
    refine (yp n_111 n_113).mono ?_
    rintro e u_ ⟨c_117,n_117,rfl,e1⟩
    obtain ⟨v_118,hv_118⟩:∃ v,v=zO v_112 v_114:=⟨_,rfl⟩
    rw [←hv_118] at n_117
    replace hv_118:=Hj (fun _:Unit=>hv_118)
    have S_c_117:=jnE n_117.len
    have O_c_117:=jw c_117
    have a1:=zY u_ (jc zn).toArray 200
    have E_:=yJ e1 (jc zn).toArray 200 (jc c_117).toArray
    go_upto_region 25 with (first
     | (refine ws_ rfl 200 rfl u_.heap.size (jc c_117).toArray rfl rfl a1.out (by rw [S_c_117];rfl) (by rw [S_c_117,S_zn]) O_c_117 ?_;simp only [joT]))
    obtain ⟨g20,hg_⟩:∃ g,g=u_.heap.size:=⟨_,rfl⟩
    have z20:g9 < g20:=by rw [hg_];exact jos K9.lt e1.size
    refine jg (fun W=>Ur W g5 200 cx∧Ur W g6 200 c7∧Ur W g7 200 c6∧Ur W g8 200 c9∧Ur W g9 200 c8∧Ur W g14 200 c_105∧Ur W g15 200 c_107∧Ur W g16 200 c_109∧Ur W g17 200 c_111∧Ur W g18 200 c_113∧Ur W g19 200 c_115∧Ur W g20 200 c_117∧Below g6 w5_ W) ⟨K5.kept E_ K5.lt,
     K6.kept E_ K6.lt,
     K7.kept E_ K7.lt,
     K8.kept E_ K8.lt,
     K9.kept E_ K9.lt,
     K14.kept E_ K14.lt,
     K15.kept E_ K15.lt,
     K16.kept E_ K16.lt,
     K17.kept E_ K17.lt,
     K18.kept E_ K18.lt,
     K19.kept E_ K19.lt,
     by rw [hg_];exact jpe _ _ _ _ _ _ a1.out,
     jop KB (E_.mono (jpW K6.lt))⟩ ?_
    rw [←hg_]
    clear K5 K6 K7 K8 K9 K14 K15 K16 K17 K18 K19 KB hg_ a1 E_ e1
    rintro w22_ ⟨K5,K6,K7,K8,K9,K14,K15,K16,K17,K18,K19,K20,KB⟩
    clear K17
    clear K18
    go_wp2_with (first
     | (refine wl_ rfl 200 rfl g19 rfl K19 rfl rfl (by rw [S_c_115];rfl) ?_;go_frame))
    refine (j9 n_115 n_115).mono ?_
    rintro e u_ ⟨c_119,n_119,rfl,e1⟩
    obtain ⟨v_120,hv_120⟩:∃ v,v=qs v_116 v_116:=⟨_,rfl⟩
    rw [←hv_120] at n_119
    replace hv_120:=Hj (fun _:Unit=>hv_120)
    have S_c_119:=jnE n_119.len
    have O_c_119:=jw c_119
    have mK5:=K5.kept e1 K5.lt
    have mK6:=K6.kept e1 K6.lt
    have mK7:=K7.kept e1 K7.lt
    have mK8:=K8.kept e1 K8.lt
    have mK9:=K9.kept e1 K9.lt
    have mK14:=K14.kept e1 K14.lt
    have mK15:=K15.kept e1 K15.lt
    have mK16:=K16.kept e1 K16.lt
    have mK19:=K19.kept e1 K19.lt
    have mK20:=K20.kept e1 K20.lt
    have mKB:=jop KB (e1.mono (jpW K6.lt))
    go_upto_region 26 with (first
     | (refine ws_ rfl 200 rfl g7 (jc c_119).toArray rfl rfl mK7 (by rw [S_c_119];rfl) (by rw [S_c_119,S_c6]) O_c_119 ?_;simp only [joT]))
    refine jg (fun W=>Ur W g5 200 cx∧Ur W g6 200 c7∧Ur W g7 200 c_119∧Ur W g8 200 c9∧Ur W g9 200 c8∧Ur W g14 200 c_105∧Ur W g15 200 c_107∧Ur W g16 200 c_109∧Ur W g19 200 c_115∧Ur W g20 200 c_117∧Below g6 w5_ W) ⟨mK5.so (by omega),
     mK6.so (by omega),
     jpe _ _ _ _ _ _ mK7,
     mK8.so (by omega),
     mK9.so (by omega),
     mK14.so (by omega),
     mK15.so (by omega),
     mK16.so (by omega),
     mK19.so (by omega),
     mK20.so (by omega),
     jpd mKB (by omega) _⟩ ?_
    clear K5 K6 K7 K8 K9 K14 K15 K16 K19 K20 KB e1 mK5 mK6 mK7 mK8 mK9 mK14 mK15 mK16 mK19 mK20 mKB
    rintro w23_ ⟨K5,K6,K7,K8,K9,K14,K15,K16,K19,K20,KB⟩
    clear K19
    have Q5:=K5.q
    have Q20:=K20.q
    refine qgF (R:=Ext) jnQ (fun _ _ _=>Ext.trans) [0,1,2,3,4] [5] [0,0,0,6,15,31] [true,true,true,true,true,false] ?_
    refine jnT (fun _=>jnQ _) _ rfl (v:= .agg (jc cx).toArray) (d:=76) rfl rfl ?_ ?_
    ·intro a_ w_ hev hR hk
     have e5:a_.eval (.tmp 5)=_:=hk 5 rfl
     exact (jd rfl e5 (Q5.out w_ (Ext.trans (jnQ _).drew hR)) rfl rfl (by rw [S_cx];rfl))
    refine jnT (fun _=>jnQ _) _ rfl (v:= .agg (jc c_117).toArray) (d:=77) rfl rfl ?_ ?_
    ·intro a_ w_ hev hR hk
     have e20:a_.eval (.tmp 20)=_:=hk 20 rfl
     exact (jd rfl e20 (Q20.out w_ (Ext.trans (jnQ _).drew hR)) rfl rfl (by rw [S_c_117];rfl))
    refine jnT (fun _=>jnQ _) _ rfl (v:= .agg (jc c_117).toArray) (d:=78) rfl rfl ?_ ?_
    ·intro a_ w_ hev hR hk
     have e20:a_.eval (.tmp 20)=_:=hk 20 rfl
     exact (jd rfl e20 (Q20.out w_ (Ext.trans (jnQ _).drew hR)) rfl rfl (by rw [S_c_117];rfl))
    refine jx _ rfl (fun u _=>∃ es,u= .agg (jc es).toArray∧IsN es (qs v_118 v_118)) (d:=79) rfl (fun _ _ _ h _=>h) rfl ?_ ?_
    ·intro a_ w_ hev hR hk K1 hK1
     have e76:a_.eval (.tmp 76)=_:=hk 76 rfl
     have e77:a_.eval (.tmp 77)=_:=hk 77 rfl
     clear hk
     have f76:=jz.trans e76
     have f77:=jz.trans e77
     go_simp
     refine (j9 n_117 n_117).mono ?_
     rintro e_ w2_ ⟨fs_,hf_,rfl,x_⟩
     exact hK1.out _ _ x_ ⟨fs_,rfl,hf_⟩
    refine jx _ rfl (fun u _=>∃ es,u= .agg (jc es).toArray∧IsN es (qs x (qs v_118 v_118))) (d:=80) rfl (fun _ _ _ h _=>h) rfl ?_ ?_
    ·intro a_ w_ hev hR hk K1 hK1
     have e75:a_.eval (.tmp 75)=_:=hk 75 rfl
     obtain ⟨es_78,e78,n78⟩:∃ es,a_.eval (.tmp 78)= .agg (jc es).toArray∧IsN es _:=hk 78 rfl
     clear hk
     have f75:=jz.trans e75
     have f78:=jz.trans e78
     go_simp
     refine (j9 n_cx n78).mono ?_
     rintro e_ w2_ ⟨fs_,hf_,rfl,x_⟩
     exact hK1.out _ _ x_ ⟨fs_,rfl,hf_⟩
    intro v_ wq_ hR hV_ hN_
    obtain ⟨hv4,hv3,hv2,hv1,hv0,_⟩:=hV_
    replace hv0:v_ 0=_:=hv0
    replace hv1:v_ 1=_:=hv1
    replace hv2:v_ 2=_:=hv2
    skip
    skip
    dsimp only [yQ,zv]
    obtain ⟨es_3,hv3,hn_3⟩:=hv3
    obtain ⟨es_4,hv4,hn_4⟩:=hv4
    clear hN_
    rw [hv0,hv1,hv2,hv3,hv4]
    go_frame
    clear hv0 hv1 hv2 hv3 hv4
    generalize es_4=c_121 at *
    have n_121:=hn_4
    clear hn_3 hn_4
    obtain ⟨v_122,hv_122⟩:∃ v,v=qs x (qs v_118 v_118):=⟨_,rfl⟩
    rw [←hv_122] at n_121
    replace hv_122:=Hj (fun _:Unit=>hv_122)
    have S_c_121:=jnE n_121.len
    have O_c_121:=jw c_121
    have mm_:=K9.kept ((jnQ w23_).drew.trans hR) K9.lt
    refine qi (z:=5) _ rfl rfl (by kernel_rfl) ?_
    intro K1 hK1
    refine joe _ _ _ rfl g9 (jc c_121).toArray rfl rfl 200 (jc c8).toArray mm_ (by rw [S_c_121];rfl) (by rw [S_c_121,S_c8]) O_c_121 ?_
    refine hK1.out _ _ ?_
    clear hK1 K1
    refine qT (by kernel_rfl) ?_
    have mK5:=K5.kept ((jnQ w23_).drew.trans hR) K5.lt
    have mK6:=K6.kept ((jnQ w23_).drew.trans hR) K6.lt
    have mK7:=K7.kept ((jnQ w23_).drew.trans hR) K7.lt
    have mK8:=K8.kept ((jnQ w23_).drew.trans hR) K8.lt
    have mK9:=K9.kept ((jnQ w23_).drew.trans hR) K9.lt
    have mK14:=K14.kept ((jnQ w23_).drew.trans hR) K14.lt
    have mK15:=K15.kept ((jnQ w23_).drew.trans hR) K15.lt
    have mK16:=K16.kept ((jnQ w23_).drew.trans hR) K16.lt
    have mK20:=K20.kept ((jnQ w23_).drew.trans hR) K20.lt
    have mKB:=jop KB (((jnQ w23_).drew.trans hR).mono (jpW K6.lt))
    refine yf (fun W=>Ur W g5 200 cx∧Ur W g6 200 c7∧Ur W g7 200 c_119∧Ur W g8 200 c9∧Ur W g9 200 c_121∧Ur W g14 200 c_105∧Ur W g15 200 c_107∧Ur W g16 200 c_109∧Ur W g20 200 c_117∧Below g6 w5_ W) ⟨mK5.so (by omega),
     mK6.so (by omega),
     mK7.so (by omega),
     mK8.so (by omega),
     jpe _ _ _ _ _ _ mK9,
     mK14.so (by omega),
     mK15.so (by omega),
     mK16.so (by omega),
     mK20.so (by omega),
     jpd mKB (by omega) _⟩ ?_
    clear K5 K6 K7 K8 K9 K14 K15 K16 K20 KB mm_ hR mK5 mK6 mK7 mK8 mK9 mK14 mK15 mK16 mK20 mKB Q5 Q20
    rintro w24_ ⟨K5,K6,K7,K8,K9,K14,K15,K16,K20,KB⟩
    clear K20
    go_wp2_with (first
     | (refine wl_ rfl 200 rfl g14 rfl K14 rfl rfl (by rw [S_c_105];rfl) ?_;go_frame)
     | (refine wl_ rfl 200 rfl g15 rfl K15 rfl rfl (by rw [S_c_107];rfl) ?_;go_frame))
    refine (j9 n_105 n_107).mono ?_
    rintro e u_ ⟨c_123,n_123,rfl,e1⟩
    obtain ⟨v_124,hv_124⟩:∃ v,v=qs v_106 v_108:=⟨_,rfl⟩
    rw [←hv_124] at n_123
    replace hv_124:=Hj (fun _:Unit=>hv_124)
    have S_c_123:=jnE n_123.len
    have O_c_123:=jw c_123
    have mK5:=K5.kept e1 K5.lt
    have mK6:=K6.kept e1 K6.lt
    have mK7:=K7.kept e1 K7.lt
    have mK8:=K8.kept e1 K8.lt
    have mK9:=K9.kept e1 K9.lt
    have mK14:=K14.kept e1 K14.lt
    have mK15:=K15.kept e1 K15.lt
    have mK16:=K16.kept e1 K16.lt
    have mKB:=jop KB (e1.mono (jpW K6.lt))
    go_upto_region 28 with (first
     | (refine ws_ rfl 200 rfl g6 (jc c_123).toArray rfl rfl mK6 (by rw [S_c_123];rfl) (by rw [S_c_123,S_c7]) O_c_123 ?_;simp only [joT]))
    refine jg (fun W=>Ur W g5 200 cx∧Ur W g6 200 c_123∧Ur W g7 200 c_119∧Ur W g8 200 c9∧Ur W g9 200 c_121∧Ur W g14 200 c_105∧Ur W g15 200 c_107∧Ur W g16 200 c_109∧Below g6 w5_ W) ⟨mK5.so (by omega),
     jpe _ _ _ _ _ _ mK6,
     mK7.so (by omega),
     mK8.so (by omega),
     mK9.so (by omega),
     mK14.so (by omega),
     mK15.so (by omega),
     mK16.so (by omega),
     jpd mKB (by omega) _⟩ ?_
    clear K5 K6 K7 K8 K9 K14 K15 K16 KB e1 mK5 mK6 mK7 mK8 mK9 mK14 mK15 mK16 mKB
    rintro w25_ ⟨K5,K6,K7,K8,K9,K14,K15,K16,KB⟩
    clear K15
    have Q14:=K14.q
    have Q16:=K16.q
    refine qgF (R:=Ext) jnQ (fun _ _ _=>Ext.trans) [0,1,2,3,4,5,6] [7] [0,0,0,0,12,30,63,127] [true,true,true,true,true,true,true,false] ?_
    refine jnT (fun _=>jnQ _) _ rfl (v:= .agg (jc c_109).toArray) (d:=84) rfl rfl ?_ ?_
    ·intro a_ w_ hev hR hk
     have e16:a_.eval (.tmp 16)=_:=hk 16 rfl
     exact (jd rfl e16 (Q16.out w_ (Ext.trans (jnQ _).drew hR)) rfl rfl (by rw [S_c_109];rfl))
    refine jnT (fun _=>jnQ _) _ rfl (v:= .agg (jc c_105).toArray) (d:=85) rfl rfl ?_ ?_
    ·intro a_ w_ hev hR hk
     have e14:a_.eval (.tmp 14)=_:=hk 14 rfl
     exact (jd rfl e14 (Q14.out w_ (Ext.trans (jnQ _).drew hR)) rfl rfl (by rw [S_c_105];rfl))
    refine jnT (fun _=>jnQ _) _ rfl (v:= .agg (jc fw).toArray) (d:=86) rfl rfl ?_ ?_
    ·intro a_ w_ hev hR hk
     exact (qe rfl (by simp only [jpG,jpC,jpH,hev.1];exact hbf.out))
    refine jnT (fun _=>jnQ _) _ rfl (v:= .agg (jc c_109).toArray) (d:=87) rfl rfl ?_ ?_
    ·intro a_ w_ hev hR hk
     have e16:a_.eval (.tmp 16)=_:=hk 16 rfl
     exact (jd rfl e16 (Q16.out w_ (Ext.trans (jnQ _).drew hR)) rfl rfl (by rw [S_c_109];rfl))
    refine jx _ rfl (fun u _=>∃ es,u= .agg (jc es).toArray∧IsN es (qs 121665 v_110)) (d:=88) rfl (fun _ _ _ h _=>h) rfl ?_ ?_
    ·intro a_ w_ hev hR hk K1 hK1
     have e85:a_.eval (.tmp 85)=_:=hk 85 rfl
     have e86:a_.eval (.tmp 86)=_:=hk 86 rfl
     clear hk
     have f85:=jz.trans e85
     have f86:=jz.trans e86
     go_simp
     refine (j9 n_fw n_109).mono ?_
     rintro e_ w2_ ⟨fs_,hf_,rfl,x_⟩
     exact hK1.out _ _ x_ ⟨fs_,rfl,hf_⟩
    refine jx _ rfl (fun u _=>∃ es,u= .agg (jc es).toArray∧IsN es (jnw v_106 (qs 121665 v_110))) (d:=89) rfl (fun _ _ _ h _=>h) rfl ?_ ?_
    ·intro a_ w_ hev hR hk K1 hK1
     have e84:a_.eval (.tmp 84)=_:=hk 84 rfl
     obtain ⟨es_87,e87,n87⟩:∃ es,a_.eval (.tmp 87)= .agg (jc es).toArray∧IsN es _:=hk 87 rfl
     clear hk
     have f84:=jz.trans e84
     have f87:=jz.trans e87
     go_simp
     refine (yo n_105 n87).mono ?_
     rintro e_ w2_ ⟨fs_,hf_,rfl,x_⟩
     exact hK1.out _ _ x_ ⟨fs_,rfl,hf_⟩
    refine jx _ rfl (fun u _=>∃ es,u= .agg (jc es).toArray∧IsN es (qs v_110 (jnw v_106 (qs 121665 v_110)))) (d:=90) rfl (fun _ _ _ h _=>h) rfl ?_ ?_
    ·intro a_ w_ hev hR hk K1 hK1
     have e83:a_.eval (.tmp 83)=_:=hk 83 rfl
     obtain ⟨es_88,e88,n88⟩:∃ es,a_.eval (.tmp 88)= .agg (jc es).toArray∧IsN es _:=hk 88 rfl
     clear hk
     have f83:=jz.trans e83
     have f88:=jz.trans e88
     go_simp
     refine (j9 n_109 n88).mono ?_
     rintro e_ w2_ ⟨fs_,hf_,rfl,x_⟩
     exact hK1.out _ _ x_ ⟨fs_,rfl,hf_⟩
    intro v_ wq_ hR hV_ hN_
    obtain ⟨hv6,hv5,hv4,hv3,hv2,hv1,hv0,_⟩:=hV_
    replace hv0:v_ 0=_:=hv0
    replace hv1:v_ 1=_:=hv1
    replace hv2:v_ 2=_:=hv2
    replace hv3:v_ 3=_:=hv3
    skip
    skip
    skip
    dsimp only [yQ,zv]
    obtain ⟨es_4,hv4,hn_4⟩:=hv4
    obtain ⟨es_5,hv5,hn_5⟩:=hv5
    obtain ⟨es_6,hv6,hn_6⟩:=hv6
    clear hN_
    rw [hv0,hv1,hv2,hv3,hv4,hv5,hv6]
    go_frame
    clear hv0 hv1 hv2 hv3 hv4 hv5 hv6
    generalize es_6=c_125 at *
    have n_125:=hn_6
    clear hn_4 hn_5 hn_6
    obtain ⟨v_126,hv_126⟩:∃ v,v=qs v_110 (jnw v_106 (qs 121665 v_110)):=⟨_,rfl⟩
    rw [←hv_126] at n_125
    replace hv_126:=Hj (fun _:Unit=>hv_126)
    have S_c_125:=jnE n_125.len
    have O_c_125:=jw c_125
    have mm_:=K8.kept ((jnQ w25_).drew.trans hR) K8.lt
    refine qi (z:=7) _ rfl rfl (by kernel_rfl) ?_
    intro K1 hK1
    refine joe _ _ _ rfl g8 (jc c_125).toArray rfl rfl 200 (jc c9).toArray mm_ (by rw [S_c_125];rfl) (by rw [S_c_125,S_c9]) O_c_125 ?_
    refine hK1.out _ _ ?_
    clear hK1 K1
    refine qT (by kernel_rfl) ?_
    have mK5:=K5.kept ((jnQ w25_).drew.trans hR) K5.lt
    have mK6:=K6.kept ((jnQ w25_).drew.trans hR) K6.lt
    have mK7:=K7.kept ((jnQ w25_).drew.trans hR) K7.lt
    have mK8:=K8.kept ((jnQ w25_).drew.trans hR) K8.lt
    have mK9:=K9.kept ((jnQ w25_).drew.trans hR) K9.lt
    have mK14:=K14.kept ((jnQ w25_).drew.trans hR) K14.lt
    have mK16:=K16.kept ((jnQ w25_).drew.trans hR) K16.lt
    have mKB:=jop KB (((jnQ w25_).drew.trans hR).mono (jpW K6.lt))
    refine yf (fun W=>Ur W g5 200 cx∧Ur W g6 200 c_123∧Ur W g7 200 c_119∧Ur W g8 200 c_125∧Ur W g9 200 c_121∧Ur W g14 200 c_105∧Ur W g16 200 c_109∧Below g6 w5_ W) ⟨mK5.so (by omega),
     mK6.so (by omega),
     mK7.so (by omega),
     jpe _ _ _ _ _ _ mK8,
     mK9.so (by omega),
     mK14.so (by omega),
     mK16.so (by omega),
     jpd mKB (by omega) _⟩ ?_
    clear K5 K6 K7 K8 K9 K14 K16 KB mm_ hR mK5 mK6 mK7 mK8 mK9 mK14 mK16 mKB Q14 Q16
    rintro w26_ ⟨K5,K6,K7,K8,K9,K14,K16,KB⟩
    clear K14
    clear K16
    have KX:=(P3.out _ KB).1
    go_wp2_with (refine wl_ rfl 23 rfl w.heap.size rfl KX.1 rfl rfl (by rw [S_ks];rfl) ?_;go_frame)
    refine (BT.out _).mono ?_
    rintro e u_ ⟨rfl,e1⟩
    go_upto_region 30 with fail
    refine jg (fun W=>Ur W g5 200 cx∧Ur W g6 200 c_123∧Ur W g7 200 c_119∧Ur W g8 200 c_125∧Ur W g9 200 c_121∧Below g6 w5_ W) ⟨K5.kept e1 K5.lt,
     K6.kept e1 K6.lt,
     K7.kept e1 K7.lt,
     K8.kept e1 K8.lt,
     K9.kept e1 K9.lt,
     jop KB (e1.mono (jpW K6.lt))⟩ ?_
    clear K5 K6 K7 K8 K9 KB KX e1
    rintro w27_ ⟨K5,K6,K7,K8,K9,KB⟩
    have a1:=zY w27_ (jc zn).toArray 200
    have E_:=yJ (jnQ w27_) (jc zn).toArray 200 (jc c_123).toArray
    go_upto_region 31 with (first
     | (refine wl_ rfl 200 rfl g6 rfl K6 rfl rfl (by rw [S_c_123];rfl) ?_;go_frame)
     | (refine ws_ rfl 200 rfl w27_.heap.size (jc c_123).toArray rfl rfl a1.out (by rw [S_c_123];rfl) (by rw [S_c_123,S_zn]) O_c_123 ?_;simp only [joT]))
    obtain ⟨g21,hg_⟩:∃ g,g=w27_.heap.size:=⟨_,rfl⟩
    have z21:g9 < g21:=by rw [hg_];exact K9.lt
    refine jg (fun W=>Ur W g5 200 cx∧Ur W g6 200 c_123∧Ur W g7 200 c_119∧Ur W g8 200 c_125∧Ur W g9 200 c_121∧Ur W g21 200 c_123∧Below g6 w5_ W) ⟨K5.kept E_ K5.lt,
     K6.kept E_ K6.lt,
     K7.kept E_ K7.lt,
     K8.kept E_ K8.lt,
     K9.kept E_ K9.lt,
     by rw [hg_];exact jpe _ _ _ _ _ _ a1.out,
     jop KB (E_.mono (jpW K6.lt))⟩ ?_
    rw [←hg_]
    clear K5 K6 K7 K8 K9 KB hg_ a1 E_
    rintro w28_ ⟨K5,K6,K7,K8,K9,K21,KB⟩
    go_upto_region 32 with (first
     | (refine wl_ rfl 200 rfl g7 rfl K7 rfl rfl (by rw [S_c_119];rfl) ?_;go_frame)
     | (refine ws_ rfl 200 rfl g6 (jc c_119).toArray rfl rfl K6 (by rw [S_c_119];rfl) (by rw [S_c_119,S_c_123]) O_c_119 ?_;simp only [joT]))
    refine jg (fun W=>Ur W g5 200 cx∧Ur W g6 200 c_119∧Ur W g7 200 c_119∧Ur W g8 200 c_125∧Ur W g9 200 c_121∧Ur W g21 200 c_123∧Below g6 w5_ W) ⟨K5.so (by omega),
     jpe _ _ _ _ _ _ K6,
     K7.so (by omega),
     K8.so (by omega),
     K9.so (by omega),
     K21.so (by omega),
     jpd KB (by omega) _⟩ ?_
    clear K5 K6 K7 K8 K9 K21 KB
    rintro w29_ ⟨K5,K6,K7,K8,K9,K21,KB⟩
    go_upto_region 33 with (first
     | (refine wl_ rfl 200 rfl g21 rfl K21 rfl rfl (by rw [S_c_123];rfl) ?_;go_frame)
     | (refine ws_ rfl 200 rfl g7 (jc c_123).toArray rfl rfl K7 (by rw [S_c_123];rfl) (by rw [S_c_123,S_c_119]) O_c_123 ?_;simp only [joT]))
    refine jg (fun W=>Ur W g5 200 cx∧Ur W g6 200 c_119∧Ur W g7 200 c_123∧Ur W g8 200 c_125∧Ur W g9 200 c_121∧Ur W g21 200 c_123∧Below g6 w5_ W) ⟨K5.so (by omega),
     K6.so (by omega),
     jpe _ _ _ _ _ _ K7,
     K8.so (by omega),
     K9.so (by omega),
     K21.so (by omega),
     jpd KB (by omega) _⟩ ?_
    clear K5 K6 K7 K8 K9 K21 KB
    rintro w30_ ⟨K5,K6,K7,K8,K9,K21,KB⟩
    go_upto_region 34 with (first
     | (refine wl_ rfl 200 rfl g8 rfl K8 rfl rfl (by rw [S_c_125];rfl) ?_;go_frame)
     | (refine ws_ rfl 200 rfl g21 (jc c_125).toArray rfl rfl K21 (by rw [S_c_125];rfl) (by rw [S_c_125,S_c_123]) O_c_125 ?_;simp only [joT]))
    refine jg (fun W=>Ur W g5 200 cx∧Ur W g6 200 c_119∧Ur W g7 200 c_123∧Ur W g8 200 c_125∧Ur W g9 200 c_121∧Ur W g21 200 c_125∧Below g6 w5_ W) ⟨K5.so (by omega),
     K6.so (by omega),
     K7.so (by omega),
     K8.so (by omega),
     K9.so (by omega),
     jpe _ _ _ _ _ _ K21,
     jpd KB (by omega) _⟩ ?_
    clear K5 K6 K7 K8 K9 K21 KB
    rintro w31_ ⟨K5,K6,K7,K8,K9,K21,KB⟩
    go_upto_region 35 with (first
     | (refine wl_ rfl 200 rfl g9 rfl K9 rfl rfl (by rw [S_c_121];rfl) ?_;go_frame)
     | (refine ws_ rfl 200 rfl g8 (jc c_121).toArray rfl rfl K8 (by rw [S_c_121];rfl) (by rw [S_c_121,S_c_125]) O_c_121 ?_;simp only [joT]))
    refine jg (fun W=>Ur W g5 200 cx∧Ur W g6 200 c_119∧Ur W g7 200 c_123∧Ur W g8 200 c_121∧Ur W g9 200 c_121∧Ur W g21 200 c_125∧Below g6 w5_ W) ⟨K5.so (by omega),
     K6.so (by omega),
     K7.so (by omega),
     jpe _ _ _ _ _ _ K8,
     K9.so (by omega),
     K21.so (by omega),
     jpd KB (by omega) _⟩ ?_
    clear K5 K6 K7 K8 K9 K21 KB
    rintro w32_ ⟨K5,K6,K7,K8,K9,K21,KB⟩
    go_wp2_with (first
     | (refine wl_ rfl 200 rfl g21 rfl K21 rfl rfl (by rw [S_c_125];rfl) ?_;go_frame)
     | (refine ws_ rfl 200 rfl g9 (jc c_125).toArray rfl rfl K9 (by rw [S_c_125];rfl) (by rw [S_c_125,S_c_121]) O_c_125 ?_;simp only [joT]))
    have NX:S (m+1)=(v_120,v_124,v_122,v_126):=by
     rw [S1m.out ()]
     replace hv_102:=hv_102.out ()
     replace hv_104:=hv_104.out ()
     replace hv_106:=hv_106.out ()
     replace hv_108:=hv_108.out ()
     replace hv_110:=hv_110.out ()
     replace hv_112:=hv_112.out ()
     replace hv_114:=hv_114.out ()
     replace hv_116:=hv_116.out ()
     replace hv_118:=hv_118.out ()
     replace hv_120:=hv_120.out ()
     replace hv_122:=hv_122.out ()
     replace hv_124:=hv_124.out ()
     replace hv_126:=hv_126.out ()
     subst hv_126 hv_124 hv_122 hv_120 hv_118 hv_116 hv_114 hv_112 hv_110 hv_108 hv_106 hv_104 hv_102
     rw [jfK x]
     rfl
    exact ⟨⟨m+1,c_119,c_123,c_121,c_125,hm1.out,by rw [←hbn1.out],K6.so (by omega),
     K7.so (by omega),
     K8.so (by omega),
     jpe _ _ _ _ _ _ K9,by rw [NX];exact n_119,by rw [NX];exact n_123,by rw [NX];exact n_121,by rw [NX];exact n_125,jpd KB (by omega) _⟩,by simp [intOf];omega⟩
   ·rw [hbt] at BT S1m
    clear hbt
    have KX:=(P3.out _ KB).1
    go_wp2_with (refine wl_ rfl 23 rfl w.heap.size rfl KX.1 rfl rfl (by rw [S_ks];rfl) ?_;go_frame)
    refine (BT.out _).mono ?_
    rintro e u_ ⟨rfl,e1⟩
    go_upto_region 16 with fail
    refine jg (fun W=>Ur W g5 200 cx∧Ur W g6 200 c6∧Ur W g7 200 c7∧Ur W g8 200 c8∧Ur W g9 200 c9∧Below g6 w5_ W) ⟨K5.kept e1 K5.lt,
     K6.kept e1 K6.lt,
     K7.kept e1 K7.lt,
     K8.kept e1 K8.lt,
     K9.kept e1 K9.lt,
     jop KB (e1.mono (jpW K6.lt))⟩ ?_
    clear K5 K6 K7 K8 K9 KB KX e1
    rintro w7_ ⟨K5,K6,K7,K8,K9,KB⟩
    go_wp2_with (first
     | (refine wl_ rfl 200 rfl g6 rfl K6 rfl rfl (by rw [S_c6];rfl) ?_;go_frame)
     | (refine wl_ rfl 200 rfl g8 rfl K8 rfl rfl (by rw [S_c8];rfl) ?_;go_frame))
    refine (yo n6 n8).mono ?_
    rintro e u_ ⟨c_201,n_201,rfl,e1⟩
    obtain ⟨v_202,hv_202⟩:∃ v,v=jnw va vc:=⟨_,rfl⟩
    rw [←hv_202] at n_201
    replace hv_202:=Hj (fun _:Unit=>hv_202)
    have S_c_201:=jnE n_201.len
    have O_c_201:=jw c_201
    have a1:=zY u_ (jc zn).toArray 200
    have E_:=yJ e1 (jc zn).toArray 200 (jc c_201).toArray
    go_upto_region 17 with (first
     | (refine ws_ rfl 200 rfl u_.heap.size (jc c_201).toArray rfl rfl a1.out (by rw [S_c_201];rfl) (by rw [S_c_201,S_zn]) O_c_201 ?_;simp only [joT]))
    obtain ⟨g12,hg_⟩:∃ g,g=u_.heap.size:=⟨_,rfl⟩
    have z12:g9 < g12:=by rw [hg_];exact jos K9.lt e1.size
    refine jg (fun W=>Ur W g5 200 cx∧Ur W g6 200 c6∧Ur W g7 200 c7∧Ur W g8 200 c8∧Ur W g9 200 c9∧Ur W g12 200 c_201∧Below g6 w5_ W) ⟨K5.kept E_ K5.lt,
     K6.kept E_ K6.lt,
     K7.kept E_ K7.lt,
     K8.kept E_ K8.lt,
     K9.kept E_ K9.lt,
     by rw [hg_];exact jpe _ _ _ _ _ _ a1.out,
     jop KB (E_.mono (jpW K6.lt))⟩ ?_
    rw [←hg_]
    clear K5 K6 K7 K8 K9 KB hg_ a1 E_ e1
    rintro w8_ ⟨K5,K6,K7,K8,K9,K12,KB⟩
    go_wp2_with (first
     | (refine wl_ rfl 200 rfl g6 rfl K6 rfl rfl (by rw [S_c6];rfl) ?_;go_frame)
     | (refine wl_ rfl 200 rfl g8 rfl K8 rfl rfl (by rw [S_c8];rfl) ?_;go_frame))
    refine (yp n6 n8).mono ?_
    rintro e u_ ⟨c_203,n_203,rfl,e1⟩
    obtain ⟨v_204,hv_204⟩:∃ v,v=zO va vc:=⟨_,rfl⟩
    rw [←hv_204] at n_203
    replace hv_204:=Hj (fun _:Unit=>hv_204)
    have S_c_203:=jnE n_203.len
    have O_c_203:=jw c_203
    have a1:=zY u_ (jc zn).toArray 200
    have E_:=yJ e1 (jc zn).toArray 200 (jc c_203).toArray
    go_upto_region 18 with (first
     | (refine ws_ rfl 200 rfl u_.heap.size (jc c_203).toArray rfl rfl a1.out (by rw [S_c_203];rfl) (by rw [S_c_203,S_zn]) O_c_203 ?_;simp only [joT]))
    obtain ⟨g13,hg_⟩:∃ g,g=u_.heap.size:=⟨_,rfl⟩
    have z13:g9 < g13:=by rw [hg_];exact jos K9.lt e1.size
    refine jg (fun W=>Ur W g5 200 cx∧Ur W g6 200 c6∧Ur W g7 200 c7∧Ur W g8 200 c8∧Ur W g9 200 c9∧Ur W g12 200 c_201∧Ur W g13 200 c_203∧Below g6 w5_ W) ⟨K5.kept E_ K5.lt,
     K6.kept E_ K6.lt,
     K7.kept E_ K7.lt,
     K8.kept E_ K8.lt,
     K9.kept E_ K9.lt,
     K12.kept E_ K12.lt,
     by rw [hg_];exact jpe _ _ _ _ _ _ a1.out,
     jop KB (E_.mono (jpW K6.lt))⟩ ?_
    rw [←hg_]
    clear K5 K6 K7 K8 K9 K12 KB hg_ a1 E_ e1
    rintro w9_ ⟨K5,K6,K7,K8,K9,K12,K13,KB⟩
    go_wp2_with (first
     | (refine wl_ rfl 200 rfl g12 rfl K12 rfl rfl (by rw [S_c_201];rfl) ?_;go_frame))
    refine (j9 n_201 n_201).mono ?_
    rintro e u_ ⟨c_205,n_205,rfl,e1⟩
    obtain ⟨v_206,hv_206⟩:∃ v,v=qs v_202 v_202:=⟨_,rfl⟩
    rw [←hv_206] at n_205
    replace hv_206:=Hj (fun _:Unit=>hv_206)
    have S_c_205:=jnE n_205.len
    have O_c_205:=jw c_205
    have a1:=zY u_ (jc zn).toArray 200
    have E_:=yJ e1 (jc zn).toArray 200 (jc c_205).toArray
    go_upto_region 19 with (first
     | (refine ws_ rfl 200 rfl u_.heap.size (jc c_205).toArray rfl rfl a1.out (by rw [S_c_205];rfl) (by rw [S_c_205,S_zn]) O_c_205 ?_;simp only [joT]))
    obtain ⟨g14,hg_⟩:∃ g,g=u_.heap.size:=⟨_,rfl⟩
    have z14:g9 < g14:=by rw [hg_];exact jos K9.lt e1.size
    refine jg (fun W=>Ur W g5 200 cx∧Ur W g6 200 c6∧Ur W g7 200 c7∧Ur W g8 200 c8∧Ur W g9 200 c9∧Ur W g12 200 c_201∧Ur W g13 200 c_203∧Ur W g14 200 c_205∧Below g6 w5_ W) ⟨K5.kept E_ K5.lt,
     K6.kept E_ K6.lt,
     K7.kept E_ K7.lt,
     K8.kept E_ K8.lt,
     K9.kept E_ K9.lt,
     K12.kept E_ K12.lt,
     K13.kept E_ K13.lt,
     by rw [hg_];exact jpe _ _ _ _ _ _ a1.out,
     jop KB (E_.mono (jpW K6.lt))⟩ ?_
    rw [←hg_]
    clear K5 K6 K7 K8 K9 K12 K13 KB hg_ a1 E_ e1
    rintro w10_ ⟨K5,K6,K7,K8,K9,K12,K13,K14,KB⟩
    go_wp2_with (first
     | (refine wl_ rfl 200 rfl g13 rfl K13 rfl rfl (by rw [S_c_203];rfl) ?_;go_frame))
    refine (j9 n_203 n_203).mono ?_
    rintro e u_ ⟨c_207,n_207,rfl,e1⟩
    obtain ⟨v_208,hv_208⟩:∃ v,v=qs v_204 v_204:=⟨_,rfl⟩
    rw [←hv_208] at n_207
    replace hv_208:=Hj (fun _:Unit=>hv_208)
    have S_c_207:=jnE n_207.len
    have O_c_207:=jw c_207
    have a1:=zY u_ (jc zn).toArray 200
    have E_:=yJ e1 (jc zn).toArray 200 (jc c_207).toArray
    go_upto_region 20 with (first
     | (refine ws_ rfl 200 rfl u_.heap.size (jc c_207).toArray rfl rfl a1.out (by rw [S_c_207];rfl) (by rw [S_c_207,S_zn]) O_c_207 ?_;simp only [joT]))
    obtain ⟨g15,hg_⟩:∃ g,g=u_.heap.size:=⟨_,rfl⟩
    have z15:g9 < g15:=by rw [hg_];exact jos K9.lt e1.size
    refine jg (fun W=>Ur W g5 200 cx∧Ur W g6 200 c6∧Ur W g7 200 c7∧Ur W g8 200 c8∧Ur W g9 200 c9∧Ur W g12 200 c_201∧Ur W g13 200 c_203∧Ur W g14 200 c_205∧Ur W g15 200 c_207∧Below g6 w5_ W) ⟨K5.kept E_ K5.lt,
     K6.kept E_ K6.lt,
     K7.kept E_ K7.lt,
     K8.kept E_ K8.lt,
     K9.kept E_ K9.lt,
     K12.kept E_ K12.lt,
     K13.kept E_ K13.lt,
     K14.kept E_ K14.lt,
     by rw [hg_];exact jpe _ _ _ _ _ _ a1.out,
     jop KB (E_.mono (jpW K6.lt))⟩ ?_
    rw [←hg_]
    clear K5 K6 K7 K8 K9 K12 K13 K14 KB hg_ a1 E_ e1
    rintro w11_ ⟨K5,K6,K7,K8,K9,K12,K13,K14,K15,KB⟩
    go_wp2_with (first
     | (refine wl_ rfl 200 rfl g14 rfl K14 rfl rfl (by rw [S_c_205];rfl) ?_;go_frame)
     | (refine wl_ rfl 200 rfl g15 rfl K15 rfl rfl (by rw [S_c_207];rfl) ?_;go_frame))
    refine (yp n_205 n_207).mono ?_
    rintro e u_ ⟨c_209,n_209,rfl,e1⟩
    obtain ⟨v_210,hv_210⟩:∃ v,v=zO v_206 v_208:=⟨_,rfl⟩
    rw [←hv_210] at n_209
    replace hv_210:=Hj (fun _:Unit=>hv_210)
    have S_c_209:=jnE n_209.len
    have O_c_209:=jw c_209
    have a1:=zY u_ (jc zn).toArray 200
    have E_:=yJ e1 (jc zn).toArray 200 (jc c_209).toArray
    go_upto_region 21 with (first
     | (refine ws_ rfl 200 rfl u_.heap.size (jc c_209).toArray rfl rfl a1.out (by rw [S_c_209];rfl) (by rw [S_c_209,S_zn]) O_c_209 ?_;simp only [joT]))
    obtain ⟨g16,hg_⟩:∃ g,g=u_.heap.size:=⟨_,rfl⟩
    have z16:g9 < g16:=by rw [hg_];exact jos K9.lt e1.size
    refine jg (fun W=>Ur W g5 200 cx∧Ur W g6 200 c6∧Ur W g7 200 c7∧Ur W g8 200 c8∧Ur W g9 200 c9∧Ur W g12 200 c_201∧Ur W g13 200 c_203∧Ur W g14 200 c_205∧Ur W g15 200 c_207∧Ur W g16 200 c_209∧Below g6 w5_ W) ⟨K5.kept E_ K5.lt,
     K6.kept E_ K6.lt,
     K7.kept E_ K7.lt,
     K8.kept E_ K8.lt,
     K9.kept E_ K9.lt,
     K12.kept E_ K12.lt,
     K13.kept E_ K13.lt,
     K14.kept E_ K14.lt,
     K15.kept E_ K15.lt,
     by rw [hg_];exact jpe _ _ _ _ _ _ a1.out,
     jop KB (E_.mono (jpW K6.lt))⟩ ?_
    rw [←hg_]
    clear K5 K6 K7 K8 K9 K12 K13 K14 K15 KB hg_ a1 E_ e1
    rintro w12_ ⟨K5,K6,K7,K8,K9,K12,K13,K14,K15,K16,KB⟩
    have Q7:=K7.q
    have Q9:=K9.q
    have Q12:=K12.q
    refine qgF (R:=Ext) jnQ (fun _ _ _=>Ext.trans) [0,1,2,3,4,5] [6] [0,0,3,0,15,0,63] [true,true,true,true,true,true,false] ?_
    refine jnT (fun _=>jnQ _) _ rfl (v:= .agg (jc c7).toArray) (d:=57) rfl rfl ?_ ?_
    ·intro a_ w_ hev hR hk
     have e7:a_.eval (.tmp 7)=_:=hk 7 rfl
     exact (jd rfl e7 (Q7.out w_ (Ext.trans (jnQ _).drew hR)) rfl rfl (by rw [S_c7];rfl))
    refine jnT (fun _=>jnQ _) _ rfl (v:= .agg (jc c9).toArray) (d:=58) rfl rfl ?_ ?_
    ·intro a_ w_ hev hR hk
     have e9:a_.eval (.tmp 9)=_:=hk 9 rfl
     exact (jd rfl e9 (Q9.out w_ (Ext.trans (jnQ _).drew hR)) rfl rfl (by rw [S_c9];rfl))
    refine jx _ rfl (fun u _=>∃ es,u= .agg (jc es).toArray∧IsN es (zO vb vd)) (d:=59) rfl (fun _ _ _ h _=>h) rfl ?_ ?_
    ·intro a_ w_ hev hR hk K1 hK1
     have e56:a_.eval (.tmp 56)=_:=hk 56 rfl
     have e57:a_.eval (.tmp 57)=_:=hk 57 rfl
     clear hk
     have f56:=jz.trans e56
     have f57:=jz.trans e57
     go_simp
     refine (yp n7 n9).mono ?_
     rintro e_ w2_ ⟨fs_,hf_,rfl,x_⟩
     exact hK1.out _ _ x_ ⟨fs_,rfl,hf_⟩
    refine jnT (fun _=>jnQ _) _ rfl (v:= .agg (jc c_201).toArray) (d:=60) rfl rfl ?_ ?_
    ·intro a_ w_ hev hR hk
     have e12:a_.eval (.tmp 12)=_:=hk 12 rfl
     exact (jd rfl e12 (Q12.out w_ (Ext.trans (jnQ _).drew hR)) rfl rfl (by rw [S_c_201];rfl))
    refine jx _ rfl (fun u _=>∃ es,u= .agg (jc es).toArray∧IsN es (qs (zO vb vd) v_202)) (d:=61) rfl (fun _ _ _ h _=>h) rfl ?_ ?_
    ·intro a_ w_ hev hR hk K1 hK1
     obtain ⟨es_58,e58,n58⟩:∃ es,a_.eval (.tmp 58)= .agg (jc es).toArray∧IsN es _:=hk 58 rfl
     have e59:a_.eval (.tmp 59)=_:=hk 59 rfl
     clear hk
     have f58:=jz.trans e58
     have f59:=jz.trans e59
     go_simp
     refine (j9 n58 n_201).mono ?_
     rintro e_ w2_ ⟨fs_,hf_,rfl,x_⟩
     exact hK1.out _ _ x_ ⟨fs_,rfl,hf_⟩
    refine qY _ rfl (fun u w_=>∃ g,u= .pointer (some ⟨g,0,none⟩)∧w12_.drew.heap.size≤g∧w_.heap[g]? =some (.cells (jc zn).toArray 200 (0,0))) (d:=18) rfl (fun _ _ _ h e=>by obtain ⟨g,h1,h2,h3⟩:=h;exact ⟨g,h1,h2,(e.block g (jh h3)).trans h3⟩) rfl (by decide) (fun _ _ h=>by obtain ⟨g,h1,h2,h3⟩:=h;subst h1;exact ⟨g,rfl,jh h3⟩) ?_ ?_
    ·intro a_ w_ hev hR hk K1 hK1
     go_simp
     exact hK1.out _ _ ((jnQ _).alloc _) ⟨_,rfl,hR.size,jps _ _⟩ (fun _ q=>by cases q;exact joq _)
    intro v_ wq_ hR hV_ hN_
    obtain ⟨hv5,hv4,hv3,hv2,hv1,hv0,_⟩:=hV_
    replace hv0:v_ 0=_:=hv0
    replace hv1:v_ 1=_:=hv1
    skip
    replace hv3:v_ 3=_:=hv3
    skip
    skip
    dsimp only [yQ,zv]
    obtain ⟨es_2,hv2,hn_2⟩:=hv2
    obtain ⟨es_4,hv4,hn_4⟩:=hv4
    obtain ⟨g_5,hv5,gb_5,gc_5⟩:=hv5
    clear hN_
    rw [hv0,hv1,hv2,hv3,hv4,hv5]
    go_frame
    clear hv0 hv1 hv2 hv3 hv4 hv5
    generalize es_4=c_211 at *
    have n_211:=hn_4
    clear hn_2 hn_4
    obtain ⟨v_212,hv_212⟩:∃ v,v=qs (zO vb vd) v_202:=⟨_,rfl⟩
    rw [←hv_212] at n_211
    replace hv_212:=Hj (fun _:Unit=>hv_212)
    have S_c_211:=jnE n_211.len
    have O_c_211:=jw c_211
    refine qi (z:=6) _ rfl rfl (by kernel_rfl) ?_
    intro K1 hK1
    refine joe _ _ _ rfl g_5 (jc c_211).toArray rfl rfl 200 (jc zn).toArray gc_5 (by rw [S_c_211];rfl) (by rw [S_c_211,S_zn]) O_c_211 ?_
    refine hK1.out _ _ ?_
    clear hK1 K1
    refine qT (by kernel_rfl) ?_
    have z17:g9 < g_5:=jos K9.lt gb_5
    have E_:Ext w12_ (wq_.setRow g_5 (jc c_211).toArray):=jpd ((jnQ w12_).drew.trans hR) gb_5 _
    refine yf (fun W=>Ur W g5 200 cx∧Ur W g6 200 c6∧Ur W g7 200 c7∧Ur W g8 200 c8∧Ur W g9 200 c9∧Ur W g12 200 c_201∧Ur W g13 200 c_203∧Ur W g14 200 c_205∧Ur W g15 200 c_207∧Ur W g16 200 c_209∧Ur W g_5 200 c_211∧Below g6 w5_ W) ⟨K5.kept E_ K5.lt,
     K6.kept E_ K6.lt,
     K7.kept E_ K7.lt,
     K8.kept E_ K8.lt,
     K9.kept E_ K9.lt,
     K12.kept E_ K12.lt,
     K13.kept E_ K13.lt,
     K14.kept E_ K14.lt,
     K15.kept E_ K15.lt,
     K16.kept E_ K16.lt,
     jpe _ _ _ _ _ _ gc_5,
     jop KB (E_.mono (jpW K6.lt))⟩ ?_
    clear K5 K6 K7 K8 K9 K12 K13 K14 K15 K16 KB E_ hR gc_5 gb_5 Q7 Q9 Q12
    rintro w13_ ⟨K5,K6,K7,K8,K9,K12,K13,K14,K15,K16,K17,KB⟩
    generalize g_5=g17 at *
    go_upto_region 22 with fail
    have Q7:=K7.q
    have Q9:=K9.q
    have Q13:=K13.q
    refine qgF (R:=Ext) jnQ (fun _ _ _=>Ext.trans) [0,1,2,3,4,5] [6] [0,0,3,0,15,0,63] [true,true,true,true,true,true,false] ?_
    refine jnT (fun _=>jnQ _) _ rfl (v:= .agg (jc c7).toArray) (d:=62) rfl rfl ?_ ?_
    ·intro a_ w_ hev hR hk
     have e7:a_.eval (.tmp 7)=_:=hk 7 rfl
     exact (jd rfl e7 (Q7.out w_ (Ext.trans (jnQ _).drew hR)) rfl rfl (by rw [S_c7];rfl))
    refine jnT (fun _=>jnQ _) _ rfl (v:= .agg (jc c9).toArray) (d:=63) rfl rfl ?_ ?_
    ·intro a_ w_ hev hR hk
     have e9:a_.eval (.tmp 9)=_:=hk 9 rfl
     exact (jd rfl e9 (Q9.out w_ (Ext.trans (jnQ _).drew hR)) rfl rfl (by rw [S_c9];rfl))
    refine jx _ rfl (fun u _=>∃ es,u= .agg (jc es).toArray∧IsN es (jnw vb vd)) (d:=64) rfl (fun _ _ _ h _=>h) rfl ?_ ?_
    ·intro a_ w_ hev hR hk K1 hK1
     have e61:a_.eval (.tmp 61)=_:=hk 61 rfl
     have e62:a_.eval (.tmp 62)=_:=hk 62 rfl
     clear hk
     have f61:=jz.trans e61
     have f62:=jz.trans e62
     go_simp
     refine (yo n7 n9).mono ?_
     rintro e_ w2_ ⟨fs_,hf_,rfl,x_⟩
     exact hK1.out _ _ x_ ⟨fs_,rfl,hf_⟩
    refine jnT (fun _=>jnQ _) _ rfl (v:= .agg (jc c_203).toArray) (d:=65) rfl rfl ?_ ?_
    ·intro a_ w_ hev hR hk
     have e13:a_.eval (.tmp 13)=_:=hk 13 rfl
     exact (jd rfl e13 (Q13.out w_ (Ext.trans (jnQ _).drew hR)) rfl rfl (by rw [S_c_203];rfl))
    refine jx _ rfl (fun u _=>∃ es,u= .agg (jc es).toArray∧IsN es (qs (jnw vb vd) v_204)) (d:=66) rfl (fun _ _ _ h _=>h) rfl ?_ ?_
    ·intro a_ w_ hev hR hk K1 hK1
     obtain ⟨es_63,e63,n63⟩:∃ es,a_.eval (.tmp 63)= .agg (jc es).toArray∧IsN es _:=hk 63 rfl
     have e64:a_.eval (.tmp 64)=_:=hk 64 rfl
     clear hk
     have f63:=jz.trans e63
     have f64:=jz.trans e64
     go_simp
     refine (j9 n63 n_203).mono ?_
     rintro e_ w2_ ⟨fs_,hf_,rfl,x_⟩
     exact hK1.out _ _ x_ ⟨fs_,rfl,hf_⟩
    refine qY _ rfl (fun u w_=>∃ g,u= .pointer (some ⟨g,0,none⟩)∧w13_.drew.heap.size≤g∧w_.heap[g]? =some (.cells (jc zn).toArray 200 (0,0))) (d:=19) rfl (fun _ _ _ h e=>by obtain ⟨g,h1,h2,h3⟩:=h;exact ⟨g,h1,h2,(e.block g (jh h3)).trans h3⟩) rfl (by decide) (fun _ _ h=>by obtain ⟨g,h1,h2,h3⟩:=h;subst h1;exact ⟨g,rfl,jh h3⟩) ?_ ?_
    ·intro a_ w_ hev hR hk K1 hK1
     go_simp
     exact hK1.out _ _ ((jnQ _).alloc _) ⟨_,rfl,hR.size,jps _ _⟩ (fun _ q=>by cases q;exact joq _)
    intro v_ wq_ hR hV_ hN_
    obtain ⟨hv5,hv4,hv3,hv2,hv1,hv0,_⟩:=hV_
    replace hv0:v_ 0=_:=hv0
    replace hv1:v_ 1=_:=hv1
    skip
    replace hv3:v_ 3=_:=hv3
    skip
    skip
    dsimp only [yQ,zv]
    obtain ⟨es_2,hv2,hn_2⟩:=hv2
    obtain ⟨es_4,hv4,hn_4⟩:=hv4
    obtain ⟨g_5,hv5,gb_5,gc_5⟩:=hv5
    clear hN_
    rw [hv0,hv1,hv2,hv3,hv4,hv5]
    go_frame
    clear hv0 hv1 hv2 hv3 hv4 hv5
    generalize es_4=c_213 at *
    have n_213:=hn_4
    clear hn_2 hn_4
    obtain ⟨v_214,hv_214⟩:∃ v,v=qs (jnw vb vd) v_204:=⟨_,rfl⟩
    rw [←hv_214] at n_213
    replace hv_214:=Hj (fun _:Unit=>hv_214)
    have S_c_213:=jnE n_213.len
    have O_c_213:=jw c_213
    refine qi (z:=6) _ rfl rfl (by kernel_rfl) ?_
    intro K1 hK1
    refine joe _ _ _ rfl g_5 (jc c_213).toArray rfl rfl 200 (jc zn).toArray gc_5 (by rw [S_c_213];rfl) (by rw [S_c_213,S_zn]) O_c_213 ?_
    refine hK1.out _ _ ?_
    clear hK1 K1
    refine qT (by kernel_rfl) ?_
    have z18:g9 < g_5:=jos K9.lt gb_5
    have E_:Ext w13_ (wq_.setRow g_5 (jc c_213).toArray):=jpd ((jnQ w13_).drew.trans hR) gb_5 _
    refine yf (fun W=>Ur W g5 200 cx∧Ur W g6 200 c6∧Ur W g7 200 c7∧Ur W g8 200 c8∧Ur W g9 200 c9∧Ur W g12 200 c_201∧Ur W g13 200 c_203∧Ur W g14 200 c_205∧Ur W g15 200 c_207∧Ur W g16 200 c_209∧Ur W g17 200 c_211∧Ur W g_5 200 c_213∧Below g6 w5_ W) ⟨K5.kept E_ K5.lt,
     K6.kept E_ K6.lt,
     K7.kept E_ K7.lt,
     K8.kept E_ K8.lt,
     K9.kept E_ K9.lt,
     K12.kept E_ K12.lt,
     K13.kept E_ K13.lt,
     K14.kept E_ K14.lt,
     K15.kept E_ K15.lt,
     K16.kept E_ K16.lt,
     K17.kept E_ K17.lt,
     jpe _ _ _ _ _ _ gc_5,
     jop KB (E_.mono (jpW K6.lt))⟩ ?_
    clear K5 K6 K7 K8 K9 K12 K13 K14 K15 K16 K17 KB E_ hR gc_5 gb_5 Q7 Q9 Q13
    rintro w14_ ⟨K5,K6,K7,K8,K9,K12,K13,K14,K15,K16,K17,K18,KB⟩
    generalize g_5=g18 at *
    clear K12
    clear K13
    go_wp2_with (first
     | (refine wl_ rfl 200 rfl g17 rfl K17 rfl rfl (by rw [S_c_211];rfl) ?_;go_frame)
     | (refine wl_ rfl 200 rfl g18 rfl K18 rfl rfl (by rw [S_c_213];rfl) ?_;go_frame))
    refine (yo n_211 n_213).mono ?_
    rintro e u_ ⟨c_215,n_215,rfl,e1⟩
    obtain ⟨v_216,hv_216⟩:∃ v,v=jnw v_212 v_214:=⟨_,rfl⟩
    rw [←hv_216] at n_215
    replace hv_216:=Hj (fun _:Unit=>hv_216)
    have S_c_215:=jnE n_215.len
    have O_c_215:=jw c_215
    have a1:=zY u_ (jc zn).toArray 200
    have E_:=yJ e1 (jc zn).toArray 200 (jc c_215).toArray
    go_upto_region 24 with (first
     | (refine ws_ rfl 200 rfl u_.heap.size (jc c_215).toArray rfl rfl a1.out (by rw [S_c_215];rfl) (by rw [S_c_215,S_zn]) O_c_215 ?_;simp only [joT]))
    obtain ⟨g19,hg_⟩:∃ g,g=u_.heap.size:=⟨_,rfl⟩
    have z19:g9 < g19:=by rw [hg_];exact jos K9.lt e1.size
    refine jg (fun W=>Ur W g5 200 cx∧Ur W g6 200 c6∧Ur W g7 200 c7∧Ur W g8 200 c8∧Ur W g9 200 c9∧Ur W g14 200 c_205∧Ur W g15 200 c_207∧Ur W g16 200 c_209∧Ur W g17 200 c_211∧Ur W g18 200 c_213∧Ur W g19 200 c_215∧Below g6 w5_ W) ⟨K5.kept E_ K5.lt,
     K6.kept E_ K6.lt,
     K7.kept E_ K7.lt,
     K8.kept E_ K8.lt,
     K9.kept E_ K9.lt,
     K14.kept E_ K14.lt,
     K15.kept E_ K15.lt,
     K16.kept E_ K16.lt,
     K17.kept E_ K17.lt,
     K18.kept E_ K18.lt,
     by rw [hg_];exact jpe _ _ _ _ _ _ a1.out,
     jop KB (E_.mono (jpW K6.lt))⟩ ?_
    rw [←hg_]
    clear K5 K6 K7 K8 K9 K14 K15 K16 K17 K18 KB hg_ a1 E_ e1
    rintro w15_ ⟨K5,K6,K7,K8,K9,K14,K15,K16,K17,K18,K19,KB⟩
    go_wp2_with (first
     | (refine wl_ rfl 200 rfl g17 rfl K17 rfl rfl (by rw [S_c_211];rfl) ?_;go_frame)
     | (refine wl_ rfl 200 rfl g18 rfl K18 rfl rfl (by rw [S_c_213];rfl) ?_;go_frame))
    refine (yp n_211 n_213).mono ?_
    rintro e u_ ⟨c_217,n_217,rfl,e1⟩
    obtain ⟨v_218,hv_218⟩:∃ v,v=zO v_212 v_214:=⟨_,rfl⟩
    rw [←hv_218] at n_217
    replace hv_218:=Hj (fun _:Unit=>hv_218)
    have S_c_217:=jnE n_217.len
    have O_c_217:=jw c_217
    have a1:=zY u_ (jc zn).toArray 200
    have E_:=yJ e1 (jc zn).toArray 200 (jc c_217).toArray
    go_upto_region 25 with (first
     | (refine ws_ rfl 200 rfl u_.heap.size (jc c_217).toArray rfl rfl a1.out (by rw [S_c_217];rfl) (by rw [S_c_217,S_zn]) O_c_217 ?_;simp only [joT]))
    obtain ⟨g20,hg_⟩:∃ g,g=u_.heap.size:=⟨_,rfl⟩
    have z20:g9 < g20:=by rw [hg_];exact jos K9.lt e1.size
    refine jg (fun W=>Ur W g5 200 cx∧Ur W g6 200 c6∧Ur W g7 200 c7∧Ur W g8 200 c8∧Ur W g9 200 c9∧Ur W g14 200 c_205∧Ur W g15 200 c_207∧Ur W g16 200 c_209∧Ur W g17 200 c_211∧Ur W g18 200 c_213∧Ur W g19 200 c_215∧Ur W g20 200 c_217∧Below g6 w5_ W) ⟨K5.kept E_ K5.lt,
     K6.kept E_ K6.lt,
     K7.kept E_ K7.lt,
     K8.kept E_ K8.lt,
     K9.kept E_ K9.lt,
     K14.kept E_ K14.lt,
     K15.kept E_ K15.lt,
     K16.kept E_ K16.lt,
     K17.kept E_ K17.lt,
     K18.kept E_ K18.lt,
     K19.kept E_ K19.lt,
     by rw [hg_];exact jpe _ _ _ _ _ _ a1.out,
     jop KB (E_.mono (jpW K6.lt))⟩ ?_
    rw [←hg_]
    clear K5 K6 K7 K8 K9 K14 K15 K16 K17 K18 K19 KB hg_ a1 E_ e1
    rintro w16_ ⟨K5,K6,K7,K8,K9,K14,K15,K16,K17,K18,K19,K20,KB⟩
    clear K17
    clear K18
    go_wp2_with (first
     | (refine wl_ rfl 200 rfl g19 rfl K19 rfl rfl (by rw [S_c_215];rfl) ?_;go_frame))
    refine (j9 n_215 n_215).mono ?_
    rintro e u_ ⟨c_219,n_219,rfl,e1⟩
    obtain ⟨v_220,hv_220⟩:∃ v,v=qs v_216 v_216:=⟨_,rfl⟩
    rw [←hv_220] at n_219
    replace hv_220:=Hj (fun _:Unit=>hv_220)
    have S_c_219:=jnE n_219.len
    have O_c_219:=jw c_219
    have mK5:=K5.kept e1 K5.lt
    have mK6:=K6.kept e1 K6.lt
    have mK7:=K7.kept e1 K7.lt
    have mK8:=K8.kept e1 K8.lt
    have mK9:=K9.kept e1 K9.lt
    have mK14:=K14.kept e1 K14.lt
    have mK15:=K15.kept e1 K15.lt
    have mK16:=K16.kept e1 K16.lt
    have mK19:=K19.kept e1 K19.lt
    have mK20:=K20.kept e1 K20.lt
    have mKB:=jop KB (e1.mono (jpW K6.lt))
    go_upto_region 26 with (first
     | (refine ws_ rfl 200 rfl g7 (jc c_219).toArray rfl rfl mK7 (by rw [S_c_219];rfl) (by rw [S_c_219,S_c7]) O_c_219 ?_;simp only [joT]))
    refine jg (fun W=>Ur W g5 200 cx∧Ur W g6 200 c6∧Ur W g7 200 c_219∧Ur W g8 200 c8∧Ur W g9 200 c9∧Ur W g14 200 c_205∧Ur W g15 200 c_207∧Ur W g16 200 c_209∧Ur W g19 200 c_215∧Ur W g20 200 c_217∧Below g6 w5_ W) ⟨mK5.so (by omega),
     mK6.so (by omega),
     jpe _ _ _ _ _ _ mK7,
     mK8.so (by omega),
     mK9.so (by omega),
     mK14.so (by omega),
     mK15.so (by omega),
     mK16.so (by omega),
     mK19.so (by omega),
     mK20.so (by omega),
     jpd mKB (by omega) _⟩ ?_
    clear K5 K6 K7 K8 K9 K14 K15 K16 K19 K20 KB e1 mK5 mK6 mK7 mK8 mK9 mK14 mK15 mK16 mK19 mK20 mKB
    rintro w17_ ⟨K5,K6,K7,K8,K9,K14,K15,K16,K19,K20,KB⟩
    clear K19
    have Q5:=K5.q
    have Q20:=K20.q
    refine qgF (R:=Ext) jnQ (fun _ _ _=>Ext.trans) [0,1,2,3,4] [5] [0,0,0,6,15,31] [true,true,true,true,true,false] ?_
    refine jnT (fun _=>jnQ _) _ rfl (v:= .agg (jc cx).toArray) (d:=76) rfl rfl ?_ ?_
    ·intro a_ w_ hev hR hk
     have e5:a_.eval (.tmp 5)=_:=hk 5 rfl
     exact (jd rfl e5 (Q5.out w_ (Ext.trans (jnQ _).drew hR)) rfl rfl (by rw [S_cx];rfl))
    refine jnT (fun _=>jnQ _) _ rfl (v:= .agg (jc c_217).toArray) (d:=77) rfl rfl ?_ ?_
    ·intro a_ w_ hev hR hk
     have e20:a_.eval (.tmp 20)=_:=hk 20 rfl
     exact (jd rfl e20 (Q20.out w_ (Ext.trans (jnQ _).drew hR)) rfl rfl (by rw [S_c_217];rfl))
    refine jnT (fun _=>jnQ _) _ rfl (v:= .agg (jc c_217).toArray) (d:=78) rfl rfl ?_ ?_
    ·intro a_ w_ hev hR hk
     have e20:a_.eval (.tmp 20)=_:=hk 20 rfl
     exact (jd rfl e20 (Q20.out w_ (Ext.trans (jnQ _).drew hR)) rfl rfl (by rw [S_c_217];rfl))
    refine jx _ rfl (fun u _=>∃ es,u= .agg (jc es).toArray∧IsN es (qs v_218 v_218)) (d:=79) rfl (fun _ _ _ h _=>h) rfl ?_ ?_
    ·intro a_ w_ hev hR hk K1 hK1
     have e76:a_.eval (.tmp 76)=_:=hk 76 rfl
     have e77:a_.eval (.tmp 77)=_:=hk 77 rfl
     clear hk
     have f76:=jz.trans e76
     have f77:=jz.trans e77
     go_simp
     refine (j9 n_217 n_217).mono ?_
     rintro e_ w2_ ⟨fs_,hf_,rfl,x_⟩
     exact hK1.out _ _ x_ ⟨fs_,rfl,hf_⟩
    refine jx _ rfl (fun u _=>∃ es,u= .agg (jc es).toArray∧IsN es (qs x (qs v_218 v_218))) (d:=80) rfl (fun _ _ _ h _=>h) rfl ?_ ?_
    ·intro a_ w_ hev hR hk K1 hK1
     have e75:a_.eval (.tmp 75)=_:=hk 75 rfl
     obtain ⟨es_78,e78,n78⟩:∃ es,a_.eval (.tmp 78)= .agg (jc es).toArray∧IsN es _:=hk 78 rfl
     clear hk
     have f75:=jz.trans e75
     have f78:=jz.trans e78
     go_simp
     refine (j9 n_cx n78).mono ?_
     rintro e_ w2_ ⟨fs_,hf_,rfl,x_⟩
     exact hK1.out _ _ x_ ⟨fs_,rfl,hf_⟩
    intro v_ wq_ hR hV_ hN_
    obtain ⟨hv4,hv3,hv2,hv1,hv0,_⟩:=hV_
    replace hv0:v_ 0=_:=hv0
    replace hv1:v_ 1=_:=hv1
    replace hv2:v_ 2=_:=hv2
    skip
    skip
    dsimp only [yQ,zv]
    obtain ⟨es_3,hv3,hn_3⟩:=hv3
    obtain ⟨es_4,hv4,hn_4⟩:=hv4
    clear hN_
    rw [hv0,hv1,hv2,hv3,hv4]
    go_frame
    clear hv0 hv1 hv2 hv3 hv4
    generalize es_4=c_221 at *
    have n_221:=hn_4
    clear hn_3 hn_4
    obtain ⟨v_222,hv_222⟩:∃ v,v=qs x (qs v_218 v_218):=⟨_,rfl⟩
    rw [←hv_222] at n_221
    replace hv_222:=Hj (fun _:Unit=>hv_222)
    have S_c_221:=jnE n_221.len
    have O_c_221:=jw c_221
    have mm_:=K9.kept ((jnQ w17_).drew.trans hR) K9.lt
    refine qi (z:=5) _ rfl rfl (by kernel_rfl) ?_
    intro K1 hK1
    refine joe _ _ _ rfl g9 (jc c_221).toArray rfl rfl 200 (jc c9).toArray mm_ (by rw [S_c_221];rfl) (by rw [S_c_221,S_c9]) O_c_221 ?_
    refine hK1.out _ _ ?_
    clear hK1 K1
    refine qT (by kernel_rfl) ?_
    have mK5:=K5.kept ((jnQ w17_).drew.trans hR) K5.lt
    have mK6:=K6.kept ((jnQ w17_).drew.trans hR) K6.lt
    have mK7:=K7.kept ((jnQ w17_).drew.trans hR) K7.lt
    have mK8:=K8.kept ((jnQ w17_).drew.trans hR) K8.lt
    have mK9:=K9.kept ((jnQ w17_).drew.trans hR) K9.lt
    have mK14:=K14.kept ((jnQ w17_).drew.trans hR) K14.lt
    have mK15:=K15.kept ((jnQ w17_).drew.trans hR) K15.lt
    have mK16:=K16.kept ((jnQ w17_).drew.trans hR) K16.lt
    have mK20:=K20.kept ((jnQ w17_).drew.trans hR) K20.lt
    have mKB:=jop KB (((jnQ w17_).drew.trans hR).mono (jpW K6.lt))
    refine yf (fun W=>Ur W g5 200 cx∧Ur W g6 200 c6∧Ur W g7 200 c_219∧Ur W g8 200 c8∧Ur W g9 200 c_221∧Ur W g14 200 c_205∧Ur W g15 200 c_207∧Ur W g16 200 c_209∧Ur W g20 200 c_217∧Below g6 w5_ W) ⟨mK5.so (by omega),
     mK6.so (by omega),
     mK7.so (by omega),
     mK8.so (by omega),
     jpe _ _ _ _ _ _ mK9,
     mK14.so (by omega),
     mK15.so (by omega),
     mK16.so (by omega),
     mK20.so (by omega),
     jpd mKB (by omega) _⟩ ?_
    clear K5 K6 K7 K8 K9 K14 K15 K16 K20 KB mm_ hR mK5 mK6 mK7 mK8 mK9 mK14 mK15 mK16 mK20 mKB Q5 Q20
    rintro w18_ ⟨K5,K6,K7,K8,K9,K14,K15,K16,K20,KB⟩
    clear K20
    go_wp2_with (first
     | (refine wl_ rfl 200 rfl g14 rfl K14 rfl rfl (by rw [S_c_205];rfl) ?_;go_frame)
     | (refine wl_ rfl 200 rfl g15 rfl K15 rfl rfl (by rw [S_c_207];rfl) ?_;go_frame))
    refine (j9 n_205 n_207).mono ?_
    rintro e u_ ⟨c_223,n_223,rfl,e1⟩
    obtain ⟨v_224,hv_224⟩:∃ v,v=qs v_206 v_208:=⟨_,rfl⟩
    rw [←hv_224] at n_223
    replace hv_224:=Hj (fun _:Unit=>hv_224)
    have S_c_223:=jnE n_223.len
    have O_c_223:=jw c_223
    have mK5:=K5.kept e1 K5.lt
    have mK6:=K6.kept e1 K6.lt
    have mK7:=K7.kept e1 K7.lt
    have mK8:=K8.kept e1 K8.lt
    have mK9:=K9.kept e1 K9.lt
    have mK14:=K14.kept e1 K14.lt
    have mK15:=K15.kept e1 K15.lt
    have mK16:=K16.kept e1 K16.lt
    have mKB:=jop KB (e1.mono (jpW K6.lt))
    go_upto_region 28 with (first
     | (refine ws_ rfl 200 rfl g6 (jc c_223).toArray rfl rfl mK6 (by rw [S_c_223];rfl) (by rw [S_c_223,S_c6]) O_c_223 ?_;simp only [joT]))
    refine jg (fun W=>Ur W g5 200 cx∧Ur W g6 200 c_223∧Ur W g7 200 c_219∧Ur W g8 200 c8∧Ur W g9 200 c_221∧Ur W g14 200 c_205∧Ur W g15 200 c_207∧Ur W g16 200 c_209∧Below g6 w5_ W) ⟨mK5.so (by omega),
     jpe _ _ _ _ _ _ mK6,
     mK7.so (by omega),
     mK8.so (by omega),
     mK9.so (by omega),
     mK14.so (by omega),
     mK15.so (by omega),
     mK16.so (by omega),
     jpd mKB (by omega) _⟩ ?_
    clear K5 K6 K7 K8 K9 K14 K15 K16 KB e1 mK5 mK6 mK7 mK8 mK9 mK14 mK15 mK16 mKB
    rintro w19_ ⟨K5,K6,K7,K8,K9,K14,K15,K16,KB⟩
    clear K15
    have Q14:=K14.q
    have Q16:=K16.q
    refine qgF (R:=Ext) jnQ (fun _ _ _=>Ext.trans) [0,1,2,3,4,5,6] [7] [0,0,0,0,12,30,63,127] [true,true,true,true,true,true,true,false] ?_
    refine jnT (fun _=>jnQ _) _ rfl (v:= .agg (jc c_209).toArray) (d:=84) rfl rfl ?_ ?_
    ·intro a_ w_ hev hR hk
     have e16:a_.eval (.tmp 16)=_:=hk 16 rfl
     exact (jd rfl e16 (Q16.out w_ (Ext.trans (jnQ _).drew hR)) rfl rfl (by rw [S_c_209];rfl))
    refine jnT (fun _=>jnQ _) _ rfl (v:= .agg (jc c_205).toArray) (d:=85) rfl rfl ?_ ?_
    ·intro a_ w_ hev hR hk
     have e14:a_.eval (.tmp 14)=_:=hk 14 rfl
     exact (jd rfl e14 (Q14.out w_ (Ext.trans (jnQ _).drew hR)) rfl rfl (by rw [S_c_205];rfl))
    refine jnT (fun _=>jnQ _) _ rfl (v:= .agg (jc fw).toArray) (d:=86) rfl rfl ?_ ?_
    ·intro a_ w_ hev hR hk
     exact (qe rfl (by simp only [jpG,jpC,jpH,hev.1];exact hbf.out))
    refine jnT (fun _=>jnQ _) _ rfl (v:= .agg (jc c_209).toArray) (d:=87) rfl rfl ?_ ?_
    ·intro a_ w_ hev hR hk
     have e16:a_.eval (.tmp 16)=_:=hk 16 rfl
     exact (jd rfl e16 (Q16.out w_ (Ext.trans (jnQ _).drew hR)) rfl rfl (by rw [S_c_209];rfl))
    refine jx _ rfl (fun u _=>∃ es,u= .agg (jc es).toArray∧IsN es (qs 121665 v_210)) (d:=88) rfl (fun _ _ _ h _=>h) rfl ?_ ?_
    ·intro a_ w_ hev hR hk K1 hK1
     have e85:a_.eval (.tmp 85)=_:=hk 85 rfl
     have e86:a_.eval (.tmp 86)=_:=hk 86 rfl
     clear hk
     have f85:=jz.trans e85
     have f86:=jz.trans e86
     go_simp
     refine (j9 n_fw n_209).mono ?_
     rintro e_ w2_ ⟨fs_,hf_,rfl,x_⟩
     exact hK1.out _ _ x_ ⟨fs_,rfl,hf_⟩
    refine jx _ rfl (fun u _=>∃ es,u= .agg (jc es).toArray∧IsN es (jnw v_206 (qs 121665 v_210))) (d:=89) rfl (fun _ _ _ h _=>h) rfl ?_ ?_
    ·intro a_ w_ hev hR hk K1 hK1
     have e84:a_.eval (.tmp 84)=_:=hk 84 rfl
     obtain ⟨es_87,e87,n87⟩:∃ es,a_.eval (.tmp 87)= .agg (jc es).toArray∧IsN es _:=hk 87 rfl
     clear hk
     have f84:=jz.trans e84
     have f87:=jz.trans e87
     go_simp
     refine (yo n_205 n87).mono ?_
     rintro e_ w2_ ⟨fs_,hf_,rfl,x_⟩
     exact hK1.out _ _ x_ ⟨fs_,rfl,hf_⟩
    refine jx _ rfl (fun u _=>∃ es,u= .agg (jc es).toArray∧IsN es (qs v_210 (jnw v_206 (qs 121665 v_210)))) (d:=90) rfl (fun _ _ _ h _=>h) rfl ?_ ?_
    ·intro a_ w_ hev hR hk K1 hK1
     have e83:a_.eval (.tmp 83)=_:=hk 83 rfl
     obtain ⟨es_88,e88,n88⟩:∃ es,a_.eval (.tmp 88)= .agg (jc es).toArray∧IsN es _:=hk 88 rfl
     clear hk
     have f83:=jz.trans e83
     have f88:=jz.trans e88
     go_simp
     refine (j9 n_209 n88).mono ?_
     rintro e_ w2_ ⟨fs_,hf_,rfl,x_⟩
     exact hK1.out _ _ x_ ⟨fs_,rfl,hf_⟩
    intro v_ wq_ hR hV_ hN_
    obtain ⟨hv6,hv5,hv4,hv3,hv2,hv1,hv0,_⟩:=hV_
    replace hv0:v_ 0=_:=hv0
    replace hv1:v_ 1=_:=hv1
    replace hv2:v_ 2=_:=hv2
    replace hv3:v_ 3=_:=hv3
    skip
    skip
    skip
    dsimp only [yQ,zv]
    obtain ⟨es_4,hv4,hn_4⟩:=hv4
    obtain ⟨es_5,hv5,hn_5⟩:=hv5
    obtain ⟨es_6,hv6,hn_6⟩:=hv6
    clear hN_
    rw [hv0,hv1,hv2,hv3,hv4,hv5,hv6]
    go_frame
    clear hv0 hv1 hv2 hv3 hv4 hv5 hv6
    generalize es_6=c_225 at *
    have n_225:=hn_6
    clear hn_4 hn_5 hn_6
    obtain ⟨v_226,hv_226⟩:∃ v,v=qs v_210 (jnw v_206 (qs 121665 v_210)):=⟨_,rfl⟩
    rw [←hv_226] at n_225
    replace hv_226:=Hj (fun _:Unit=>hv_226)
    have S_c_225:=jnE n_225.len
    have O_c_225:=jw c_225
    have mm_:=K8.kept ((jnQ w19_).drew.trans hR) K8.lt
    refine qi (z:=7) _ rfl rfl (by kernel_rfl) ?_
    intro K1 hK1
    refine joe _ _ _ rfl g8 (jc c_225).toArray rfl rfl 200 (jc c8).toArray mm_ (by rw [S_c_225];rfl) (by rw [S_c_225,S_c8]) O_c_225 ?_
    refine hK1.out _ _ ?_
    clear hK1 K1
    refine qT (by kernel_rfl) ?_
    have mK5:=K5.kept ((jnQ w19_).drew.trans hR) K5.lt
    have mK6:=K6.kept ((jnQ w19_).drew.trans hR) K6.lt
    have mK7:=K7.kept ((jnQ w19_).drew.trans hR) K7.lt
    have mK8:=K8.kept ((jnQ w19_).drew.trans hR) K8.lt
    have mK9:=K9.kept ((jnQ w19_).drew.trans hR) K9.lt
    have mK14:=K14.kept ((jnQ w19_).drew.trans hR) K14.lt
    have mK16:=K16.kept ((jnQ w19_).drew.trans hR) K16.lt
    have mKB:=jop KB (((jnQ w19_).drew.trans hR).mono (jpW K6.lt))
    refine yf (fun W=>Ur W g5 200 cx∧Ur W g6 200 c_223∧Ur W g7 200 c_219∧Ur W g8 200 c_225∧Ur W g9 200 c_221∧Ur W g14 200 c_205∧Ur W g16 200 c_209∧Below g6 w5_ W) ⟨mK5.so (by omega),
     mK6.so (by omega),
     mK7.so (by omega),
     jpe _ _ _ _ _ _ mK8,
     mK9.so (by omega),
     mK14.so (by omega),
     mK16.so (by omega),
     jpd mKB (by omega) _⟩ ?_
    clear K5 K6 K7 K8 K9 K14 K16 KB mm_ hR mK5 mK6 mK7 mK8 mK9 mK14 mK16 mKB Q14 Q16
    rintro w20_ ⟨K5,K6,K7,K8,K9,K14,K16,KB⟩
    clear K14
    clear K16
    have KX:=(P3.out _ KB).1
    go_wp2_with (refine wl_ rfl 23 rfl w.heap.size rfl KX.1 rfl rfl (by rw [S_ks];rfl) ?_;go_frame)
    refine (BT.out _).mono ?_
    rintro e u_ ⟨rfl,e1⟩
    clear KX
    go_wp2_with fail
    have NX:S (m+1)=(v_224,v_220,v_226,v_222):=by
     rw [S1m.out ()]
     replace hv_202:=hv_202.out ()
     replace hv_204:=hv_204.out ()
     replace hv_206:=hv_206.out ()
     replace hv_208:=hv_208.out ()
     replace hv_210:=hv_210.out ()
     replace hv_212:=hv_212.out ()
     replace hv_214:=hv_214.out ()
     replace hv_216:=hv_216.out ()
     replace hv_218:=hv_218.out ()
     replace hv_220:=hv_220.out ()
     replace hv_222:=hv_222.out ()
     replace hv_224:=hv_224.out ()
     replace hv_226:=hv_226.out ()
     subst hv_226 hv_224 hv_222 hv_220 hv_218 hv_216 hv_214 hv_212 hv_210 hv_208 hv_206 hv_204 hv_202
     rw [jfK x]
     rfl
    exact ⟨⟨m+1,c_223,c_219,c_225,c_221,hm1.out,by rw [←hbn1.out],K6.kept e1 K6.lt,
     K7.kept e1 K7.lt,
     K8.kept e1 K8.lt,
     K9.kept e1 K9.lt,by rw [NX];exact n_223,by rw [NX];exact n_219,by rw [NX];exact n_225,by rw [NX];exact n_221,jop KB (e1.mono (jpW K6.lt))⟩,by simp [intOf];omega⟩
  ·obtain rfl:m=255:=by omega
   have S_c6:=jnE n6.len
   have S_c8:=jnE n8.len
   have Q6:=K6.q
   have Q8:=K8.q
   have QZ:Hid (∀ s,Ext wr s→Ky s (w.heap.size+1+1) zk∧Ext w s):=fun s e=>by
    have:=P3.out s (jop KB (e.mono (jpW K6.lt)))
    exact ⟨this.2.1,this.2.2.2⟩
   have NKC:Hid (∀ (W:World) (es:List Nat),IsN es (qs (S 255).1 (zL (S 255).2.2.1))→Calls joz 104 #[.agg (jc es).toArray] W fun e w'=>e= .returned (.agg (cellsOf rk).toArray)∧Ext W w'):=fun W es h=>by rw [hrk.out];exact jeD h
   clear K6 K7 K8 K9 n7 n9 KB P3 BIT S1
   go_wp2_with fail
   refine qgF (R:=Ext) jnQ (fun _ _ _=>Ext.trans) [0,1,2,3,4] [5] [0,0,2,7,15,31] [true,true,true,true,true,false] ?_
   refine jnT (fun _=>jnQ _) _ rfl (v:= .agg (jc c6).toArray) (d:=100) rfl rfl ?_ ?_
   ·intro a_ w_ hev hR hk
    have e6:a_.eval (.tmp 6)=_:=hk 6 rfl
    exact (jd rfl e6 (Q6.out w_ (Ext.trans (jnQ _).drew hR)) rfl rfl (by rw [S_c6];rfl))
   refine jnT (fun _=>jnQ _) _ rfl (v:= .agg (jc c8).toArray) (d:=101) rfl rfl ?_ ?_
   ·intro a_ w_ hev hR hk
    have e8:a_.eval (.tmp 8)=_:=hk 8 rfl
    exact (jd rfl e8 (Q8.out w_ (Ext.trans (jnQ _).drew hR)) rfl rfl (by rw [S_c8];rfl))
   refine jx _ rfl (fun u _=>∃ es,u= .agg (jc es).toArray∧IsN es (zL (S 255).2.2.1)) (d:=102) rfl (fun _ _ _ h _=>h) rfl ?_ ?_
   ·intro a_ w_ hev hR hk K1 hK1
    have e100:a_.eval (.tmp 100)=_:=hk 100 rfl
    clear hk
    have f100:=jz.trans e100
    go_simp
    refine (jeC n8).mono ?_
    rintro e_ w2_ ⟨fs_,hf_,rfl,x_⟩
    exact hK1.out _ _ x_ ⟨fs_,rfl,hf_⟩
   refine jx _ rfl (fun u _=>∃ es,u= .agg (jc es).toArray∧IsN es (qs (S 255).1 (zL (S 255).2.2.1))) (d:=103) rfl (fun _ _ _ h _=>h) rfl ?_ ?_
   ·intro a_ w_ hev hR hk K1 hK1
    have e99:a_.eval (.tmp 99)=_:=hk 99 rfl
    obtain ⟨es_101,e101,n101⟩:∃ es,a_.eval (.tmp 101)= .agg (jc es).toArray∧IsN es _:=hk 101 rfl
    clear hk
    have f99:=jz.trans e99
    have f101:=jz.trans e101
    go_simp
    refine (j9 n6 n101).mono ?_
    rintro e_ w2_ ⟨fs_,hf_,rfl,x_⟩
    exact hK1.out _ _ x_ ⟨fs_,rfl,hf_⟩
   refine jx _ rfl (fun u _=>u= .agg (cellsOf rk).toArray) (d:=104) rfl (fun _ _ _ h _=>h) rfl ?_ ?_
   ·intro a_ w_ hev hR hk K1 hK1
    obtain ⟨es_102,e102,n102⟩:∃ es,a_.eval (.tmp 102)= .agg (jc es).toArray∧IsN es _:=hk 102 rfl
    clear hk
    have f102:=jz.trans e102
    go_simp
    refine (NKC.out _ _ n102).mono ?_
    rintro e_ w2_ ⟨rfl,x_⟩
    exact hK1.out _ _ x_ rfl
   intro v_ wq_ hR hV_ hN_
   obtain ⟨hv4,hv3,hv2,hv1,hv0,_⟩:=hV_
   replace hv0:v_ 0=_:=hv0
   replace hv1:v_ 1=_:=hv1
   skip
   skip
   replace hv4:v_ 4=_:=hv4
   dsimp only [yQ,zv]
   obtain ⟨es_2,hv2,hn_2⟩:=hv2
   obtain ⟨es_3,hv3,hn_3⟩:=hv3
   clear hN_
   rw [hv0,hv1,hv2,hv3,hv4]
   go_frame
   clear hv0 hv1 hv2 hv3 hv4
   have kz:=Hj (QZ.out wq_ ((jnQ _).drew.trans hR))
   refine qi (z:=5) _ rfl rfl (by kernel_rfl) ?_
   intro K1 hK1
   refine joe _ _ _ rfl (w.heap.size+1+1) (cellsOf rk).toArray rfl rfl 23 (cellsOf zk).toArray kz.out.1.1 (by rw [S_rk];rfl) (by rw [S_rk,S_zk]) O_rk ?_
   refine hK1.out _ _ ?_
   clear hK1 K1
   refine qT (by kernel_rfl) ?_
   clear hR
   go_wp2_with fail
   (try simp only [jpX,Exit.then])
   refine jpY (jpZ rfl _ _ (w.heap.size+1+1) 23 (cellsOf rk).toArray (0,0) _ rfl (jpe _ _ _ _ _ _ kz.out.1.1) rfl rfl (by rw [S_rk];rfl)) rfl ?_
   exact ⟨rfl,jpd kz.out.2 (by omega) _⟩
theorem jdy {ks:List UInt8}{w:World}(hk:ks.length=32):
 Calls joz 40 #[.agg (cellsOf ks).toArray] w fun e w'=>e= .returned (.agg (cellsOf (kL (jY ks 9))).toArray)∧Ext w w':=by
 have MU:Hid (∀ W,Calls joz 71 #[.agg (cellsOf ks).toArray, .agg (cellsOf jdf).toArray] W fun e w'=>e= .returned (.agg (cellsOf (kL (jY ks 9))).toArray)∧Ext W w'):=fun W=>by
  have:=jdE (w:=W) hk (show jdf.length=32 from rfl)
  rwa [jk2] at this
 have L_rk:=zx (jY ks 9)
 generalize kL (jY ks 9)=rk at *
 have S_rk:(cellsOf rk).toArray.size=32:=by simp [ja,L_rk]
 have O_rk:=ji rk
 have S_ks:(cellsOf ks).toArray.size=32:=by simp [ja,hk]
 have hb:=Hj jg9
 generalize jdf=k9 at *
 have hal:∀ w,(joK 23).run joz w= .ok (.agg (cellsOf (jpp 32 0)).toArray) w:=fun w=>by rw [jU];exact j2 w
 have L_zk:(jpp 32 (0:UInt8)).length=32:=rfl
 generalize jpp 32 (0:UInt8)=zk at *
 have S_zk:(cellsOf zk).toArray.size=32:=by simp [ja,L_zk]
 have B0:Hid (Ky ((w.alloc (jp0 (cellsOf ks).toArray 23)).alloc (jp0 (cellsOf zk).toArray 23)) w.heap.size ks∧Ky ((w.alloc (jp0 (cellsOf ks).toArray 23)).alloc (jp0 (cellsOf zk).toArray 23)) (w.heap.size+1) zk∧Ext w ((w.alloc (jp0 (cellsOf ks).toArray 23)).alloc (jp0 (cellsOf zk).toArray 23))):=⟨⟨jQ _ _ _,hk⟩,⟨jK _ _ _,L_zk⟩,((jnQ w).alloc _).alloc _⟩
 go_enter Tryz.func40,Tryz.ntmps40
 go_wp2_with (first
  | (refine wl_ rfl 23 rfl w.heap.size rfl B0.out.1.1 rfl rfl (by rw [S_ks];rfl) ?_;go_frame)
  | (refine jm rfl _ _ rfl (cellsOf k9).toArray (by simp only [jpG,jpC,jpH];exact hb.out) ?_;go_frame))
 refine (MU.out _).mono ?_
 rintro e w1 ⟨rfl,e1⟩
 have kr:=Hj (B0.out.2.1.ext e1)
 have kx:Hid (Ext w w1):=B0.out.2.2.trans e1
 clear B0 MU e1
 go_wp2_with (refine ws_ rfl 23 rfl (w.heap.size+1) (cellsOf rk).toArray rfl rfl kr.out.1 (by rw [S_rk];rfl) (by rw [S_rk,S_zk]) O_rk ?_;go_frame)
 (try simp only [jpX,Exit.then])
 refine jpY (jpZ rfl _ _ (w.heap.size+1) 23 (cellsOf rk).toArray (0,0) _ rfl (jpe _ _ _ _ _ _ kr.out.1) rfl rfl (by rw [S_rk];rfl)) rfl ?_
 exact ⟨rfl,jpd kx.out (by omega) _⟩
theorem jdH {w:World}{A:Option Addr}{n c:Nat}{xs:List UInt8}(h:Bs w A n c xs) (hn:n≤1000000):
 Calls joz 18 #[.slice A n c] w fun e w'=>e= .returned (.agg (cellsOf (j3 xs)).toArray)∧Ext w w':=by
 have SUM:Hid (∀ W,Ext w W→Calls joz 39 #[.slice A n c] W fun e w'=>e= .returned (.agg (cellsOf (jC [] xs)).toArray)∧Ext W w'):=fun W e=>jcD (h.ext e) hn
 have BAS:Hid (∀ W,Ext w W→Calls joz 40 #[.agg (cellsOf (jC [] xs)).toArray] W fun e w'=>e= .returned (.agg (cellsOf (kL (jY (jC [] xs) 9))).toArray)∧Ext W w'):=fun W e=>jdy (qr _ _)
 have BLT:=Hj (Zv (qr [] xs) (zx (jY (jC [] xs) 9)))
 have RLe:=yU xs
 have hR_:Hid (jC [] xs++kL (jY (jC [] xs) 9)=j3 xs):=rfl
 rw [hR_.out] at BLT
 clear hn
 have L_sk:=qr [] xs
 have L_pk:=zx (jY (jC [] xs) 9)
 clear hR_
 generalize kL (jY (jC [] xs) 9)=pk at *
 generalize jC [] xs=sk at *
 generalize j3 xs=rr at *
 have S_sk:(cellsOf sk).toArray.size=32:=by simp [ja,L_sk]
 have O_sk:=ji sk
 have S_rr:(cellsOf rr).toArray.size=64:=by simp [ja,RLe]
 have O_rr:=ji rr
 have hal:∀ w,(joK 23).run joz w= .ok (.agg (cellsOf (jpp 32 0)).toArray) w:=fun w=>by rw [jU];exact j2 w
 have hal2:=yS
 have L_zk:(jpp 32 (0:UInt8)).length=32:=rfl
 have L_zp:(jpp 64 (0:UInt8)).length=64:=by simp
 generalize jpp 32 (0:UInt8)=zk at *
 generalize jpp 64 (0:UInt8)=zp at *
 have S_zk:(cellsOf zk).toArray.size=32:=by simp [ja,L_zk]
 have S_zp:(cellsOf zp).toArray.size=64:=by simp [ja,L_zp]
 have B0:Hid (Kp (w.alloc (jp0 (cellsOf zp).toArray 31)) w.heap.size zp∧Ext w (w.alloc (jp0 (cellsOf zp).toArray 31))):=⟨⟨jps _ _,L_zp⟩,(jnQ w).alloc _⟩
 go_enter Tryz.func18,Tryz.ntmps18
 go_wp2_with fail
 refine (SUM.out _ B0.out.2).mono ?_
 rintro e u_ ⟨rfl,e1⟩
 have a1:Hid ((u_.alloc (jp0 (cellsOf zk).toArray 23)).heap[u_.heap.size]? =some (.cells (cellsOf zk).toArray 23 (0,0))):=jps _ _
 have E_:Ext (w.alloc (jp0 (cellsOf zp).toArray 31)) ((u_.alloc (jp0 (cellsOf zk).toArray 23)).setRow u_.heap.size (cellsOf sk).toArray):=e1.trans (jpd ((jnQ u_).alloc _) (joq _) _)
 go_upto_region 2 with (refine ws_ rfl 23 rfl u_.heap.size (cellsOf sk).toArray rfl rfl a1.out (by rw [S_sk];rfl) (by rw [S_sk,S_zk]) O_sk ?_;simp only [joT])
 obtain ⟨g3,hg_⟩:∃ g,g=u_.heap.size:=⟨_,rfl⟩
 obtain ⟨r,hr_⟩:=ex_ w.heap.size
 refine jg (fun W=>Ky W g3 sk∧Kp W r zp∧Ext w W) ⟨⟨by rw [hg_];exact jpe _ _ _ _ _ _ a1.out,L_sk⟩,by rw [hr_];exact B0.out.1.ext E_,B0.out.2.trans E_⟩ ?_
 rw [←hg_,←hr_]
 replace hr_:=Hj hr_
 clear hg_ a1 E_ e1 B0 SUM
 rintro w1 ⟨k1,p1,x1⟩
 have Q1:Hid (∀ s,Ext w1 s→Ky s g3 sk∧Kp s r zp∧Ext w s):=fun s e=>⟨k1.ext e,p1.ext e,x1.trans e⟩
 clear k1 p1 x1
 refine qgF (R:=Ext) jnQ (fun _ _ _=>Ext.trans) [0,1,2,3] [4] [0,0,2,7,15] [true,true,true,true,false] ?_
 refine jnT (fun _=>jnQ _) _ rfl (v:= .agg (cellsOf sk).toArray) (d:=7) rfl rfl ?_ ?_
 ·intro a_ w_ hev hR hk
  have e3:a_.eval (.tmp 3)=_:=hk 3 rfl
  exact (jd rfl e3 (Q1.out w_ (Ext.trans (jnQ _).drew hR)).1.1 rfl rfl (by rw [S_sk];rfl))
 refine jnT (fun _=>jnQ _) _ rfl (v:= .agg (cellsOf sk).toArray) (d:=8) rfl rfl ?_ ?_
 ·intro a_ w_ hev hR hk
  have e3:a_.eval (.tmp 3)=_:=hk 3 rfl
  exact (jd rfl e3 (Q1.out w_ (Ext.trans (jnQ _).drew hR)).1.1 rfl rfl (by rw [S_sk];rfl))
 refine jx _ rfl (fun u _=>u= .agg (cellsOf pk).toArray) (d:=9) rfl (fun _ _ _ h _=>h) rfl ?_ ?_
 ·intro a_ w_ hev hR hk K1 hK1
  have e7:a_.eval (.tmp 7)=_:=hk 7 rfl
  clear hk
  have f7:=jz.trans e7
  go_simp
  refine (BAS.out _ (Q1.out w_ (Ext.trans (jnQ _).drew hR)).2.2).mono ?_
  rintro e_ w2_ ⟨rfl,x_⟩
  exact hK1.out _ _ x_ rfl
 refine jnT (fun _=>jnQ _) _ rfl (v:= .agg (cellsOf rr).toArray) (d:=10) rfl rfl ?_ ?_
 ·intro a_ w_ hev hR hk
  have e6:a_.eval (.tmp 6)=_:=hk 6 rfl
  have e8:a_.eval (.tmp 8)=_:=hk 8 rfl
  exact (qe rfl (by simp only [jpG,jpC,jpH,e6,e8];exact BLT.out))
 intro v_ w2 hR hV_ hN_
 obtain ⟨hv3,hv2,hv1,hv0,_⟩:=hV_
 replace hv0:v_ 0=_:=hv0
 replace hv1:v_ 1=_:=hv1
 replace hv2:v_ 2=_:=hv2
 replace hv3:v_ 3=_:=hv3
 dsimp only [yQ,zv]
 clear hN_
 rw [hv0,hv1,hv2,hv3]
 go_frame
 clear hv0 hv1 hv2 hv3
 have kz:=Hj (Q1.out w2 ((jnQ _).drew.trans hR)).2
 refine qi (z:=4) _ rfl rfl (by kernel_rfl) ?_
 intro K1 hK1
 refine joe _ _ _ rfl r (cellsOf rr).toArray rfl rfl 31 (cellsOf zp).toArray kz.out.1.1 (by rw [S_rr];rfl) (by rw [S_rr,S_zp]) O_rr ?_
 refine hK1.out _ _ ?_
 clear hK1 K1
 refine qT (by kernel_rfl) ?_
 clear hR Q1
 go_wp2_with fail
 (try simp only [jpX,Exit.then])
 refine jpY (jpZ rfl _ _ r 31 (cellsOf rr).toArray (0,0) _ rfl (jpe _ _ _ _ _ _ kz.out.1.1) rfl rfl (by rw [S_rr];rfl)) rfl ?_
 exact ⟨rfl,jpd kz.out.2 (by rw [hr_.out];exact joq _) _⟩
end
section
open Go.ChangeShapes Go.WideShapes Go.ChangeAt Go.RowKit Go.Deep Go.Maps
def zP:List UInt8:=j3 [98]
theorem jay:zP.length=64:=yU _
theorem jds:zP.drop 32=jE [98]:=by
 unfold zP
 rw [jaz]
 exact List.drop_left' (qr _ _)
theorem Y6 (x:List UInt8):(j3 x).take 32=jC [] x:=by rw [jaz];exact jpx (qr _ _)
theorem jeN (x:List UInt8):(j3 x).drop 32=jE x:=by rw [jaz];exact List.drop_left' (qr _ _)
def J2 (shared:List UInt8):Rt:=qg (ZU shared (jE [98])) (j3 (jO [120] 0))
theorem jft (shared:List UInt8):qh (ZU shared (jE [98])) (j3 (jO [120] 0))=0:=by
 unfold qh qE
 rw [Y6]
 exact jek _ _
theorem jel (w:World) (x:Int):(convert 33 33 (.slice (some ⟨w.heap.size,0,none⟩) 1 1)).run joz (w.alloc (.cells #[.int .u8 x] 5))= .ok (.slice (some ⟨w.heap.size,0,none⟩) 1 1) (w.alloc (.cells #[.int .u8 x] 5 (1,2))):=Qn w _ 1 1
theorem Bs.one13 (w:World) (x:UInt8) (v:Int) (hv:v=(x.toNat:Int)):Bs (w.alloc (.cells #[.int .u8 v] 5 (1,2))) (some ⟨w.heap.size,0,none⟩) 1 1 [x]:=by
 subst hv
 refine ⟨rfl,joq _,by unfold maxLen;omega,fun _=>⟨w.heap.size,0,rfl,by rw [je];omega,fun j hj=> ?_⟩⟩
 obtain rfl:j=0:=by omega
 rw [jpg _ _ _ _ _ (1,2) (jps _ _)]
 rfl
theorem QD {B:Nat}{w:World}{o o':Obj}(h:B≤w.heap.size):Below B (w.alloc o) (w.alloc o'):=⟨rfl,rfl,rfl,by rw [je,je];exact joq _,fun i hi=>by
 have e:Ext w (w.alloc o):=(jnQ w).alloc o
 have e':Ext w (w.alloc o'):=(jnQ w).alloc o'
 rw [e.block i (by omega),e'.block i (by omega)]⟩
theorem jdr {B x:Nat}{w:World}{o o':Obj}(h:B≤w.heap.size):Ot (fun i=>i=x∨B≤i) (w.alloc o) (w.alloc o'):=by
 have z:=QD (o:=o) (o':=o') h
 exact ⟨z.os,z.tape,z.output,z.size,fun i _ hn=>z.block i (by omega)⟩
def jjJ:List Value:= [.pointer none, .pointer none]
theorem JD (w:World):(joK 28).run joz w= .ok (.agg jjJ.toArray) w:=by kernel_rfl
theorem jd6 (a b:Nat):Tryz.prog.built 28 [(0, .pointer (some ⟨a,0,none⟩)),(1, .pointer (some ⟨b,0,none⟩))]=some #[.pointer (some ⟨a,0,none⟩), .pointer (some ⟨b,0,none⟩)]:=by kernel_rfl
def jh1 (s kp mb g lo:Nat) (shared:List UInt8):Pty:=⟨s,kp,mb,g,lo,[120],1,⟨J2 shared,[],0⟩⟩
def jjk (s kp mb g lo:Nat) (shared:List UInt8):Pty:=⟨s,kp,mb,g,lo,[121],0,⟨YB shared zP,[],0⟩⟩
theorem jbQ {w:World}{shared:List UInt8}(lr:shared.length=32){tg tp:joE×Nat×Nat}(hG:Gl w tg) (hP:Gp w tp):
 Calls joz 17 #[.agg (cellsOf shared).toArray] w fun e w'=>∃ sa ka ma ga la sb kb mb gb lb,e= .returned (.agg #[.pointer (some ⟨sa,0,none⟩), .pointer (some ⟨sb,0,none⟩)])∧Duo w' (jh1 sa ka ma ga la shared) (jjk sb kb mb gb lb shared) tg tp∧Ext w w'∧w.heap.size≤la∧w.heap.size≤lb:=by
 have PAI:Hid (∀ (W:World) (A:Option Addr) (c:Nat),Bs W A 1 c [98]→Calls joz 18 #[.slice A 1 c] W fun e w'=>e= .returned (.agg (cellsOf zP).toArray)∧Ext W w'):=fun W A c h=>jdH h (by omega)
 have NEW:Hid (∀ (W:World) (A:Option Addr) (c:Nat) (x:UInt8),Ext w W→Bs W A 1 c [x]→Calls joz 27 #[.slice A 1 c] W fun e w'=>∃ g,e= .returned (.pointer (some ⟨g,0,none⟩))∧SrcSt w' W.heap.size g [x] 0∧Ext W w'):=fun W A c x e h=>jgs h (by omega) (hG.kept e hG.lt)
 have gl:=hG.lt
 have pl:=hP.lt
 have GG:Hid (∀ W,Ext w W→Gl W tg∧Gp W tp):=fun W e=>⟨hG.kept e hG.lt,hP.ext e⟩
 have BEG:Hid (∀ (W:World) (lo gs:Nat),SrcSt W lo gs [120] 0→Ext w W→1 < lo→Calls joz 26 #[.agg (cellsOf shared).toArray, .agg (cellsOf (jE [98])).toArray, .pointer (some ⟨gs,0,none⟩)] W fun e w'=>SrcSt w' lo gs [120] 1∧W.grownBy w' (some gs)∧∃ sg kp mb,e= .returned (.tuple #[.pointer (some ⟨sg,0,none⟩), .int .i64 0])∧(W.heap.size≤sg∧W.heap.size≤kp∧W.heap.size≤mb)∧SS w' sg kp mb gs ⟨J2 shared,[],0⟩):=fun W lo gs z1 z2 z3=>
  (jbe lr (YH _) z1 (by omega) (GG.out W z2).1 (GG.out W z2).2 z3).mono fun e w' q=>by
    obtain ⟨q1,q2,q3 | q3⟩:=q
    ·exact ⟨q1,q2,q3.2⟩
    ·exact absurd (jft shared) q3.1
 have ANS:Hid (∀ (W:World) (gs:Nat),Calls joz 36 #[.agg (cellsOf shared).toArray, .agg (cellsOf zP).toArray, .pointer (some ⟨gs,0,none⟩)] W fun e w'=>∃ sg kp mb,e= .returned (.pointer (some ⟨sg,0,none⟩))∧(W.heap.size≤sg∧W.heap.size≤kp∧W.heap.size≤mb)∧SS w' sg kp mb gs ⟨YB shared zP,[],0⟩∧Ext W w'):=fun W gs=>Z9 lr jay
 have L_o:=jay
 have PUB:=Hj (fun _:Unit=>jds)
 have Lpb:=YH [98]
 have PSP:Hid (cellsOf zP=cellsOf (zP.take 32)++(cellsOf (jE [98])++ [])):=by
  rw [←jds,List.append_nil,←Yr,List.take_append_drop];exact Hj rfl
 have LPT:(cellsOf (zP.take 32)).length=32:=by rw [ja,jou,jay];rfl
 clear hG hP
 obtain ⟨pA,hpA⟩:∃ f:Nat→Nat→Nat→Nat→Nat→Pty,f=fun s kp mb g lo=>jh1 s kp mb g lo shared:=⟨_,rfl⟩
 obtain ⟨BA0,hBA0⟩:∃ x,x=J2 shared:=⟨_,rfl⟩
 obtain ⟨AN0,hAN0⟩:∃ x,x=YB shared zP:=⟨_,rfl⟩
 rw [←hBA0] at BEG
 rw [←hAN0] at ANS
 have PA:Hid (∀ s kp mb g lo,jh1 s kp mb g lo shared=⟨s,kp,mb,g,lo,[120],1,⟨BA0,[],0⟩⟩):=fun s kp mb g lo=>by rw [hBA0];rfl
 have PB:Hid (∀ s kp mb g lo,jjk s kp mb g lo shared=⟨s,kp,mb,g,lo,[121],0,⟨AN0,[],0⟩⟩):=fun s kp mb g lo=>by rw [hAN0];rfl
 clear hpA pA hBA0 hAN0
 generalize jE [98]=pb at *
 generalize zP=ob at *
 have S_sh:(cellsOf shared).toArray.size=32:=by simp [ja,lr]
 have S_o:(cellsOf ob).toArray.size=64:=by simp [ja,L_o]
 have O_o:=ji ob
 have C_pb:(cellsOf pb).length=32:=by rw [ja,Lpb]
 have halp:=yS
 have L_zp:(jpp 64 (0:UInt8)).length=64:=rfl
 generalize jpp 64 (0:UInt8)=zp at *
 have S_zp:(cellsOf zp).toArray.size=64:=by simp [ja,L_zp]
 have hal2:=JD
 obtain ⟨T0,hT0⟩:∃ x,x=jjJ:=⟨_,rfl⟩
 rw [←hT0] at hal2
 have S_T0:T0.toArray.size=2:=by rw [hT0];rfl
 clear hT0
 obtain ⟨r,hr⟩:=ex_ w.heap.size
 have B0:Hid (Cb ((w.alloc (.cells (cellsOf shared).toArray 23)).alloc (.cells T0.toArray 28)) r 23 (cellsOf shared)∧Cb ((w.alloc (.cells (cellsOf shared).toArray 23)).alloc (.cells T0.toArray 28)) (r+1) 28 T0∧Ext w ((w.alloc (.cells (cellsOf shared).toArray 23)).alloc (.cells T0.toArray 28))):=by rw [hr];exact ⟨jQ _ _ _,jK _ _ _,((jnQ w).alloc _).alloc _⟩
 go_enter Tryz.func17,Tryz.ntmps17
 go_upto_region 1 with fail
 refine jg (fun W=>Cb W r 23 (cellsOf shared)∧Cb W (r+1) 28 T0∧Ext w W) B0.out ?_
 rw [←hr]
 have wr_:w.heap.size≤r:=jod hr.symm
 clear B0
 replace hr:=Hj hr
 rintro w0 ⟨k1,k2,x0⟩
 have P0:Hid (∀ u,Ext w0 u→Cb u r 23 (cellsOf shared)∧Cb u (r+1) 28 T0∧Ext w u):=fun u x=>⟨k1.ext x,k2.ext x,x0.trans x⟩
 have l2:=k2.lt
 have L1:=Hj (PAI.out _ _ _ (Bs.one13 w0 98 98 rfl))
 have cv0:=jel w0 98
 clear k1 k2 x0 PAI
 go_wp2_with fail
 refine L1.out.mono ?_
 rintro e w1 ⟨rfl,x1⟩
 have y1:=Hj (((jnQ w0).alloc (.cells #[.int .u8 98] 5 (1,2))).trans x1)
 have Y:Hid (Cb ((w1.alloc (.cells (cellsOf zp).toArray 31)).setRow w1.heap.size (cellsOf ob).toArray) w1.heap.size 31 (cellsOf ob)∧Ext w1 ((w1.alloc (.cells (cellsOf zp).toArray 31)).setRow w1.heap.size (cellsOf ob).toArray)):=⟨Cb.set (Cb.new _ _ _),Ext.newRow _ _ _⟩
 have w01:=y1.out.size
 clear L1 x1 cv0
 go_upto_region 2 with (refine ws_ rfl 31 rfl w1.heap.size (cellsOf ob).toArray rfl rfl (jps _ _) (by rw [S_o];rfl) (by rw [S_o,S_zp]) O_o ?_;simp only [joT])
 obtain ⟨g3,hg3⟩:∃ x,x=w1.heap.size:=⟨_,rfl⟩
 refine jg (fun W=>Cb W w1.heap.size 31 (cellsOf ob)∧Ext w1 W) Y.out ?_
 rw [←hg3]
 have w1g:w1.heap.size≤g3:=jod hg3.symm
 clear Y
 replace hg3:=Hj hg3
 rintro w2 ⟨k3,x2⟩
 have P2:Hid (∀ u,Below w2.heap.size w2.drew u→Cb u g3 31 (cellsOf ob)∧Cb u r 23 (cellsOf shared)∧Cb u (r+1) 28 T0∧Ext w u):=fun u x=>by
  have x':Ext w2 u:=Ext.trans (jnQ w2).drew x
  obtain ⟨a1,a2,a3⟩:=P0.out u ((y1.out.trans x2).trans x')
  exact ⟨k3.ext x',a1,a2,a3⟩
 have P2m:Hid (∀ u,Below w2.heap.size w2.drew u→∀ j v,(cellsOf pb)[j]? =some v→u.cell? ⟨g3,32+j,none⟩=some v):=fun u x=>(P2.out u x).1.mid PSP.out LPT
 have l3:=k3.lt
 clear P0 k3 x2 y1
 refine qgB w2.heap.size [0,1,2,3,4,5,6,7,8,9,10,11] [3,4,5,6] ?_
 refine qV rfl (fun w'=>w'.heap[r]? =some (.cells (cellsOf shared).toArray 23 (0,0))) (fun w' e=>(P2.out w' e).2.1) (.agg (cellsOf shared).toArray) (fun w' hF=>jd rfl rfl hF rfl rfl (by rw [S_sh];rfl)) ?_
 go_frame
 repeat ((first | refine qR0 ?_ | refine qS ?_);go_frame)
 refine qV rfl (fun w'=>∀ q_ v,(cellsOf pb)[q_]? =some v→w'.cell? ⟨g3,32+q_,none⟩=some v) (fun w' e=>P2m.out w' e) (.agg (cellsOf pb).toArray) (fun w' hF=>jy rfl rfl hF rfl rfl (by rw [C_pb];rfl)) ?_
 go_frame
 have X2:Hid (Below w2.heap.size w2.drew w2.drew):=joo _ _
 have z2:w2.heap.size≤w2.drew.heap.size:=joq _
 generalize w2.drew=V at *
 refine qD fun K hK=> ?_
 go_simp
 have b3:=Hj (Bs.one13 V 120 120 rfl)
 have e3:Ext V (V.alloc (.cells #[.int .u8 120] 5 (1,2))):=(jnQ V).alloc _
 have cv:=jel V 120
 refine hK.out _ _ (((jnQ V).alloc _).mono z2) ?_
 clear hK K
 try go_frame
 refine qD fun K hK=> ?_
 go_simp
 refine hK.out _ _ (QD z2) ?_
 clear hK K
 try go_frame
 replace X2:=Hj (jop X2.out (e3.mono z2))
 clear cv
 repeat ((first | refine qR0 ?_ | refine qS ?_);go_frame)
 have N3:=Hj (NEW.out _ _ _ 120 (P2.out _ X2.out).2.2.2 b3.out)
 have z3:w2.heap.size≤(V.alloc (.cells #[.int .u8 120] 5 (1,2))).heap.size:=jo2 z2 e3.size
 clear e3 b3
 generalize V.alloc (.cells #[.int .u8 120] 5 (1,2))=V3 at *
 refine qD fun K hK=> ?_
 go_simp
 refine N3.out.mono ?_
 rintro e w4 ⟨ga,rfl,s4,x4⟩
 refine hK.out _ _ (x4.mono z3) ?_
 clear hK K
 try go_frame
 replace X2:=Hj (jop X2.out (x4.mono z3))
 have z4:=jo2 z3 x4.size
 have ws:=(P2.out _ X2.out).2.2.2.size
 have wV3:w.heap.size≤V3.heap.size:=by omega
 have lga:=s4.1
 have BG:=Hj (BEG.out w4 V3.heap.size ga s4 (P2.out _ X2.out).2.2.2 (by omega))
 obtain ⟨la,hla⟩:∃ x,x=V3.heap.size:=⟨_,rfl⟩
 rw [←hla] at BG lga
 have wla:w2.heap.size≤la:=by omega
 have lgs:=s4.lt
 clear N3 s4 x4 BEG hla
 repeat ((first | refine qR0 ?_ | refine qS ?_);go_frame)
 refine qD fun K hK=> ?_
 go_simp
 refine BG.out.mono ?_
 rintro e w5 ⟨s5,g5,sa,ka,ma,rfl,⟨l1,l2',l3'⟩,ss5⟩
 have X5:Below w2.heap.size w4 w5:=⟨g5.os,g5.tape,g5.output,g5.size,fun i hi=>g5.block i (by omega) (fun z=>by have:=joF z;omega)⟩
 refine hK.out _ _ X5 ?_
 clear hK K
 try go_frame
 replace X2:=Hj (jop X2.out X5)
 have z5:=jo2 z4 g5.size
 replace s5:=Hj s5
 replace ss5:=Hj ss5
 clear BG X5 g5
 repeat ((first | refine qR0 ?_ | refine qS ?_);go_frame)
 refine jp ?_
 have P5:Hid (∀ u,Ext w5 u→Cb u g3 31 (cellsOf ob)∧Cb u r 23 (cellsOf shared)∧Cb u (r+1) 28 T0∧Ext w u):=fun u x=>P2.out u (jop X2.out (x.mono z5))
 have lsa:=ss5.out.sl
 have lka:=ss5.out.kl
 have lma:=ss5.out.ml
 clear P2 P2m X2
 go_upto_region 5 with fail
 have P6:Hid (∀ u,Ot (fun i=>i=r+1∨w5.heap.size≤i) w5.drew u→Cb u g3 31 (cellsOf ob)∧Cb u r 23 (cellsOf shared)):=fun u x=>by
  obtain ⟨a1,a2,_,_⟩:=P5.out w5.drew (jnQ w5).drew
  have a1l:=a1.lt
  have a2l:=a2.lt
  have q5:w5.drew.heap.size=w5.heap.size:=rfl
  exact ⟨x.block a1 (by omega),x.block a2 (by omega)⟩
 have z50:w5.heap.size≤w5.drew.heap.size:=joq _
 have X6:Hid (Ext w5 w5.drew):=(jnQ w5).drew
 refine qgR (R:=Ot (fun i=>i=r+1∨w5.heap.size≤i)) (Ot.refl _) (fun _ _ _=>Ot.trans) [0,1,2,3,4,5,6,7,8] [3,4,5,6,8] ?_
 repeat ((first | refine qR0 ?_ | refine qS ?_);go_frame)
 refine qV rfl (fun w'=>w'.heap[r]? =some (.cells (cellsOf shared).toArray 23 (0,0))) (fun w' e=>(P6.out w' e).2) (.agg (cellsOf shared).toArray) (fun w' hF=>jd rfl rfl hF rfl rfl (by rw [S_sh];rfl)) ?_
 go_frame
 refine qV rfl (fun w'=>w'.heap[g3]? =some (.cells (cellsOf ob).toArray 31 (0,0))) (fun w' e=>(P6.out w' e).1) (.agg (cellsOf ob).toArray) (fun w' hF=>jd rfl rfl hF rfl rfl (by rw [S_o];rfl)) ?_
 go_frame
 generalize w5.drew=V at *
 refine qD fun K hK=> ?_
 go_simp
 have b3:=Hj (Bs.one13 V 121 121 rfl)
 have e3:Ext V (V.alloc (.cells #[.int .u8 121] 5 (1,2))):=(jnQ V).alloc _
 have cv:=jel V 121
 refine hK.out _ _ (Ot.of_ext ((jnQ V).alloc _)) ?_
 clear hK K
 try go_frame
 refine qD fun K hK=> ?_
 go_simp
 refine hK.out _ _ (jdr z50) ?_
 clear hK K
 try go_frame
 replace X6:=Hj (X6.out.trans e3)
 clear cv
 repeat ((first | refine qR0 ?_ | refine qS ?_);go_frame)
 have N3:=Hj (NEW.out _ _ _ 121 (P5.out _ X6.out).2.2.2 b3.out)
 clear e3 b3 NEW
 generalize V.alloc (.cells #[.int .u8 121] 5 (1,2))=V3 at *
 refine qD fun K hK=> ?_
 go_simp
 refine N3.out.mono ?_
 rintro e w7 ⟨gb,rfl,s7,x7⟩
 refine hK.out _ _ (Ot.of_ext x7) ?_
 clear hK K
 try go_frame
 have z6:=X6.out.size
 replace X6:=Hj (X6.out.trans x7)
 obtain ⟨lb,hlb⟩:∃ x,x=V3.heap.size:=⟨_,rfl⟩
 rw [←hlb] at s7 z6
 have lgb:=s7.1
 have lgs7:=s7.lt
 replace s7:=Hj s7
 clear N3 x7 hlb
 repeat ((first | refine qR0 ?_ | refine qS ?_);go_frame)
 have AN:=Hj (ANS.out w7 gb)
 clear ANS
 refine qD fun K hK=> ?_
 go_simp
 refine AN.out.mono ?_
 rintro e w8 ⟨sb,kb,mb,rfl,⟨m1,m2,m3⟩,ss8,x8⟩
 refine hK.out _ _ (Ot.of_ext x8) ?_
 clear hK K
 try go_frame
 refine qV rfl (fun _=>True) (fun _ _=>trivial) (.agg #[.pointer (some ⟨sa,0,none⟩), .pointer (some ⟨sb,0,none⟩)]) (fun w' _=>qe rfl (by simp only [jpG,jpC,jpH];exact jd6 sa sb)) ?_
 go_frame
 replace X6:=Hj (X6.out.trans x8)
 obtain ⟨_,_,k2,xw⟩:=P5.out w8 X6.out
 replace k2:Hid (Cb w8 (r+1) 28 T0):=k2
 have g8:=GG.out w8 xw
 have sA:=s5.out.ext X6.out
 have ssA:=ss5.out.ext X6.out
 have sB:=s7.out.ext x8
 have nr:r+1 < w2.heap.size:=by omega
 have RW:w8.grownBy (w8.setRow (r+1) #[.pointer (some ⟨sa,0,none⟩), .pointer (some ⟨sb,0,none⟩)]) (some (r+1)):=qG _ _ _
 have FIN:Hid (Duo (w8.setRow (r+1) #[.pointer (some ⟨sa,0,none⟩), .pointer (some ⟨sb,0,none⟩)]) (jh1 sa ka ma ga la shared) (jjk sb kb mb gb lb shared) tg tp∧Ext w (w8.setRow (r+1) #[.pointer (some ⟨sa,0,none⟩), .pointer (some ⟨sb,0,none⟩)])):=by
  have hb:∀ i,i < w8.heap.size→i≠r+1→(w8.setRow (r+1) #[.pointer (some ⟨sa,0,none⟩), .pointer (some ⟨sb,0,none⟩)]).heap[i]? =w8.heap[i]? :=fun i hi hne=>RW.block i hi (fun z=>hne (joF z))
  rw [PA.out,PB.out]
  refine ⟨⟨⟨ssA.stay (hb _ ssA.sl (by omega)) (hb _ ssA.kl (by omega)) (hb _ ssA.ml (by omega)),sA.other RW (.inl (by omega)),by dsimp only;omega,by dsimp only;omega⟩,⟨ss8.stay (hb _ ss8.sl (by omega)) (hb _ ss8.kl (by omega)) (hb _ ss8.ml (by omega)),sB.other RW (.inl (by omega)),by dsimp only;omega,by dsimp only;omega⟩,by dsimp only;omega,⟨by unfold Off;dsimp only;omega,by unfold Off;dsimp only;omega⟩,⟨by unfold Off;dsimp only;omega,by unfold Off;dsimp only;omega⟩,(hb _ g8.1.lt (by omega)).trans g8.1,(hb _ g8.2.lt (by omega)).trans g8.2⟩,jpd xw (by omega) _⟩
 have OO: #[jon (some ⟨sa,0,none⟩), .pointer (some ⟨sb,0,none⟩)].all (·.oneCell')=true:=qC (L:= [jon (some ⟨sa,0,none⟩), .pointer (some ⟨sb,0,none⟩)]) (fun v hv=>by
  rcases joG.1 hv with rfl | hv
  ·rfl
  ·rcases joG.1 hv with rfl | hv
   ·rfl
   ·cases hv)
 clear P5 P6 X6 s5 ss5 s7 ss8 x8 sA ssA sB g8 xw RW AN PA PB GG
 refine qD fun K hK=> ?_
 refine joe _ _ _ rfl (r+1) #[.pointer (some ⟨sa,0,none⟩), .pointer (some ⟨sb,0,none⟩)] rfl rfl 28 T0.toArray k2.out rfl (by rw [S_T0];rfl) OO ?_
 refine hK.out _ _ (Ot.row _ _ (.inl rfl)) ?_
 clear hK K
 try simp only [joT]
 refine jp ?_
 go_wp2_with fail
 (try simp only [jpX,Exit.then])
 refine jpY (jpZ rfl _ _ (r+1) 28 #[.pointer (some ⟨sa,0,none⟩), .pointer (some ⟨sb,0,none⟩)] (0,0) _ rfl (jpe _ _ _ _ _ _ k2.out) rfl rfl rfl) rfl ?_
 exact ⟨sa,ka,ma,ga,la,sb,kb,mb,gb,lb,rfl,FIN.out.1,FIN.out.2,by omega,by omega⟩
end
section
open Go.ChangeShapes Go.WideShapes Go.ChangeAt Go.RowKit Go.Deep
theorem jgQ {ks ns:List UInt8}{n:Nat}{bs:List UInt8}:yY ks ns n (yY ks ns n bs)=bs:=by
 refine Y0 (by rw [yE,yE]) fun j hj=> ?_
 rw [yE,yE] at hj
 rw [jad (by rw [yE];exact hj),jad hj,Nat.xor_assoc,Nat.xor_self,Nat.xor_zero]
theorem jdO (ks bs:List UInt8):zi ks (zi ks bs)=bs:=jgQ
theorem jaO {ks bs ts:List UInt8}{n:Nat}(h:ts.length=n):(qA ks bs ts).take n=zi ks ts:=by
 unfold qA
 exact jpx (by rw [JW];exact h)
theorem je0 {ks bs ts:List UInt8}{n:Nat}(h:ts.length=n):(qA ks bs ts).drop n=YI ks bs (zi ks ts):=by
 unfold qA
 exact List.drop_left' (by rw [JW];exact h)
end
section
open Go.ChangeShapes Go.WideShapes Go.ChangeAt Go.RowKit Go.Deep Go.Maps
theorem jdq (k data text:List UInt8):J4 k data (qA k data text)=0∧J5 k data (qA k data text)=text:=by
 have hl:=JV k data text
 have h1: ¬ (qA k data text).length < 32:=by omega
 have h2:(qA k data text).length - 32=text.length:=by omega
 have h3:YI k data ((qA k data text).take text.length)=(qA k data text).drop text.length:=by rw [jaO rfl,je0 rfl]
 unfold J4 J5
 rw [if_neg h1,if_neg h1,h2,if_pos h3,if_pos h3,jaO rfl,jdO]
 exact ⟨rfl,rfl⟩
structure Ahead (s u:Rt) (x y:List UInt8):Prop where
 own:s.own=j3 x
 uown:u.own=j3 y
 si:s.si=true
 mt:s.mt=false
 ho:s.ho=true
 ot:s.ot=jE y
 un: ¬(u.ho=true∧jE x=u.ot)
 root:s.root=jM (jC u.root (zu (jC [] x) (jE y))) yG
 sc:s.sc=Yg (jM (jC u.root (zu (jC [] x) (jE y))) vI) s.sm.toNat
 sm:0≤s.sm
 fwd:u.ri=true→s.bf≤u.rm
structure Insync (s u:Rt) (x y:List UInt8):Prop where
 own:s.own=j3 x
 uown:u.own=j3 y
 si:s.si=true
 mt:s.mt=false
 ho:s.ho=true
 ot:s.ot=jE y
 uho:u.ho=true
 uot:u.ot=jE x
 umt:u.mt=true
 uri:u.ri=true
 root:s.root=u.root
 sc:s.sc=Yg u.rc (s.sm - u.rm).toNat
 rm:0≤u.rm∧u.rm≤s.sm
theorem jiy {s:Rt}{x:List UInt8}(h:s.own=j3 x):s.sec=jC [] x:=by unfold Rt.sec;rw [h,Y6]
theorem jaE {s:Rt}{x:List UInt8}(h:s.own=j3 x):s.pub=jE x:=by unfold Rt.pub;rw [h,jeN]
theorem jf9 (a b:List UInt8):zu (jC [] a) (jE b)=zu (jC [] b) (jE a):=jhh
theorem QX {s u:Rt}{x y:List UInt8}(h:Ahead s u x y):YG u (jE x)=0∧Insync s (za u (jE x)) x y∧(za u (jE x)).rm=0∧(za u (jE x)).sm=u.sm:=by
 have hc:YY u (jE x)=zu (jC [] x) (jE y):=by unfold YY;rw [jiy h.uown];exact jf9 y x
 have he:YG u (jE x)=0:=by unfold YG;rw [hc];exact jek _ _
 have hs:za u (jE x)={u with root:=s.root,ri:=true,rc:=jM (jC u.root (zu (jC [] x) (jE y))) vI,rm:=0,ho:=true,ot:=jE x,mt:=true}:=by
  unfold za
  rw [if_pos he,hc,h.root]
 rw [hs]
 refine ⟨he,⟨h.own,h.uown,h.si,h.mt,h.ho,h.ot,rfl,rfl,rfl,rfl,rfl,?_,jok 0,h.sm⟩,rfl,rfl⟩
 show s.sc=Yg (jM (jC u.root (zu (jC [] x) (jE y))) vI) (s.sm - 0).toNat
 rw [Int.sub_zero]
 exact h.sc
theorem jbD {s u:Rt}{x y:List UInt8}(h:Ahead s u x y) (L:List Ke) (p:Int):opA ⟨u,L,p⟩ (jE x) s.bf=(⟨za u (jE x),L,p⟩,0):=by
 obtain ⟨_,_,_,A4⟩:=jcu ⟨u,L,p⟩ (jE x) s.bf
 rw [A4 h.un (fun z=>by have:=h.fwd z.1;have z2:=z.2;dsimp only at z2;omega)]
 rw [(QX h).1]
theorem jdo {s u:Rt}{x y:List UInt8}(h:Insync s u x y) (L:List Ke) (p prev:Int):opA ⟨u,L,p⟩ (jE x) prev=(⟨u,L,p⟩,0):=(jcu ⟨u,L,p⟩ (jE x) prev).1 h.uho h.uot.symm
theorem jgG (u:Rt) (L:List Ke) (p:Int):qO u u.rm=0∧jX ⟨u,L,p⟩ u.rm=⟨u,L,p⟩:=by
 have h0:Jf u u.rm=0:=by unfold Jf;omega
 have e:qO u u.rm=0:=by unfold qO;rw [h0];rfl
 refine ⟨e,?_⟩
 have:=(yu ⟨u,L,p⟩ u.rm).2 e
 rw [this]
 have hw:wkL u u.rm= []:=by unfold wkL;rw [if_pos e,h0];rfl
 have hc:wkC u u.rm=u.rc:=by unfold wkC;rw [if_pos e,h0];rfl
 dsimp only
 rw [hw,hc]
 rfl
theorem jbM {s u:Rt}{x y:List UInt8}(h:Insync s u x y) (hm:u.rm=s.sm) (p:Int) (data text:List UInt8):
 zj ⟨u,[],p⟩ s.sm data (qA (jM s.sc qd) data text)=(⟨yX u,[],p⟩,text,0)∧Insync (jW s) (yX u) x y∧(yX u).rm=(jW s).sm:=by
 obtain ⟨e0,e1⟩:=jgG u [] p
 have hsc:s.sc=u.rc:=by have:=h.sc;rw [hm,Int.sub_self] at this;exact this
 obtain ⟨_,_,B3⟩:=jnA ⟨u,[],p⟩ s.sm
 rw [←hm] at B3 ⊢
 have hB:opB ⟨u,[],p⟩ u.rm=(⟨yX u,[],p⟩,0):=by
  rw [B3 (by rintro (z | z);dsimp only at z;rw [h.uri] at z;cases z;dsimp only at z;omega) e0,e1]
 have hK:opK ⟨u,[],p⟩ u.rm=jM s.sc qd:=by unfold opK;rw [e1,hsc]
 refine ⟨?_,⟨h.own,h.uown,h.si,h.mt,h.ho,h.ot,h.uho,h.uot,h.umt,h.uri,h.root,?_,?_⟩,?_⟩
 ·unfold zj
  rw [hB,if_neg (fun z=>z rfl),hK]
  rw [(jdq _ _ _).1,(jdq _ _ _).2]
 ·show jM s.sc vI=Yg (jM u.rc vI) (s.sm+1 - (u.rm+1)).toNat
  rw [hsc,show s.sm+1 - (u.rm+1)=0 by omega]
  rfl
 ·show 0≤u.rm+1∧u.rm+1≤s.sm+1
  have:=h.rm;omega
 ·show u.rm+1=s.sm+1
  omega
theorem jal {s u:Rt}{x y:List UInt8}(h:Ahead s u x y) (h0:s.sm=0) (p:Int) (bs text:List UInt8) (hk:okH s.bf s.sm=true):
 yt ⟨u,[],p⟩ bs (jE x) s.bf s.sm (qA (jM s.sc qd) (qb bs (jE x) s.bf s.sm) text)=0∧Ym ⟨u,[],p⟩ bs (jE x) s.bf s.sm (qA (jM s.sc qd) (qb bs (jE x) s.bf s.sm) text)=text∧
 zf ⟨u,[],p⟩ bs (jE x) s.bf s.sm (qA (jM s.sc qd) (qb bs (jE x) s.bf s.sm) text)=⟨yX (za u (jE x)),[],p⟩∧Insync (jW s) (yX (za u (jE x))) x y∧(yX (za u (jE x))).rm=(jW s).sm:=by
 obtain ⟨_,f2,f3,_⟩:=QX h
 obtain ⟨t1,t2,t3⟩:=jbM f2 (f3.trans h0.symm) p (qb bs (jE x) s.bf s.sm) text
 have ho:vZ ⟨u,[],p⟩ (jE x) s.bf s.sm (qb bs (jE x) s.bf s.sm) (qA (jM s.sc qd) (qb bs (jE x) s.bf s.sm) text)=(⟨yX (za u (jE x)),[],p⟩,text,0):=by
  rw [(QI _ _ _ _ _ _).2.2 rfl (by rw [jbD h]),jbD h]
  exact t1
 have e:yt ⟨u,[],p⟩ bs (jE x) s.bf s.sm (qA (jM s.sc qd) (qb bs (jE x) s.bf s.sm) text)=0:=by unfold yt;rw [hk,ho];rfl
 exact ⟨e,by unfold Ym;rw [if_pos e,ho],by unfold zf;rw [if_pos e,ho],t2,t3⟩
theorem jgi {s u:Rt}{x y:List UInt8}(h:Insync s u x y) (hm:u.rm=s.sm) (p:Int) (bs text:List UInt8) (hk:okH s.bf s.sm=true):
 yt ⟨u,[],p⟩ bs (jE x) s.bf s.sm (qA (jM s.sc qd) (qb bs (jE x) s.bf s.sm) text)=0∧Ym ⟨u,[],p⟩ bs (jE x) s.bf s.sm (qA (jM s.sc qd) (qb bs (jE x) s.bf s.sm) text)=text∧
 zf ⟨u,[],p⟩ bs (jE x) s.bf s.sm (qA (jM s.sc qd) (qb bs (jE x) s.bf s.sm) text)=⟨yX u,[],p⟩∧Insync (jW s) (yX u) x y∧(yX u).rm=(jW s).sm:=by
 obtain ⟨t1,t2,t3⟩:=jbM h hm p (qb bs (jE x) s.bf s.sm) text
 have ho:vZ ⟨u,[],p⟩ (jE x) s.bf s.sm (qb bs (jE x) s.bf s.sm) (qA (jM s.sc qd) (qb bs (jE x) s.bf s.sm) text)=(⟨yX u,[],p⟩,text,0):=by
  rw [(QI _ _ _ _ _ _).2.2 rfl (by rw [jdo h]),jdo h]
  exact t1
 have e:yt ⟨u,[],p⟩ bs (jE x) s.bf s.sm (qA (jM s.sc qd) (qb bs (jE x) s.bf s.sm) text)=0:=by unfold yt;rw [hk,ho];rfl
 exact ⟨e,by unfold Ym;rw [if_pos e,ho],by unfold zf;rw [if_pos e,ho],t2,t3⟩
theorem jff {s u:Rt}{x y z:List UInt8}(h:Insync s u x y) (hm:u.rm=s.sm) (rev:s.ri=true→u.sm≤s.rm) (hz:jE z≠jE y):
 qh u (j3 z)=0∧Ahead (qg u (j3 z)) s z x∧(qg u (j3 z)).sm=0∧(qg u (j3 z)).bf=u.sm∧(qg u (j3 z)).ri=true∧(qg u (j3 z)).rm=s.sm:=by
 have hc:qE u (j3 z)=zu (jC [] z) (jE x):=by unfold qE;rw [Y6,h.uot]
 have he:qh u (j3 z)=0:=by unfold qh;rw [hc];exact jek _ _
 have hs:qg u (j3 z)={u with own:=j3 z,root:=jM (jC s.root (zu (jC [] z) (jE x))) yG,bf:=u.sm,si:=true,sc:=jM (jC s.root (zu (jC [] z) (jE x))) vI,sm:=0,mt:=false}:=by
  unfold qg
  rw [if_pos he,hc,h.root]
 rw [hs]
 refine ⟨he,⟨rfl,h.own,rfl,rfl,h.uho,h.uot,fun q=>hz ?_,rfl,rfl,jok 0,rev⟩,rfl,rfl,h.uri,hm⟩
 rw [←h.ot];exact q.2
theorem Zw (shared:List UInt8):Ahead (J2 shared) (YB shared zP) (jO [120] 0) [98]∧(J2 shared).sm=0∧(J2 shared).bf=0∧(J2 shared).ri=false:=by
 have he:=jft shared
 have hc:qE (ZU shared (jE [98])) (j3 (jO [120] 0))=zu (jC [] (jO [120] 0)) (jE [98]):=by unfold qE;rw [Y6];rfl
 have hs:J2 shared={ZU shared (jE [98]) with own:=j3 (jO [120] 0),root:=jM (jC shared (zu (jC [] (jO [120] 0)) (jE [98]))) yG,bf:=0,si:=true,sc:=jM (jC shared (zu (jC [] (jO [120] 0)) (jE [98]))) vI,sm:=0,mt:=false}:=by
  unfold J2 qg
  rw [if_pos he,hc]
  rfl
 rw [hs]
 exact ⟨⟨rfl,rfl,rfl,rfl,rfl,rfl,(fun q=>absurd q.1 (fun z=>by cases z)),rfl,rfl,jok 0,(fun q=>by cases q)⟩,rfl,rfl,rfl⟩
theorem jeZ {s:Rt}{p text:List UInt8}(si:s.si=true) (mt:s.mt=false) (ht:text.length≤300) (hk:okH s.bf s.sm=true):
 qW s p text=0∧yj s p text=jW s∧yI s p text=hdC s.pub s.bf s.sm∧(∀ bs,yH s p bs text=qA (jM s.sc qd) (qb bs s.pub s.bf s.sm) text)∧∀ k,yg s text k=k:=by
 have hT:qN s p=s:=by unfold qN;rw [mt];rfl
 have e:qW s p text=0:=by
  unfold qW
  rw [if_neg (fun z=>by rw [si] at z;cases z.1),if_neg (by omega),if_neg (fun z=>by rw [mt] at z;cases z.1),hT,hk]
  rfl
 refine ⟨e,by unfold yj;rw [if_pos e,hT],by unfold yI;rw [if_pos e,hT],fun bs=>by unfold yH;rw [if_pos e,hT],fun k=>by unfold yg;rw [if_pos (.inr (.inr mt))]⟩
theorem jix {s:Rt}{p text:List UInt8}(mt:s.mt=true) (he:qh s p=0) (ht:text.length≤300) (hk:okH (qg s p).bf (qg s p).sm=true):
 qW s p text=0∧yj s p text=jW (qg s p)∧yI s p text=hdC (qg s p).pub (qg s p).bf (qg s p).sm∧(∀ bs,yH s p bs text=qA (jM (qg s p).sc qd) (qb bs (qg s p).pub (qg s p).bf (qg s p).sm) text)∧∀ k,yg s text k=k+1:=by
 have hT:qN s p=qg s p:=by unfold qN;rw [mt];rfl
 have e:qW s p text=0:=by
  unfold qW
  rw [if_neg (fun z=>by rw [mt] at z;cases z.2),if_neg (by omega),if_neg (fun z=>z.2 he),hT,hk]
  rfl
 refine ⟨e,by unfold yj;rw [if_pos e,hT],by unfold yI;rw [if_pos e,hT],fun bs=>by unfold yH;rw [if_pos e,hT],fun k=>by unfold yg;rw [if_neg (by rintro (z | z | z);rw [mt] at z;cases z.2;omega;rw [mt] at z;cases z)]⟩
theorem jiV (w:World) (o:Obj) (C:Array Value) (n c:Nat):(convert 33 33 (.slice (some ⟨w.heap.size+1,0,none⟩) n c)).run joz ((w.alloc o).alloc (.cells C 5))= .ok (.slice (some ⟨w.heap.size+1,0,none⟩) n c) ((w.alloc o).alloc (.cells C 5 (C.size,C.size+1))):=by
 have:=Qn (w.alloc o) C n c
 rwa [je] at this
theorem Bs.lit13 (w:World) (t:joE) (fr:Nat×Nat) (xs:List UInt8) (cs:Array Value) (hcs:cs=(xs.map fun x=>joC .u8 (x.toNat:Int)).toArray) (n:Nat) (hn:xs.length=n) (hm:n≤1000000):
 Bs (w.alloc (.cells cs t fr)) (some ⟨w.heap.size,0,none⟩) n n xs:=by
 refine ⟨hn,joq _,by unfold maxLen;omega,fun _=>⟨w.heap.size,0,rfl,by rw [je];omega,fun j hj=> ?_⟩⟩
 rw [jpg _ _ _ _ _ fr (jps _ _),hcs]
 simp [bt,jot,show j < xs.length by omega]
theorem Bs.two13 {w u:World}{b off n c i j:Nat}{xs:List UInt8}(h:Bs w (some ⟨b,off,none⟩) n c xs) (x:Two i j w u) (h1:b≠i) (h2:b≠j):Bs u (some ⟨b,off,none⟩) n c xs:=
 ⟨h.1,h.2.1,h.2.2.1,fun h0=>by
   obtain ⟨b',off',e,hb,hc⟩:=h.2.2.2 h0
   cases e
   exact ⟨b,off,rfl,jos hb x.2.2.2.1,fun k hk=>(World.cell?_of_block (x.2.2.2.2 b hb h1 h2)).trans (hc k hk)⟩⟩
theorem JP {w:World}{a b:Pty}{tg tp:joE×Nat×Nat}(h:Duo w a b tg tp){A B:Option Addr}{m1 c1 m2 c2:Nat}{bs text:List UInt8}(hk:a.k < 1000000) (hm1:m1≤900000) (hM:∀ u,Two a.s a.g w u→Bs u A m1 c1 bs∧Bs u B m2 c2 text)
 {E:Int} {H:List Value} {SB:List UInt8} {S':Rt} {K':Nat} (hE:qW a.t.s a.pair text=E) (hH:yI a.t.s a.pair text=H) (hB:yH a.t.s a.pair bs text=SB) (hS:yj a.t.s a.pair text=S') (hK:yg a.t.s text a.k=K'):
 Calls joz 21 #[.pointer (some ⟨a.s,0,none⟩), .slice A m1 c1, .slice B m2 c2] w fun e w'=>∃ A' n' c',e= .returned (.tuple #[.agg H.toArray, .slice A' n' c', .int .i64 E])∧Own w.heap.size w' A' n' c' SB∧Duo w' {a with k:=K',t:=⟨S',a.t.L,a.t.puts⟩} b tg tp∧Two a.s a.g w w':=by
 subst hE hH hB hS hK
 exact jhl h hk hm1 hM
theorem jbw {w:World}{a b:Pty}{tg tp:joE×Nat×Nat}(h:Duo w a b tg tp){A B:Option Addr}{m1 c1 m2 c2:Nat}{bs body pk:List UInt8}{prev n:Int}(hp:a.t.puts≤1000000000) (hb:Bs w A m1 c1 bs) (hb':Bs w B m2 c2 body) (hm1:m1≤900000) (hm2:m2≤1000000) (lp:pk.length=32)
 {E:Int} {T:List UInt8} {S':Rz} (hE:yt a.t bs pk prev n body=E) (hT:Ym a.t bs pk prev n body=T) (hS:zf a.t bs pk prev n body=S'):
 Calls joz 23 #[.pointer (some ⟨a.s,0,none⟩), .slice A m1 c1, .agg (hdC pk prev n).toArray, .slice B m2 c2] w fun e w'=>∃ A' n' c' kp' mb',e= .returned (.tuple #[.slice A' n' c', .int .i64 E])∧Own w.heap.size w' A' n' c' T∧Duo w' {a with kp:=kp',mb:=mb',t:=S'} b tg tp∧w.grownBy w' (some a.s):=by
 subst hE hT hS
 exact jhk h hp hb hb' hm1 hm2 lp
def Qe:List UInt8:=1::jpp 31 0
theorem jde:Tryz.prog.built 23 [(0, .int .u8 1)]=some (cellsOf Qe).toArray:=by kernel_rfl
theorem jg5 (shared:List UInt8) (p text bs:List UInt8) (k:Nat):qW (YB shared zP) p text=7∧yj (YB shared zP) p text=YB shared zP∧yI (YB shared zP) p text=hdC (jpp 32 0) 0 0∧yH (YB shared zP) p bs text= []∧yg (YB shared zP) text k=k:=by
 have e:qW (YB shared zP) p text=7:=by unfold qW;rw [if_pos ⟨rfl,rfl⟩]
 exact ⟨e,by unfold yj;rw [e];rfl,by unfold yI;rw [e];rfl,by unfold yH;rw [e];rfl,by unfold yg;rw [if_pos (.inl ⟨rfl,rfl⟩)]⟩
theorem jbd {w:World}{tg tp:joE×Nat×Nat}(hG:Gl w tg) (hP:Gp w tp):
 Calls joz 15 #[] w fun e w'=>e= .returned (.bool true)∧Ext w w':=by
 have TW:=Hj (jbQ (w:=w) (shared:=Qe) rfl hG hP)
 have bk:=Hj jde
 have gl:=hG.lt
 have pl:=hP.lt
 obtain ⟨mE,mS,mH,mB,mK⟩:=jg5 Qe (j3 (jO [121] 0)) [] [] 0
 obtain ⟨aA,a0,a1,a2⟩:=Zw Qe
 have okA:okH (J2 Qe).bf (J2 Qe).sm=true:=by rw [a0,a1];rfl
 obtain ⟨sE,sS,sH,sB,sK⟩:=jeZ (p:=j3 (jO [120] 1)) (text:= [104,101,108,108,111]) aA.si aA.mt (by decide) okA
 obtain ⟨hE,hT,_,_,_⟩:=jal aA a0 0 [120] [104,101,108,108,111] okA
 rw [jaE aA.own] at sH sB
 have SB1:=sB [120]
 clear hG hP aA a0 a1 a2 sB
 obtain ⟨ans,hans⟩:∃ x,x=YB Qe zP:=⟨_,rfl⟩
 obtain ⟨beg,hbeg⟩:∃ x,x=J2 Qe:=⟨_,rfl⟩
 have TW2:Hid (Calls joz 17 #[.agg (cellsOf Qe).toArray] w fun e w'=>∃ sa ka ma ga la sb kb mb gb lb,e= .returned (.agg #[.pointer (some ⟨sa,0,none⟩), .pointer (some ⟨sb,0,none⟩)])∧Duo w' ⟨sa,ka,ma,ga,la,[120],1,⟨beg,[],0⟩⟩ ⟨sb,kb,mb,gb,lb,[121],0,⟨ans,[],0⟩⟩ tg tp∧Ext w w'∧w.heap.size≤la∧w.heap.size≤lb):=by rw [hans,hbeg];exact TW
 rw [←hans] at mE mS mH mB mK hE hT
 rw [←hbeg] at sE sS sH SB1 sK hE hT okA
 clear TW hans hbeg okA
 have DS1:Hid (∀ (W:World) (sa ka ma ga la sb kb mb gb lb:Nat),Duo W ⟨sa,ka,ma,ga,la,[120],1,⟨beg,[],0⟩⟩ ⟨sb,kb,mb,gb,lb,[121],0,⟨ans,[],0⟩⟩ tg tp→Calls joz 21 #[.pointer (some ⟨sb,0,none⟩), .slice none 0 0, .slice none 0 0] W fun e w'=>∃ A' n' c',e= .returned (.tuple #[.agg (hdC (jpp 32 0) 0 0).toArray, .slice A' n' c', .int .i64 7])∧Own W.heap.size w' A' n' c' []∧Duo w' ⟨sb,kb,mb,gb,lb,[121],0,⟨ans,[],0⟩⟩ ⟨sa,ka,ma,ga,la,[120],1,⟨beg,[],0⟩⟩ tg tp∧Two sb gb W w'):=fun W sa ka ma ga la sb kb mb gb lb D=>
  JP D.swap (bs:= []) (text:= []) (by show (0:Nat) < 1000000;omega) (by omega) (fun u _=>⟨Bs.nil u,Bs.nil u⟩) mE mH mB mS mK
 have DS2:Hid (∀ (W:World) (sa ka ma ga la sb kb mb gb lb b1 b2:Nat),Duo W ⟨sa,ka,ma,ga,la,[120],1,⟨beg,[],0⟩⟩ ⟨sb,kb,mb,gb,lb,[121],0,⟨ans,[],0⟩⟩ tg tp→Bs W (some ⟨b1,0,none⟩) 1 1 [120]→Bs W (some ⟨b2,0,none⟩) 5 5 [104,101,108,108,111]→(b1≠sa∧b1≠ga)→(b2≠sa∧b2≠ga)→Calls joz 21 #[.pointer (some ⟨sa,0,none⟩), .slice (some ⟨b1,0,none⟩) 1 1, .slice (some ⟨b2,0,none⟩) 5 5] W fun e w'=>∃ A' n' c',e= .returned (.tuple #[.agg (hdC (jE (jO [120] 0)) beg.bf beg.sm).toArray, .slice A' n' c', .int .i64 0])∧Own W.heap.size w' A' n' c' (qA (jM beg.sc qd) (qb [120] (jE (jO [120] 0)) beg.bf beg.sm) [104,101,108,108,111])∧Duo w' ⟨sa,ka,ma,ga,la,[120],1,⟨jW beg,[],0⟩⟩ ⟨sb,kb,mb,gb,lb,[121],0,⟨ans,[],0⟩⟩ tg tp∧Two sa ga W w'):=fun W sa ka ma ga la sb kb mb gb lb b1 b2 D h1 h2 n1 n2=>
  JP D (by show (1:Nat) < 1000000;omega) (by omega) (fun u x=>⟨h1.two13 x n1.1 n1.2,h2.two13 x n2.1 n2.2⟩) sE sH SB1 sS (sK 1)
 have LSB:=JV (jM beg.sc qd) (qb [120] (jE (jO [120] 0)) beg.bf beg.sm) [104,101,108,108,111]
 have DR:Hid (∀ (W:World) (sa ka ma ga la sb kb mb gb lb b1:Nat) (A':Option Addr) (n' c':Nat),Duo W ⟨sa,ka,ma,ga,la,[120],1,⟨jW beg,[],0⟩⟩ ⟨sb,kb,mb,gb,lb,[121],0,⟨ans,[],0⟩⟩ tg tp→Bs W (some ⟨b1,0,none⟩) 1 1 [120]→Bs W A' n' c' (qA (jM beg.sc qd) (qb [120] (jE (jO [120] 0)) beg.bf beg.sm) [104,101,108,108,111])→Calls joz 23 #[.pointer (some ⟨sb,0,none⟩), .slice (some ⟨b1,0,none⟩) 1 1, .agg (hdC (jE (jO [120] 0)) beg.bf beg.sm).toArray, .slice A' n' c'] W fun e w'=>∃ A2 n2 c2,e= .returned (.tuple #[.slice A2 n2 c2, .int .i64 0])∧Own W.heap.size w' A2 n2 c2 [104,101,108,108,111]∧W.grownBy w' (some sb)):=fun W sa ka ma ga la sb kb mb gb lb b1 A' n' c' D h1 h2=>
  (jbw D.swap (by show (0:Int)≤1000000000;decide) h1 h2 (by omega) (by have:=h2.len;rw [LSB] at this;show n'≤1000000;simp at this;omega) (YH _) hE hT rfl).mono fun e w' q=>by
    obtain ⟨A2,n2,c2,_,_,q1,q2,_,q4⟩:=q
    exact ⟨A2,n2,c2,q1,q2,q4⟩
 generalize qA (jM beg.sc qd) (qb [120] (jE (jO [120] 0)) beg.bf beg.sm) [104,101,108,108,111]=SB at *
 have L_H1:=yz (YH (jO [120] 0)) beg.bf beg.sm
 have O_H1:(hdC (jE (jO [120] 0)) beg.bf beg.sm).toArray.all (·.oneCell')=true:=YZ
 have L_hz:(hdC (jpp 32 0) 0 0).length=34:=yz rfl _ _
 have O_hz:(hdC (jpp 32 0) 0 0).toArray.all (·.oneCell')=true:=YZ
 have hal:=Jp
 generalize hdC (jE (jO [120] 0)) beg.bf beg.sm=H1 at *
 generalize hdC (jpp 32 0) 0 0=ZH at *
 have S_H1:H1.toArray.size=34:=by rw [jpw,L_H1]
 have S_hz:ZH.toArray.size=34:=by rw [jpw,L_hz]
 generalize jW beg=beg2 at *
 clear sE sS sH SB1 sK mE mS mH mB mK hE hT LSB L_H1 L_hz
 have hal2:=JD
 obtain ⟨T0,hT0⟩:∃ x,x=jjJ:=⟨_,rfl⟩
 rw [←hT0] at hal2
 have S_T0:T0.toArray.size=2:=by rw [hT0];rfl
 clear hT0
 generalize (cellsOf Qe).toArray=K1 at *
 have CV:Hid (∀ (W:World) A n c (ys:List UInt8),Bs W A n c ys→(convert 33 9 (.slice A n c)).run joz W= .ok (.string (vR ys)) W):=fun W A n c ys h=>jfz h
 go_enter Tryz.func15,Tryz.ntmps15
 go_wp2_with (first | ((with_reducible refine jm (o:=⟨some 10, .build 23 _,_,_,_,_⟩) ?_ 23 _ rfl K1 ?_ ?_);(·rfl);(·simp only [jpG,jpC,jpH];exact bk.out);go_frame))
 refine TW2.out.mono ?_
 rintro e w1 ⟨sa,ka,ma,ga,la,sb,kb,mb,gb,lb,rfl,D1,x1,l1,l2⟩
 have a1:=D1.pa.ss.sl
 have a2:=D1.pa.gs
 have b1:=D1.pb.ss.sl
 have b2:=D1.pb.gs
 dsimp only at a1 a2 b1 b2
 have OO: #[jon (some ⟨sa,0,none⟩), .pointer (some ⟨sb,0,none⟩)].all (·.oneCell')=true:=qC (L:= [jon (some ⟨sa,0,none⟩), .pointer (some ⟨sb,0,none⟩)]) (fun v hv=>by
  rcases joG.1 hv with rfl | hv
  ·rfl
  ·rcases joG.1 hv with rfl | hv
   ·rfl
   ·cases hv)
 have Y:Hid (Cb ((w1.alloc (.cells T0.toArray 28)).setRow w1.heap.size #[.pointer (some ⟨sa,0,none⟩), .pointer (some ⟨sb,0,none⟩)]) w1.heap.size 28 [.pointer (some ⟨sa,0,none⟩), .pointer (some ⟨sb,0,none⟩)]∧Ext w1 ((w1.alloc (.cells T0.toArray 28)).setRow w1.heap.size #[.pointer (some ⟨sa,0,none⟩), .pointer (some ⟨sb,0,none⟩)])):=⟨Cb.set (L':= [.pointer (some ⟨sa,0,none⟩), .pointer (some ⟨sb,0,none⟩)]) (Cb.new _ _ _),Ext.newRow _ _ _⟩
 replace D1:=Hj D1
 replace x1:=Hj x1
 clear TW2 bk
 go_upto_region 2 with (refine ws_ rfl 28 rfl w1.heap.size #[.pointer (some ⟨sa,0,none⟩), .pointer (some ⟨sb,0,none⟩)] rfl rfl (jps _ _) rfl (by rw [S_T0];rfl) OO ?_;simp only [joT])
 obtain ⟨r1,hr1⟩:∃ x,x=w1.heap.size:=⟨_,rfl⟩
 refine jg (fun W=>Cb W w1.heap.size 28 [.pointer (some ⟨sa,0,none⟩), .pointer (some ⟨sb,0,none⟩)]∧Ext w1 W) Y.out ?_
 rw [←hr1]
 have wr1:w1.heap.size≤r1:=jod hr1.symm
 clear Y
 replace hr1:=Hj hr1
 rintro w2 ⟨k1,x2⟩
 have D2:=D1.out.ext x2
 have X2:=Hj (x1.out.trans x2)
 have S2:=Hj (DS1.out w2 _ _ _ _ _ _ _ _ _ _ D2)
 have c0:=k1.cell (j:=0) rfl
 have c1:=k1.cell (j:=1) rfl
 have r1l:=k1.lt
 replace k1:=Hj k1
 clear D1 x1 x2 D2 DS1
 go_wp2_with fail
 refine S2.out.mono ?_
 rintro e w3 ⟨A3,n3,d3,rfl,_,D3,t3⟩
 have k3:Cb w3 r1 28 [.pointer (some ⟨sa,0,none⟩), .pointer (some ⟨sb,0,none⟩)]:=t3.block k1.out (by omega) (by omega)
 have X3:Ext w w3:=by
  have hl:=D3.pa.src.1
  dsimp only at hl
  exact Two.ext X2.out t3 (by omega) (by omega)
 have Y:Hid (Ext w3 ((w3.alloc (.cells ZH.toArray 47)).setRow w3.heap.size ZH.toArray)):=Ext.newRow _ _ _
 replace D3:=Hj D3
 clear S2 k1 X2 t3 c0 c1
 go_upto_region 5 with (refine ws_ rfl 47 rfl w3.heap.size ZH.toArray rfl rfl (jps _ _) (by rw [S_hz];rfl) rfl O_hz ?_;simp only [joT])
 refine jg (fun W=>Ext w3 W) Y.out ?_
 clear Y
 rintro w4 x4
 have k4:=k3.ext x4
 have c0:=k4.cell (j:=0) rfl
 have D4:=D3.out.swap.ext x4
 have X4:=Hj (X3.trans x4)
 have r4l:=k4.lt
 have hcv:=Qn
 have hcv1:=jiV
 have v1:Hid (Bs ((w4.alloc (jp0 #[.int .u8 120] 5 (1,2))).alloc (jp0 #[.int .u8 104, .int .u8 101, .int .u8 108, .int .u8 108, .int .u8 111] 5 (5,6))) (some ⟨w4.heap.size,0,none⟩) 1 1 [120]):=(Bs.lit13 w4 _ (1,2) [120] _ rfl 1 rfl (by omega)).ext ((jnQ _).alloc _)
 have v2:Hid (Bs ((w4.alloc (jp0 #[.int .u8 120] 5 (1,2))).alloc (jp0 #[.int .u8 104, .int .u8 101, .int .u8 108, .int .u8 108, .int .u8 111] 5 (5,6))) (some ⟨w4.heap.size+1,0,none⟩) 5 5 [104,101,108,108,111]):=by
  have:=Bs.lit13 (w4.alloc (jp0 #[.int .u8 120] 5 (1,2))) 5 (5,6) [104,101,108,108,111] _ rfl 5 rfl (by omega)
  rwa [je] at this
 have x5:Hid (Ext w4 ((w4.alloc (jp0 #[.int .u8 120] 5 (1,2))).alloc (jp0 #[.int .u8 104, .int .u8 101, .int .u8 108, .int .u8 108, .int .u8 111] 5 (5,6)))):=((jnQ w4).alloc _).alloc _
 have S5:=Hj (DS2.out _ _ _ _ _ _ _ _ _ _ _ _ _ (D4.ext x5.out) v1.out v2.out ⟨by omega,by omega⟩ ⟨by omega,by omega⟩)
 replace D4:=Hj D4
 replace k4:=Hj k4
 clear DS2 D3 k3 X3 x4
 go_wp2_with fail
 refine S5.out.mono ?_
 rintro e w6 ⟨A6,n6,d6,rfl,o6,D6,t6⟩
 have k6:Cb w6 r1 28 [.pointer (some ⟨sa,0,none⟩), .pointer (some ⟨sb,0,none⟩)]:=t6.block (k4.out.ext x5.out) (by omega) (by omega)
 have X6:Ext w w6:=by
  have hl:=D6.pa.src.1
  dsimp only at hl
  exact Two.ext (X4.out.trans x5.out) t6 (by omega) (by omega)
 have Y:Hid (Cb ((w6.alloc (.cells ZH.toArray 47)).setRow w6.heap.size H1.toArray) w6.heap.size 47 H1∧Ext w6 ((w6.alloc (.cells ZH.toArray 47)).setRow w6.heap.size H1.toArray)):=⟨Cb.set (Cb.new _ _ _),Ext.newRow _ _ _⟩
 have b6:=o6.bs
 replace D6:=Hj D6
 replace b6:=Hj b6
 clear S5 k4 X4 x5 t6 o6 c0 v1 v2 D4
 go_upto_region 6 with (refine ws_ rfl 47 rfl w6.heap.size H1.toArray rfl rfl (jps _ _) (by rw [S_H1];rfl) (by rw [S_H1,S_hz]) O_H1 ?_;simp only [joT])
 obtain ⟨r5,hr5⟩:∃ x,x=w6.heap.size:=⟨_,rfl⟩
 refine jg (fun W=>Cb W w6.heap.size 47 H1∧Ext w6 W) Y.out ?_
 rw [←hr5]
 clear Y
 replace hr5:=Hj hr5
 rintro w7 ⟨k5,x7⟩
 have k7:=k6.ext x7
 have c1:=k7.cell (j:=1) rfl
 have v1:Hid (Bs (w7.alloc (jp0 #[.int .u8 120] 5 (1,2))) (some ⟨w7.heap.size,0,none⟩) 1 1 [120]):=Bs.lit13 w7 _ (1,2) [120] _ rfl 1 rfl (by omega)
 have x8:Hid (Ext w7 (w7.alloc (jp0 #[.int .u8 120] 5 (1,2)))):=(jnQ w7).alloc _
 have k58:Hid (Cb (w7.alloc (jp0 #[.int .u8 120] 5 (1,2))) r5 47 H1):=k5.ext x8.out
 have R8:=Hj (DR.out _ _ _ _ _ _ _ _ _ _ _ _ A6 n6 d6 ((D6.out.ext x7).ext x8.out) v1.out ((b6.out.ext x7).ext x8.out))
 have lbb:=D6.out.pb.src.1
 dsimp only at lbb
 have X8:=Hj ((X6.trans x7).trans x8.out)
 clear DR D6 k6 X6 b6 k5 x7 k7
 go_wp2_with (first | ((with_reducible refine js (o:=⟨some 43,_,_,_,_,_⟩) ?_ 47 _ rfl r5 ?_ 47 H1.toArray (0,0) _ ?_ jol ?_ ?_ ?_);(·rfl);(·rfl);(·exact k58.out);(·rfl);(·rw [S_H1];rfl);go_frame))
 refine R8.out.mono ?_
 rintro e w9 ⟨A9,n9,d9,rfl,o9,g9⟩
 have F:Hid (Ext w w9):=JQ X8.out g9 (by omega)
 have cv:=CV.out _ _ _ _ _ o9.bs
 have u7:((vR [104,101,108,108,111]).toList== [104,101,108,108,111])=true:=by simp [vR]
 generalize vR [104,101,108,108,111]=HS at *
 clear R8 X8 x8 k58 v1 o9 g9 c1 CV
 go_wp2_with fail
 all_goals (go_ret;exact ⟨rfl,F.out⟩)
end
section
open Go.ChangeShapes Go.WideShapes Go.ChangeAt Go.RowKit Go.Deep
theorem ja1:jC [] [120]= [236,48,140,7,200,53,130,198,99,233,34,6,108,68,146,59,247,27,193,4,255,184,36,121,251,6,220,34,80,60,155,12]:=by decide+kernel
theorem ja2:jC [] [121]= [107,114,177,210,244,7,6,228,142,7,135,191,82,23,64,253,181,94,127,138,208,242,70,97,155,57,113,167,218,127,166,220]:=by decide+kernel
theorem jmk:jC [] [98]= [4,68,158,146,201,167,101,126,242,214,119,184,239,157,164,108,8,143,19,87,94,168,135,228,129,143,196,85,162,188,165,0]:=by decide+kernel
theorem jmj:kL (jY [4,68,158,146,201,167,101,126,242,214,119,184,239,157,164,108,8,143,19,87,94,168,135,228,129,143,196,85,162,188,165,0] 9)= [215,119,235,107,105,49,36,248,78,208,136,217,223,252,95,215,158,120,231,18,137,255,69,80,54,185,25,219,235,179,108,23]:=by decide+kernel
theorem jk3:jE [98]= [215,119,235,107,105,49,36,248,78,208,136,217,223,252,95,215,158,120,231,18,137,255,69,80,54,185,25,219,235,179,108,23]:=by unfold jE;rw [jmk,jmj]
theorem jlb:jO [120] 0= [252,126,216,77,23,179,145,126,229,75,171,213,36,244,170,62,150,17,54,87,68,43,212,24,231,39,116,16,168,173,31,55]:=by unfold jO;rw [ja1];decide+kernel
theorem jlP:jC [] [252,126,216,77,23,179,145,126,229,75,171,213,36,244,170,62,150,17,54,87,68,43,212,24,231,39,116,16,168,173,31,55]= [85,94,105,132,167,67,164,39,46,142,119,79,225,64,255,116,19,169,159,152,203,40,62,224,166,157,36,84,80,60,4,84]:=by decide+kernel
theorem jlv:kL (jY [85,94,105,132,167,67,164,39,46,142,119,79,225,64,255,116,19,169,159,152,203,40,62,224,166,157,36,84,80,60,4,84] 9)= [212,109,48,244,21,12,18,163,143,160,26,211,133,84,163,51,58,175,76,154,188,215,219,21,118,173,117,146,220,132,82,87]:=by decide+kernel
theorem jky:jE (jO [120] 0)= [212,109,48,244,21,12,18,163,143,160,26,211,133,84,163,51,58,175,76,154,188,215,219,21,118,173,117,146,220,132,82,87]:=by rw [jlb];unfold jE;rw [jlP,jlv]
theorem jlc:jO [120] 1= [229,128,211,26,192,109,49,110,192,80,240,148,133,152,44,0,59,102,252,20,7,217,111,87,223,3,142,47,169,240,224,34]:=by unfold jO;rw [ja1];decide+kernel
theorem jlQ:jC [] [229,128,211,26,192,109,49,110,192,80,240,148,133,152,44,0,59,102,252,20,7,217,111,87,223,3,142,47,169,240,224,34]= [223,130,14,136,235,26,124,85,63,121,27,236,82,97,185,69,70,72,104,155,158,228,165,243,103,97,42,143,96,106,199,87]:=by decide+kernel
theorem jlw:kL (jY [223,130,14,136,235,26,124,85,63,121,27,236,82,97,185,69,70,72,104,155,158,228,165,243,103,97,42,143,96,106,199,87] 9)= [177,127,78,226,150,20,25,164,132,51,117,60,226,233,149,4,113,178,29,22,36,87,161,72,56,98,85,1,233,43,18,103]:=by decide+kernel
theorem jh5:jE (jO [120] 1)= [177,127,78,226,150,20,25,164,132,51,117,60,226,233,149,4,113,178,29,22,36,87,161,72,56,98,85,1,233,43,18,103]:=by rw [jlc];unfold jE;rw [jlQ,jlw]
theorem jld:jO [120] 2= [22,158,187,107,153,145,28,94,129,249,121,95,246,228,94,245,174,121,194,20,160,7,186,127,183,241,185,144,37,241,213,112]:=by unfold jO;rw [ja1];decide+kernel
theorem jlR:jC [] [22,158,187,107,153,145,28,94,129,249,121,95,246,228,94,245,174,121,194,20,160,7,186,127,183,241,185,144,37,241,213,112]= [11,170,33,210,254,5,255,233,69,209,120,55,51,0,253,118,167,157,118,164,44,117,27,18,161,6,181,97,59,150,47,217]:=by decide+kernel
theorem jlx:kL (jY [11,170,33,210,254,5,255,233,69,209,120,55,51,0,253,118,167,157,118,164,44,117,27,18,161,6,181,97,59,150,47,217] 9)= [160,251,3,70,222,90,11,255,36,81,220,218,241,8,16,51,240,179,4,66,248,174,135,25,230,82,211,57,60,167,193,61]:=by decide+kernel
theorem jh6:jE (jO [120] 2)= [160,251,3,70,222,90,11,255,36,81,220,218,241,8,16,51,240,179,4,66,248,174,135,25,230,82,211,57,60,167,193,61]:=by rw [jld];unfold jE;rw [jlR,jlx]
theorem jle:jO [120] 3= [197,216,223,126,143,161,200,210,172,130,151,20,150,197,204,199,11,33,62,53,189,22,138,195,66,218,184,222,100,20,77,220]:=by unfold jO;rw [ja1];decide+kernel
theorem jlS:jC [] [197,216,223,126,143,161,200,210,172,130,151,20,150,197,204,199,11,33,62,53,189,22,138,195,66,218,184,222,100,20,77,220]= [36,116,185,18,208,161,46,160,75,181,88,125,226,48,13,18,56,63,158,53,60,148,219,199,129,36,34,38,142,87,225,221]:=by decide+kernel
theorem jly:kL (jY [36,116,185,18,208,161,46,160,75,181,88,125,226,48,13,18,56,63,158,53,60,148,219,199,129,36,34,38,142,87,225,221] 9)= [24,50,181,136,90,88,21,55,66,191,184,3,224,156,208,136,60,42,100,52,200,51,213,56,7,24,187,127,255,215,79,67]:=by decide+kernel
theorem jh7:jE (jO [120] 3)= [24,50,181,136,90,88,21,55,66,191,184,3,224,156,208,136,60,42,100,52,200,51,213,56,7,24,187,127,255,215,79,67]:=by rw [jle];unfold jE;rw [jlS,jly]
theorem jlf:jO [120] 4= [180,44,173,198,172,155,16,105,48,167,32,249,117,114,150,0,78,20,113,241,27,204,232,54,40,246,234,70,232,179,101,73]:=by unfold jO;rw [ja1];decide+kernel
theorem jlT:jC [] [180,44,173,198,172,155,16,105,48,167,32,249,117,114,150,0,78,20,113,241,27,204,232,54,40,246,234,70,232,179,101,73]= [142,168,244,79,95,198,255,84,239,135,78,135,148,228,184,49,48,248,251,96,103,53,75,135,9,128,61,132,69,160,23,82]:=by decide+kernel
theorem jlz:kL (jY [142,168,244,79,95,198,255,84,239,135,78,135,148,228,184,49,48,248,251,96,103,53,75,135,9,128,61,132,69,160,23,82] 9)= [238,20,62,77,240,15,3,149,135,107,153,78,142,160,190,101,221,45,226,11,88,8,167,219,57,205,200,70,106,213,41,122]:=by decide+kernel
theorem jh8:jE (jO [120] 4)= [238,20,62,77,240,15,3,149,135,107,153,78,142,160,190,101,221,45,226,11,88,8,167,219,57,205,200,70,106,213,41,122]:=by rw [jlf];unfold jE;rw [jlT,jlz]
theorem jlg:jO [120] 5= [117,252,122,188,222,87,77,62,15,0,40,80,13,120,234,146,50,184,76,177,166,201,248,108,32,208,237,81,30,16,47,191]:=by unfold jO;rw [ja1];decide+kernel
theorem jlU:jC [] [117,252,122,188,222,87,77,62,15,0,40,80,13,120,234,146,50,184,76,177,166,201,248,108,32,208,237,81,30,16,47,191]= [166,142,59,210,59,159,17,30,140,193,143,211,209,44,0,183,213,101,88,178,4,48,132,34,207,168,37,115,255,198,161,160]:=by decide+kernel
theorem jlA:kL (jY [166,142,59,210,59,159,17,30,140,193,143,211,209,44,0,183,213,101,88,178,4,48,132,34,207,168,37,115,255,198,161,160] 9)= [149,110,209,158,53,198,13,231,174,133,168,143,185,169,110,230,179,16,46,11,180,129,55,140,242,169,1,237,131,228,163,100]:=by decide+kernel
theorem jh9:jE (jO [120] 5)= [149,110,209,158,53,198,13,231,174,133,168,143,185,169,110,230,179,16,46,11,180,129,55,140,242,169,1,237,131,228,163,100]:=by rw [jlg];unfold jE;rw [jlU,jlA]
theorem jlh:jO [120] 6= [37,156,74,54,34,174,41,196,106,102,56,61,158,162,58,43,216,185,138,177,145,242,108,84,145,168,117,124,116,33,104,129]:=by unfold jO;rw [ja1];decide+kernel
theorem jlV:jC [] [37,156,74,54,34,174,41,196,106,102,56,61,158,162,58,43,216,185,138,177,145,242,108,84,145,168,117,124,116,33,104,129]= [92,199,157,46,140,176,4,94,162,212,86,252,18,151,134,57,128,0,135,247,239,121,247,152,104,169,52,51,162,33,191,255]:=by decide+kernel
theorem jlB:kL (jY [92,199,157,46,140,176,4,94,162,212,86,252,18,151,134,57,128,0,135,247,239,121,247,152,104,169,52,51,162,33,191,255] 9)= [93,166,90,143,58,156,148,32,21,186,49,29,48,4,20,100,114,59,94,162,27,49,170,191,242,212,237,47,252,37,4,115]:=by decide+kernel
theorem jia:jE (jO [120] 6)= [93,166,90,143,58,156,148,32,21,186,49,29,48,4,20,100,114,59,94,162,27,49,170,191,242,212,237,47,252,37,4,115]:=by rw [jlh];unfold jE;rw [jlV,jlB]
theorem jli:jO [120] 7= [229,238,171,79,80,102,154,108,51,48,87,187,238,99,31,237,228,151,95,47,213,171,184,118,87,117,251,176,122,214,52,77]:=by unfold jO;rw [ja1];decide+kernel
theorem jlW:jC [] [229,238,171,79,80,102,154,108,51,48,87,187,238,99,31,237,228,151,95,47,213,171,184,118,87,117,251,176,122,214,52,77]= [14,54,126,18,109,247,238,126,0,82,174,113,116,130,93,206,227,8,68,213,184,217,225,91,111,82,65,45,221,210,240,135]:=by decide+kernel
theorem jlC:kL (jY [14,54,126,18,109,247,238,126,0,82,174,113,116,130,93,206,227,8,68,213,184,217,225,91,111,82,65,45,221,210,240,135] 9)= [7,112,58,141,233,93,104,203,160,109,150,37,71,206,214,18,91,109,210,179,58,138,28,121,82,64,205,109,151,136,55,13]:=by decide+kernel
theorem jib:jE (jO [120] 7)= [7,112,58,141,233,93,104,203,160,109,150,37,71,206,214,18,91,109,210,179,58,138,28,121,82,64,205,109,151,136,55,13]:=by rw [jli];unfold jE;rw [jlW,jlC]
theorem jlj:jO [120] 8= [124,31,42,68,129,18,211,183,224,77,120,56,74,84,151,229,38,160,154,8,225,41,238,228,148,197,29,169,197,8,78,223]:=by unfold jO;rw [ja1];decide+kernel
theorem jlX:jC [] [124,31,42,68,129,18,211,183,224,77,120,56,74,84,151,229,38,160,154,8,225,41,238,228,148,197,29,169,197,8,78,223]= [112,58,194,65,251,7,62,54,235,140,107,133,174,171,244,105,81,50,27,124,110,181,167,105,224,7,100,89,56,101,71,49]:=by decide+kernel
theorem jlD:kL (jY [112,58,194,65,251,7,62,54,235,140,107,133,174,171,244,105,81,50,27,124,110,181,167,105,224,7,100,89,56,101,71,49] 9)= [36,140,188,56,71,236,3,99,140,204,228,245,113,71,228,226,181,245,43,160,125,224,220,31,238,136,82,141,191,27,95,61]:=by decide+kernel
theorem jic:jE (jO [120] 8)= [36,140,188,56,71,236,3,99,140,204,228,245,113,71,228,226,181,245,43,160,125,224,220,31,238,136,82,141,191,27,95,61]:=by rw [jlj];unfold jE;rw [jlX,jlD]
theorem jlk:jO [120] 9= [88,250,11,7,58,55,77,13,88,122,76,77,162,173,236,156,110,3,62,194,136,250,62,210,198,124,85,52,220,128,236,83]:=by unfold jO;rw [ja1];decide+kernel
theorem jlY:jC [] [88,250,11,7,58,55,77,13,88,122,76,77,162,173,236,156,110,3,62,194,136,250,62,210,198,124,85,52,220,128,236,83]= [201,32,148,90,5,238,159,126,165,29,211,252,170,13,213,147,230,137,218,163,142,210,183,17,23,242,146,122,197,159,182,188]:=by decide+kernel
theorem jlE:kL (jY [201,32,148,90,5,238,159,126,165,29,211,252,170,13,213,147,230,137,218,163,142,210,183,17,23,242,146,122,197,159,182,188] 9)= [188,24,212,189,231,102,62,115,76,137,191,111,200,105,72,60,84,90,148,67,74,211,168,20,188,191,132,71,65,226,84,25]:=by decide+kernel
theorem jid:jE (jO [120] 9)= [188,24,212,189,231,102,62,115,76,137,191,111,200,105,72,60,84,90,148,67,74,211,168,20,188,191,132,71,65,226,84,25]:=by rw [jlk];unfold jE;rw [jlY,jlE]
theorem jkJ:jO [120] 10= [234,218,204,102,126,202,101,97,126,125,86,60,195,7,177,66,209,70,118,192,113,201,40,75,201,218,201,222,113,189,227,44]:=by unfold jO;rw [ja1];decide+kernel
theorem jkN:jC [] [234,218,204,102,126,202,101,97,126,125,86,60,195,7,177,66,209,70,118,192,113,201,40,75,201,218,201,222,113,189,227,44]= [26,22,41,69,113,160,219,61,74,164,220,133,180,132,87,28,230,235,179,181,230,252,99,232,199,150,255,84,85,91,251,134]:=by decide+kernel
theorem jkL:kL (jY [26,22,41,69,113,160,219,61,74,164,220,133,180,132,87,28,230,235,179,181,230,252,99,232,199,150,255,84,85,91,251,134] 9)= [173,41,219,91,202,94,68,168,11,112,158,112,255,64,183,169,145,254,107,169,79,63,62,69,34,130,179,151,158,197,130,92]:=by decide+kernel
theorem jjv:jE (jO [120] 10)= [173,41,219,91,202,94,68,168,11,112,158,112,255,64,183,169,145,254,107,169,79,63,62,69,34,130,179,151,158,197,130,92]:=by rw [jkJ];unfold jE;rw [jkN,jkL]
theorem jll:jO [121] 0= [20,13,166,112,65,152,126,219,103,65,140,7,178,194,56,100,184,150,191,140,152,127,190,238,108,123,239,80,220,211,122,161]:=by unfold jO;rw [ja2];decide+kernel
theorem jlZ:jC [] [20,13,166,112,65,152,126,219,103,65,140,7,178,194,56,100,184,150,191,140,152,127,190,238,108,123,239,80,220,211,122,161]= [55,243,72,3,163,240,95,114,136,89,102,176,228,127,217,92,36,69,195,30,51,35,93,57,87,135,109,172,182,98,55,138]:=by decide+kernel
theorem jlF:kL (jY [55,243,72,3,163,240,95,114,136,89,102,176,228,127,217,92,36,69,195,30,51,35,93,57,87,135,109,172,182,98,55,138] 9)= [162,123,81,249,137,197,254,151,122,222,58,40,10,186,111,55,198,132,56,129,84,108,168,40,243,202,230,210,155,133,14,85]:=by decide+kernel
theorem jie:jE (jO [121] 0)= [162,123,81,249,137,197,254,151,122,222,58,40,10,186,111,55,198,132,56,129,84,108,168,40,243,202,230,210,155,133,14,85]:=by rw [jll];unfold jE;rw [jlZ,jlF]
theorem jlm:jO [121] 1= [201,58,58,110,229,169,157,108,170,129,13,39,73,65,131,240,221,189,242,8,144,216,136,40,206,41,247,228,147,90,162,126]:=by unfold jO;rw [ja2];decide+kernel
theorem jl0:jC [] [201,58,58,110,229,169,157,108,170,129,13,39,73,65,131,240,221,189,242,8,144,216,136,40,206,41,247,228,147,90,162,126]= [102,18,160,100,250,249,86,192,219,101,24,4,68,60,40,226,126,11,212,188,232,207,46,97,141,19,128,190,249,222,203,39]:=by decide+kernel
theorem jlG:kL (jY [102,18,160,100,250,249,86,192,219,101,24,4,68,60,40,226,126,11,212,188,232,207,46,97,141,19,128,190,249,222,203,39] 9)= [65,223,211,57,162,58,193,218,47,216,194,184,111,147,27,175,130,230,191,152,117,220,10,203,249,118,151,25,157,189,102,84]:=by decide+kernel
theorem jif:jE (jO [121] 1)= [65,223,211,57,162,58,193,218,47,216,194,184,111,147,27,175,130,230,191,152,117,220,10,203,249,118,151,25,157,189,102,84]:=by rw [jlm];unfold jE;rw [jl0,jlG]
theorem jln:jO [121] 2= [209,12,24,115,142,40,119,73,202,209,54,222,16,148,187,183,181,112,20,201,99,194,54,101,96,240,111,142,2,221,168,68]:=by unfold jO;rw [ja2];decide+kernel
theorem jl1:jC [] [209,12,24,115,142,40,119,73,202,209,54,222,16,148,187,183,181,112,20,201,99,194,54,101,96,240,111,142,2,221,168,68]= [244,59,49,223,31,152,7,89,92,28,23,208,69,50,93,170,76,0,181,62,82,129,92,90,240,62,174,63,161,187,66,235]:=by decide+kernel
theorem jlH:kL (jY [244,59,49,223,31,152,7,89,92,28,23,208,69,50,93,170,76,0,181,62,82,129,92,90,240,62,174,63,161,187,66,235] 9)= [63,5,74,62,89,246,76,84,204,46,58,150,167,125,78,125,46,50,76,201,16,104,64,144,31,132,255,42,94,61,48,85]:=by decide+kernel
theorem jig:jE (jO [121] 2)= [63,5,74,62,89,246,76,84,204,46,58,150,167,125,78,125,46,50,76,201,16,104,64,144,31,132,255,42,94,61,48,85]:=by rw [jln];unfold jE;rw [jl1,jlH]
theorem jlo:jO [121] 3= [176,95,176,85,193,130,251,208,101,119,49,95,158,78,104,127,183,243,180,45,25,225,224,165,166,45,63,178,26,95,151,27]:=by unfold jO;rw [ja2];decide+kernel
theorem jl2:jC [] [176,95,176,85,193,130,251,208,101,119,49,95,158,78,104,127,183,243,180,45,25,225,224,165,166,45,63,178,26,95,151,27]= [183,154,230,46,49,211,166,74,254,244,165,178,164,244,101,138,40,21,131,72,235,111,67,110,214,88,151,89,104,183,164,17]:=by decide+kernel
theorem jlI:kL (jY [183,154,230,46,49,211,166,74,254,244,165,178,164,244,101,138,40,21,131,72,235,111,67,110,214,88,151,89,104,183,164,17] 9)= [239,242,13,171,74,117,5,96,127,51,77,167,191,228,130,29,42,209,170,30,157,219,94,92,185,90,80,147,175,122,201,69]:=by decide+kernel
theorem jih:jE (jO [121] 3)= [239,242,13,171,74,117,5,96,127,51,77,167,191,228,130,29,42,209,170,30,157,219,94,92,185,90,80,147,175,122,201,69]:=by rw [jlo];unfold jE;rw [jl2,jlI]
theorem jlp:jO [121] 4= [219,127,196,16,81,57,138,156,249,69,224,144,139,10,50,120,192,71,41,86,30,48,139,194,230,113,190,176,15,119,201,50]:=by unfold jO;rw [ja2];decide+kernel
theorem jl3:jC [] [219,127,196,16,81,57,138,156,249,69,224,144,139,10,50,120,192,71,41,86,30,48,139,194,230,113,190,176,15,119,201,50]= [133,131,201,178,114,25,226,207,25,234,65,144,227,209,99,4,231,186,55,117,107,149,254,7,151,97,118,37,74,20,155,120]:=by decide+kernel
theorem jlJ:kL (jY [133,131,201,178,114,25,226,207,25,234,65,144,227,209,99,4,231,186,55,117,107,149,254,7,151,97,118,37,74,20,155,120] 9)= [62,58,207,104,236,149,250,223,155,137,143,117,44,140,4,112,134,215,174,85,154,194,89,10,185,108,169,136,115,64,78,30]:=by decide+kernel
theorem jii:jE (jO [121] 4)= [62,58,207,104,236,149,250,223,155,137,143,117,44,140,4,112,134,215,174,85,154,194,89,10,185,108,169,136,115,64,78,30]:=by rw [jlp];unfold jE;rw [jl3,jlJ]
theorem jlq:jO [121] 5= [140,129,74,215,251,86,113,178,178,105,98,205,153,22,122,207,229,97,161,74,59,73,124,226,201,141,223,155,56,82,88,7]:=by unfold jO;rw [ja2];decide+kernel
theorem jl4:jC [] [140,129,74,215,251,86,113,178,178,105,98,205,153,22,122,207,229,97,161,74,59,73,124,226,201,141,223,155,56,82,88,7]= [44,27,46,33,90,85,67,181,89,238,156,22,88,104,74,61,165,210,169,181,2,129,218,110,161,81,213,147,116,143,117,95]:=by decide+kernel
theorem jlK:kL (jY [44,27,46,33,90,85,67,181,89,238,156,22,88,104,74,61,165,210,169,181,2,129,218,110,161,81,213,147,116,143,117,95] 9)= [122,198,250,154,73,150,148,194,59,220,110,87,26,92,218,233,159,190,151,77,255,64,139,243,26,142,93,11,245,167,6,2]:=by decide+kernel
theorem jij:jE (jO [121] 5)= [122,198,250,154,73,150,148,194,59,220,110,87,26,92,218,233,159,190,151,77,255,64,139,243,26,142,93,11,245,167,6,2]:=by rw [jlq];unfold jE;rw [jl4,jlK]
theorem jlr:jO [121] 6= [36,58,254,107,117,6,219,56,5,139,186,136,213,166,148,154,116,38,103,41,230,75,20,102,143,23,224,225,72,33,207,14]:=by unfold jO;rw [ja2];decide+kernel
theorem jl5:jC [] [36,58,254,107,117,6,219,56,5,139,186,136,213,166,148,154,116,38,103,41,230,75,20,102,143,23,224,225,72,33,207,14]= [174,237,7,151,207,144,41,211,182,221,105,93,47,142,0,93,237,201,218,69,177,172,2,169,28,97,12,137,89,23,135,110]:=by decide+kernel
theorem jlL:kL (jY [174,237,7,151,207,144,41,211,182,221,105,93,47,142,0,93,237,201,218,69,177,172,2,169,28,97,12,137,89,23,135,110] 9)= [177,36,188,253,20,33,205,132,244,244,255,73,250,26,118,170,19,232,103,108,57,250,19,244,3,134,57,14,57,114,17,65]:=by decide+kernel
theorem jik:jE (jO [121] 6)= [177,36,188,253,20,33,205,132,244,244,255,73,250,26,118,170,19,232,103,108,57,250,19,244,3,134,57,14,57,114,17,65]:=by rw [jlr];unfold jE;rw [jl5,jlL]
theorem jls:jO [121] 7= [248,11,20,182,44,191,79,222,155,229,65,116,116,183,131,109,234,180,47,62,174,80,2,5,95,159,125,103,226,28,101,196]:=by unfold jO;rw [ja2];decide+kernel
theorem jl6:jC [] [248,11,20,182,44,191,79,222,155,229,65,116,116,183,131,109,234,180,47,62,174,80,2,5,95,159,125,103,226,28,101,196]= [102,152,124,248,58,74,75,177,130,23,196,155,148,252,235,191,38,87,190,232,113,178,18,16,51,145,12,234,7,25,163,62]:=by decide+kernel
theorem jlM:kL (jY [102,152,124,248,58,74,75,177,130,23,196,155,148,252,235,191,38,87,190,232,113,178,18,16,51,145,12,234,7,25,163,62] 9)= [231,144,53,160,105,145,171,245,101,45,235,120,241,224,55,245,138,122,211,121,205,149,116,234,197,181,63,64,82,209,165,8]:=by decide+kernel
theorem jil:jE (jO [121] 7)= [231,144,53,160,105,145,171,245,101,45,235,120,241,224,55,245,138,122,211,121,205,149,116,234,197,181,63,64,82,209,165,8]:=by rw [jls];unfold jE;rw [jl6,jlM]
theorem jlt:jO [121] 8= [157,21,10,232,200,133,107,63,83,197,141,112,34,147,9,44,225,221,125,158,4,225,121,227,75,125,177,237,193,72,46,13]:=by unfold jO;rw [ja2];decide+kernel
theorem jl7:jC [] [157,21,10,232,200,133,107,63,83,197,141,112,34,147,9,44,225,221,125,158,4,225,121,227,75,125,177,237,193,72,46,13]= [58,68,187,193,22,50,87,135,11,182,31,3,40,211,99,17,59,211,244,84,48,218,178,204,95,45,57,36,106,185,152,102]:=by decide+kernel
theorem jlN:kL (jY [58,68,187,193,22,50,87,135,11,182,31,3,40,211,99,17,59,211,244,84,48,218,178,204,95,45,57,36,106,185,152,102] 9)= [67,57,239,119,86,56,10,215,170,134,111,94,183,65,126,115,36,58,35,74,146,119,243,13,171,139,218,210,179,20,223,126]:=by decide+kernel
theorem jim:jE (jO [121] 8)= [67,57,239,119,86,56,10,215,170,134,111,94,183,65,126,115,36,58,35,74,146,119,243,13,171,139,218,210,179,20,223,126]:=by rw [jlt];unfold jE;rw [jl7,jlN]
theorem jlu:jO [121] 9= [182,140,172,245,53,188,74,135,129,140,16,194,190,173,217,78,135,11,238,144,116,226,231,127,89,143,121,38,160,100,161,247]:=by unfold jO;rw [ja2];decide+kernel
theorem jl8:jC [] [182,140,172,245,53,188,74,135,129,140,16,194,190,173,217,78,135,11,238,144,116,226,231,127,89,143,121,38,160,100,161,247]= [166,72,244,150,7,229,28,150,231,142,136,203,207,31,97,131,91,156,101,144,162,76,217,21,119,25,134,36,218,177,60,31]:=by decide+kernel
theorem jlO:kL (jY [166,72,244,150,7,229,28,150,231,142,136,203,207,31,97,131,91,156,101,144,162,76,217,21,119,25,134,36,218,177,60,31] 9)= [104,59,76,167,163,118,139,241,18,41,33,130,94,249,98,63,65,251,147,3,83,89,182,224,42,109,84,230,62,165,75,79]:=by decide+kernel
theorem jin:jE (jO [121] 9)= [104,59,76,167,163,118,139,241,18,41,33,130,94,249,98,63,65,251,147,3,83,89,182,224,42,109,84,230,62,165,75,79]:=by rw [jlu];unfold jE;rw [jl8,jlO]
theorem jkK:jO [121] 10= [23,221,209,120,20,198,2,30,173,204,78,183,93,157,25,249,175,236,167,154,170,173,203,183,162,203,228,246,55,47,129,66]:=by unfold jO;rw [ja2];decide+kernel
theorem jkO:jC [] [23,221,209,120,20,198,2,30,173,204,78,183,93,157,25,249,175,236,167,154,170,173,203,183,162,203,228,246,55,47,129,66]= [67,95,30,254,155,41,65,253,217,9,219,121,54,37,185,69,30,237,186,219,169,160,186,112,195,30,228,31,36,221,49,142]:=by decide+kernel
theorem jkM:kL (jY [67,95,30,254,155,41,65,253,217,9,219,121,54,37,185,69,30,237,186,219,169,160,186,112,195,30,228,31,36,221,49,142] 9)= [152,48,109,89,74,132,115,233,148,253,37,151,87,55,178,231,119,214,185,77,194,83,39,176,86,115,223,46,142,248,135,118]:=by decide+kernel
theorem jjw:jE (jO [121] 10)= [152,48,109,89,74,132,115,233,148,253,37,151,87,55,178,231,119,214,185,77,194,83,39,176,86,115,223,46,142,248,135,118]:=by rw [jkK];unfold jE;rw [jkO,jkM]
theorem jk0:∀ i,i < 10→jE (jO [120] i)≠jE (jO [120] (i+1)):=by
 intro i hi
 have:i=0∨i=1∨i=2∨i=3∨i=4∨i=5∨i=6∨i=7∨i=8∨i=9:=by omega
 rcases this with rfl | rfl | rfl | rfl | rfl | rfl | rfl | rfl | rfl | rfl
 ·rw [jky,jh5];decide
 ·rw [jh5,jh6];decide
 ·rw [jh6,jh7];decide
 ·rw [jh7,jh8];decide
 ·rw [jh8,jh9];decide
 ·rw [jh9,jia];decide
 ·rw [jia,jib];decide
 ·rw [jib,jic];decide
 ·rw [jic,jid];decide
 ·rw [jid,jjv];decide
theorem jkr:jE [98]≠jE (jO [121] 0):=by rw [jk3,jie];decide
theorem jk1:∀ i,i < 10→jE (jO [121] i)≠jE (jO [121] (i+1)):=by
 intro i hi
 have:i=0∨i=1∨i=2∨i=3∨i=4∨i=5∨i=6∨i=7∨i=8∨i=9:=by omega
 rcases this with rfl | rfl | rfl | rfl | rfl | rfl | rfl | rfl | rfl | rfl
 ·rw [jie,jif];decide
 ·rw [jif,jig];decide
 ·rw [jig,jih];decide
 ·rw [jih,jii];decide
 ·rw [jii,jij];decide
 ·rw [jij,jik];decide
 ·rw [jik,jil];decide
 ·rw [jil,jim];decide
 ·rw [jim,jin];decide
 ·rw [jin,jjw];decide
end
section
open Go.ChangeShapes Go.WideShapes Go.ChangeAt Go.RowKit Go.Deep Go.Maps
def jb4 (xs:List UInt8):Nat→List UInt8
 | 0=> [98]
 | k+1=>jO xs k
theorem jfN {p n:Int}(h:0≤p∧p≤1000000) (h':0≤n∧n≤1000000):okH p n=true:=by
 unfold okH upB
 simp
 omega
structure Insy (xs ys:List UInt8) (k j:Nat) (s u:Rt) (m:Nat):Prop where
 ins:Insync s u (jb4 xs k) (jb4 ys j)
 rm:u.rm=s.sm
 rev:s.ri=true→u.sm≤s.rm
 b1:s.sm≤m
 b2:0≤u.sm∧u.sm≤m
 b3:0≤s.bf∧s.bf≤m
theorem Insy.sm0 {xs ys:List UInt8}{k j m:Nat}{s u:Rt}(h:Insy xs ys k j s u m):0≤s.sm:=by have:=h.ins.rm;omega
structure Said (s u:Rt) (pr text bs pk:List UInt8) (bf sm:Int) (SB:List UInt8) (S' U':Rt) (pp:Int):Prop where
 lp:pk.length=32
 e:qW s pr text=0
 h:yI s pr text=hdC pk bf sm
 b:yH s pr bs text=SB
 s:yj s pr text=S'
 l:SB.length=text.length+32
 re:yt ⟨u,[],pp⟩ bs pk bf sm SB=0
 rt:Ym ⟨u,[],pp⟩ bs pk bf sm SB=text
 rs:zf ⟨u,[],pp⟩ bs pk bf sm SB=⟨U',[],pp⟩
theorem jbJ {xs ys:List UInt8}{k j m:Nat}{s u:Rt}(h:Insy xs ys k j s u m) (hm:m≤1000){text:List UInt8}(ht:text.length≤300) (pr bs:List UInt8) (pp:Int):
 Said s u pr text bs (jE (jb4 xs k)) s.bf s.sm (qA (jM s.sc qd) (qb bs (jE (jb4 xs k)) s.bf s.sm) text) (jW s) (yX u) pp∧yg s text k=k∧Insy xs ys k j (jW s) (yX u) (m+1):=by
 have h0:=h.sm0
 have hb1:=h.b1
 have hb2:=h.b2
 have hb3:=h.b3
 have hk:okH s.bf s.sm=true:=jfN (by omega) (by omega)
 obtain ⟨e,eS,eH,eB,eK⟩:=jeZ (p:=pr) h.ins.si h.ins.mt ht hk
 rw [jaE h.ins.own] at eH eB
 obtain ⟨r1,r2,r3,r4,r5⟩:=jgi h.ins h.rm pp bs text hk
 refine ⟨⟨YH _,e,eH,eB bs,eS,JV _ _ _,r1,r2,r3⟩,eK k,⟨r4,r5,h.rev,?_,⟨hb2.1,?_⟩,⟨hb3.1,?_⟩⟩⟩
 ·show s.sm+1≤((m+1:Nat):Int);omega
 ·show u.sm≤((m+1:Nat):Int);omega
 ·show s.bf≤((m+1:Nat):Int);omega
theorem jaN {x y:List UInt8}{s u T:Rt}{pr text bs:List UInt8}{pp:Int}(ha:Ahead T u x y) (h0:T.sm=0) (hk:okH T.bf 0=true)
 (e:qW s pr text=0) (eS:yj s pr text=jW T) (eH:yI s pr text=hdC T.pub T.bf T.sm) (eB:∀ bs,yH s pr bs text=qA (jM T.sc qd) (qb bs T.pub T.bf T.sm) text):
 ∃ S' U' SB,Said s u pr text bs (jE x) T.bf 0 SB S' U' pp∧S'.sm=1∧S'.bf=T.bf∧S'.ri=T.ri∧S'.rm=T.rm∧U'.sm=u.sm∧Insync S' U' x y∧U'.rm=S'.sm:=by
 obtain ⟨r1,r2,r3,r4,r5⟩:=jal ha h0 pp bs text (by rw [h0];exact hk)
 have f4:=(QX ha).2.2.2
 have hp:=jaE ha.own
 have eB':=eB bs
 rw [hp,h0] at eH eB'
 rw [h0] at r1 r2 r3
 generalize za u (jE x)=F at *
 have hS:(jW T).sm=1:=by show T.sm+1=1;rw [h0];rfl
 have hU:(yX F).sm=u.sm:=f4
 have l:=JV (jM T.sc qd) (qb bs (jE x) T.bf 0) text
 generalize qA (jM T.sc qd) (qb bs (jE x) T.bf 0) text=SB at *
 exact ⟨jW T,yX F,SB,⟨YH x,e,eH,eB',eS,l,r1,r2,r3⟩,hS,rfl,rfl,rfl,hU,r4,r5⟩
theorem jbK {xs ys:List UInt8}{k j m:Nat}{s u:Rt}(h:Insy xs ys k j s u m) (hm:m≤1000){text:List UInt8}(ht:text.length≤300){z:List UInt8}(hzz:z=jO ys j) (hz:jE z≠jE (jb4 ys j)) (bs:List UInt8) (pp:Int):
 ∃ S' U' SB,Said u s (j3 z) text bs (jE z) u.sm 0 SB S' U' pp∧yg u text j=j+1∧S'.sm=1∧S'.bf=u.sm∧U'.sm=s.sm∧Insy ys xs (j+1) k S' U' (m+1):=by
 have h0:=h.sm0
 have hb1:=h.b1
 have hb2:=h.b2
 obtain ⟨t1,t2,t3,t4,t5,t6⟩:=jff h.ins h.rm h.rev hz
 have hk0:okH u.sm 0=true:=jfN (by omega) (by omega)
 have hk:okH (qg u (j3 z)).bf (qg u (j3 z)).sm=true:=by rw [t3,t4];exact hk0
 obtain ⟨e,eS,eH,eB,eK⟩:=jix (p:=j3 z) h.ins.umt t1 ht hk
 generalize qg u (j3 z)=T at *
 obtain ⟨S',U',SB,q1,q2,q3,q4,q5,q6,q7,q8⟩:=jaN (bs:=bs) (pp:=pp) t2 t3 (by rw [t4];exact hk0) e eS eH eB
 rw [t4] at q1 q3
 have cs:jb4 ys (j+1)=z:=hzz.symm
 refine ⟨S',U',SB,q1,eK j,q2,q3,q6,⟨by rw [cs];exact q7,q8,?_,?_,?_,?_⟩⟩
 ·intro _;rw [q6,q5,t6];exact jok _
 ·rw [q2];omega
 ·rw [q6];omega
 ·rw [q3];omega
theorem jeW (shared:List UInt8){text:List UInt8}(ht:text.length≤300){z:List UInt8}(hzz:z=jO [120] 0) (pr bs:List UInt8) (pp:Int):
 ∃ S' U' SB,Said (J2 shared) (YB shared zP) pr text bs (jE z) 0 0 SB S' U' pp∧yg (J2 shared) text 1=1∧S'.sm=1∧S'.bf=0∧U'.sm=0∧Insy [120] [121] 1 0 S' U' 1:=by
 obtain ⟨t2,t3,t4,t5⟩:=Zw shared
 have cs:jb4 [120] 1=z:=hzz.symm
 rw [←hzz] at t2
 have u0:(YB shared zP).sm=0:=rfl
 generalize YB shared zP=u at *
 generalize J2 shared=T at *
 have hk:okH T.bf T.sm=true:=by rw [t3,t4];rfl
 obtain ⟨e,eS,eH,eB,eK⟩:=jeZ (p:=pr) t2.si t2.mt ht hk
 obtain ⟨S',U',SB,q1,q2,q3,q4,q5,q6,q7,q8⟩:=jaN (bs:=bs) (pp:=pp) t2 t3 (by rw [t4];rfl) e eS eH eB
 rw [t4] at q1 q3
 rw [u0] at q6
 refine ⟨S',U',SB,q1,eK 1,q2,q3,q6,⟨by rw [cs];exact q7,q8,?_,?_,?_,?_⟩⟩
 ·intro y;rw [q4,t5] at y;cases y
 ·rw [q2];decide
 ·rw [q6];decide
 ·rw [q3];decide
theorem jkU {k:Nat}(h:1≤k) (h':k≤10):jE (jO [120] k)≠jE (jb4 [120] k):=by
 obtain ⟨i,rfl⟩:∃ i,k=i+1:=⟨k - 1,by omega⟩
 exact fun z=>jk0 i (by omega) z.symm
theorem jkV {k:Nat}(h':k≤10):jE (jO [121] k)≠jE (jb4 [121] k):=by
 rcases Nat.eq_zero_or_pos k with rfl | h
 ·exact fun z=>jkr z.symm
 ·obtain ⟨i,rfl⟩:∃ i,k=i+1:=⟨k - 1,by omega⟩
  exact fun z=>jk1 i (by omega) z.symm
theorem Pm.cb {w w':World}{a:Pty}{r:Nat}{T:joE}{L:List Value}(h:Pm w a) (hr:Cb w r T L) (hT:116≠T∧184≠T) (hg:a.g < r) (e:Two r r w w'):Pm w' a:=by
 have s1:a.s≠r:=zt h.ss.sq hr hT.1
 have s2:a.kp≠r:=zt h.ss.sk.cb hr hT.2
 have s3:a.mb≠r:=fun z=>by
  obtain ⟨es,c,q⟩:=h.ss.sk.mp.obj
  unfold Cb at hr
  rw [←z,q] at hr
  cases hr
 have hx:=e.2.2.2.2
 exact ⟨h.ss.stay (hx _ h.ss.sl s1 s1) (hx _ h.ss.kl s2 s2) (hx _ h.ss.ml s3 s3),h.src.two e (.inr hg) (.inr hg),h.gs,h.pr⟩
theorem Duo.cb {w w':World}{a b:Pty}{tg tp:joE×Nat×Nat}{r:Nat}{T:joE}{L:List Value}(h:Duo w a b tg tp) (hr:Cb w r T L) (hT:116≠T∧184≠T) (ha:a.g < r) (hb:b.g < r) (e:Two r r w w'):Duo w' a b tg tp:=by
 have p1:=h.pa.pr
 have p2:=h.pa.src.1.2
 exact ⟨h.pa.cb hr hT ha e,h.pb.cb hr hT hb e,h.ne,h.ab,h.ba,e.block h.gl (by omega) (by omega),e.block h.gp (by omega) (by omega)⟩
theorem Two.setCellR (w:World) (r o:Nat) (v:Value):Two r r w (w.setCell ⟨r,o,none⟩ v):=⟨rfl,rfl,rfl,by simp [World.setCell],fun i _ h _=>jo9 w ⟨r,o,none⟩ v i h⟩
theorem Two.setCellsR (w:World) (r o:Nat) (vs:List Value):Two r r w (w.setCells r o vs):=by
 have:=ju (w:=w) (g:=r) (o:=o) (vs:=vs)
 exact Two.of_grown this
theorem Insy.mono {xs ys:List UInt8}{k j m m':Nat}{s u:Rt}(h:Insy xs ys k j s u m) (hm:m≤m'):Insy xs ys k j s u m':=by
 have h1:=h.b1
 have h2:=h.b2
 have h3:=h.b3
 exact ⟨h.ins,h.rm,h.rev,by omega,by omega,by omega⟩
def sdq (q:Bool):List UInt8:=if q then [121] else [120]
def jmr (shared:List UInt8) (q:Bool) (K J:Nat) (s u:Rt) (k:Nat) (pq po:Int) (pk:List UInt8) (m:Nat):Prop:=
 ((q=false→1≤K)∧(q=true→1≤J))∧
 ((k=0∧q=false∧K=1∧J=0∧s=J2 shared∧u=YB shared zP∧pq=0∧po=0)∨
 (k=0∧Insy (sdq (!q)) (sdq q) J K u s m∧u.sm=po∧s.sm=pq)∨
 (1≤k∧Insy (sdq q) (sdq (!q)) K J s u m∧s.sm=(k:Int)∧s.bf=pq∧u.sm=po∧pk=jE (jb4 (sdq q) K)))
theorem jmB {shared:List UInt8}{q:Bool}{K J k m:Nat}{s u:Rt}{pq po:Int}{pk:List UInt8}(h:jmr shared q K J s u k pq po pk m) (hm:m≤100) (hK:K≤10):
 ∃ pk' SB S' U' K',Said s u (j3 (jO (sdq q) K)) [] [] pk' pq (k:Int) SB S' U' 0∧yg s [] K=K'∧(k=0→K'≤K+1)∧(1≤k→K'=K∧pk'=pk)∧jmr shared q K' J S' U' (k+1) pq po pk' (m+1):=by
 obtain ⟨⟨h1,h2⟩,⟨rfl,rfl,rfl,rfl,rfl,rfl,rfl,rfl⟩ | ⟨rfl,hi,ho,hq⟩ | ⟨hk,hi,hs,hb,ho,hp⟩⟩:=h
 ·obtain ⟨S',U',SB,q1,q2,q3,q4,q5,q6⟩:=jeW shared (text:= []) (by decide) rfl (j3 (jO [120] 1)) [] 0
  exact ⟨_,SB,S',U',1,q1,q2,fun _=>by omega,fun z=>by omega,⟨fun _=>joq 1,fun z=>by cases z⟩, .inr (.inr ⟨by omega,q6.mono (by omega),q3,q4,q5,rfl⟩)⟩
 ·have hz:jE (jO (sdq q) K)≠jE (jb4 (sdq q) K):=by
   cases q
   ·exact jkU (h1 rfl) hK
   ·exact jkV hK
  obtain ⟨S',U',SB,q1,q2,q3,q4,q5,q6⟩:=jbK hi (by omega) (text:= []) (by decide) rfl hz [] 0
  rw [hq] at q1 q4
  exact ⟨_,SB,S',U',K+1,q1,q2,fun _=>by omega,fun z=>by omega,⟨fun _=>by omega,h2⟩, .inr (.inr ⟨by omega,q6,q3,q4,q5.trans ho,rfl⟩)⟩
 ·obtain ⟨q1,q2,q3⟩:=jbJ hi (by omega) (text:= []) (by decide) (j3 (jO (sdq q) K)) [] 0
  rw [hs,hb,←hp] at q1
  exact ⟨pk,_,_,_,K,q1,q2,fun z=>by omega,fun _=>⟨rfl,rfl⟩,⟨h1,h2⟩, .inr (.inr ⟨by omega,q3,by show s.sm+1=_;omega,hb,ho,hp⟩)⟩
theorem jmx {shared:List UInt8}{q:Bool}{K J k m:Nat}{s u:Rt}{pq po:Int}{pk:List UInt8}(h:jmr shared q K J s u k pq po pk m) (hk:1≤k):jmr shared (!q) J K u s 0 po k pk m:=by
 obtain ⟨⟨h1,h2⟩,⟨z,_⟩ | ⟨z,_⟩ | ⟨_,hi,hs,hb,ho,hp⟩⟩:=h
 ·omega
 ·omega
 ·refine ⟨⟨fun z=>h2 (by cases q <;> simp_all),fun z=>h1 (by cases q <;> simp_all)⟩, .inr (.inl ⟨rfl,?_,hs,ho⟩)⟩
  rw [Bool.not_not]
  exact hi
def Tk (shared:List UInt8) (W:World) (sp gp lp:Bool→Nat) (q:Bool) (k:Nat) (pq po:Int) (pk:List UInt8) (m i:Nat) (tg tp:joE×Nat×Nat):Prop:=
 ∃ (ka ma kb mb K J:Nat) (s u:Rt),Duo W ⟨sp q,ka,ma,gp q,lp q,sdq q,K,⟨s,[],0⟩⟩ ⟨sp (!q),kb,mb,gp (!q),lp (!q),sdq (!q),J,⟨u,[],0⟩⟩ tg tp∧jmr shared q K J s u k pq po pk m∧(k=0→K+J≤i+1)∧K+J≤i+2
theorem Tk.ext {shared:List UInt8}{W W':World}{sp gp lp:Bool→Nat}{q:Bool}{k:Nat}{pq po:Int}{pk:List UInt8}{m i:Nat}{tg tp:joE×Nat×Nat}(h:Tk shared W sp gp lp q k pq po pk m i tg tp) (e:Ext W W'):Tk shared W' sp gp lp q k pq po pk m i tg tp:=by
 obtain ⟨ka,ma,kb,mb,K,J,s,u,D,h⟩:=h
 exact ⟨ka,ma,kb,mb,K,J,s,u,D.ext e,h⟩
theorem Tk.next {shared:List UInt8}{W:World}{sp gp lp:Bool→Nat}{q:Bool}{k:Nat}{pq po:Int}{pk:List UInt8}{m i:Nat}{tg tp:joE×Nat×Nat}(h:Tk shared W sp gp lp q k pq po pk m i tg tp) (hk:1≤k):Tk shared W sp gp lp (!q) 0 po k pk m (i+1) tg tp:=by
 obtain ⟨ka,ma,kb,mb,K,J,s,u,D,h,h1,h2⟩:=h
 refine ⟨kb,mb,ka,ma,J,K,u,s,?_,jmx h hk,fun _=>by omega,by omega⟩
 rw [Bool.not_not]
 exact D.swap
theorem jmy {shared:List UInt8}{W:World}{sp gp lp:Bool→Nat}{q:Bool}{k:Nat}{pq po:Int}{pk:List UInt8}{m i:Nat}{tg tp:joE×Nat×Nat}(h:Tk shared W sp gp lp q k pq po pk m i tg tp) (hm:m≤100) (hi:i≤8):
 Calls joz 21 #[.pointer (some ⟨sp q,0,none⟩), .slice none 0 0, .slice none 0 0] W fun e w'=>∃ (pk':List UInt8) (A':Option Addr) (n' c':Nat),e= .returned (.tuple #[.agg (hdC pk' pq k).toArray, .slice A' n' c', .int .i64 0])∧pk'.length=32∧(1≤k→pk'=pk)∧Two (sp q) (gp q) W w'∧
  ∀ w1,Ext w' w1→Calls joz 23 #[.pointer (some ⟨sp (!q),0,none⟩), .slice none 0 0, .agg (hdC pk' pq k).toArray, .slice A' n' c'] w1 fun e w2=>∃ A2 n2 c2,e= .returned (.tuple #[.slice A2 n2 c2, .int .i64 0])∧Tk shared w2 sp gp lp q (k+1) pq po pk' (m+1) i tg tp∧w1.grownBy w2 (some (sp (!q))):=by
 obtain ⟨ka,ma,kb,mb,K,J,s,u,D,C,h1,h2⟩:=h
 obtain ⟨pk',SB,S',U',K',Q,qk,k1,k2,C'⟩:=jmB C hm (by omega)
 have hK:K≤10:=by omega
 refine (JP D (bs:= []) (text:= []) (by show K < 1000000;omega) (jor _) (fun x _=>⟨Bs.nil x,Bs.nil x⟩) Q.e Q.h Q.b Q.s qk).mono ?_
 rintro e w' ⟨A',n',c',rfl,O,D',t⟩
 refine ⟨pk',A',n',c',rfl,Q.lp,fun z=>(k2 z).2,t,fun w1 e=> ?_⟩
 have hl:=O.bs.len
 have ql:=Q.l
 refine (jbw (D'.ext e).swap (by decide:(0:Int)≤1000000000) (Bs.nil w1) (O.bs.ext e) (jor _) (by simp at ql;omega) Q.lp (E:=0) (T:= []) (S':=⟨U',[],0⟩) Q.re Q.rt Q.rs).mono ?_
 rintro e w2 ⟨A2,n2,c2,kp,mb',h3,h4,h5,h6⟩
 refine ⟨A2,n2,c2,h3,⟨ka,ma,kp,mb',K',J,S',U',h5.swap,C',fun z=>by omega,?_⟩,h6⟩
 rcases Nat.eq_zero_or_pos k with z | z
 ·have:=k1 z;have:=h1 z;omega
 ·have:=(k2 z).1;omega
theorem jmF (z:Int):∃ a:Nat,a < 4∧bits .and .i64 z 3=(a:Int):=by
 have h:(BitVec.ofInt 64 z&&&BitVec.ofInt 64 3).toNat < 4:=by
  rw [BitVec.toNat_and]
  exact Nat.and_lt_two_pow _ (n:=2) (by decide)
 refine ⟨_,h,?_⟩
 show IntKind.i64.wrap ((BitVec.ofInt 64 z&&&BitVec.ofInt 64 3).toNat:Int)=_
 exact jp2 _ (by omega)
theorem jmD {w:World}{shared:List UInt8}(lr:shared.length=32){tg tp:joE×Nat×Nat}(hG:Gl w tg) (hP:Gp w tp):
 Calls joz 17 #[.agg (cellsOf shared).toArray] w fun e w'=>∃ sp gp lp:Bool→Nat,e= .returned (.agg #[.pointer (some ⟨sp false,0,none⟩), .pointer (some ⟨sp true,0,none⟩)])∧Tk shared w' sp gp lp false 0 0 0 [] 0 0 tg tp∧Ext w w'∧∀ q,(w.heap.size≤sp q∧sp q < w'.heap.size)∧w.heap.size≤gp q∧gp q < w'.heap.size:=by
 refine (jbQ lr hG hP).mono ?_
 rintro e w' ⟨sa,ka,ma,ga,la,sb,kb,mb,gb,lb,rfl,D,x,l1,l2⟩
 have a1:=D.pa.ss.sl
 have a2:=D.pa.gs
 have a3:=D.pa.src.1
 have b1:=D.pb.ss.sl
 have b2:=D.pb.gs
 have b3:=D.pb.src.1
 dsimp only [jh1,jjk] at a1 a2 a3 b1 b2 b3
 refine ⟨fun q=>cond q sb sa,fun q=>cond q gb ga,fun q=>cond q lb la,rfl,⟨ka,ma,kb,mb,1,0,_,_,D,⟨⟨fun _=>joq 1,fun z=>by cases z⟩, .inl ⟨rfl,rfl,rfl,rfl,rfl,rfl,rfl,rfl⟩⟩,fun _=>by omega,by omega⟩,x,fun q=> ?_⟩
 cases q
 ·exact ⟨⟨by show w.heap.size≤sa;omega,a1⟩,by show w.heap.size≤ga;omega,by show ga < _;omega⟩
 ·exact ⟨⟨by show w.heap.size≤sb;omega,b1⟩,by show w.heap.size≤gb;omega,by show gb < _;omega⟩
theorem Tk.cb {shared:List UInt8}{W W':World}{sp gp lp:Bool→Nat}{q:Bool}{k:Nat}{pq po:Int}{pk:List UInt8}{m i:Nat}{tg tp:joE×Nat×Nat}(h:Tk shared W sp gp lp q k pq po pk m i tg tp){r:Nat}{T:joE}{L:List Value}(hr:Cb W r T L) (hT:116≠T∧184≠T) (hg:∀ q,gp q < r) (e:Two r r W W'):Tk shared W' sp gp lp q k pq po pk m i tg tp:=by
 obtain ⟨ka,ma,kb,mb,K,J,s,u,D,h⟩:=h
 exact ⟨ka,ma,kb,mb,K,J,s,u,D.cb hr hT (hg q) (hg (!q)) e,h⟩
end
section
open Go.ChangeShapes Go.WideShapes Go.ChangeAt Go.RowKit Go.Deep
def jml (zs:List Int) (k:Nat):Int:=zs.getD k 0
def Is (w:World) (A:Option Addr) (n c:Nat) (zs:List Int):Prop:=
 zs.length=n∧n≤c∧c≤maxLen∧(0 < n→∃ b off,A=some ⟨b,off,none⟩∧b < w.heap.size∧∀ j,j < n→w.cell? ⟨b,off+j,none⟩=some (.int .i64 (jml zs j))∧ -9223372036854775808≤jml zs j∧jml zs j≤9223372036854775807)
section
variable {w w':World}{A:Option Addr}{n c:Nat}{zs:List Int}
theorem Is.len (h:Is w A n c zs):zs.length=n:=h.1
theorem Is.le (h:Is w A n c zs):n≤c:=h.2.1
theorem Is.cap (h:Is w A n c zs):c≤9223372036854775807:=h.2.2.1
theorem Is.nil (w:World):Is w none 0 0 []:=⟨rfl,joq _,jor _,fun h=>absurd h (by omega)⟩
theorem Is.pos (h:Is w A n c zs) (hn:0 < n):∃ b off,A=some ⟨b,off,none⟩∧b < w.heap.size∧∀ j,j < n→w.cell? ⟨b,off+j,none⟩=some (.int .i64 (jml zs j))∧ -9223372036854775808≤jml zs j∧jml zs j≤9223372036854775807:=h.2.2.2 hn
theorem Is.ext (h:Is w A n c zs) (he:Ext w w'):Is w' A n c zs:=
 ⟨h.1,h.2.1,h.2.2.1,fun hn=>by
   obtain ⟨b,off,e,hb,hc⟩:=h.2.2.2 hn
   exact ⟨b,off,e,jos hb he.size,fun j hj=>⟨(he.cell hb).trans (hc j hj).1,(hc j hj).2⟩⟩⟩
end
section
variable {H:Type}{enc:joE×Value→H}{W:World}{P:joD}
theorem jmo {t e:joE}{a:Option Addr}{len cap:Nat}{d:DataW H}{p:List MemPlace}(ht:P.underlying t=some (.slice e)) (he:P.underlying e=some (.int .i64)) (hc:P.cellsOf e=1)
 (h:DataW.Trod enc P W 0 (fun _=>true) true t (.slice a len cap) d p):∃ zs,Is W a len cap zs:=by
 obtain ⟨fuel,hf⟩:=h
 rcases open_ints ht he hc hf with ⟨hcs,_⟩ | ⟨x,l,c,zs,hcs,_,hl,hm,hz,_,hcell,hwz⟩
 ·simp [Value.cells] at hcs
  obtain ⟨rfl,rfl,rfl⟩:=hcs
  exact ⟨[],Is.nil W⟩
 ·simp [Value.cells] at hcs
  obtain ⟨rfl,rfl,rfl⟩:=hcs
  have hz':zs.length=cap:=by simpa using hz
  refine ⟨zs.take len,by simp;omega,hl,hm,fun h0=> ?_⟩
  obtain ⟨b,off,rfl,hcl⟩:=ints_at hcell (by omega)
  refine ⟨b,off,rfl,?_,fun j hj=> ?_⟩
  ·have:=hcl 0 (by omega)
   exact World.block_lt_of_cell? W _ this
  ·have hj':j < zs.length:=by omega
   have hb: -9223372036854775808≤zs[j]∧zs[j]≤9223372036854775807:=by simpa [Lit.wf,IntKind.min,IntKind.max,IntKind.signed,IntKind.bits] using hwz _ (List.getElem_mem hj')
   have e:jml (zs.take len) j=zs[j]:=by simp [jml,jot,hj',hj]
   rw [e]
   refine ⟨?_,hb⟩
   rw [hcl j hj']
   simp [jot,hj']
end
def jhC:List Int:= [1779033703,3144134277,1013904242,2773480762,1359893119,2600822924,528734635,1541459225]
theorem jhv:Tryz.prog.globalNamed "palfrey/blake.initial" =some 0:=by kernel_rfl
theorem jep:(Tryz.prog.globals[0]?).map (·.type)=some 218:=by kernel_rfl
theorem jgg {W:World}(h:Lib.TabIs joz W "palfrey/blake.initial" .u32 jhC):∃ tg,Gl W tg:=by
 unfold Lib.TabIs World.var? at h
 rw [jhv] at h
 simp only [Option.bind_some] at h
 cases hh:W.heap[0]? with
 | none=>rw [hh] at h;cases h
 | some o=>
   rw [hh] at h
   cases o with
   | cells cs t fr=>
     simp only [Option.some.injEq] at h
     subst h
     exact ⟨(t,fr),hh⟩
   | _=>cases h
theorem jer {W:World}{rest:List (String×DataW Unit)}(h:laidMet joz (("palfrey/blake.initial",Lib.tabData .u32 jhC)::rest) W):∃ tg,Gl W tg:=
 jgg (Lib.tabIs_of_head (rest:=rest) jhv jep Tryz.underlying218 Tryz.underlying133 (by kernel_rfl) (by kernel_rfl) h)
def jeR:List Int:= [4294967277,4294967295,4294967295,4294967295,4294967295,4294967295,4294967295,2147483647]
theorem jhw:Tryz.prog.globalNamed "palfrey/field.prime" =some 1:=by kernel_rfl
theorem jeq:(Tryz.prog.globals[1]?).map (·.type)=some 218:=by kernel_rfl
theorem jgh {W:World}(h:Lib.TabIs joz W "palfrey/field.prime" .u32 jeR):∃ tg,Gp W tg:=by
 unfold Lib.TabIs World.var? at h
 rw [jhw] at h
 simp only [Option.bind_some] at h
 cases hh:W.heap[1]? with
 | none=>rw [hh] at h;cases h
 | some o=>
   rw [hh] at h
   cases o with
   | cells cs t fr=>
     simp only [Option.some.injEq] at h
     subst h
     refine ⟨(t,fr),?_⟩
     unfold Gp
     rw [←jgy]
     exact hh
   | _=>cases h
theorem jes {W:World}{rest:List (String×DataW Unit)}(h:laidMet joz (("palfrey/field.prime",Lib.tabData .u32 jeR)::rest) W):∃ tg,Gp W tg:=
 jgh (Lib.tabIs_of_head (rest:=rest) jhw jeq Tryz.underlying218 Tryz.underlying133 (by kernel_rfl) (by kernel_rfl) h)
theorem jck {P:joD}{W:World}{x:String×DataW Unit}{rest:List (String×DataW Unit)}(h:laidMet P (x::rest) W):laidMet P rest W:=by
 obtain ⟨n,d⟩:=x
 obtain ⟨ps,⟨g,t,cs,fuel,p,q,_,_,_,_,hr,rfl⟩,hnd,hall⟩:=h
 exact ⟨q,hr,(List.nodup_append.1 hnd).2.1,fun b off hm=>hall b off (List.mem_append_right _ hm)⟩
theorem jb0 {W:World}{rest:List (String×DataW Unit)}(h:laidMet joz (("palfrey/field.prime",Lib.tabData .u32 jeR)::("palfrey/blake.initial",Lib.tabData .u32 jhC)::rest) W):(∃ tp,Gp W tp)∧∃ tg,Gl W tg:=
 ⟨jes h,jer (jck h)⟩
section
variable {H:Type}{enc:joE×Value→H}{W:World}{P:joD}
theorem jct {r:Reach}{b n:Nat}{t e:joE}{v:Value}(ht:P.underlying t=some (.array n e)) (h:Value.okWide P W r b t v):∃ cs,v= .agg cs∧cs.size=P.cellsOf t:=by
 simp only [Value.okWide,ht] at h
 obtain ⟨cs,h1,h2,_⟩:=h
 exact ⟨cs,h1,h2⟩
def jhb:Option Value→Nat
 | some (.int _ z)=>z.toNat
 | _=>0
theorem jbg {n fuel:Nat}{t e:joE}{cs:List Value}{x:DataW H×List MemPlace}(ht:P.underlying t=some (.array n e)) (he:P.underlying e=some (.int .u8)) (hce:P.cellsOf e=1) (hct:P.cellsOf t=n)
 (hf:DataW.trod enc P W 0 (fun _=>true) true fuel t cs=some x):∃ xs,cs=cellsOf xs∧xs.length=n:=by
 cases fuel with
 | zero=>simp [DataW.trod] at hf
 | succ fuel=>
   simp only [DataW.trod,ht,hce,hct,Nat.mul_one] at hf
   split at hf
   ·rename_i hl
    obtain ⟨xs,hm,hx⟩:=Option.map_eq_some_iff.1 hf
    have hcell:∀ i,i < n→∃ z:Int,cs[i]? =some (.int .u8 z)∧0≤z∧z≤255:=fun i hi=>by
     obtain ⟨y,hy,hfy⟩:=Lib.mapM_at hm i i (by simp [hi])
     obtain ⟨z,hc,rfl,hw⟩:=DataW.trod_int he hfy
     have h1:cs[i]? =some (.int .u8 z):=by
      have:=congrArg (·[0]?) hc
      simpa [jph,List.getElem?_drop] using this
     have hb:0≤z∧z≤255:=by simpa [Lit.wf,IntKind.min,IntKind.max,IntKind.signed,IntKind.bits] using hw
     exact ⟨z,h1,hb⟩
    refine ⟨(jo3 n).map fun i=>jov (jhb cs[i]?),?_,by simp⟩
    apply List.ext_getElem?
    intro i
    by_cases hi:i < n
    ·obtain ⟨z,h1,h2,h3⟩:=hcell i hi
     have h4:=jZ (xs:=(jo3 n).map fun i=>jov (jhb cs[i]?)) (j:=i) (by simp;exact hi)
     rw [h1]
     refine Eq.trans ?_ h4.symm
     congr 2
     unfold bt
     simp [jot,hi,h1,jhb]
     omega
    ·rw [jpc (by omega),jpc (by simp [ja];omega)]
   ·cases hf
theorem jdg {r:Reach}{b n:Nat}{t e:joE}{v:Value}{d:DataW H}{p:List MemPlace}(ht:P.underlying t=some (.array n e)) (he:P.underlying e=some (.int .u8)) (hce:P.cellsOf e=1) (hct:P.cellsOf t=n)
 (hv:Value.okWide P W r b t v) (h:DataW.Trod enc P W 0 (fun _=>true) true t v d p):∃ xs,v= .agg (cellsOf xs).toArray∧xs.length=n:=by
 obtain ⟨cs,rfl,hsz⟩:=jct ht hv
 obtain ⟨fuel,hf⟩:=h
 obtain ⟨xs,hx,hl⟩:=jbg ht he hce hct hf
 refine ⟨xs,?_,hl⟩
 congr 1
 apply Array.ext'
 rw [←hx];rfl
end
end
end Go.Proofs.YtakpgbaijkhpmaaGreatDoor
