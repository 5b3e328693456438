import Derived.Test.YtakpgbaijkhpmaaGreatDoorPkAM
import Derived.Test.YtakpgbaijkhpmaaGreatDoorPkAI
import Derived.Test.YtakpgbaijkhpmaaGreatDoorPkAH
import Derived.Test.YtakpgbaijkhpmaaGreatDoorPkAL
import Derived.Test.YtakpgbaijkhpmaaGreatDoorPkAB
import Derived.Test.YtakpgbaijkhpmaaGreatDoorPkAA
import Derived.Deep.Onto
open And renaming intro→jqS
open Go renaming Program→jpB,TypeId→jpC,below_setRow→jqb,bodyPost_ret→jqW,cell_of_row→jqe,execOp→jpY,heap_alloc_new→jqq,results_cell_row→jqX,run_underlying→jql,setRow_heap→jqc,setRow_other→jqy,wpList_store_mid→jrj,wp_store_row→jrf,zeroValue→jpI
open Go.Act renaming put→jpR
open Go.Exit renaming inBlock→jqV
open Go.IntWalk renaming i64_in→jq0
open Go.Obj renaming cells→jqY
open Go.Proofs.Tryz renaming prog→jpx,underlying23→jqD,underlying47→jrm
open Go.Result renaming andThen_ok→jqk
open Go.RowKit.Below renaming refl→jpm,trans→jpn
open Go.Sem renaming run_bind→jqi,run_pure→jqj
open Go.Value renaming int→jpA,ownBlock→jrb,pointer→jro
open Int renaming le_refl→jrl
open List renaming all_eq_true→jp2,getD→jpr,getElem?_append_right→jqr,length_append→jpG,length_take→jps,map_cons→jqA,map_nil→jqF,map_toArray→jqE,mem_append→jpH,mem_cons→jpE,not_mem_nil→jqz,replicate→jqn,size_toArray→jqu,take_left'→jqv
open Nat renaming le_of_eq→jre,le_of_lt→jqU,le_refl→jpo,le_trans→jp0,lt_of_lt_of_le→jpq,mul_assoc→jqJ,zero_add→jpz,zero_le→jpp
open Option.some renaming inj→jpD
namespace Go.Proofs.YtakpgbaijkhpmaaGreatDoor
set_option maxHeartbeats 64000000
set_option linter.unusedSimpArgs false
set_option linter.unusedVariables false
set_option maxRecDepth 100000
section
open Go.ChangeShapes Go.WideShapes Go.ChangeAt Go.RowKit Go.Deep
theorem jfK (x l:Nat):qs x (qs l l)=qs (qs x l) l:=by
 unfold qs;rw [Nat.mul_mod_mod,Nat.mod_mul_mod,jqJ]
theorem Ur.so {w:World}{g r:Nat}{t:jpC}{vs:List Nat}{C:Array Value}(h:Ur w g t vs) (hne:g≠r):Ur (w.setRow r C) g t vs:=(jqy _ _ _ _ hne).trans h
theorem Ur.q {w:World}{g:Nat}{t:jpC}{vs:List Nat}(h:Ur w g t vs):Hid (∀ s,Ext w s->Ur s g t vs):=fun s e=>h.kept e h.lt
theorem zY (w:World) (C:Array Value) (T:jpC):Hid ((w.alloc (jqY C T)).heap[w.heap.size]? =some (.cells C T (0,0))):=jqq _ _
theorem yJ {a w:World}(e:Ext a w) (C:Array Value) (T:jpC) (D:Array Value):Ext a ((w.alloc (jqY C T)).setRow w.heap.size D):=e.trans (jqb ((jnQ w).alloc _) (jpo _) _)
theorem jdE {ks ps:List UInt8}{w:World}(hk:ks.length=32) (hp:ps.length=32):
 Calls jpx 71 #[.agg (cellsOf ks).toArray, .agg (cellsOf ps).toArray] w fun e w'=>e= .returned (.agg (cellsOf (kL (jY ks (ofV ps)))).toArray)/\Ext w w':=by
 obtain ⟨x,hx⟩:=ex_ (ofV ps);have OFA:Hid (∀ W,Calls jpx 99 #[.agg (cellsOf ps).toArray] W fun e w'=>∃ es,IsN es x/\e= .returned (.agg (jc es).toArray)/\Ext W w'):=fun W=>by rw [hx];exact jgt hp
 rw [<-hx];obtain ⟨B,hB⟩:∃ B:Nat->Bool,B=fun m=>yk ks (254 - m):=⟨_,rfl⟩
 have BIT:Hid (∀ (m n:Nat) (W:World),m+n=254->Calls jpx 100 #[.agg (cellsOf ks).toArray, .int .i64 (n:Int)] W fun e w'=>e= .returned (.bool (B m))/\Ext W w'):=fun m n W h=>by
  have:=jeT (ks:=ks) (n:=n) (w:=W) hk (by omega);rw [hB]
  show Calls _ _ _ _ fun e w'=>e= .returned (.bool (yk ks (254 - m)))/\_
  rw [show 254 - m=n by omega];exact this
 obtain ⟨S,hS⟩:∃ S:Nat->StN,S=Zg x B:=⟨_,rfl⟩;have S1:Hid (∀ m,S (m+1)=YM (B m) (yM x (YM (B m) (S m)))):=fun m=>by rw [hS];rfl
 have RES:Hid (jY ks x=qs (S 255).1 (zL (S 255).2.2.1)):=by unfold Hid;rw [hS,hB];rfl
 have S0:Hid (S 0=(1,x,0,1)):=by unfold Hid;rw [hS];rfl
 clear hS hB hx;have L_rk:=zx (jY ks x);have hrk:Hid (kL (jY ks x)=kL (qs (S 255).1 (zL (S 255).2.2.1))):=by unfold Hid;rw [RES.out]
 clear RES;generalize kL (jY ks x)=rk at *;have S_rk:(cellsOf rk).toArray.size=32:=by simp [ja,L_rk]
 have O_rk:=ji rk;have S_ks:(cellsOf ks).toArray.size=32:=by simp [ja,hk]
 have S_ps:(cellsOf ps).toArray.size=32:=by simp [ja,hp]
 have hal:=zy;have hbz:=Hj jd8;have n_zn:=jjQ;generalize J6=zn at *;have S_zn:=jnE n_zn.len;have O_zn:=jw zn;have hb1:=Hj jaw;have n_ow:=jji;generalize jeK=ow at *;have S_ow:=jnE n_ow.len;have O_ow:=jw ow;have hbf:=Hj jeo;have n_fw:=ji4;generalize jkj=fw at *;have S_fw:=jnE n_fw.len;have O_fw:=jw fw;have hal2:∀ w,(jpI 23).run jpx w= .ok (.agg (cellsOf (jqn 32 0)).toArray) w:=fun w=>by rw [jU];exact j2 w
 have L_zk:(jqn 32 (0:UInt8)).length=32:=rfl;generalize jqn 32 (0:UInt8)=zk at *;have S_zk:(cellsOf zk).toArray.size=32:=by simp [ja,L_zk]
 have B0:Hid (Ky (((w.alloc (jqY (cellsOf ks).toArray 23)).alloc (jqY (cellsOf ps).toArray 23)).alloc (jqY (cellsOf zk).toArray 23)) w.heap.size ks/\Ky (((w.alloc (jqY (cellsOf ks).toArray 23)).alloc (jqY (cellsOf ps).toArray 23)).alloc (jqY (cellsOf zk).toArray 23)) (w.heap.size+1) ps/\Ky (((w.alloc (jqY (cellsOf ks).toArray 23)).alloc (jqY (cellsOf ps).toArray 23)).alloc (jqY (cellsOf zk).toArray 23)) (w.heap.size+1+1) zk/\Ext w (((w.alloc (jqY (cellsOf ks).toArray 23)).alloc (jqY (cellsOf ps).toArray 23)).alloc (jqY (cellsOf zk).toArray 23))):=⟨⟨jF _ _ _ _,hk⟩,⟨jH _ _ _ _,hp⟩,⟨jB _ _ _ _,L_zk⟩,(((jnQ w).alloc _).alloc _).alloc _⟩;go_enter Tryz.func71,Tryz.ntmps71
 go_upto_region 1 with fail;refine jg (fun W=>Ky W w.heap.size ks/\Ky W (w.heap.size+1) ps/\Ky W (w.heap.size+1+1) zk/\Ext w W) B0.out ?_;clear B0;rintro w0_ ⟨KS,KP,KZ,KE⟩;go_wp2_with (refine wl_ rfl 23 rfl (w.heap.size+1) rfl KP.1 rfl rfl (by rw [S_ps];rfl) ?_;go_frame)
 refine (OFA.out _).mono ?_;rintro e u_ ⟨cx,n_cx,rfl,e1⟩;have S_cx:=jnE n_cx.len;have O_cx:=jw cx;have a1:=zY u_ (jc zn).toArray 200;have E_:=yJ e1 (jc zn).toArray 200 (jc cx).toArray;go_upto_region 2 with (first
  | (refine ws_ rfl 200 rfl u_.heap.size (jc cx).toArray rfl rfl a1.out (by rw [S_cx];rfl) (by rw [S_cx,S_zn]) O_cx ?_;simp only [jpR]))
 obtain ⟨g5,hg_⟩:∃ g,g=u_.heap.size:=⟨_,rfl⟩;have z5:w.heap.size+1+1 < g5:=by rw [hg_];exact jpq (jh KZ.1) e1.size
 refine jg (fun W=>Ur W g5 200 cx/\Ky W w.heap.size ks/\Ky W (w.heap.size+1) ps/\Ky W (w.heap.size+1+1) zk/\Ext w W) ⟨by rw [hg_];exact jqc _ _ _ _ _ _ a1.out,
  KS.ext E_,
  KP.ext E_,
  KZ.ext E_,
  KE.trans E_⟩ ?_
 rw [<-hg_];clear KS KP KZ KE hg_ a1 E_ e1 OFA;rintro w1_ ⟨K5,KS,KP,KZ,KE⟩;have a1:=zY w1_ (jc zn).toArray 200;have E_:=yJ (jnQ w1_) (jc zn).toArray 200 (jc ow).toArray;go_upto_region 3 with (first
  | (refine jm rfl _ _ rfl (jc ow).toArray (by simp only [jqE,jqA,jqF];exact hb1.out) ?_;go_frame)
  | (refine ws_ rfl 200 rfl w1_.heap.size (jc ow).toArray rfl rfl a1.out (by rw [S_ow];rfl) (by rw [S_ow,S_zn]) O_ow ?_;simp only [jpR]))
 obtain ⟨g6,hg_⟩:∃ g,g=w1_.heap.size:=⟨_,rfl⟩;have z6:g5 < g6:=by rw [hg_];exact K5.lt
 refine jg (fun W=>Ur W g5 200 cx/\Ur W g6 200 ow/\Ky W w.heap.size ks/\Ky W (w.heap.size+1) ps/\Ky W (w.heap.size+1+1) zk/\Ext w W) ⟨K5.kept E_ K5.lt,
  by rw [hg_];exact jqc _ _ _ _ _ _ a1.out,
  KS.ext E_,
  KP.ext E_,
  KZ.ext E_,
  KE.trans E_⟩ ?_
 rw [<-hg_];clear K5 KS KP KZ KE hg_ a1 E_;rintro w2_ ⟨K5,K6,KS,KP,KZ,KE⟩;have a1:=zY w2_ (jc zn).toArray 200;have E_:=yJ (jnQ w2_) (jc zn).toArray 200 (jc cx).toArray;go_upto_region 4 with (first
  | (refine wl_ rfl 200 rfl g5 rfl K5 rfl rfl (by rw [S_cx];rfl) ?_;go_frame)
  | (refine ws_ rfl 200 rfl w2_.heap.size (jc cx).toArray rfl rfl a1.out (by rw [S_cx];rfl) (by rw [S_cx,S_zn]) O_cx ?_;simp only [jpR]))
 obtain ⟨g7,hg_⟩:∃ g,g=w2_.heap.size:=⟨_,rfl⟩;have z7:g6 < g7:=by rw [hg_];exact K6.lt
 refine jg (fun W=>Ur W g5 200 cx/\Ur W g6 200 ow/\Ur W g7 200 cx/\Ky W w.heap.size ks/\Ky W (w.heap.size+1) ps/\Ky W (w.heap.size+1+1) zk/\Ext w W) ⟨K5.kept E_ K5.lt,
  K6.kept E_ K6.lt,
  by rw [hg_];exact jqc _ _ _ _ _ _ a1.out,
  KS.ext E_,
  KP.ext E_,
  KZ.ext E_,
  KE.trans E_⟩ ?_
 rw [<-hg_];clear K5 K6 KS KP KZ KE hg_ a1 E_;rintro w3_ ⟨K5,K6,K7,KS,KP,KZ,KE⟩;have a1:=zY w3_ (jc zn).toArray 200;have E_:=yJ (jnQ w3_) (jc zn).toArray 200 (jc zn).toArray;go_upto_region 5 with (first
  | (refine jm rfl _ _ rfl (jc zn).toArray (by simp only [jqE,jqA,jqF];exact hbz.out) ?_;go_frame)
  | (refine ws_ rfl 200 rfl w3_.heap.size (jc zn).toArray rfl rfl a1.out (by rw [S_zn];rfl) rfl O_zn ?_;simp only [jpR]))
 obtain ⟨g8,hg_⟩:∃ g,g=w3_.heap.size:=⟨_,rfl⟩;have z8:g7 < g8:=by rw [hg_];exact K7.lt
 refine jg (fun W=>Ur W g5 200 cx/\Ur W g6 200 ow/\Ur W g7 200 cx/\Ur W g8 200 zn/\Ky W w.heap.size ks/\Ky W (w.heap.size+1) ps/\Ky W (w.heap.size+1+1) zk/\Ext w W) ⟨K5.kept E_ K5.lt,
  K6.kept E_ K6.lt,
  K7.kept E_ K7.lt,
  by rw [hg_];exact jqc _ _ _ _ _ _ a1.out,
  KS.ext E_,
  KP.ext E_,
  KZ.ext E_,
  KE.trans E_⟩ ?_
 rw [<-hg_];clear K5 K6 K7 KS KP KZ KE hg_ a1 E_;rintro w4_ ⟨K5,K6,K7,K8,KS,KP,KZ,KE⟩;have a1:=zY w4_ (jc zn).toArray 200;have E_:=yJ (jnQ w4_) (jc zn).toArray 200 (jc ow).toArray;go_upto_region 6 with (first
  | (refine jm rfl _ _ rfl (jc ow).toArray (by simp only [jqE,jqA,jqF];exact hb1.out) ?_;go_frame)
  | (refine ws_ rfl 200 rfl w4_.heap.size (jc ow).toArray rfl rfl a1.out (by rw [S_ow];rfl) (by rw [S_ow,S_zn]) O_ow ?_;simp only [jpR]))
 obtain ⟨g9,hg_⟩:∃ g,g=w4_.heap.size:=⟨_,rfl⟩;have z9:g8 < g9:=by rw [hg_];exact K8.lt
 refine jg (fun W=>Ur W g5 200 cx/\Ur W g6 200 ow/\Ur W g7 200 cx/\Ur W g8 200 zn/\Ur W g9 200 ow/\Ky W w.heap.size ks/\Ky W (w.heap.size+1) ps/\Ky W (w.heap.size+1+1) zk/\Ext w W) ⟨K5.kept E_ K5.lt,
  K6.kept E_ K6.lt,
  K7.kept E_ K7.lt,
  K8.kept E_ K8.lt,
  by rw [hg_];exact jqc _ _ _ _ _ _ a1.out,
  KS.ext E_,
  KP.ext E_,
  KZ.ext E_,
  KE.trans E_⟩ ?_
 rw [<-hg_];clear K5 K6 K7 K8 KS KP KZ KE hg_ a1 E_;rintro w5_ ⟨K5,K6,K7,K8,K9,KS,KP,KZ,KE⟩;have P3:Hid (∀ s,Below g6 w5_ s->Ky s w.heap.size ks/\Ky s (w.heap.size+1+1) zk/\Ur s g5 200 cx/\Ext w s):=fun s e=>
  ⟨⟨(e.block _ (by omega)).trans KS.1,KS.2⟩,⟨(e.block _ (by omega)).trans KZ.1,KZ.2⟩,K5.kept e z6,jpn KE (e.mono (by omega))⟩
 clear KS KP KZ KE K5;go_wp2_with fail;go_loopw [10] (fun iv wr=>∃ (m:Nat) (c6 c7 c8 c9:List Nat),m<=255/\iv= .int .i64 (254 - (m:Int))/\Ur wr g6 200 c6/\Ur wr g7 200 c7/\Ur wr g8 200 c8/\Ur wr g9 200 c9/\IsN c6 (S m).1/\IsN c7 (S m).2.1/\IsN c8 (S m).2.2.1/\IsN c9 (S m).2.2.2/\Below g6 w5_ wr) (fun iv _=>(intOf iv+1).toNat)
 case atStart=>
  exact ⟨0,ow,cx,zn,ow,jpp _,rfl,K6,K7,K8,K9,by rw [S0.out];exact n_ow,by rw [S0.out];exact n_cx,by rw [S0.out];exact n_zn,by rw [S0.out];exact n_ow,jpm _ _⟩
 case round=>
  clear K6 K7 K8 K9 S0;obtain ⟨m,c6,c7,c8,c9,hm,rfl,K6,K7,K8,K9,n6,n7,n8,n9,KB⟩:=hrel;by_cases hlt:m < 255
  ·obtain ⟨n,hn⟩:∃ n:Nat,m+n=254:=⟨254 - m,by omega⟩;obtain ⟨b,hb⟩:∃ b:Int,b=254 - (m:Int):=⟨_,rfl⟩;have hbn:(n:Int)=b:=by omega
   rw [<-hb];have hbn1:Hid (b - 1=254 - ((m+1:Nat):Int)):=by unfold Hid;omega
   have hme:Hid ((b - 1+1).toNat < (b+1).toNat):=by unfold Hid;omega
   have b0:(0:Int)<=b:=by omega
   have b1:b<=254:=by omega
   have bw:IntKind.i64.wrap (b - 1)=b - 1:=jq0 _ (by omega);have BT:=Hj (fun W=>BIT.out m n W hn);rw [hbn] at BT;have hm1:Hid (m+1<=255):=by unfold Hid;omega
   clear BIT hn hbn hb hlt hm hrk;have S_c6:=jnE n6.len;have S_c7:=jnE n7.len;have S_c8:=jnE n8.len;have S_c9:=jnE n9.len;have O_c6:=jw c6;have O_c7:=jw c7;have O_c8:=jw c8;have O_c9:=jw c9;obtain ⟨va,hva⟩:∃ v,v=(S m).1:=⟨_,rfl⟩;obtain ⟨vb,hvb⟩:∃ v,v=(S m).2.1:=⟨_,rfl⟩;obtain ⟨vc,hvc⟩:∃ v,v=(S m).2.2.1:=⟨_,rfl⟩;obtain ⟨vd,hvd⟩:∃ v,v=(S m).2.2.2:=⟨_,rfl⟩;rw [<-hva] at n6;rw [<-hvb] at n7;rw [<-hvc] at n8;rw [<-hvd] at n9;have SM:Hid (∀ _:Unit,S m=(va,vb,vc,vd)):=fun _=>by rw [hva,hvb,hvc,hvd]
   clear hva hvb hvc hvd;have S1m:Hid (∀ _:Unit,S (m+1)=YM (B m) (yM x (YM (B m) (va,vb,vc,vd)))):=fun _=>by rw [S1.out m,SM.out ()]
   clear S1 SM;have K5:=(P3.out _ KB).2.2.1;rcases Bool.eq_false_or_eq_true (B m) with hbt | hbt
   ·rw [hbt] at BT S1m;clear hbt;have KX:=(P3.out _ KB).1;go_wp2_with (refine wl_ rfl 23 rfl w.heap.size rfl KX.1 rfl rfl (by rw [S_ks];rfl) ?_;go_frame)
    refine (BT.out _).mono ?_;rintro e u_ ⟨rfl,e1⟩;go_upto_region 10 with fail;refine jg (fun W=>Ur W g5 200 cx/\Ur W g6 200 c6/\Ur W g7 200 c7/\Ur W g8 200 c8/\Ur W g9 200 c9/\Below g6 w5_ W) ⟨K5.kept e1 K5.lt,
     K6.kept e1 K6.lt,
     K7.kept e1 K7.lt,
     K8.kept e1 K8.lt,
     K9.kept e1 K9.lt,
     jpn KB (e1.mono (jqU K6.lt))⟩ ?_
    clear K5 K6 K7 K8 K9 KB KX e1;rintro w7_ ⟨K5,K6,K7,K8,K9,KB⟩;have a1:=zY w7_ (jc zn).toArray 200;have E_:=yJ (jnQ w7_) (jc zn).toArray 200 (jc c6).toArray;go_upto_region 11 with (first
     | (refine wl_ rfl 200 rfl g6 rfl K6 rfl rfl (by rw [S_c6];rfl) ?_;go_frame)
     | (refine ws_ rfl 200 rfl w7_.heap.size (jc c6).toArray rfl rfl a1.out (by rw [S_c6];rfl) (by rw [S_c6,S_zn]) O_c6 ?_;simp only [jpR]))
    obtain ⟨g11,hg_⟩:∃ g,g=w7_.heap.size:=⟨_,rfl⟩;have z11:g9 < g11:=by rw [hg_];exact K9.lt
    refine jg (fun W=>Ur W g5 200 cx/\Ur W g6 200 c6/\Ur W g7 200 c7/\Ur W g8 200 c8/\Ur W g9 200 c9/\Ur W g11 200 c6/\Below g6 w5_ W) ⟨K5.kept E_ K5.lt,
     K6.kept E_ K6.lt,
     K7.kept E_ K7.lt,
     K8.kept E_ K8.lt,
     K9.kept E_ K9.lt,
     by rw [hg_];exact jqc _ _ _ _ _ _ a1.out,
     jpn KB (E_.mono (jqU K6.lt))⟩ ?_
    rw [<-hg_];clear K5 K6 K7 K8 K9 KB hg_ a1 E_;rintro w8_ ⟨K5,K6,K7,K8,K9,K11,KB⟩;go_upto_region 12 with (first
     | (refine wl_ rfl 200 rfl g7 rfl K7 rfl rfl (by rw [S_c7];rfl) ?_;go_frame)
     | (refine ws_ rfl 200 rfl g6 (jc c7).toArray rfl rfl K6 (by rw [S_c7];rfl) (by rw [S_c7,S_c6]) O_c7 ?_;simp only [jpR]))
    refine jg (fun W=>Ur W g5 200 cx/\Ur W g6 200 c7/\Ur W g7 200 c7/\Ur W g8 200 c8/\Ur W g9 200 c9/\Ur W g11 200 c6/\Below g6 w5_ W) ⟨K5.so (by omega),
     jqc _ _ _ _ _ _ K6,
     K7.so (by omega),
     K8.so (by omega),
     K9.so (by omega),
     K11.so (by omega),
     jqb KB (by omega) _⟩ ?_
    clear K5 K6 K7 K8 K9 K11 KB;rintro w9_ ⟨K5,K6,K7,K8,K9,K11,KB⟩;go_upto_region 13 with (first
     | (refine wl_ rfl 200 rfl g11 rfl K11 rfl rfl (by rw [S_c6];rfl) ?_;go_frame)
     | (refine ws_ rfl 200 rfl g7 (jc c6).toArray rfl rfl K7 (by rw [S_c6];rfl) (by rw [S_c6,S_c7]) O_c6 ?_;simp only [jpR]))
    refine jg (fun W=>Ur W g5 200 cx/\Ur W g6 200 c7/\Ur W g7 200 c6/\Ur W g8 200 c8/\Ur W g9 200 c9/\Ur W g11 200 c6/\Below g6 w5_ W) ⟨K5.so (by omega),
     K6.so (by omega),
     jqc _ _ _ _ _ _ K7,
     K8.so (by omega),
     K9.so (by omega),
     K11.so (by omega),
     jqb KB (by omega) _⟩ ?_
    clear K5 K6 K7 K8 K9 K11 KB;rintro w10_ ⟨K5,K6,K7,K8,K9,K11,KB⟩;go_upto_region 14 with (first
     | (refine wl_ rfl 200 rfl g8 rfl K8 rfl rfl (by rw [S_c8];rfl) ?_;go_frame)
     | (refine ws_ rfl 200 rfl g11 (jc c8).toArray rfl rfl K11 (by rw [S_c8];rfl) (by rw [S_c8,S_c6]) O_c8 ?_;simp only [jpR]))
    refine jg (fun W=>Ur W g5 200 cx/\Ur W g6 200 c7/\Ur W g7 200 c6/\Ur W g8 200 c8/\Ur W g9 200 c9/\Ur W g11 200 c8/\Below g6 w5_ W) ⟨K5.so (by omega),
     K6.so (by omega),
     K7.so (by omega),
     K8.so (by omega),
     K9.so (by omega),
     jqc _ _ _ _ _ _ K11,
     jqb KB (by omega) _⟩ ?_
    clear K5 K6 K7 K8 K9 K11 KB;rintro w11_ ⟨K5,K6,K7,K8,K9,K11,KB⟩;go_upto_region 15 with (first
     | (refine wl_ rfl 200 rfl g9 rfl K9 rfl rfl (by rw [S_c9];rfl) ?_;go_frame)
     | (refine ws_ rfl 200 rfl g8 (jc c9).toArray rfl rfl K8 (by rw [S_c9];rfl) (by rw [S_c9,S_c8]) O_c9 ?_;simp only [jpR]))
    refine jg (fun W=>Ur W g5 200 cx/\Ur W g6 200 c7/\Ur W g7 200 c6/\Ur W g8 200 c9/\Ur W g9 200 c9/\Ur W g11 200 c8/\Below g6 w5_ W) ⟨K5.so (by omega),
     K6.so (by omega),
     K7.so (by omega),
     jqc _ _ _ _ _ _ K8,
     K9.so (by omega),
     K11.so (by omega),
     jqb KB (by omega) _⟩ ?_
    clear K5 K6 K7 K8 K9 K11 KB;rintro w12_ ⟨K5,K6,K7,K8,K9,K11,KB⟩;go_upto_region 16 with (first
     | (refine wl_ rfl 200 rfl g11 rfl K11 rfl rfl (by rw [S_c8];rfl) ?_;go_frame)
     | (refine ws_ rfl 200 rfl g9 (jc c8).toArray rfl rfl K9 (by rw [S_c8];rfl) (by rw [S_c8,S_c9]) O_c8 ?_;simp only [jpR]))
    refine jg (fun W=>Ur W g5 200 cx/\Ur W g6 200 c7/\Ur W g7 200 c6/\Ur W g8 200 c9/\Ur W g9 200 c8/\Ur W g11 200 c8/\Below g6 w5_ W) ⟨K5.so (by omega),
     K6.so (by omega),
     K7.so (by omega),
     K8.so (by omega),
     jqc _ _ _ _ _ _ K9,
     K11.so (by omega),
     jqb KB (by omega) _⟩ ?_
    clear K5 K6 K7 K8 K9 K11 KB;rintro w13_ ⟨K5,K6,K7,K8,K9,K11,KB⟩;clear K11;go_wp2_with (first
     | (refine wl_ rfl 200 rfl g6 rfl K6 rfl rfl (by rw [S_c7];rfl) ?_;go_frame)
     | (refine wl_ rfl 200 rfl g8 rfl K8 rfl rfl (by rw [S_c9];rfl) ?_;go_frame))
    refine (yo n7 n9).mono ?_;rintro e u_ ⟨c_101,n_101,rfl,e1⟩;obtain ⟨v_102,hv_102⟩:∃ v,v=jnw vb vd:=⟨_,rfl⟩;rw [<-hv_102] at n_101;replace hv_102:=Hj (fun _:Unit=>hv_102);have S_c_101:=jnE n_101.len;have O_c_101:=jw c_101;have a1:=zY u_ (jc zn).toArray 200;have E_:=yJ e1 (jc zn).toArray 200 (jc c_101).toArray;go_upto_region 17 with (first
     | (refine ws_ rfl 200 rfl u_.heap.size (jc c_101).toArray rfl rfl a1.out (by rw [S_c_101];rfl) (by rw [S_c_101,S_zn]) O_c_101 ?_;simp only [jpR]))
    obtain ⟨g12,hg_⟩:∃ g,g=u_.heap.size:=⟨_,rfl⟩;have z12:g9 < g12:=by rw [hg_];exact jpq K9.lt e1.size
    refine jg (fun W=>Ur W g5 200 cx/\Ur W g6 200 c7/\Ur W g7 200 c6/\Ur W g8 200 c9/\Ur W g9 200 c8/\Ur W g12 200 c_101/\Below g6 w5_ W) ⟨K5.kept E_ K5.lt,
     K6.kept E_ K6.lt,
     K7.kept E_ K7.lt,
     K8.kept E_ K8.lt,
     K9.kept E_ K9.lt,
     by rw [hg_];exact jqc _ _ _ _ _ _ a1.out,
     jpn KB (E_.mono (jqU K6.lt))⟩ ?_
    rw [<-hg_];clear K5 K6 K7 K8 K9 KB hg_ a1 E_ e1;rintro w14_ ⟨K5,K6,K7,K8,K9,K12,KB⟩;go_wp2_with (first
     | (refine wl_ rfl 200 rfl g6 rfl K6 rfl rfl (by rw [S_c7];rfl) ?_;go_frame)
     | (refine wl_ rfl 200 rfl g8 rfl K8 rfl rfl (by rw [S_c9];rfl) ?_;go_frame))
    refine (yp n7 n9).mono ?_;rintro e u_ ⟨c_103,n_103,rfl,e1⟩;obtain ⟨v_104,hv_104⟩:∃ v,v=zO vb vd:=⟨_,rfl⟩;rw [<-hv_104] at n_103;replace hv_104:=Hj (fun _:Unit=>hv_104);have S_c_103:=jnE n_103.len;have O_c_103:=jw c_103;have a1:=zY u_ (jc zn).toArray 200;have E_:=yJ e1 (jc zn).toArray 200 (jc c_103).toArray;go_upto_region 18 with (first
     | (refine ws_ rfl 200 rfl u_.heap.size (jc c_103).toArray rfl rfl a1.out (by rw [S_c_103];rfl) (by rw [S_c_103,S_zn]) O_c_103 ?_;simp only [jpR]))
    obtain ⟨g13,hg_⟩:∃ g,g=u_.heap.size:=⟨_,rfl⟩;have z13:g9 < g13:=by rw [hg_];exact jpq K9.lt e1.size
    refine jg (fun W=>Ur W g5 200 cx/\Ur W g6 200 c7/\Ur W g7 200 c6/\Ur W g8 200 c9/\Ur W g9 200 c8/\Ur W g12 200 c_101/\Ur W g13 200 c_103/\Below g6 w5_ W) ⟨K5.kept E_ K5.lt,
     K6.kept E_ K6.lt,
     K7.kept E_ K7.lt,
     K8.kept E_ K8.lt,
     K9.kept E_ K9.lt,
     K12.kept E_ K12.lt,
     by rw [hg_];exact jqc _ _ _ _ _ _ a1.out,
     jpn KB (E_.mono (jqU K6.lt))⟩ ?_
    rw [<-hg_];clear K5 K6 K7 K8 K9 K12 KB hg_ a1 E_ e1;rintro w15_ ⟨K5,K6,K7,K8,K9,K12,K13,KB⟩;go_wp2_with (first
     | (refine wl_ rfl 200 rfl g12 rfl K12 rfl rfl (by rw [S_c_101];rfl) ?_;go_frame))
    refine (j9 n_101 n_101).mono ?_;rintro e u_ ⟨c_105,n_105,rfl,e1⟩;obtain ⟨v_106,hv_106⟩:∃ v,v=qs v_102 v_102:=⟨_,rfl⟩;rw [<-hv_106] at n_105;replace hv_106:=Hj (fun _:Unit=>hv_106);have S_c_105:=jnE n_105.len;have O_c_105:=jw c_105;have a1:=zY u_ (jc zn).toArray 200;have E_:=yJ e1 (jc zn).toArray 200 (jc c_105).toArray;go_upto_region 19 with (first
     | (refine ws_ rfl 200 rfl u_.heap.size (jc c_105).toArray rfl rfl a1.out (by rw [S_c_105];rfl) (by rw [S_c_105,S_zn]) O_c_105 ?_;simp only [jpR]))
    obtain ⟨g14,hg_⟩:∃ g,g=u_.heap.size:=⟨_,rfl⟩;have z14:g9 < g14:=by rw [hg_];exact jpq K9.lt e1.size
    refine jg (fun W=>Ur W g5 200 cx/\Ur W g6 200 c7/\Ur W g7 200 c6/\Ur W g8 200 c9/\Ur W g9 200 c8/\Ur W g12 200 c_101/\Ur W g13 200 c_103/\Ur W g14 200 c_105/\Below g6 w5_ W) ⟨K5.kept E_ K5.lt,
     K6.kept E_ K6.lt,
     K7.kept E_ K7.lt,
     K8.kept E_ K8.lt,
     K9.kept E_ K9.lt,
     K12.kept E_ K12.lt,
     K13.kept E_ K13.lt,
     by rw [hg_];exact jqc _ _ _ _ _ _ a1.out,
     jpn KB (E_.mono (jqU K6.lt))⟩ ?_
    rw [<-hg_];clear K5 K6 K7 K8 K9 K12 K13 KB hg_ a1 E_ e1;rintro w16_ ⟨K5,K6,K7,K8,K9,K12,K13,K14,KB⟩;go_wp2_with (first
     | (refine wl_ rfl 200 rfl g13 rfl K13 rfl rfl (by rw [S_c_103];rfl) ?_;go_frame))
    refine (j9 n_103 n_103).mono ?_;rintro e u_ ⟨c_107,n_107,rfl,e1⟩;obtain ⟨v_108,hv_108⟩:∃ v,v=qs v_104 v_104:=⟨_,rfl⟩;rw [<-hv_108] at n_107;replace hv_108:=Hj (fun _:Unit=>hv_108);have S_c_107:=jnE n_107.len;have O_c_107:=jw c_107;have a1:=zY u_ (jc zn).toArray 200;have E_:=yJ e1 (jc zn).toArray 200 (jc c_107).toArray;go_upto_region 20 with (first
     | (refine ws_ rfl 200 rfl u_.heap.size (jc c_107).toArray rfl rfl a1.out (by rw [S_c_107];rfl) (by rw [S_c_107,S_zn]) O_c_107 ?_;simp only [jpR]))
    obtain ⟨g15,hg_⟩:∃ g,g=u_.heap.size:=⟨_,rfl⟩;have z15:g9 < g15:=by rw [hg_];exact jpq K9.lt e1.size
    refine jg (fun W=>Ur W g5 200 cx/\Ur W g6 200 c7/\Ur W g7 200 c6/\Ur W g8 200 c9/\Ur W g9 200 c8/\Ur W g12 200 c_101/\Ur W g13 200 c_103/\Ur W g14 200 c_105/\Ur W g15 200 c_107/\Below g6 w5_ W) ⟨K5.kept E_ K5.lt,
     K6.kept E_ K6.lt,
     K7.kept E_ K7.lt,
     K8.kept E_ K8.lt,
     K9.kept E_ K9.lt,
     K12.kept E_ K12.lt,
     K13.kept E_ K13.lt,
     K14.kept E_ K14.lt,
     by rw [hg_];exact jqc _ _ _ _ _ _ a1.out,
     jpn KB (E_.mono (jqU K6.lt))⟩ ?_
    rw [<-hg_];clear K5 K6 K7 K8 K9 K12 K13 K14 KB hg_ a1 E_ e1;rintro w17_ ⟨K5,K6,K7,K8,K9,K12,K13,K14,K15,KB⟩;go_wp2_with (first
     | (refine wl_ rfl 200 rfl g14 rfl K14 rfl rfl (by rw [S_c_105];rfl) ?_;go_frame)
     | (refine wl_ rfl 200 rfl g15 rfl K15 rfl rfl (by rw [S_c_107];rfl) ?_;go_frame))
    refine (yp n_105 n_107).mono ?_;rintro e u_ ⟨c_109,n_109,rfl,e1⟩;obtain ⟨v_110,hv_110⟩:∃ v,v=zO v_106 v_108:=⟨_,rfl⟩;rw [<-hv_110] at n_109;replace hv_110:=Hj (fun _:Unit=>hv_110);have S_c_109:=jnE n_109.len;have O_c_109:=jw c_109;have a1:=zY u_ (jc zn).toArray 200;have E_:=yJ e1 (jc zn).toArray 200 (jc c_109).toArray;go_upto_region 21 with (first
     | (refine ws_ rfl 200 rfl u_.heap.size (jc c_109).toArray rfl rfl a1.out (by rw [S_c_109];rfl) (by rw [S_c_109,S_zn]) O_c_109 ?_;simp only [jpR]))
    obtain ⟨g16,hg_⟩:∃ g,g=u_.heap.size:=⟨_,rfl⟩;have z16:g9 < g16:=by rw [hg_];exact jpq K9.lt e1.size
    refine jg (fun W=>Ur W g5 200 cx/\Ur W g6 200 c7/\Ur W g7 200 c6/\Ur W g8 200 c9/\Ur W g9 200 c8/\Ur W g12 200 c_101/\Ur W g13 200 c_103/\Ur W g14 200 c_105/\Ur W g15 200 c_107/\Ur W g16 200 c_109/\Below g6 w5_ W) ⟨K5.kept E_ K5.lt,
     K6.kept E_ K6.lt,
     K7.kept E_ K7.lt,
     K8.kept E_ K8.lt,
     K9.kept E_ K9.lt,
     K12.kept E_ K12.lt,
     K13.kept E_ K13.lt,
     K14.kept E_ K14.lt,
     K15.kept E_ K15.lt,
     by rw [hg_];exact jqc _ _ _ _ _ _ a1.out,
     jpn KB (E_.mono (jqU K6.lt))⟩ ?_
    rw [<-hg_];clear K5 K6 K7 K8 K9 K12 K13 K14 K15 KB hg_ a1 E_ e1;rintro w18_ ⟨K5,K6,K7,K8,K9,K12,K13,K14,K15,K16,KB⟩;have Q7:=K7.q;have Q9:=K9.q;have Q12:=K12.q;refine qgF (R:=Ext) jnQ (fun _ _ _=>Ext.trans) [0,1,2,3,4,5] [6] [0,0,3,0,15,0,63] [true,true,true,true,true,true,false] ?_;refine jnT (fun _=>jnQ _) _ rfl (v:= .agg (jc c6).toArray) (d:=57) rfl rfl ?_ ?_
    ·intro a_ w_ hev hR hk;have e7:a_.eval (.tmp 7)=_:=hk 7 rfl;exact (jd rfl e7 (Q7.out w_ (Ext.trans (jnQ _).drew hR)) rfl rfl (by rw [S_c6];rfl))
    refine jnT (fun _=>jnQ _) _ rfl (v:= .agg (jc c8).toArray) (d:=58) rfl rfl ?_ ?_
    ·intro a_ w_ hev hR hk;have e9:a_.eval (.tmp 9)=_:=hk 9 rfl;exact (jd rfl e9 (Q9.out w_ (Ext.trans (jnQ _).drew hR)) rfl rfl (by rw [S_c8];rfl))
    refine jx _ rfl (fun u _=>∃ es,u= .agg (jc es).toArray/\IsN es (zO va vc)) (d:=59) rfl (fun _ _ _ h _=>h) rfl ?_ ?_
    ·intro a_ w_ hev hR hk K1 hK1;have e56:a_.eval (.tmp 56)=_:=hk 56 rfl;have e57:a_.eval (.tmp 57)=_:=hk 57 rfl;clear hk;have f56:=jz.trans e56;have f57:=jz.trans e57;go_simp;refine (yp n6 n8).mono ?_;rintro e_ w2_ ⟨fs_,hf_,rfl,x_⟩;exact hK1.out _ _ x_ ⟨fs_,rfl,hf_⟩
    refine jnT (fun _=>jnQ _) _ rfl (v:= .agg (jc c_101).toArray) (d:=60) rfl rfl ?_ ?_
    ·intro a_ w_ hev hR hk;have e12:a_.eval (.tmp 12)=_:=hk 12 rfl;exact (jd rfl e12 (Q12.out w_ (Ext.trans (jnQ _).drew hR)) rfl rfl (by rw [S_c_101];rfl))
    refine jx _ rfl (fun u _=>∃ es,u= .agg (jc es).toArray/\IsN es (qs (zO va vc) v_102)) (d:=61) rfl (fun _ _ _ h _=>h) rfl ?_ ?_
    ·intro a_ w_ hev hR hk K1 hK1;obtain ⟨es_58,e58,n58⟩:∃ es,a_.eval (.tmp 58)= .agg (jc es).toArray/\IsN es _:=hk 58 rfl;have e59:a_.eval (.tmp 59)=_:=hk 59 rfl;clear hk;have f58:=jz.trans e58;have f59:=jz.trans e59;go_simp;refine (j9 n58 n_101).mono ?_;rintro e_ w2_ ⟨fs_,hf_,rfl,x_⟩;exact hK1.out _ _ x_ ⟨fs_,rfl,hf_⟩
    refine qY _ rfl (fun u w_=>∃ g,u= .pointer (some ⟨g,0,none⟩)/\w18_.drew.heap.size<=g/\w_.heap[g]? =some (.cells (jc zn).toArray 200 (0,0))) (d:=18) rfl (fun _ _ _ h e=>by obtain ⟨g,h1,h2,h3⟩:=h;exact ⟨g,h1,h2,(e.block g (jh h3)).trans h3⟩) rfl (by decide) (fun _ _ h=>by obtain ⟨g,h1,h2,h3⟩:=h;subst h1;exact ⟨g,rfl,jh h3⟩) ?_ ?_
    ·intro a_ w_ hev hR hk K1 hK1;go_simp;exact hK1.out _ _ ((jnQ _).alloc _) ⟨_,rfl,hR.size,jqq _ _⟩ (fun _ q=>by cases q;exact jpo _)
    intro v_ wq_ hR hV_ hN_;obtain ⟨hv5,hv4,hv3,hv2,hv1,hv0,_⟩:=hV_;replace hv0:v_ 0=_:=hv0;replace hv1:v_ 1=_:=hv1
    skip
    replace hv3:v_ 3=_:=hv3
    skip
    skip
    dsimp only [yQ,zv];obtain ⟨es_2,hv2,hn_2⟩:=hv2;obtain ⟨es_4,hv4,hn_4⟩:=hv4;obtain ⟨g_5,hv5,gb_5,gc_5⟩:=hv5;clear hN_;rw [hv0,hv1,hv2,hv3,hv4,hv5];go_frame
    clear hv0 hv1 hv2 hv3 hv4 hv5;generalize es_4=c_111 at *;have n_111:=hn_4;clear hn_2 hn_4;obtain ⟨v_112,hv_112⟩:∃ v,v=qs (zO va vc) v_102:=⟨_,rfl⟩;rw [<-hv_112] at n_111;replace hv_112:=Hj (fun _:Unit=>hv_112);have S_c_111:=jnE n_111.len;have O_c_111:=jw c_111;refine qi (z:=6) _ rfl rfl (by kernel_rfl) ?_;intro K1 hK1;refine jrf _ _ _ rfl g_5 (jc c_111).toArray rfl rfl 200 (jc zn).toArray gc_5 (by rw [S_c_111];rfl) (by rw [S_c_111,S_zn]) O_c_111 ?_;refine hK1.out _ _ ?_;clear hK1 K1;refine qT (by kernel_rfl) ?_;have z17:g9 < g_5:=jpq K9.lt gb_5;have E_:Ext w18_ (wq_.setRow g_5 (jc c_111).toArray):=jqb ((jnQ w18_).drew.trans hR) gb_5 _;refine yf (fun W=>Ur W g5 200 cx/\Ur W g6 200 c7/\Ur W g7 200 c6/\Ur W g8 200 c9/\Ur W g9 200 c8/\Ur W g12 200 c_101/\Ur W g13 200 c_103/\Ur W g14 200 c_105/\Ur W g15 200 c_107/\Ur W g16 200 c_109/\Ur W g_5 200 c_111/\Below g6 w5_ W) ⟨K5.kept E_ K5.lt,
     K6.kept E_ K6.lt,
     K7.kept E_ K7.lt,
     K8.kept E_ K8.lt,
     K9.kept E_ K9.lt,
     K12.kept E_ K12.lt,
     K13.kept E_ K13.lt,
     K14.kept E_ K14.lt,
     K15.kept E_ K15.lt,
     K16.kept E_ K16.lt,
     jqc _ _ _ _ _ _ gc_5,
     jpn KB (E_.mono (jqU K6.lt))⟩ ?_
    clear K5 K6 K7 K8 K9 K12 K13 K14 K15 K16 KB E_ hR gc_5 gb_5 Q7 Q9 Q12;rintro w19_ ⟨K5,K6,K7,K8,K9,K12,K13,K14,K15,K16,K17,KB⟩;generalize g_5=g17 at *;go_upto_region 22 with fail;have Q7:=K7.q;have Q9:=K9.q;have Q13:=K13.q;refine qgF (R:=Ext) jnQ (fun _ _ _=>Ext.trans) [0,1,2,3,4,5] [6] [0,0,3,0,15,0,63] [true,true,true,true,true,true,false] ?_;refine jnT (fun _=>jnQ _) _ rfl (v:= .agg (jc c6).toArray) (d:=62) rfl rfl ?_ ?_
    ·intro a_ w_ hev hR hk;have e7:a_.eval (.tmp 7)=_:=hk 7 rfl;exact (jd rfl e7 (Q7.out w_ (Ext.trans (jnQ _).drew hR)) rfl rfl (by rw [S_c6];rfl))
    refine jnT (fun _=>jnQ _) _ rfl (v:= .agg (jc c8).toArray) (d:=63) rfl rfl ?_ ?_
    ·intro a_ w_ hev hR hk;have e9:a_.eval (.tmp 9)=_:=hk 9 rfl;exact (jd rfl e9 (Q9.out w_ (Ext.trans (jnQ _).drew hR)) rfl rfl (by rw [S_c8];rfl))
    refine jx _ rfl (fun u _=>∃ es,u= .agg (jc es).toArray/\IsN es (jnw va vc)) (d:=64) rfl (fun _ _ _ h _=>h) rfl ?_ ?_
    ·intro a_ w_ hev hR hk K1 hK1;have e61:a_.eval (.tmp 61)=_:=hk 61 rfl;have e62:a_.eval (.tmp 62)=_:=hk 62 rfl;clear hk;have f61:=jz.trans e61;have f62:=jz.trans e62;go_simp;refine (yo n6 n8).mono ?_;rintro e_ w2_ ⟨fs_,hf_,rfl,x_⟩;exact hK1.out _ _ x_ ⟨fs_,rfl,hf_⟩
    refine jnT (fun _=>jnQ _) _ rfl (v:= .agg (jc c_103).toArray) (d:=65) rfl rfl ?_ ?_
    ·intro a_ w_ hev hR hk;have e13:a_.eval (.tmp 13)=_:=hk 13 rfl;exact (jd rfl e13 (Q13.out w_ (Ext.trans (jnQ _).drew hR)) rfl rfl (by rw [S_c_103];rfl))
    refine jx _ rfl (fun u _=>∃ es,u= .agg (jc es).toArray/\IsN es (qs (jnw va vc) v_104)) (d:=66) rfl (fun _ _ _ h _=>h) rfl ?_ ?_
    ·intro a_ w_ hev hR hk K1 hK1;obtain ⟨es_63,e63,n63⟩:∃ es,a_.eval (.tmp 63)= .agg (jc es).toArray/\IsN es _:=hk 63 rfl;have e64:a_.eval (.tmp 64)=_:=hk 64 rfl;clear hk;have f63:=jz.trans e63;have f64:=jz.trans e64;go_simp;refine (j9 n63 n_103).mono ?_;rintro e_ w2_ ⟨fs_,hf_,rfl,x_⟩;exact hK1.out _ _ x_ ⟨fs_,rfl,hf_⟩
    refine qY _ rfl (fun u w_=>∃ g,u= .pointer (some ⟨g,0,none⟩)/\w19_.drew.heap.size<=g/\w_.heap[g]? =some (.cells (jc zn).toArray 200 (0,0))) (d:=19) rfl (fun _ _ _ h e=>by obtain ⟨g,h1,h2,h3⟩:=h;exact ⟨g,h1,h2,(e.block g (jh h3)).trans h3⟩) rfl (by decide) (fun _ _ h=>by obtain ⟨g,h1,h2,h3⟩:=h;subst h1;exact ⟨g,rfl,jh h3⟩) ?_ ?_
    ·intro a_ w_ hev hR hk K1 hK1;go_simp;exact hK1.out _ _ ((jnQ _).alloc _) ⟨_,rfl,hR.size,jqq _ _⟩ (fun _ q=>by cases q;exact jpo _)
    intro v_ wq_ hR hV_ hN_;obtain ⟨hv5,hv4,hv3,hv2,hv1,hv0,_⟩:=hV_;replace hv0:v_ 0=_:=hv0;replace hv1:v_ 1=_:=hv1
    skip
    replace hv3:v_ 3=_:=hv3
    skip
    skip
    dsimp only [yQ,zv];obtain ⟨es_2,hv2,hn_2⟩:=hv2;obtain ⟨es_4,hv4,hn_4⟩:=hv4;obtain ⟨g_5,hv5,gb_5,gc_5⟩:=hv5;clear hN_;rw [hv0,hv1,hv2,hv3,hv4,hv5];go_frame
    clear hv0 hv1 hv2 hv3 hv4 hv5;generalize es_4=c_113 at *;have n_113:=hn_4;clear hn_2 hn_4;obtain ⟨v_114,hv_114⟩:∃ v,v=qs (jnw va vc) v_104:=⟨_,rfl⟩;rw [<-hv_114] at n_113;replace hv_114:=Hj (fun _:Unit=>hv_114);have S_c_113:=jnE n_113.len;have O_c_113:=jw c_113;refine qi (z:=6) _ rfl rfl (by kernel_rfl) ?_;intro K1 hK1;refine jrf _ _ _ rfl g_5 (jc c_113).toArray rfl rfl 200 (jc zn).toArray gc_5 (by rw [S_c_113];rfl) (by rw [S_c_113,S_zn]) O_c_113 ?_;refine hK1.out _ _ ?_;clear hK1 K1;refine qT (by kernel_rfl) ?_;have z18:g9 < g_5:=jpq K9.lt gb_5;have E_:Ext w19_ (wq_.setRow g_5 (jc c_113).toArray):=jqb ((jnQ w19_).drew.trans hR) gb_5 _;refine yf (fun W=>Ur W g5 200 cx/\Ur W g6 200 c7/\Ur W g7 200 c6/\Ur W g8 200 c9/\Ur W g9 200 c8/\Ur W g12 200 c_101/\Ur W g13 200 c_103/\Ur W g14 200 c_105/\Ur W g15 200 c_107/\Ur W g16 200 c_109/\Ur W g17 200 c_111/\Ur W g_5 200 c_113/\Below g6 w5_ W) ⟨K5.kept E_ K5.lt,
     K6.kept E_ K6.lt,
     K7.kept E_ K7.lt,
     K8.kept E_ K8.lt,
     K9.kept E_ K9.lt,
     K12.kept E_ K12.lt,
     K13.kept E_ K13.lt,
     K14.kept E_ K14.lt,
     K15.kept E_ K15.lt,
     K16.kept E_ K16.lt,
     K17.kept E_ K17.lt,
     jqc _ _ _ _ _ _ gc_5,
     jpn KB (E_.mono (jqU K6.lt))⟩ ?_
    clear K5 K6 K7 K8 K9 K12 K13 K14 K15 K16 K17 KB E_ hR gc_5 gb_5 Q7 Q9 Q13;rintro w20_ ⟨K5,K6,K7,K8,K9,K12,K13,K14,K15,K16,K17,K18,KB⟩;generalize g_5=g18 at *;clear K12;clear K13;go_wp2_with (first
     | (refine wl_ rfl 200 rfl g17 rfl K17 rfl rfl (by rw [S_c_111];rfl) ?_;go_frame)
     | (refine wl_ rfl 200 rfl g18 rfl K18 rfl rfl (by rw [S_c_113];rfl) ?_;go_frame))
    refine (yo n_111 n_113).mono ?_;rintro e u_ ⟨c_115,n_115,rfl,e1⟩;obtain ⟨v_116,hv_116⟩:∃ v,v=jnw v_112 v_114:=⟨_,rfl⟩;rw [<-hv_116] at n_115;replace hv_116:=Hj (fun _:Unit=>hv_116);have S_c_115:=jnE n_115.len;have O_c_115:=jw c_115;have a1:=zY u_ (jc zn).toArray 200;have E_:=yJ e1 (jc zn).toArray 200 (jc c_115).toArray;go_upto_region 24 with (first
     | (refine ws_ rfl 200 rfl u_.heap.size (jc c_115).toArray rfl rfl a1.out (by rw [S_c_115];rfl) (by rw [S_c_115,S_zn]) O_c_115 ?_;simp only [jpR]))
    obtain ⟨g19,hg_⟩:∃ g,g=u_.heap.size:=⟨_,rfl⟩;have z19:g9 < g19:=by rw [hg_];exact jpq K9.lt e1.size
    refine jg (fun W=>Ur W g5 200 cx/\Ur W g6 200 c7/\Ur W g7 200 c6/\Ur W g8 200 c9/\Ur W g9 200 c8/\Ur W g14 200 c_105/\Ur W g15 200 c_107/\Ur W g16 200 c_109/\Ur W g17 200 c_111/\Ur W g18 200 c_113/\Ur W g19 200 c_115/\Below g6 w5_ W) ⟨K5.kept E_ K5.lt,
     K6.kept E_ K6.lt,
     K7.kept E_ K7.lt,
     K8.kept E_ K8.lt,
     K9.kept E_ K9.lt,
     K14.kept E_ K14.lt,
     K15.kept E_ K15.lt,
     K16.kept E_ K16.lt,
     K17.kept E_ K17.lt,
     K18.kept E_ K18.lt,
     by rw [hg_];exact jqc _ _ _ _ _ _ a1.out,
     jpn KB (E_.mono (jqU K6.lt))⟩ ?_
    rw [<-hg_];clear K5 K6 K7 K8 K9 K14 K15 K16 K17 K18 KB hg_ a1 E_ e1;rintro w21_ ⟨K5,K6,K7,K8,K9,K14,K15,K16,K17,K18,K19,KB⟩;go_wp2_with (first
     | (refine wl_ rfl 200 rfl g17 rfl K17 rfl rfl (by rw [S_c_111];rfl) ?_;go_frame)
     | (refine wl_ rfl 200 rfl g18 rfl K18 rfl rfl (by rw [S_c_113];rfl) ?_;go_frame))
    refine (yp n_111 n_113).mono ?_;rintro e u_ ⟨c_117,n_117,rfl,e1⟩;obtain ⟨v_118,hv_118⟩:∃ v,v=zO v_112 v_114:=⟨_,rfl⟩;rw [<-hv_118] at n_117;replace hv_118:=Hj (fun _:Unit=>hv_118);have S_c_117:=jnE n_117.len;have O_c_117:=jw c_117;have a1:=zY u_ (jc zn).toArray 200;have E_:=yJ e1 (jc zn).toArray 200 (jc c_117).toArray;go_upto_region 25 with (first
     | (refine ws_ rfl 200 rfl u_.heap.size (jc c_117).toArray rfl rfl a1.out (by rw [S_c_117];rfl) (by rw [S_c_117,S_zn]) O_c_117 ?_;simp only [jpR]))
    obtain ⟨g20,hg_⟩:∃ g,g=u_.heap.size:=⟨_,rfl⟩;have z20:g9 < g20:=by rw [hg_];exact jpq K9.lt e1.size
    refine jg (fun W=>Ur W g5 200 cx/\Ur W g6 200 c7/\Ur W g7 200 c6/\Ur W g8 200 c9/\Ur W g9 200 c8/\Ur W g14 200 c_105/\Ur W g15 200 c_107/\Ur W g16 200 c_109/\Ur W g17 200 c_111/\Ur W g18 200 c_113/\Ur W g19 200 c_115/\Ur W g20 200 c_117/\Below g6 w5_ W) ⟨K5.kept E_ K5.lt,
     K6.kept E_ K6.lt,
     K7.kept E_ K7.lt,
     K8.kept E_ K8.lt,
     K9.kept E_ K9.lt,
     K14.kept E_ K14.lt,
     K15.kept E_ K15.lt,
     K16.kept E_ K16.lt,
     K17.kept E_ K17.lt,
     K18.kept E_ K18.lt,
     K19.kept E_ K19.lt,
     by rw [hg_];exact jqc _ _ _ _ _ _ a1.out,
     jpn KB (E_.mono (jqU K6.lt))⟩ ?_
    rw [<-hg_];clear K5 K6 K7 K8 K9 K14 K15 K16 K17 K18 K19 KB hg_ a1 E_ e1;rintro w22_ ⟨K5,K6,K7,K8,K9,K14,K15,K16,K17,K18,K19,K20,KB⟩;clear K17;clear K18;go_wp2_with (first
     | (refine wl_ rfl 200 rfl g19 rfl K19 rfl rfl (by rw [S_c_115];rfl) ?_;go_frame))
    refine (j9 n_115 n_115).mono ?_;rintro e u_ ⟨c_119,n_119,rfl,e1⟩;obtain ⟨v_120,hv_120⟩:∃ v,v=qs v_116 v_116:=⟨_,rfl⟩;rw [<-hv_120] at n_119;replace hv_120:=Hj (fun _:Unit=>hv_120);have S_c_119:=jnE n_119.len;have O_c_119:=jw c_119;have mK5:=K5.kept e1 K5.lt;have mK6:=K6.kept e1 K6.lt;have mK7:=K7.kept e1 K7.lt;have mK8:=K8.kept e1 K8.lt;have mK9:=K9.kept e1 K9.lt;have mK14:=K14.kept e1 K14.lt;have mK15:=K15.kept e1 K15.lt;have mK16:=K16.kept e1 K16.lt;have mK19:=K19.kept e1 K19.lt;have mK20:=K20.kept e1 K20.lt;have mKB:=jpn KB (e1.mono (jqU K6.lt));go_upto_region 26 with (first
     | (refine ws_ rfl 200 rfl g7 (jc c_119).toArray rfl rfl mK7 (by rw [S_c_119];rfl) (by rw [S_c_119,S_c6]) O_c_119 ?_;simp only [jpR]))
    refine jg (fun W=>Ur W g5 200 cx/\Ur W g6 200 c7/\Ur W g7 200 c_119/\Ur W g8 200 c9/\Ur W g9 200 c8/\Ur W g14 200 c_105/\Ur W g15 200 c_107/\Ur W g16 200 c_109/\Ur W g19 200 c_115/\Ur W g20 200 c_117/\Below g6 w5_ W) ⟨mK5.so (by omega),
     mK6.so (by omega),
     jqc _ _ _ _ _ _ mK7,
     mK8.so (by omega),
     mK9.so (by omega),
     mK14.so (by omega),
     mK15.so (by omega),
     mK16.so (by omega),
     mK19.so (by omega),
     mK20.so (by omega),
     jqb mKB (by omega) _⟩ ?_
    clear K5 K6 K7 K8 K9 K14 K15 K16 K19 K20 KB e1 mK5 mK6 mK7 mK8 mK9 mK14 mK15 mK16 mK19 mK20 mKB;rintro w23_ ⟨K5,K6,K7,K8,K9,K14,K15,K16,K19,K20,KB⟩;clear K19;have Q5:=K5.q;have Q20:=K20.q;refine qgF (R:=Ext) jnQ (fun _ _ _=>Ext.trans) [0,1,2,3,4] [5] [0,0,0,6,15,31] [true,true,true,true,true,false] ?_;refine jnT (fun _=>jnQ _) _ rfl (v:= .agg (jc cx).toArray) (d:=76) rfl rfl ?_ ?_
    ·intro a_ w_ hev hR hk;have e5:a_.eval (.tmp 5)=_:=hk 5 rfl;exact (jd rfl e5 (Q5.out w_ (Ext.trans (jnQ _).drew hR)) rfl rfl (by rw [S_cx];rfl))
    refine jnT (fun _=>jnQ _) _ rfl (v:= .agg (jc c_117).toArray) (d:=77) rfl rfl ?_ ?_
    ·intro a_ w_ hev hR hk;have e20:a_.eval (.tmp 20)=_:=hk 20 rfl;exact (jd rfl e20 (Q20.out w_ (Ext.trans (jnQ _).drew hR)) rfl rfl (by rw [S_c_117];rfl))
    refine jnT (fun _=>jnQ _) _ rfl (v:= .agg (jc c_117).toArray) (d:=78) rfl rfl ?_ ?_
    ·intro a_ w_ hev hR hk;have e20:a_.eval (.tmp 20)=_:=hk 20 rfl;exact (jd rfl e20 (Q20.out w_ (Ext.trans (jnQ _).drew hR)) rfl rfl (by rw [S_c_117];rfl))
    refine jx _ rfl (fun u _=>∃ es,u= .agg (jc es).toArray/\IsN es (qs v_118 v_118)) (d:=79) rfl (fun _ _ _ h _=>h) rfl ?_ ?_
    ·intro a_ w_ hev hR hk K1 hK1;have e76:a_.eval (.tmp 76)=_:=hk 76 rfl;have e77:a_.eval (.tmp 77)=_:=hk 77 rfl;clear hk;have f76:=jz.trans e76;have f77:=jz.trans e77;go_simp;refine (j9 n_117 n_117).mono ?_;rintro e_ w2_ ⟨fs_,hf_,rfl,x_⟩;exact hK1.out _ _ x_ ⟨fs_,rfl,hf_⟩
    refine jx _ rfl (fun u _=>∃ es,u= .agg (jc es).toArray/\IsN es (qs x (qs v_118 v_118))) (d:=80) rfl (fun _ _ _ h _=>h) rfl ?_ ?_
    ·intro a_ w_ hev hR hk K1 hK1;have e75:a_.eval (.tmp 75)=_:=hk 75 rfl;obtain ⟨es_78,e78,n78⟩:∃ es,a_.eval (.tmp 78)= .agg (jc es).toArray/\IsN es _:=hk 78 rfl;clear hk;have f75:=jz.trans e75;have f78:=jz.trans e78;go_simp;refine (j9 n_cx n78).mono ?_;rintro e_ w2_ ⟨fs_,hf_,rfl,x_⟩;exact hK1.out _ _ x_ ⟨fs_,rfl,hf_⟩
    intro v_ wq_ hR hV_ hN_;obtain ⟨hv4,hv3,hv2,hv1,hv0,_⟩:=hV_;replace hv0:v_ 0=_:=hv0;replace hv1:v_ 1=_:=hv1;replace hv2:v_ 2=_:=hv2
    skip
    skip
    dsimp only [yQ,zv];obtain ⟨es_3,hv3,hn_3⟩:=hv3;obtain ⟨es_4,hv4,hn_4⟩:=hv4;clear hN_;rw [hv0,hv1,hv2,hv3,hv4];go_frame
    clear hv0 hv1 hv2 hv3 hv4;generalize es_4=c_121 at *;have n_121:=hn_4;clear hn_3 hn_4;obtain ⟨v_122,hv_122⟩:∃ v,v=qs x (qs v_118 v_118):=⟨_,rfl⟩;rw [<-hv_122] at n_121;replace hv_122:=Hj (fun _:Unit=>hv_122);have S_c_121:=jnE n_121.len;have O_c_121:=jw c_121;have mm_:=K9.kept ((jnQ w23_).drew.trans hR) K9.lt;refine qi (z:=5) _ rfl rfl (by kernel_rfl) ?_;intro K1 hK1;refine jrf _ _ _ rfl g9 (jc c_121).toArray rfl rfl 200 (jc c8).toArray mm_ (by rw [S_c_121];rfl) (by rw [S_c_121,S_c8]) O_c_121 ?_;refine hK1.out _ _ ?_;clear hK1 K1;refine qT (by kernel_rfl) ?_;have mK5:=K5.kept ((jnQ w23_).drew.trans hR) K5.lt;have mK6:=K6.kept ((jnQ w23_).drew.trans hR) K6.lt;have mK7:=K7.kept ((jnQ w23_).drew.trans hR) K7.lt;have mK8:=K8.kept ((jnQ w23_).drew.trans hR) K8.lt;have mK9:=K9.kept ((jnQ w23_).drew.trans hR) K9.lt;have mK14:=K14.kept ((jnQ w23_).drew.trans hR) K14.lt;have mK15:=K15.kept ((jnQ w23_).drew.trans hR) K15.lt;have mK16:=K16.kept ((jnQ w23_).drew.trans hR) K16.lt;have mK20:=K20.kept ((jnQ w23_).drew.trans hR) K20.lt;have mKB:=jpn KB (((jnQ w23_).drew.trans hR).mono (jqU K6.lt));refine yf (fun W=>Ur W g5 200 cx/\Ur W g6 200 c7/\Ur W g7 200 c_119/\Ur W g8 200 c9/\Ur W g9 200 c_121/\Ur W g14 200 c_105/\Ur W g15 200 c_107/\Ur W g16 200 c_109/\Ur W g20 200 c_117/\Below g6 w5_ W) ⟨mK5.so (by omega),
     mK6.so (by omega),
     mK7.so (by omega),
     mK8.so (by omega),
     jqc _ _ _ _ _ _ mK9,
     mK14.so (by omega),
     mK15.so (by omega),
     mK16.so (by omega),
     mK20.so (by omega),
     jqb mKB (by omega) _⟩ ?_
    clear K5 K6 K7 K8 K9 K14 K15 K16 K20 KB mm_ hR mK5 mK6 mK7 mK8 mK9 mK14 mK15 mK16 mK20 mKB Q5 Q20;rintro w24_ ⟨K5,K6,K7,K8,K9,K14,K15,K16,K20,KB⟩;clear K20;go_wp2_with (first
     | (refine wl_ rfl 200 rfl g14 rfl K14 rfl rfl (by rw [S_c_105];rfl) ?_;go_frame)
     | (refine wl_ rfl 200 rfl g15 rfl K15 rfl rfl (by rw [S_c_107];rfl) ?_;go_frame))
    refine (j9 n_105 n_107).mono ?_;rintro e u_ ⟨c_123,n_123,rfl,e1⟩;obtain ⟨v_124,hv_124⟩:∃ v,v=qs v_106 v_108:=⟨_,rfl⟩;rw [<-hv_124] at n_123;replace hv_124:=Hj (fun _:Unit=>hv_124);have S_c_123:=jnE n_123.len;have O_c_123:=jw c_123;have mK5:=K5.kept e1 K5.lt;have mK6:=K6.kept e1 K6.lt;have mK7:=K7.kept e1 K7.lt;have mK8:=K8.kept e1 K8.lt;have mK9:=K9.kept e1 K9.lt;have mK14:=K14.kept e1 K14.lt;have mK15:=K15.kept e1 K15.lt;have mK16:=K16.kept e1 K16.lt;have mKB:=jpn KB (e1.mono (jqU K6.lt));go_upto_region 28 with (first
     | (refine ws_ rfl 200 rfl g6 (jc c_123).toArray rfl rfl mK6 (by rw [S_c_123];rfl) (by rw [S_c_123,S_c7]) O_c_123 ?_;simp only [jpR]))
    refine jg (fun W=>Ur W g5 200 cx/\Ur W g6 200 c_123/\Ur W g7 200 c_119/\Ur W g8 200 c9/\Ur W g9 200 c_121/\Ur W g14 200 c_105/\Ur W g15 200 c_107/\Ur W g16 200 c_109/\Below g6 w5_ W) ⟨mK5.so (by omega),
     jqc _ _ _ _ _ _ mK6,
     mK7.so (by omega),
     mK8.so (by omega),
     mK9.so (by omega),
     mK14.so (by omega),
     mK15.so (by omega),
     mK16.so (by omega),
     jqb mKB (by omega) _⟩ ?_
    clear K5 K6 K7 K8 K9 K14 K15 K16 KB e1 mK5 mK6 mK7 mK8 mK9 mK14 mK15 mK16 mKB;rintro w25_ ⟨K5,K6,K7,K8,K9,K14,K15,K16,KB⟩;clear K15;have Q14:=K14.q;have Q16:=K16.q;refine qgF (R:=Ext) jnQ (fun _ _ _=>Ext.trans) [0,1,2,3,4,5,6] [7] [0,0,0,0,12,30,63,127] [true,true,true,true,true,true,true,false] ?_;refine jnT (fun _=>jnQ _) _ rfl (v:= .agg (jc c_109).toArray) (d:=84) rfl rfl ?_ ?_
    ·intro a_ w_ hev hR hk;have e16:a_.eval (.tmp 16)=_:=hk 16 rfl;exact (jd rfl e16 (Q16.out w_ (Ext.trans (jnQ _).drew hR)) rfl rfl (by rw [S_c_109];rfl))
    refine jnT (fun _=>jnQ _) _ rfl (v:= .agg (jc c_105).toArray) (d:=85) rfl rfl ?_ ?_
    ·intro a_ w_ hev hR hk;have e14:a_.eval (.tmp 14)=_:=hk 14 rfl;exact (jd rfl e14 (Q14.out w_ (Ext.trans (jnQ _).drew hR)) rfl rfl (by rw [S_c_105];rfl))
    refine jnT (fun _=>jnQ _) _ rfl (v:= .agg (jc fw).toArray) (d:=86) rfl rfl ?_ ?_
    ·intro a_ w_ hev hR hk;exact (qe rfl (by simp only [jqE,jqA,jqF,hev.1];exact hbf.out))
    refine jnT (fun _=>jnQ _) _ rfl (v:= .agg (jc c_109).toArray) (d:=87) rfl rfl ?_ ?_
    ·intro a_ w_ hev hR hk;have e16:a_.eval (.tmp 16)=_:=hk 16 rfl;exact (jd rfl e16 (Q16.out w_ (Ext.trans (jnQ _).drew hR)) rfl rfl (by rw [S_c_109];rfl))
    refine jx _ rfl (fun u _=>∃ es,u= .agg (jc es).toArray/\IsN es (qs 121665 v_110)) (d:=88) rfl (fun _ _ _ h _=>h) rfl ?_ ?_
    ·intro a_ w_ hev hR hk K1 hK1;have e85:a_.eval (.tmp 85)=_:=hk 85 rfl;have e86:a_.eval (.tmp 86)=_:=hk 86 rfl;clear hk;have f85:=jz.trans e85;have f86:=jz.trans e86;go_simp;refine (j9 n_fw n_109).mono ?_;rintro e_ w2_ ⟨fs_,hf_,rfl,x_⟩;exact hK1.out _ _ x_ ⟨fs_,rfl,hf_⟩
    refine jx _ rfl (fun u _=>∃ es,u= .agg (jc es).toArray/\IsN es (jnw v_106 (qs 121665 v_110))) (d:=89) rfl (fun _ _ _ h _=>h) rfl ?_ ?_
    ·intro a_ w_ hev hR hk K1 hK1;have e84:a_.eval (.tmp 84)=_:=hk 84 rfl;obtain ⟨es_87,e87,n87⟩:∃ es,a_.eval (.tmp 87)= .agg (jc es).toArray/\IsN es _:=hk 87 rfl;clear hk;have f84:=jz.trans e84;have f87:=jz.trans e87;go_simp;refine (yo n_105 n87).mono ?_;rintro e_ w2_ ⟨fs_,hf_,rfl,x_⟩;exact hK1.out _ _ x_ ⟨fs_,rfl,hf_⟩
    refine jx _ rfl (fun u _=>∃ es,u= .agg (jc es).toArray/\IsN es (qs v_110 (jnw v_106 (qs 121665 v_110)))) (d:=90) rfl (fun _ _ _ h _=>h) rfl ?_ ?_
    ·intro a_ w_ hev hR hk K1 hK1;have e83:a_.eval (.tmp 83)=_:=hk 83 rfl;obtain ⟨es_88,e88,n88⟩:∃ es,a_.eval (.tmp 88)= .agg (jc es).toArray/\IsN es _:=hk 88 rfl;clear hk;have f83:=jz.trans e83;have f88:=jz.trans e88;go_simp;refine (j9 n_109 n88).mono ?_;rintro e_ w2_ ⟨fs_,hf_,rfl,x_⟩;exact hK1.out _ _ x_ ⟨fs_,rfl,hf_⟩
    intro v_ wq_ hR hV_ hN_;obtain ⟨hv6,hv5,hv4,hv3,hv2,hv1,hv0,_⟩:=hV_;replace hv0:v_ 0=_:=hv0;replace hv1:v_ 1=_:=hv1;replace hv2:v_ 2=_:=hv2;replace hv3:v_ 3=_:=hv3
    skip
    skip
    skip
    dsimp only [yQ,zv];obtain ⟨es_4,hv4,hn_4⟩:=hv4;obtain ⟨es_5,hv5,hn_5⟩:=hv5;obtain ⟨es_6,hv6,hn_6⟩:=hv6;clear hN_;rw [hv0,hv1,hv2,hv3,hv4,hv5,hv6];go_frame
    clear hv0 hv1 hv2 hv3 hv4 hv5 hv6;generalize es_6=c_125 at *;have n_125:=hn_6;clear hn_4 hn_5 hn_6;obtain ⟨v_126,hv_126⟩:∃ v,v=qs v_110 (jnw v_106 (qs 121665 v_110)):=⟨_,rfl⟩;rw [<-hv_126] at n_125;replace hv_126:=Hj (fun _:Unit=>hv_126);have S_c_125:=jnE n_125.len;have O_c_125:=jw c_125;have mm_:=K8.kept ((jnQ w25_).drew.trans hR) K8.lt;refine qi (z:=7) _ rfl rfl (by kernel_rfl) ?_;intro K1 hK1;refine jrf _ _ _ rfl g8 (jc c_125).toArray rfl rfl 200 (jc c9).toArray mm_ (by rw [S_c_125];rfl) (by rw [S_c_125,S_c9]) O_c_125 ?_;refine hK1.out _ _ ?_;clear hK1 K1;refine qT (by kernel_rfl) ?_;have mK5:=K5.kept ((jnQ w25_).drew.trans hR) K5.lt;have mK6:=K6.kept ((jnQ w25_).drew.trans hR) K6.lt;have mK7:=K7.kept ((jnQ w25_).drew.trans hR) K7.lt;have mK8:=K8.kept ((jnQ w25_).drew.trans hR) K8.lt;have mK9:=K9.kept ((jnQ w25_).drew.trans hR) K9.lt;have mK14:=K14.kept ((jnQ w25_).drew.trans hR) K14.lt;have mK16:=K16.kept ((jnQ w25_).drew.trans hR) K16.lt;have mKB:=jpn KB (((jnQ w25_).drew.trans hR).mono (jqU K6.lt));refine yf (fun W=>Ur W g5 200 cx/\Ur W g6 200 c_123/\Ur W g7 200 c_119/\Ur W g8 200 c_125/\Ur W g9 200 c_121/\Ur W g14 200 c_105/\Ur W g16 200 c_109/\Below g6 w5_ W) ⟨mK5.so (by omega),
     mK6.so (by omega),
     mK7.so (by omega),
     jqc _ _ _ _ _ _ mK8,
     mK9.so (by omega),
     mK14.so (by omega),
     mK16.so (by omega),
     jqb mKB (by omega) _⟩ ?_
    clear K5 K6 K7 K8 K9 K14 K16 KB mm_ hR mK5 mK6 mK7 mK8 mK9 mK14 mK16 mKB Q14 Q16;rintro w26_ ⟨K5,K6,K7,K8,K9,K14,K16,KB⟩;clear K14;clear K16;have KX:=(P3.out _ KB).1;go_wp2_with (refine wl_ rfl 23 rfl w.heap.size rfl KX.1 rfl rfl (by rw [S_ks];rfl) ?_;go_frame)
    refine (BT.out _).mono ?_;rintro e u_ ⟨rfl,e1⟩;go_upto_region 30 with fail;refine jg (fun W=>Ur W g5 200 cx/\Ur W g6 200 c_123/\Ur W g7 200 c_119/\Ur W g8 200 c_125/\Ur W g9 200 c_121/\Below g6 w5_ W) ⟨K5.kept e1 K5.lt,
     K6.kept e1 K6.lt,
     K7.kept e1 K7.lt,
     K8.kept e1 K8.lt,
     K9.kept e1 K9.lt,
     jpn KB (e1.mono (jqU K6.lt))⟩ ?_
    clear K5 K6 K7 K8 K9 KB KX e1;rintro w27_ ⟨K5,K6,K7,K8,K9,KB⟩;have a1:=zY w27_ (jc zn).toArray 200;have E_:=yJ (jnQ w27_) (jc zn).toArray 200 (jc c_123).toArray;go_upto_region 31 with (first
     | (refine wl_ rfl 200 rfl g6 rfl K6 rfl rfl (by rw [S_c_123];rfl) ?_;go_frame)
     | (refine ws_ rfl 200 rfl w27_.heap.size (jc c_123).toArray rfl rfl a1.out (by rw [S_c_123];rfl) (by rw [S_c_123,S_zn]) O_c_123 ?_;simp only [jpR]))
    obtain ⟨g21,hg_⟩:∃ g,g=w27_.heap.size:=⟨_,rfl⟩;have z21:g9 < g21:=by rw [hg_];exact K9.lt
    refine jg (fun W=>Ur W g5 200 cx/\Ur W g6 200 c_123/\Ur W g7 200 c_119/\Ur W g8 200 c_125/\Ur W g9 200 c_121/\Ur W g21 200 c_123/\Below g6 w5_ W) ⟨K5.kept E_ K5.lt,
     K6.kept E_ K6.lt,
     K7.kept E_ K7.lt,
     K8.kept E_ K8.lt,
     K9.kept E_ K9.lt,
     by rw [hg_];exact jqc _ _ _ _ _ _ a1.out,
     jpn KB (E_.mono (jqU K6.lt))⟩ ?_
    rw [<-hg_];clear K5 K6 K7 K8 K9 KB hg_ a1 E_;rintro w28_ ⟨K5,K6,K7,K8,K9,K21,KB⟩;go_upto_region 32 with (first
     | (refine wl_ rfl 200 rfl g7 rfl K7 rfl rfl (by rw [S_c_119];rfl) ?_;go_frame)
     | (refine ws_ rfl 200 rfl g6 (jc c_119).toArray rfl rfl K6 (by rw [S_c_119];rfl) (by rw [S_c_119,S_c_123]) O_c_119 ?_;simp only [jpR]))
    refine jg (fun W=>Ur W g5 200 cx/\Ur W g6 200 c_119/\Ur W g7 200 c_119/\Ur W g8 200 c_125/\Ur W g9 200 c_121/\Ur W g21 200 c_123/\Below g6 w5_ W) ⟨K5.so (by omega),
     jqc _ _ _ _ _ _ K6,
     K7.so (by omega),
     K8.so (by omega),
     K9.so (by omega),
     K21.so (by omega),
     jqb KB (by omega) _⟩ ?_
    clear K5 K6 K7 K8 K9 K21 KB;rintro w29_ ⟨K5,K6,K7,K8,K9,K21,KB⟩;go_upto_region 33 with (first
     | (refine wl_ rfl 200 rfl g21 rfl K21 rfl rfl (by rw [S_c_123];rfl) ?_;go_frame)
     | (refine ws_ rfl 200 rfl g7 (jc c_123).toArray rfl rfl K7 (by rw [S_c_123];rfl) (by rw [S_c_123,S_c_119]) O_c_123 ?_;simp only [jpR]))
    refine jg (fun W=>Ur W g5 200 cx/\Ur W g6 200 c_119/\Ur W g7 200 c_123/\Ur W g8 200 c_125/\Ur W g9 200 c_121/\Ur W g21 200 c_123/\Below g6 w5_ W) ⟨K5.so (by omega),
     K6.so (by omega),
     jqc _ _ _ _ _ _ K7,
     K8.so (by omega),
     K9.so (by omega),
     K21.so (by omega),
     jqb KB (by omega) _⟩ ?_
    clear K5 K6 K7 K8 K9 K21 KB;rintro w30_ ⟨K5,K6,K7,K8,K9,K21,KB⟩;go_upto_region 34 with (first
     | (refine wl_ rfl 200 rfl g8 rfl K8 rfl rfl (by rw [S_c_125];rfl) ?_;go_frame)
     | (refine ws_ rfl 200 rfl g21 (jc c_125).toArray rfl rfl K21 (by rw [S_c_125];rfl) (by rw [S_c_125,S_c_123]) O_c_125 ?_;simp only [jpR]))
    refine jg (fun W=>Ur W g5 200 cx/\Ur W g6 200 c_119/\Ur W g7 200 c_123/\Ur W g8 200 c_125/\Ur W g9 200 c_121/\Ur W g21 200 c_125/\Below g6 w5_ W) ⟨K5.so (by omega),
     K6.so (by omega),
     K7.so (by omega),
     K8.so (by omega),
     K9.so (by omega),
     jqc _ _ _ _ _ _ K21,
     jqb KB (by omega) _⟩ ?_
    clear K5 K6 K7 K8 K9 K21 KB;rintro w31_ ⟨K5,K6,K7,K8,K9,K21,KB⟩;go_upto_region 35 with (first
     | (refine wl_ rfl 200 rfl g9 rfl K9 rfl rfl (by rw [S_c_121];rfl) ?_;go_frame)
     | (refine ws_ rfl 200 rfl g8 (jc c_121).toArray rfl rfl K8 (by rw [S_c_121];rfl) (by rw [S_c_121,S_c_125]) O_c_121 ?_;simp only [jpR]))
    refine jg (fun W=>Ur W g5 200 cx/\Ur W g6 200 c_119/\Ur W g7 200 c_123/\Ur W g8 200 c_121/\Ur W g9 200 c_121/\Ur W g21 200 c_125/\Below g6 w5_ W) ⟨K5.so (by omega),
     K6.so (by omega),
     K7.so (by omega),
     jqc _ _ _ _ _ _ K8,
     K9.so (by omega),
     K21.so (by omega),
     jqb KB (by omega) _⟩ ?_
    clear K5 K6 K7 K8 K9 K21 KB;rintro w32_ ⟨K5,K6,K7,K8,K9,K21,KB⟩;go_wp2_with (first
     | (refine wl_ rfl 200 rfl g21 rfl K21 rfl rfl (by rw [S_c_125];rfl) ?_;go_frame)
     | (refine ws_ rfl 200 rfl g9 (jc c_125).toArray rfl rfl K9 (by rw [S_c_125];rfl) (by rw [S_c_125,S_c_121]) O_c_125 ?_;simp only [jpR]))
    have NX:S (m+1)=(v_120,v_124,v_122,v_126):=by
     rw [S1m.out ()];replace hv_102:=hv_102.out ();replace hv_104:=hv_104.out ();replace hv_106:=hv_106.out ();replace hv_108:=hv_108.out ();replace hv_110:=hv_110.out ();replace hv_112:=hv_112.out ();replace hv_114:=hv_114.out ();replace hv_116:=hv_116.out ();replace hv_118:=hv_118.out ();replace hv_120:=hv_120.out ();replace hv_122:=hv_122.out ();replace hv_124:=hv_124.out ();replace hv_126:=hv_126.out ();subst hv_126 hv_124 hv_122 hv_120 hv_118 hv_116 hv_114 hv_112 hv_110 hv_108 hv_106 hv_104 hv_102;rw [jfK x]
     rfl
    exact ⟨⟨m+1,c_119,c_123,c_121,c_125,hm1.out,by rw [<-hbn1.out],K6.so (by omega),
     K7.so (by omega),
     K8.so (by omega),
     jqc _ _ _ _ _ _ K9,by rw [NX];exact n_119,by rw [NX];exact n_123,by rw [NX];exact n_121,by rw [NX];exact n_125,jqb KB (by omega) _⟩,by simp [intOf];omega⟩
   ·rw [hbt] at BT S1m;clear hbt;have KX:=(P3.out _ KB).1;go_wp2_with (refine wl_ rfl 23 rfl w.heap.size rfl KX.1 rfl rfl (by rw [S_ks];rfl) ?_;go_frame)
    refine (BT.out _).mono ?_;rintro e u_ ⟨rfl,e1⟩;go_upto_region 16 with fail;refine jg (fun W=>Ur W g5 200 cx/\Ur W g6 200 c6/\Ur W g7 200 c7/\Ur W g8 200 c8/\Ur W g9 200 c9/\Below g6 w5_ W) ⟨K5.kept e1 K5.lt,
     K6.kept e1 K6.lt,
     K7.kept e1 K7.lt,
     K8.kept e1 K8.lt,
     K9.kept e1 K9.lt,
     jpn KB (e1.mono (jqU K6.lt))⟩ ?_
    clear K5 K6 K7 K8 K9 KB KX e1;rintro w7_ ⟨K5,K6,K7,K8,K9,KB⟩;go_wp2_with (first
     | (refine wl_ rfl 200 rfl g6 rfl K6 rfl rfl (by rw [S_c6];rfl) ?_;go_frame)
     | (refine wl_ rfl 200 rfl g8 rfl K8 rfl rfl (by rw [S_c8];rfl) ?_;go_frame))
    refine (yo n6 n8).mono ?_;rintro e u_ ⟨c_201,n_201,rfl,e1⟩;obtain ⟨v_202,hv_202⟩:∃ v,v=jnw va vc:=⟨_,rfl⟩;rw [<-hv_202] at n_201;replace hv_202:=Hj (fun _:Unit=>hv_202);have S_c_201:=jnE n_201.len;have O_c_201:=jw c_201;have a1:=zY u_ (jc zn).toArray 200;have E_:=yJ e1 (jc zn).toArray 200 (jc c_201).toArray;go_upto_region 17 with (first
     | (refine ws_ rfl 200 rfl u_.heap.size (jc c_201).toArray rfl rfl a1.out (by rw [S_c_201];rfl) (by rw [S_c_201,S_zn]) O_c_201 ?_;simp only [jpR]))
    obtain ⟨g12,hg_⟩:∃ g,g=u_.heap.size:=⟨_,rfl⟩;have z12:g9 < g12:=by rw [hg_];exact jpq K9.lt e1.size
    refine jg (fun W=>Ur W g5 200 cx/\Ur W g6 200 c6/\Ur W g7 200 c7/\Ur W g8 200 c8/\Ur W g9 200 c9/\Ur W g12 200 c_201/\Below g6 w5_ W) ⟨K5.kept E_ K5.lt,
     K6.kept E_ K6.lt,
     K7.kept E_ K7.lt,
     K8.kept E_ K8.lt,
     K9.kept E_ K9.lt,
     by rw [hg_];exact jqc _ _ _ _ _ _ a1.out,
     jpn KB (E_.mono (jqU K6.lt))⟩ ?_
    rw [<-hg_];clear K5 K6 K7 K8 K9 KB hg_ a1 E_ e1;rintro w8_ ⟨K5,K6,K7,K8,K9,K12,KB⟩;go_wp2_with (first
     | (refine wl_ rfl 200 rfl g6 rfl K6 rfl rfl (by rw [S_c6];rfl) ?_;go_frame)
     | (refine wl_ rfl 200 rfl g8 rfl K8 rfl rfl (by rw [S_c8];rfl) ?_;go_frame))
    refine (yp n6 n8).mono ?_;rintro e u_ ⟨c_203,n_203,rfl,e1⟩;obtain ⟨v_204,hv_204⟩:∃ v,v=zO va vc:=⟨_,rfl⟩;rw [<-hv_204] at n_203;replace hv_204:=Hj (fun _:Unit=>hv_204);have S_c_203:=jnE n_203.len;have O_c_203:=jw c_203;have a1:=zY u_ (jc zn).toArray 200;have E_:=yJ e1 (jc zn).toArray 200 (jc c_203).toArray;go_upto_region 18 with (first
     | (refine ws_ rfl 200 rfl u_.heap.size (jc c_203).toArray rfl rfl a1.out (by rw [S_c_203];rfl) (by rw [S_c_203,S_zn]) O_c_203 ?_;simp only [jpR]))
    obtain ⟨g13,hg_⟩:∃ g,g=u_.heap.size:=⟨_,rfl⟩;have z13:g9 < g13:=by rw [hg_];exact jpq K9.lt e1.size
    refine jg (fun W=>Ur W g5 200 cx/\Ur W g6 200 c6/\Ur W g7 200 c7/\Ur W g8 200 c8/\Ur W g9 200 c9/\Ur W g12 200 c_201/\Ur W g13 200 c_203/\Below g6 w5_ W) ⟨K5.kept E_ K5.lt,
     K6.kept E_ K6.lt,
     K7.kept E_ K7.lt,
     K8.kept E_ K8.lt,
     K9.kept E_ K9.lt,
     K12.kept E_ K12.lt,
     by rw [hg_];exact jqc _ _ _ _ _ _ a1.out,
     jpn KB (E_.mono (jqU K6.lt))⟩ ?_
    rw [<-hg_];clear K5 K6 K7 K8 K9 K12 KB hg_ a1 E_ e1;rintro w9_ ⟨K5,K6,K7,K8,K9,K12,K13,KB⟩;go_wp2_with (first
     | (refine wl_ rfl 200 rfl g12 rfl K12 rfl rfl (by rw [S_c_201];rfl) ?_;go_frame))
    refine (j9 n_201 n_201).mono ?_;rintro e u_ ⟨c_205,n_205,rfl,e1⟩;obtain ⟨v_206,hv_206⟩:∃ v,v=qs v_202 v_202:=⟨_,rfl⟩;rw [<-hv_206] at n_205;replace hv_206:=Hj (fun _:Unit=>hv_206);have S_c_205:=jnE n_205.len;have O_c_205:=jw c_205;have a1:=zY u_ (jc zn).toArray 200;have E_:=yJ e1 (jc zn).toArray 200 (jc c_205).toArray;go_upto_region 19 with (first
     | (refine ws_ rfl 200 rfl u_.heap.size (jc c_205).toArray rfl rfl a1.out (by rw [S_c_205];rfl) (by rw [S_c_205,S_zn]) O_c_205 ?_;simp only [jpR]))
    obtain ⟨g14,hg_⟩:∃ g,g=u_.heap.size:=⟨_,rfl⟩;have z14:g9 < g14:=by rw [hg_];exact jpq K9.lt e1.size
    refine jg (fun W=>Ur W g5 200 cx/\Ur W g6 200 c6/\Ur W g7 200 c7/\Ur W g8 200 c8/\Ur W g9 200 c9/\Ur W g12 200 c_201/\Ur W g13 200 c_203/\Ur W g14 200 c_205/\Below g6 w5_ W) ⟨K5.kept E_ K5.lt,
     K6.kept E_ K6.lt,
     K7.kept E_ K7.lt,
     K8.kept E_ K8.lt,
     K9.kept E_ K9.lt,
     K12.kept E_ K12.lt,
     K13.kept E_ K13.lt,
     by rw [hg_];exact jqc _ _ _ _ _ _ a1.out,
     jpn KB (E_.mono (jqU K6.lt))⟩ ?_
    rw [<-hg_];clear K5 K6 K7 K8 K9 K12 K13 KB hg_ a1 E_ e1;rintro w10_ ⟨K5,K6,K7,K8,K9,K12,K13,K14,KB⟩;go_wp2_with (first
     | (refine wl_ rfl 200 rfl g13 rfl K13 rfl rfl (by rw [S_c_203];rfl) ?_;go_frame))
    refine (j9 n_203 n_203).mono ?_;rintro e u_ ⟨c_207,n_207,rfl,e1⟩;obtain ⟨v_208,hv_208⟩:∃ v,v=qs v_204 v_204:=⟨_,rfl⟩;rw [<-hv_208] at n_207;replace hv_208:=Hj (fun _:Unit=>hv_208);have S_c_207:=jnE n_207.len;have O_c_207:=jw c_207;have a1:=zY u_ (jc zn).toArray 200;have E_:=yJ e1 (jc zn).toArray 200 (jc c_207).toArray;go_upto_region 20 with (first
     | (refine ws_ rfl 200 rfl u_.heap.size (jc c_207).toArray rfl rfl a1.out (by rw [S_c_207];rfl) (by rw [S_c_207,S_zn]) O_c_207 ?_;simp only [jpR]))
    obtain ⟨g15,hg_⟩:∃ g,g=u_.heap.size:=⟨_,rfl⟩;have z15:g9 < g15:=by rw [hg_];exact jpq K9.lt e1.size
    refine jg (fun W=>Ur W g5 200 cx/\Ur W g6 200 c6/\Ur W g7 200 c7/\Ur W g8 200 c8/\Ur W g9 200 c9/\Ur W g12 200 c_201/\Ur W g13 200 c_203/\Ur W g14 200 c_205/\Ur W g15 200 c_207/\Below g6 w5_ W) ⟨K5.kept E_ K5.lt,
     K6.kept E_ K6.lt,
     K7.kept E_ K7.lt,
     K8.kept E_ K8.lt,
     K9.kept E_ K9.lt,
     K12.kept E_ K12.lt,
     K13.kept E_ K13.lt,
     K14.kept E_ K14.lt,
     by rw [hg_];exact jqc _ _ _ _ _ _ a1.out,
     jpn KB (E_.mono (jqU K6.lt))⟩ ?_
    rw [<-hg_];clear K5 K6 K7 K8 K9 K12 K13 K14 KB hg_ a1 E_ e1;rintro w11_ ⟨K5,K6,K7,K8,K9,K12,K13,K14,K15,KB⟩;go_wp2_with (first
     | (refine wl_ rfl 200 rfl g14 rfl K14 rfl rfl (by rw [S_c_205];rfl) ?_;go_frame)
     | (refine wl_ rfl 200 rfl g15 rfl K15 rfl rfl (by rw [S_c_207];rfl) ?_;go_frame))
    refine (yp n_205 n_207).mono ?_;rintro e u_ ⟨c_209,n_209,rfl,e1⟩;obtain ⟨v_210,hv_210⟩:∃ v,v=zO v_206 v_208:=⟨_,rfl⟩;rw [<-hv_210] at n_209;replace hv_210:=Hj (fun _:Unit=>hv_210);have S_c_209:=jnE n_209.len;have O_c_209:=jw c_209;have a1:=zY u_ (jc zn).toArray 200;have E_:=yJ e1 (jc zn).toArray 200 (jc c_209).toArray;go_upto_region 21 with (first
     | (refine ws_ rfl 200 rfl u_.heap.size (jc c_209).toArray rfl rfl a1.out (by rw [S_c_209];rfl) (by rw [S_c_209,S_zn]) O_c_209 ?_;simp only [jpR]))
    obtain ⟨g16,hg_⟩:∃ g,g=u_.heap.size:=⟨_,rfl⟩;have z16:g9 < g16:=by rw [hg_];exact jpq K9.lt e1.size
    refine jg (fun W=>Ur W g5 200 cx/\Ur W g6 200 c6/\Ur W g7 200 c7/\Ur W g8 200 c8/\Ur W g9 200 c9/\Ur W g12 200 c_201/\Ur W g13 200 c_203/\Ur W g14 200 c_205/\Ur W g15 200 c_207/\Ur W g16 200 c_209/\Below g6 w5_ W) ⟨K5.kept E_ K5.lt,
     K6.kept E_ K6.lt,
     K7.kept E_ K7.lt,
     K8.kept E_ K8.lt,
     K9.kept E_ K9.lt,
     K12.kept E_ K12.lt,
     K13.kept E_ K13.lt,
     K14.kept E_ K14.lt,
     K15.kept E_ K15.lt,
     by rw [hg_];exact jqc _ _ _ _ _ _ a1.out,
     jpn KB (E_.mono (jqU K6.lt))⟩ ?_
    rw [<-hg_];clear K5 K6 K7 K8 K9 K12 K13 K14 K15 KB hg_ a1 E_ e1;rintro w12_ ⟨K5,K6,K7,K8,K9,K12,K13,K14,K15,K16,KB⟩;have Q7:=K7.q;have Q9:=K9.q;have Q12:=K12.q;refine qgF (R:=Ext) jnQ (fun _ _ _=>Ext.trans) [0,1,2,3,4,5] [6] [0,0,3,0,15,0,63] [true,true,true,true,true,true,false] ?_;refine jnT (fun _=>jnQ _) _ rfl (v:= .agg (jc c7).toArray) (d:=57) rfl rfl ?_ ?_
    ·intro a_ w_ hev hR hk;have e7:a_.eval (.tmp 7)=_:=hk 7 rfl;exact (jd rfl e7 (Q7.out w_ (Ext.trans (jnQ _).drew hR)) rfl rfl (by rw [S_c7];rfl))
    refine jnT (fun _=>jnQ _) _ rfl (v:= .agg (jc c9).toArray) (d:=58) rfl rfl ?_ ?_
    ·intro a_ w_ hev hR hk;have e9:a_.eval (.tmp 9)=_:=hk 9 rfl;exact (jd rfl e9 (Q9.out w_ (Ext.trans (jnQ _).drew hR)) rfl rfl (by rw [S_c9];rfl))
    refine jx _ rfl (fun u _=>∃ es,u= .agg (jc es).toArray/\IsN es (zO vb vd)) (d:=59) rfl (fun _ _ _ h _=>h) rfl ?_ ?_
    ·intro a_ w_ hev hR hk K1 hK1;have e56:a_.eval (.tmp 56)=_:=hk 56 rfl;have e57:a_.eval (.tmp 57)=_:=hk 57 rfl;clear hk;have f56:=jz.trans e56;have f57:=jz.trans e57;go_simp;refine (yp n7 n9).mono ?_;rintro e_ w2_ ⟨fs_,hf_,rfl,x_⟩;exact hK1.out _ _ x_ ⟨fs_,rfl,hf_⟩
    refine jnT (fun _=>jnQ _) _ rfl (v:= .agg (jc c_201).toArray) (d:=60) rfl rfl ?_ ?_
    ·intro a_ w_ hev hR hk;have e12:a_.eval (.tmp 12)=_:=hk 12 rfl;exact (jd rfl e12 (Q12.out w_ (Ext.trans (jnQ _).drew hR)) rfl rfl (by rw [S_c_201];rfl))
    refine jx _ rfl (fun u _=>∃ es,u= .agg (jc es).toArray/\IsN es (qs (zO vb vd) v_202)) (d:=61) rfl (fun _ _ _ h _=>h) rfl ?_ ?_
    ·intro a_ w_ hev hR hk K1 hK1;obtain ⟨es_58,e58,n58⟩:∃ es,a_.eval (.tmp 58)= .agg (jc es).toArray/\IsN es _:=hk 58 rfl;have e59:a_.eval (.tmp 59)=_:=hk 59 rfl;clear hk;have f58:=jz.trans e58;have f59:=jz.trans e59;go_simp;refine (j9 n58 n_201).mono ?_;rintro e_ w2_ ⟨fs_,hf_,rfl,x_⟩;exact hK1.out _ _ x_ ⟨fs_,rfl,hf_⟩
    refine qY _ rfl (fun u w_=>∃ g,u= .pointer (some ⟨g,0,none⟩)/\w12_.drew.heap.size<=g/\w_.heap[g]? =some (.cells (jc zn).toArray 200 (0,0))) (d:=18) rfl (fun _ _ _ h e=>by obtain ⟨g,h1,h2,h3⟩:=h;exact ⟨g,h1,h2,(e.block g (jh h3)).trans h3⟩) rfl (by decide) (fun _ _ h=>by obtain ⟨g,h1,h2,h3⟩:=h;subst h1;exact ⟨g,rfl,jh h3⟩) ?_ ?_
    ·intro a_ w_ hev hR hk K1 hK1;go_simp;exact hK1.out _ _ ((jnQ _).alloc _) ⟨_,rfl,hR.size,jqq _ _⟩ (fun _ q=>by cases q;exact jpo _)
    intro v_ wq_ hR hV_ hN_;obtain ⟨hv5,hv4,hv3,hv2,hv1,hv0,_⟩:=hV_;replace hv0:v_ 0=_:=hv0;replace hv1:v_ 1=_:=hv1
    skip
    replace hv3:v_ 3=_:=hv3
    skip
    skip
    dsimp only [yQ,zv];obtain ⟨es_2,hv2,hn_2⟩:=hv2;obtain ⟨es_4,hv4,hn_4⟩:=hv4;obtain ⟨g_5,hv5,gb_5,gc_5⟩:=hv5;clear hN_;rw [hv0,hv1,hv2,hv3,hv4,hv5];go_frame
    clear hv0 hv1 hv2 hv3 hv4 hv5;generalize es_4=c_211 at *;have n_211:=hn_4;clear hn_2 hn_4;obtain ⟨v_212,hv_212⟩:∃ v,v=qs (zO vb vd) v_202:=⟨_,rfl⟩;rw [<-hv_212] at n_211;replace hv_212:=Hj (fun _:Unit=>hv_212);have S_c_211:=jnE n_211.len;have O_c_211:=jw c_211;refine qi (z:=6) _ rfl rfl (by kernel_rfl) ?_;intro K1 hK1;refine jrf _ _ _ rfl g_5 (jc c_211).toArray rfl rfl 200 (jc zn).toArray gc_5 (by rw [S_c_211];rfl) (by rw [S_c_211,S_zn]) O_c_211 ?_;refine hK1.out _ _ ?_;clear hK1 K1;refine qT (by kernel_rfl) ?_;have z17:g9 < g_5:=jpq K9.lt gb_5;have E_:Ext w12_ (wq_.setRow g_5 (jc c_211).toArray):=jqb ((jnQ w12_).drew.trans hR) gb_5 _;refine yf (fun W=>Ur W g5 200 cx/\Ur W g6 200 c6/\Ur W g7 200 c7/\Ur W g8 200 c8/\Ur W g9 200 c9/\Ur W g12 200 c_201/\Ur W g13 200 c_203/\Ur W g14 200 c_205/\Ur W g15 200 c_207/\Ur W g16 200 c_209/\Ur W g_5 200 c_211/\Below g6 w5_ W) ⟨K5.kept E_ K5.lt,
     K6.kept E_ K6.lt,
     K7.kept E_ K7.lt,
     K8.kept E_ K8.lt,
     K9.kept E_ K9.lt,
     K12.kept E_ K12.lt,
     K13.kept E_ K13.lt,
     K14.kept E_ K14.lt,
     K15.kept E_ K15.lt,
     K16.kept E_ K16.lt,
     jqc _ _ _ _ _ _ gc_5,
     jpn KB (E_.mono (jqU K6.lt))⟩ ?_
    clear K5 K6 K7 K8 K9 K12 K13 K14 K15 K16 KB E_ hR gc_5 gb_5 Q7 Q9 Q12;rintro w13_ ⟨K5,K6,K7,K8,K9,K12,K13,K14,K15,K16,K17,KB⟩;generalize g_5=g17 at *;go_upto_region 22 with fail;have Q7:=K7.q;have Q9:=K9.q;have Q13:=K13.q;refine qgF (R:=Ext) jnQ (fun _ _ _=>Ext.trans) [0,1,2,3,4,5] [6] [0,0,3,0,15,0,63] [true,true,true,true,true,true,false] ?_;refine jnT (fun _=>jnQ _) _ rfl (v:= .agg (jc c7).toArray) (d:=62) rfl rfl ?_ ?_
    ·intro a_ w_ hev hR hk;have e7:a_.eval (.tmp 7)=_:=hk 7 rfl;exact (jd rfl e7 (Q7.out w_ (Ext.trans (jnQ _).drew hR)) rfl rfl (by rw [S_c7];rfl))
    refine jnT (fun _=>jnQ _) _ rfl (v:= .agg (jc c9).toArray) (d:=63) rfl rfl ?_ ?_
    ·intro a_ w_ hev hR hk;have e9:a_.eval (.tmp 9)=_:=hk 9 rfl;exact (jd rfl e9 (Q9.out w_ (Ext.trans (jnQ _).drew hR)) rfl rfl (by rw [S_c9];rfl))
    refine jx _ rfl (fun u _=>∃ es,u= .agg (jc es).toArray/\IsN es (jnw vb vd)) (d:=64) rfl (fun _ _ _ h _=>h) rfl ?_ ?_
    ·intro a_ w_ hev hR hk K1 hK1;have e61:a_.eval (.tmp 61)=_:=hk 61 rfl;have e62:a_.eval (.tmp 62)=_:=hk 62 rfl;clear hk;have f61:=jz.trans e61;have f62:=jz.trans e62;go_simp;refine (yo n7 n9).mono ?_;rintro e_ w2_ ⟨fs_,hf_,rfl,x_⟩;exact hK1.out _ _ x_ ⟨fs_,rfl,hf_⟩
    refine jnT (fun _=>jnQ _) _ rfl (v:= .agg (jc c_203).toArray) (d:=65) rfl rfl ?_ ?_
    ·intro a_ w_ hev hR hk;have e13:a_.eval (.tmp 13)=_:=hk 13 rfl;exact (jd rfl e13 (Q13.out w_ (Ext.trans (jnQ _).drew hR)) rfl rfl (by rw [S_c_203];rfl))
    refine jx _ rfl (fun u _=>∃ es,u= .agg (jc es).toArray/\IsN es (qs (jnw vb vd) v_204)) (d:=66) rfl (fun _ _ _ h _=>h) rfl ?_ ?_
    ·intro a_ w_ hev hR hk K1 hK1;obtain ⟨es_63,e63,n63⟩:∃ es,a_.eval (.tmp 63)= .agg (jc es).toArray/\IsN es _:=hk 63 rfl;have e64:a_.eval (.tmp 64)=_:=hk 64 rfl;clear hk;have f63:=jz.trans e63;have f64:=jz.trans e64;go_simp;refine (j9 n63 n_203).mono ?_;rintro e_ w2_ ⟨fs_,hf_,rfl,x_⟩;exact hK1.out _ _ x_ ⟨fs_,rfl,hf_⟩
    refine qY _ rfl (fun u w_=>∃ g,u= .pointer (some ⟨g,0,none⟩)/\w13_.drew.heap.size<=g/\w_.heap[g]? =some (.cells (jc zn).toArray 200 (0,0))) (d:=19) rfl (fun _ _ _ h e=>by obtain ⟨g,h1,h2,h3⟩:=h;exact ⟨g,h1,h2,(e.block g (jh h3)).trans h3⟩) rfl (by decide) (fun _ _ h=>by obtain ⟨g,h1,h2,h3⟩:=h;subst h1;exact ⟨g,rfl,jh h3⟩) ?_ ?_
    ·intro a_ w_ hev hR hk K1 hK1;go_simp;exact hK1.out _ _ ((jnQ _).alloc _) ⟨_,rfl,hR.size,jqq _ _⟩ (fun _ q=>by cases q;exact jpo _)
    intro v_ wq_ hR hV_ hN_;obtain ⟨hv5,hv4,hv3,hv2,hv1,hv0,_⟩:=hV_;replace hv0:v_ 0=_:=hv0;replace hv1:v_ 1=_:=hv1
    skip
    replace hv3:v_ 3=_:=hv3
    skip
    skip
    dsimp only [yQ,zv];obtain ⟨es_2,hv2,hn_2⟩:=hv2;obtain ⟨es_4,hv4,hn_4⟩:=hv4;obtain ⟨g_5,hv5,gb_5,gc_5⟩:=hv5;clear hN_;rw [hv0,hv1,hv2,hv3,hv4,hv5];go_frame
    clear hv0 hv1 hv2 hv3 hv4 hv5;generalize es_4=c_213 at *;have n_213:=hn_4;clear hn_2 hn_4;obtain ⟨v_214,hv_214⟩:∃ v,v=qs (jnw vb vd) v_204:=⟨_,rfl⟩;rw [<-hv_214] at n_213;replace hv_214:=Hj (fun _:Unit=>hv_214);have S_c_213:=jnE n_213.len;have O_c_213:=jw c_213;refine qi (z:=6) _ rfl rfl (by kernel_rfl) ?_;intro K1 hK1;refine jrf _ _ _ rfl g_5 (jc c_213).toArray rfl rfl 200 (jc zn).toArray gc_5 (by rw [S_c_213];rfl) (by rw [S_c_213,S_zn]) O_c_213 ?_;refine hK1.out _ _ ?_;clear hK1 K1;refine qT (by kernel_rfl) ?_;have z18:g9 < g_5:=jpq K9.lt gb_5;have E_:Ext w13_ (wq_.setRow g_5 (jc c_213).toArray):=jqb ((jnQ w13_).drew.trans hR) gb_5 _;refine yf (fun W=>Ur W g5 200 cx/\Ur W g6 200 c6/\Ur W g7 200 c7/\Ur W g8 200 c8/\Ur W g9 200 c9/\Ur W g12 200 c_201/\Ur W g13 200 c_203/\Ur W g14 200 c_205/\Ur W g15 200 c_207/\Ur W g16 200 c_209/\Ur W g17 200 c_211/\Ur W g_5 200 c_213/\Below g6 w5_ W) ⟨K5.kept E_ K5.lt,
     K6.kept E_ K6.lt,
     K7.kept E_ K7.lt,
     K8.kept E_ K8.lt,
     K9.kept E_ K9.lt,
     K12.kept E_ K12.lt,
     K13.kept E_ K13.lt,
     K14.kept E_ K14.lt,
     K15.kept E_ K15.lt,
     K16.kept E_ K16.lt,
     K17.kept E_ K17.lt,
     jqc _ _ _ _ _ _ gc_5,
     jpn KB (E_.mono (jqU K6.lt))⟩ ?_
    clear K5 K6 K7 K8 K9 K12 K13 K14 K15 K16 K17 KB E_ hR gc_5 gb_5 Q7 Q9 Q13;rintro w14_ ⟨K5,K6,K7,K8,K9,K12,K13,K14,K15,K16,K17,K18,KB⟩;generalize g_5=g18 at *;clear K12;clear K13;go_wp2_with (first
     | (refine wl_ rfl 200 rfl g17 rfl K17 rfl rfl (by rw [S_c_211];rfl) ?_;go_frame)
     | (refine wl_ rfl 200 rfl g18 rfl K18 rfl rfl (by rw [S_c_213];rfl) ?_;go_frame))
    refine (yo n_211 n_213).mono ?_;rintro e u_ ⟨c_215,n_215,rfl,e1⟩;obtain ⟨v_216,hv_216⟩:∃ v,v=jnw v_212 v_214:=⟨_,rfl⟩;rw [<-hv_216] at n_215;replace hv_216:=Hj (fun _:Unit=>hv_216);have S_c_215:=jnE n_215.len;have O_c_215:=jw c_215;have a1:=zY u_ (jc zn).toArray 200;have E_:=yJ e1 (jc zn).toArray 200 (jc c_215).toArray;go_upto_region 24 with (first
     | (refine ws_ rfl 200 rfl u_.heap.size (jc c_215).toArray rfl rfl a1.out (by rw [S_c_215];rfl) (by rw [S_c_215,S_zn]) O_c_215 ?_;simp only [jpR]))
    obtain ⟨g19,hg_⟩:∃ g,g=u_.heap.size:=⟨_,rfl⟩;have z19:g9 < g19:=by rw [hg_];exact jpq K9.lt e1.size
    refine jg (fun W=>Ur W g5 200 cx/\Ur W g6 200 c6/\Ur W g7 200 c7/\Ur W g8 200 c8/\Ur W g9 200 c9/\Ur W g14 200 c_205/\Ur W g15 200 c_207/\Ur W g16 200 c_209/\Ur W g17 200 c_211/\Ur W g18 200 c_213/\Ur W g19 200 c_215/\Below g6 w5_ W) ⟨K5.kept E_ K5.lt,
     K6.kept E_ K6.lt,
     K7.kept E_ K7.lt,
     K8.kept E_ K8.lt,
     K9.kept E_ K9.lt,
     K14.kept E_ K14.lt,
     K15.kept E_ K15.lt,
     K16.kept E_ K16.lt,
     K17.kept E_ K17.lt,
     K18.kept E_ K18.lt,
     by rw [hg_];exact jqc _ _ _ _ _ _ a1.out,
     jpn KB (E_.mono (jqU K6.lt))⟩ ?_
    rw [<-hg_];clear K5 K6 K7 K8 K9 K14 K15 K16 K17 K18 KB hg_ a1 E_ e1;rintro w15_ ⟨K5,K6,K7,K8,K9,K14,K15,K16,K17,K18,K19,KB⟩;go_wp2_with (first
     | (refine wl_ rfl 200 rfl g17 rfl K17 rfl rfl (by rw [S_c_211];rfl) ?_;go_frame)
     | (refine wl_ rfl 200 rfl g18 rfl K18 rfl rfl (by rw [S_c_213];rfl) ?_;go_frame))
    refine (yp n_211 n_213).mono ?_;rintro e u_ ⟨c_217,n_217,rfl,e1⟩;obtain ⟨v_218,hv_218⟩:∃ v,v=zO v_212 v_214:=⟨_,rfl⟩;rw [<-hv_218] at n_217;replace hv_218:=Hj (fun _:Unit=>hv_218);have S_c_217:=jnE n_217.len;have O_c_217:=jw c_217;have a1:=zY u_ (jc zn).toArray 200;have E_:=yJ e1 (jc zn).toArray 200 (jc c_217).toArray;go_upto_region 25 with (first
     | (refine ws_ rfl 200 rfl u_.heap.size (jc c_217).toArray rfl rfl a1.out (by rw [S_c_217];rfl) (by rw [S_c_217,S_zn]) O_c_217 ?_;simp only [jpR]))
    obtain ⟨g20,hg_⟩:∃ g,g=u_.heap.size:=⟨_,rfl⟩;have z20:g9 < g20:=by rw [hg_];exact jpq K9.lt e1.size
    refine jg (fun W=>Ur W g5 200 cx/\Ur W g6 200 c6/\Ur W g7 200 c7/\Ur W g8 200 c8/\Ur W g9 200 c9/\Ur W g14 200 c_205/\Ur W g15 200 c_207/\Ur W g16 200 c_209/\Ur W g17 200 c_211/\Ur W g18 200 c_213/\Ur W g19 200 c_215/\Ur W g20 200 c_217/\Below g6 w5_ W) ⟨K5.kept E_ K5.lt,
     K6.kept E_ K6.lt,
     K7.kept E_ K7.lt,
     K8.kept E_ K8.lt,
     K9.kept E_ K9.lt,
     K14.kept E_ K14.lt,
     K15.kept E_ K15.lt,
     K16.kept E_ K16.lt,
     K17.kept E_ K17.lt,
     K18.kept E_ K18.lt,
     K19.kept E_ K19.lt,
     by rw [hg_];exact jqc _ _ _ _ _ _ a1.out,
     jpn KB (E_.mono (jqU K6.lt))⟩ ?_
    rw [<-hg_];clear K5 K6 K7 K8 K9 K14 K15 K16 K17 K18 K19 KB hg_ a1 E_ e1;rintro w16_ ⟨K5,K6,K7,K8,K9,K14,K15,K16,K17,K18,K19,K20,KB⟩;clear K17;clear K18;go_wp2_with (first
     | (refine wl_ rfl 200 rfl g19 rfl K19 rfl rfl (by rw [S_c_215];rfl) ?_;go_frame))
    refine (j9 n_215 n_215).mono ?_;rintro e u_ ⟨c_219,n_219,rfl,e1⟩;obtain ⟨v_220,hv_220⟩:∃ v,v=qs v_216 v_216:=⟨_,rfl⟩;rw [<-hv_220] at n_219;replace hv_220:=Hj (fun _:Unit=>hv_220);have S_c_219:=jnE n_219.len;have O_c_219:=jw c_219;have mK5:=K5.kept e1 K5.lt;have mK6:=K6.kept e1 K6.lt;have mK7:=K7.kept e1 K7.lt;have mK8:=K8.kept e1 K8.lt;have mK9:=K9.kept e1 K9.lt;have mK14:=K14.kept e1 K14.lt;have mK15:=K15.kept e1 K15.lt;have mK16:=K16.kept e1 K16.lt;have mK19:=K19.kept e1 K19.lt;have mK20:=K20.kept e1 K20.lt;have mKB:=jpn KB (e1.mono (jqU K6.lt));go_upto_region 26 with (first
     | (refine ws_ rfl 200 rfl g7 (jc c_219).toArray rfl rfl mK7 (by rw [S_c_219];rfl) (by rw [S_c_219,S_c7]) O_c_219 ?_;simp only [jpR]))
    refine jg (fun W=>Ur W g5 200 cx/\Ur W g6 200 c6/\Ur W g7 200 c_219/\Ur W g8 200 c8/\Ur W g9 200 c9/\Ur W g14 200 c_205/\Ur W g15 200 c_207/\Ur W g16 200 c_209/\Ur W g19 200 c_215/\Ur W g20 200 c_217/\Below g6 w5_ W) ⟨mK5.so (by omega),
     mK6.so (by omega),
     jqc _ _ _ _ _ _ mK7,
     mK8.so (by omega),
     mK9.so (by omega),
     mK14.so (by omega),
     mK15.so (by omega),
     mK16.so (by omega),
     mK19.so (by omega),
     mK20.so (by omega),
     jqb mKB (by omega) _⟩ ?_
    clear K5 K6 K7 K8 K9 K14 K15 K16 K19 K20 KB e1 mK5 mK6 mK7 mK8 mK9 mK14 mK15 mK16 mK19 mK20 mKB;rintro w17_ ⟨K5,K6,K7,K8,K9,K14,K15,K16,K19,K20,KB⟩;clear K19;have Q5:=K5.q;have Q20:=K20.q;refine qgF (R:=Ext) jnQ (fun _ _ _=>Ext.trans) [0,1,2,3,4] [5] [0,0,0,6,15,31] [true,true,true,true,true,false] ?_;refine jnT (fun _=>jnQ _) _ rfl (v:= .agg (jc cx).toArray) (d:=76) rfl rfl ?_ ?_
    ·intro a_ w_ hev hR hk;have e5:a_.eval (.tmp 5)=_:=hk 5 rfl;exact (jd rfl e5 (Q5.out w_ (Ext.trans (jnQ _).drew hR)) rfl rfl (by rw [S_cx];rfl))
    refine jnT (fun _=>jnQ _) _ rfl (v:= .agg (jc c_217).toArray) (d:=77) rfl rfl ?_ ?_
    ·intro a_ w_ hev hR hk;have e20:a_.eval (.tmp 20)=_:=hk 20 rfl;exact (jd rfl e20 (Q20.out w_ (Ext.trans (jnQ _).drew hR)) rfl rfl (by rw [S_c_217];rfl))
    refine jnT (fun _=>jnQ _) _ rfl (v:= .agg (jc c_217).toArray) (d:=78) rfl rfl ?_ ?_
    ·intro a_ w_ hev hR hk;have e20:a_.eval (.tmp 20)=_:=hk 20 rfl;exact (jd rfl e20 (Q20.out w_ (Ext.trans (jnQ _).drew hR)) rfl rfl (by rw [S_c_217];rfl))
    refine jx _ rfl (fun u _=>∃ es,u= .agg (jc es).toArray/\IsN es (qs v_218 v_218)) (d:=79) rfl (fun _ _ _ h _=>h) rfl ?_ ?_
    ·intro a_ w_ hev hR hk K1 hK1;have e76:a_.eval (.tmp 76)=_:=hk 76 rfl;have e77:a_.eval (.tmp 77)=_:=hk 77 rfl;clear hk;have f76:=jz.trans e76;have f77:=jz.trans e77;go_simp;refine (j9 n_217 n_217).mono ?_;rintro e_ w2_ ⟨fs_,hf_,rfl,x_⟩;exact hK1.out _ _ x_ ⟨fs_,rfl,hf_⟩
    refine jx _ rfl (fun u _=>∃ es,u= .agg (jc es).toArray/\IsN es (qs x (qs v_218 v_218))) (d:=80) rfl (fun _ _ _ h _=>h) rfl ?_ ?_
    ·intro a_ w_ hev hR hk K1 hK1;have e75:a_.eval (.tmp 75)=_:=hk 75 rfl;obtain ⟨es_78,e78,n78⟩:∃ es,a_.eval (.tmp 78)= .agg (jc es).toArray/\IsN es _:=hk 78 rfl;clear hk;have f75:=jz.trans e75;have f78:=jz.trans e78;go_simp;refine (j9 n_cx n78).mono ?_;rintro e_ w2_ ⟨fs_,hf_,rfl,x_⟩;exact hK1.out _ _ x_ ⟨fs_,rfl,hf_⟩
    intro v_ wq_ hR hV_ hN_;obtain ⟨hv4,hv3,hv2,hv1,hv0,_⟩:=hV_;replace hv0:v_ 0=_:=hv0;replace hv1:v_ 1=_:=hv1;replace hv2:v_ 2=_:=hv2
    skip
    skip
    dsimp only [yQ,zv];obtain ⟨es_3,hv3,hn_3⟩:=hv3;obtain ⟨es_4,hv4,hn_4⟩:=hv4;clear hN_;rw [hv0,hv1,hv2,hv3,hv4];go_frame
    clear hv0 hv1 hv2 hv3 hv4;generalize es_4=c_221 at *;have n_221:=hn_4;clear hn_3 hn_4;obtain ⟨v_222,hv_222⟩:∃ v,v=qs x (qs v_218 v_218):=⟨_,rfl⟩;rw [<-hv_222] at n_221;replace hv_222:=Hj (fun _:Unit=>hv_222);have S_c_221:=jnE n_221.len;have O_c_221:=jw c_221;have mm_:=K9.kept ((jnQ w17_).drew.trans hR) K9.lt;refine qi (z:=5) _ rfl rfl (by kernel_rfl) ?_;intro K1 hK1;refine jrf _ _ _ rfl g9 (jc c_221).toArray rfl rfl 200 (jc c9).toArray mm_ (by rw [S_c_221];rfl) (by rw [S_c_221,S_c9]) O_c_221 ?_;refine hK1.out _ _ ?_;clear hK1 K1;refine qT (by kernel_rfl) ?_;have mK5:=K5.kept ((jnQ w17_).drew.trans hR) K5.lt;have mK6:=K6.kept ((jnQ w17_).drew.trans hR) K6.lt;have mK7:=K7.kept ((jnQ w17_).drew.trans hR) K7.lt;have mK8:=K8.kept ((jnQ w17_).drew.trans hR) K8.lt;have mK9:=K9.kept ((jnQ w17_).drew.trans hR) K9.lt;have mK14:=K14.kept ((jnQ w17_).drew.trans hR) K14.lt;have mK15:=K15.kept ((jnQ w17_).drew.trans hR) K15.lt;have mK16:=K16.kept ((jnQ w17_).drew.trans hR) K16.lt;have mK20:=K20.kept ((jnQ w17_).drew.trans hR) K20.lt;have mKB:=jpn KB (((jnQ w17_).drew.trans hR).mono (jqU K6.lt));refine yf (fun W=>Ur W g5 200 cx/\Ur W g6 200 c6/\Ur W g7 200 c_219/\Ur W g8 200 c8/\Ur W g9 200 c_221/\Ur W g14 200 c_205/\Ur W g15 200 c_207/\Ur W g16 200 c_209/\Ur W g20 200 c_217/\Below g6 w5_ W) ⟨mK5.so (by omega),
     mK6.so (by omega),
     mK7.so (by omega),
     mK8.so (by omega),
     jqc _ _ _ _ _ _ mK9,
     mK14.so (by omega),
     mK15.so (by omega),
     mK16.so (by omega),
     mK20.so (by omega),
     jqb mKB (by omega) _⟩ ?_
    clear K5 K6 K7 K8 K9 K14 K15 K16 K20 KB mm_ hR mK5 mK6 mK7 mK8 mK9 mK14 mK15 mK16 mK20 mKB Q5 Q20;rintro w18_ ⟨K5,K6,K7,K8,K9,K14,K15,K16,K20,KB⟩;clear K20;go_wp2_with (first
     | (refine wl_ rfl 200 rfl g14 rfl K14 rfl rfl (by rw [S_c_205];rfl) ?_;go_frame)
     | (refine wl_ rfl 200 rfl g15 rfl K15 rfl rfl (by rw [S_c_207];rfl) ?_;go_frame))
    refine (j9 n_205 n_207).mono ?_;rintro e u_ ⟨c_223,n_223,rfl,e1⟩;obtain ⟨v_224,hv_224⟩:∃ v,v=qs v_206 v_208:=⟨_,rfl⟩;rw [<-hv_224] at n_223;replace hv_224:=Hj (fun _:Unit=>hv_224);have S_c_223:=jnE n_223.len;have O_c_223:=jw c_223;have mK5:=K5.kept e1 K5.lt;have mK6:=K6.kept e1 K6.lt;have mK7:=K7.kept e1 K7.lt;have mK8:=K8.kept e1 K8.lt;have mK9:=K9.kept e1 K9.lt;have mK14:=K14.kept e1 K14.lt;have mK15:=K15.kept e1 K15.lt;have mK16:=K16.kept e1 K16.lt;have mKB:=jpn KB (e1.mono (jqU K6.lt));go_upto_region 28 with (first
     | (refine ws_ rfl 200 rfl g6 (jc c_223).toArray rfl rfl mK6 (by rw [S_c_223];rfl) (by rw [S_c_223,S_c6]) O_c_223 ?_;simp only [jpR]))
    refine jg (fun W=>Ur W g5 200 cx/\Ur W g6 200 c_223/\Ur W g7 200 c_219/\Ur W g8 200 c8/\Ur W g9 200 c_221/\Ur W g14 200 c_205/\Ur W g15 200 c_207/\Ur W g16 200 c_209/\Below g6 w5_ W) ⟨mK5.so (by omega),
     jqc _ _ _ _ _ _ mK6,
     mK7.so (by omega),
     mK8.so (by omega),
     mK9.so (by omega),
     mK14.so (by omega),
     mK15.so (by omega),
     mK16.so (by omega),
     jqb mKB (by omega) _⟩ ?_
    clear K5 K6 K7 K8 K9 K14 K15 K16 KB e1 mK5 mK6 mK7 mK8 mK9 mK14 mK15 mK16 mKB;rintro w19_ ⟨K5,K6,K7,K8,K9,K14,K15,K16,KB⟩;clear K15;have Q14:=K14.q;have Q16:=K16.q;refine qgF (R:=Ext) jnQ (fun _ _ _=>Ext.trans) [0,1,2,3,4,5,6] [7] [0,0,0,0,12,30,63,127] [true,true,true,true,true,true,true,false] ?_;refine jnT (fun _=>jnQ _) _ rfl (v:= .agg (jc c_209).toArray) (d:=84) rfl rfl ?_ ?_
    ·intro a_ w_ hev hR hk;have e16:a_.eval (.tmp 16)=_:=hk 16 rfl;exact (jd rfl e16 (Q16.out w_ (Ext.trans (jnQ _).drew hR)) rfl rfl (by rw [S_c_209];rfl))
    refine jnT (fun _=>jnQ _) _ rfl (v:= .agg (jc c_205).toArray) (d:=85) rfl rfl ?_ ?_
    ·intro a_ w_ hev hR hk;have e14:a_.eval (.tmp 14)=_:=hk 14 rfl;exact (jd rfl e14 (Q14.out w_ (Ext.trans (jnQ _).drew hR)) rfl rfl (by rw [S_c_205];rfl))
    refine jnT (fun _=>jnQ _) _ rfl (v:= .agg (jc fw).toArray) (d:=86) rfl rfl ?_ ?_
    ·intro a_ w_ hev hR hk;exact (qe rfl (by simp only [jqE,jqA,jqF,hev.1];exact hbf.out))
    refine jnT (fun _=>jnQ _) _ rfl (v:= .agg (jc c_209).toArray) (d:=87) rfl rfl ?_ ?_
    ·intro a_ w_ hev hR hk;have e16:a_.eval (.tmp 16)=_:=hk 16 rfl;exact (jd rfl e16 (Q16.out w_ (Ext.trans (jnQ _).drew hR)) rfl rfl (by rw [S_c_209];rfl))
    refine jx _ rfl (fun u _=>∃ es,u= .agg (jc es).toArray/\IsN es (qs 121665 v_210)) (d:=88) rfl (fun _ _ _ h _=>h) rfl ?_ ?_
    ·intro a_ w_ hev hR hk K1 hK1;have e85:a_.eval (.tmp 85)=_:=hk 85 rfl;have e86:a_.eval (.tmp 86)=_:=hk 86 rfl;clear hk;have f85:=jz.trans e85;have f86:=jz.trans e86;go_simp;refine (j9 n_fw n_209).mono ?_;rintro e_ w2_ ⟨fs_,hf_,rfl,x_⟩;exact hK1.out _ _ x_ ⟨fs_,rfl,hf_⟩
    refine jx _ rfl (fun u _=>∃ es,u= .agg (jc es).toArray/\IsN es (jnw v_206 (qs 121665 v_210))) (d:=89) rfl (fun _ _ _ h _=>h) rfl ?_ ?_
    ·intro a_ w_ hev hR hk K1 hK1;have e84:a_.eval (.tmp 84)=_:=hk 84 rfl;obtain ⟨es_87,e87,n87⟩:∃ es,a_.eval (.tmp 87)= .agg (jc es).toArray/\IsN es _:=hk 87 rfl;clear hk;have f84:=jz.trans e84;have f87:=jz.trans e87;go_simp;refine (yo n_205 n87).mono ?_;rintro e_ w2_ ⟨fs_,hf_,rfl,x_⟩;exact hK1.out _ _ x_ ⟨fs_,rfl,hf_⟩
    refine jx _ rfl (fun u _=>∃ es,u= .agg (jc es).toArray/\IsN es (qs v_210 (jnw v_206 (qs 121665 v_210)))) (d:=90) rfl (fun _ _ _ h _=>h) rfl ?_ ?_
    ·intro a_ w_ hev hR hk K1 hK1;have e83:a_.eval (.tmp 83)=_:=hk 83 rfl;obtain ⟨es_88,e88,n88⟩:∃ es,a_.eval (.tmp 88)= .agg (jc es).toArray/\IsN es _:=hk 88 rfl;clear hk;have f83:=jz.trans e83;have f88:=jz.trans e88;go_simp;refine (j9 n_209 n88).mono ?_;rintro e_ w2_ ⟨fs_,hf_,rfl,x_⟩;exact hK1.out _ _ x_ ⟨fs_,rfl,hf_⟩
    intro v_ wq_ hR hV_ hN_;obtain ⟨hv6,hv5,hv4,hv3,hv2,hv1,hv0,_⟩:=hV_;replace hv0:v_ 0=_:=hv0;replace hv1:v_ 1=_:=hv1;replace hv2:v_ 2=_:=hv2;replace hv3:v_ 3=_:=hv3
    skip
    skip
    skip
    dsimp only [yQ,zv];obtain ⟨es_4,hv4,hn_4⟩:=hv4;obtain ⟨es_5,hv5,hn_5⟩:=hv5;obtain ⟨es_6,hv6,hn_6⟩:=hv6;clear hN_;rw [hv0,hv1,hv2,hv3,hv4,hv5,hv6];go_frame
    clear hv0 hv1 hv2 hv3 hv4 hv5 hv6;generalize es_6=c_225 at *;have n_225:=hn_6;clear hn_4 hn_5 hn_6;obtain ⟨v_226,hv_226⟩:∃ v,v=qs v_210 (jnw v_206 (qs 121665 v_210)):=⟨_,rfl⟩;rw [<-hv_226] at n_225;replace hv_226:=Hj (fun _:Unit=>hv_226);have S_c_225:=jnE n_225.len;have O_c_225:=jw c_225;have mm_:=K8.kept ((jnQ w19_).drew.trans hR) K8.lt;refine qi (z:=7) _ rfl rfl (by kernel_rfl) ?_;intro K1 hK1;refine jrf _ _ _ rfl g8 (jc c_225).toArray rfl rfl 200 (jc c8).toArray mm_ (by rw [S_c_225];rfl) (by rw [S_c_225,S_c8]) O_c_225 ?_;refine hK1.out _ _ ?_;clear hK1 K1;refine qT (by kernel_rfl) ?_;have mK5:=K5.kept ((jnQ w19_).drew.trans hR) K5.lt;have mK6:=K6.kept ((jnQ w19_).drew.trans hR) K6.lt;have mK7:=K7.kept ((jnQ w19_).drew.trans hR) K7.lt;have mK8:=K8.kept ((jnQ w19_).drew.trans hR) K8.lt;have mK9:=K9.kept ((jnQ w19_).drew.trans hR) K9.lt;have mK14:=K14.kept ((jnQ w19_).drew.trans hR) K14.lt;have mK16:=K16.kept ((jnQ w19_).drew.trans hR) K16.lt;have mKB:=jpn KB (((jnQ w19_).drew.trans hR).mono (jqU K6.lt));refine yf (fun W=>Ur W g5 200 cx/\Ur W g6 200 c_223/\Ur W g7 200 c_219/\Ur W g8 200 c_225/\Ur W g9 200 c_221/\Ur W g14 200 c_205/\Ur W g16 200 c_209/\Below g6 w5_ W) ⟨mK5.so (by omega),
     mK6.so (by omega),
     mK7.so (by omega),
     jqc _ _ _ _ _ _ mK8,
     mK9.so (by omega),
     mK14.so (by omega),
     mK16.so (by omega),
     jqb mKB (by omega) _⟩ ?_
    clear K5 K6 K7 K8 K9 K14 K16 KB mm_ hR mK5 mK6 mK7 mK8 mK9 mK14 mK16 mKB Q14 Q16;rintro w20_ ⟨K5,K6,K7,K8,K9,K14,K16,KB⟩;clear K14;clear K16;have KX:=(P3.out _ KB).1;go_wp2_with (refine wl_ rfl 23 rfl w.heap.size rfl KX.1 rfl rfl (by rw [S_ks];rfl) ?_;go_frame)
    refine (BT.out _).mono ?_;rintro e u_ ⟨rfl,e1⟩;clear KX;go_wp2_with fail;have NX:S (m+1)=(v_224,v_220,v_226,v_222):=by
     rw [S1m.out ()];replace hv_202:=hv_202.out ();replace hv_204:=hv_204.out ();replace hv_206:=hv_206.out ();replace hv_208:=hv_208.out ();replace hv_210:=hv_210.out ();replace hv_212:=hv_212.out ();replace hv_214:=hv_214.out ();replace hv_216:=hv_216.out ();replace hv_218:=hv_218.out ();replace hv_220:=hv_220.out ();replace hv_222:=hv_222.out ();replace hv_224:=hv_224.out ();replace hv_226:=hv_226.out ();subst hv_226 hv_224 hv_222 hv_220 hv_218 hv_216 hv_214 hv_212 hv_210 hv_208 hv_206 hv_204 hv_202;rw [jfK x]
     rfl
    exact ⟨⟨m+1,c_223,c_219,c_225,c_221,hm1.out,by rw [<-hbn1.out],K6.kept e1 K6.lt,
     K7.kept e1 K7.lt,
     K8.kept e1 K8.lt,
     K9.kept e1 K9.lt,by rw [NX];exact n_223,by rw [NX];exact n_219,by rw [NX];exact n_225,by rw [NX];exact n_221,jpn KB (e1.mono (jqU K6.lt))⟩,by simp [intOf];omega⟩
  ·obtain rfl:m=255:=by omega
   have S_c6:=jnE n6.len;have S_c8:=jnE n8.len;have Q6:=K6.q;have Q8:=K8.q;have QZ:Hid (∀ s,Ext wr s->Ky s (w.heap.size+1+1) zk/\Ext w s):=fun s e=>by
    have:=P3.out s (jpn KB (e.mono (jqU K6.lt)));exact ⟨this.2.1,this.2.2.2⟩
   have NKC:Hid (∀ (W:World) (es:List Nat),IsN es (qs (S 255).1 (zL (S 255).2.2.1))->Calls jpx 104 #[.agg (jc es).toArray] W fun e w'=>e= .returned (.agg (cellsOf rk).toArray)/\Ext W w'):=fun W es h=>by rw [hrk.out];exact jeD h
   clear K6 K7 K8 K9 n7 n9 KB P3 BIT S1;go_wp2_with fail;refine qgF (R:=Ext) jnQ (fun _ _ _=>Ext.trans) [0,1,2,3,4] [5] [0,0,2,7,15,31] [true,true,true,true,true,false] ?_;refine jnT (fun _=>jnQ _) _ rfl (v:= .agg (jc c6).toArray) (d:=100) rfl rfl ?_ ?_
   ·intro a_ w_ hev hR hk;have e6:a_.eval (.tmp 6)=_:=hk 6 rfl;exact (jd rfl e6 (Q6.out w_ (Ext.trans (jnQ _).drew hR)) rfl rfl (by rw [S_c6];rfl))
   refine jnT (fun _=>jnQ _) _ rfl (v:= .agg (jc c8).toArray) (d:=101) rfl rfl ?_ ?_
   ·intro a_ w_ hev hR hk;have e8:a_.eval (.tmp 8)=_:=hk 8 rfl;exact (jd rfl e8 (Q8.out w_ (Ext.trans (jnQ _).drew hR)) rfl rfl (by rw [S_c8];rfl))
   refine jx _ rfl (fun u _=>∃ es,u= .agg (jc es).toArray/\IsN es (zL (S 255).2.2.1)) (d:=102) rfl (fun _ _ _ h _=>h) rfl ?_ ?_
   ·intro a_ w_ hev hR hk K1 hK1;have e100:a_.eval (.tmp 100)=_:=hk 100 rfl;clear hk;have f100:=jz.trans e100;go_simp;refine (jeC n8).mono ?_;rintro e_ w2_ ⟨fs_,hf_,rfl,x_⟩;exact hK1.out _ _ x_ ⟨fs_,rfl,hf_⟩
   refine jx _ rfl (fun u _=>∃ es,u= .agg (jc es).toArray/\IsN es (qs (S 255).1 (zL (S 255).2.2.1))) (d:=103) rfl (fun _ _ _ h _=>h) rfl ?_ ?_
   ·intro a_ w_ hev hR hk K1 hK1;have e99:a_.eval (.tmp 99)=_:=hk 99 rfl;obtain ⟨es_101,e101,n101⟩:∃ es,a_.eval (.tmp 101)= .agg (jc es).toArray/\IsN es _:=hk 101 rfl;clear hk;have f99:=jz.trans e99;have f101:=jz.trans e101;go_simp;refine (j9 n6 n101).mono ?_;rintro e_ w2_ ⟨fs_,hf_,rfl,x_⟩;exact hK1.out _ _ x_ ⟨fs_,rfl,hf_⟩
   refine jx _ rfl (fun u _=>u= .agg (cellsOf rk).toArray) (d:=104) rfl (fun _ _ _ h _=>h) rfl ?_ ?_
   ·intro a_ w_ hev hR hk K1 hK1;obtain ⟨es_102,e102,n102⟩:∃ es,a_.eval (.tmp 102)= .agg (jc es).toArray/\IsN es _:=hk 102 rfl;clear hk;have f102:=jz.trans e102;go_simp;refine (NKC.out _ _ n102).mono ?_;rintro e_ w2_ ⟨rfl,x_⟩;exact hK1.out _ _ x_ rfl
   intro v_ wq_ hR hV_ hN_;obtain ⟨hv4,hv3,hv2,hv1,hv0,_⟩:=hV_;replace hv0:v_ 0=_:=hv0;replace hv1:v_ 1=_:=hv1
   skip
   skip
   replace hv4:v_ 4=_:=hv4;dsimp only [yQ,zv];obtain ⟨es_2,hv2,hn_2⟩:=hv2;obtain ⟨es_3,hv3,hn_3⟩:=hv3;clear hN_;rw [hv0,hv1,hv2,hv3,hv4];go_frame
   clear hv0 hv1 hv2 hv3 hv4;have kz:=Hj (QZ.out wq_ ((jnQ _).drew.trans hR));refine qi (z:=5) _ rfl rfl (by kernel_rfl) ?_;intro K1 hK1;refine jrf _ _ _ rfl (w.heap.size+1+1) (cellsOf rk).toArray rfl rfl 23 (cellsOf zk).toArray kz.out.1.1 (by rw [S_rk];rfl) (by rw [S_rk,S_zk]) O_rk ?_;refine hK1.out _ _ ?_;clear hK1 K1;refine qT (by kernel_rfl) ?_;clear hR;go_wp2_with fail;(try simp only [jqV,Exit.then]);refine jqW (jqX rfl _ _ (w.heap.size+1+1) 23 (cellsOf rk).toArray (0,0) _ rfl (jqc _ _ _ _ _ _ kz.out.1.1) rfl rfl (by rw [S_rk];rfl)) rfl ?_;exact ⟨rfl,jqb kz.out.2 (by omega) _⟩
theorem jdy {ks:List UInt8}{w:World}(hk:ks.length=32):
 Calls jpx 40 #[.agg (cellsOf ks).toArray] w fun e w'=>e= .returned (.agg (cellsOf (kL (jY ks 9))).toArray)/\Ext w w':=by
 have MU:Hid (∀ W,Calls jpx 71 #[.agg (cellsOf ks).toArray, .agg (cellsOf jdf).toArray] W fun e w'=>e= .returned (.agg (cellsOf (kL (jY ks 9))).toArray)/\Ext W w'):=fun W=>by
  have:=jdE (w:=W) hk (show jdf.length=32 from rfl)
  rwa [jk2] at this
 have L_rk:=zx (jY ks 9);generalize kL (jY ks 9)=rk at *;have S_rk:(cellsOf rk).toArray.size=32:=by simp [ja,L_rk]
 have O_rk:=ji rk;have S_ks:(cellsOf ks).toArray.size=32:=by simp [ja,hk]
 have hb:=Hj jg9;generalize jdf=k9 at *;have hal:∀ w,(jpI 23).run jpx w= .ok (.agg (cellsOf (jqn 32 0)).toArray) w:=fun w=>by rw [jU];exact j2 w
 have L_zk:(jqn 32 (0:UInt8)).length=32:=rfl;generalize jqn 32 (0:UInt8)=zk at *;have S_zk:(cellsOf zk).toArray.size=32:=by simp [ja,L_zk]
 have B0:Hid (Ky ((w.alloc (jqY (cellsOf ks).toArray 23)).alloc (jqY (cellsOf zk).toArray 23)) w.heap.size ks/\Ky ((w.alloc (jqY (cellsOf ks).toArray 23)).alloc (jqY (cellsOf zk).toArray 23)) (w.heap.size+1) zk/\Ext w ((w.alloc (jqY (cellsOf ks).toArray 23)).alloc (jqY (cellsOf zk).toArray 23))):=⟨⟨jQ _ _ _,hk⟩,⟨jK _ _ _,L_zk⟩,((jnQ w).alloc _).alloc _⟩;go_enter Tryz.func40,Tryz.ntmps40
 go_wp2_with (first
  | (refine wl_ rfl 23 rfl w.heap.size rfl B0.out.1.1 rfl rfl (by rw [S_ks];rfl) ?_;go_frame)
  | (refine jm rfl _ _ rfl (cellsOf k9).toArray (by simp only [jqE,jqA,jqF];exact hb.out) ?_;go_frame))
 refine (MU.out _).mono ?_;rintro e w1 ⟨rfl,e1⟩;have kr:=Hj (B0.out.2.1.ext e1);have kx:Hid (Ext w w1):=B0.out.2.2.trans e1;clear B0 MU e1;go_wp2_with (refine ws_ rfl 23 rfl (w.heap.size+1) (cellsOf rk).toArray rfl rfl kr.out.1 (by rw [S_rk];rfl) (by rw [S_rk,S_zk]) O_rk ?_;go_frame)
 (try simp only [jqV,Exit.then]);refine jqW (jqX rfl _ _ (w.heap.size+1) 23 (cellsOf rk).toArray (0,0) _ rfl (jqc _ _ _ _ _ _ kr.out.1) rfl rfl (by rw [S_rk];rfl)) rfl ?_;exact ⟨rfl,jqb kx.out (by omega) _⟩
theorem jdH {w:World}{A:Option Addr}{n c:Nat}{xs:List UInt8}(h:Bs w A n c xs) (hn:n<=1000000):
 Calls jpx 18 #[.slice A n c] w fun e w'=>e= .returned (.agg (cellsOf (j3 xs)).toArray)/\Ext w w':=by
 have SUM:Hid (∀ W,Ext w W->Calls jpx 39 #[.slice A n c] W fun e w'=>e= .returned (.agg (cellsOf (jC [] xs)).toArray)/\Ext W w'):=fun W e=>jcD (h.ext e) hn
 have BAS:Hid (∀ W,Ext w W->Calls jpx 40 #[.agg (cellsOf (jC [] xs)).toArray] W fun e w'=>e= .returned (.agg (cellsOf (kL (jY (jC [] xs) 9))).toArray)/\Ext W w'):=fun W e=>jdy (qr _ _)
 have BLT:=Hj (Zv (qr [] xs) (zx (jY (jC [] xs) 9)));have RLe:=yU xs;have hR_:Hid (jC [] xs++kL (jY (jC [] xs) 9)=j3 xs):=rfl;rw [hR_.out] at BLT;clear hn;have L_sk:=qr [] xs;have L_pk:=zx (jY (jC [] xs) 9);clear hR_;generalize kL (jY (jC [] xs) 9)=pk at *;generalize jC [] xs=sk at *;generalize j3 xs=rr at *;have S_sk:(cellsOf sk).toArray.size=32:=by simp [ja,L_sk]
 have O_sk:=ji sk;have S_rr:(cellsOf rr).toArray.size=64:=by simp [ja,RLe]
 have O_rr:=ji rr;have hal:∀ w,(jpI 23).run jpx w= .ok (.agg (cellsOf (jqn 32 0)).toArray) w:=fun w=>by rw [jU];exact j2 w
 have hal2:=yS;have L_zk:(jqn 32 (0:UInt8)).length=32:=rfl;have L_zp:(jqn 64 (0:UInt8)).length=64:=by simp
 generalize jqn 32 (0:UInt8)=zk at *;generalize jqn 64 (0:UInt8)=zp at *;have S_zk:(cellsOf zk).toArray.size=32:=by simp [ja,L_zk]
 have S_zp:(cellsOf zp).toArray.size=64:=by simp [ja,L_zp]
 have B0:Hid (Kp (w.alloc (jqY (cellsOf zp).toArray 31)) w.heap.size zp/\Ext w (w.alloc (jqY (cellsOf zp).toArray 31))):=⟨⟨jqq _ _,L_zp⟩,(jnQ w).alloc _⟩;go_enter Tryz.func18,Tryz.ntmps18
 go_wp2_with fail;refine (SUM.out _ B0.out.2).mono ?_;rintro e u_ ⟨rfl,e1⟩;have a1:Hid ((u_.alloc (jqY (cellsOf zk).toArray 23)).heap[u_.heap.size]? =some (.cells (cellsOf zk).toArray 23 (0,0))):=jqq _ _;have E_:Ext (w.alloc (jqY (cellsOf zp).toArray 31)) ((u_.alloc (jqY (cellsOf zk).toArray 23)).setRow u_.heap.size (cellsOf sk).toArray):=e1.trans (jqb ((jnQ u_).alloc _) (jpo _) _);go_upto_region 2 with (refine ws_ rfl 23 rfl u_.heap.size (cellsOf sk).toArray rfl rfl a1.out (by rw [S_sk];rfl) (by rw [S_sk,S_zk]) O_sk ?_;simp only [jpR])
 obtain ⟨g3,hg_⟩:∃ g,g=u_.heap.size:=⟨_,rfl⟩;obtain ⟨r,hr_⟩:=ex_ w.heap.size;refine jg (fun W=>Ky W g3 sk/\Kp W r zp/\Ext w W) ⟨⟨by rw [hg_];exact jqc _ _ _ _ _ _ a1.out,L_sk⟩,by rw [hr_];exact B0.out.1.ext E_,B0.out.2.trans E_⟩ ?_;rw [<-hg_,<-hr_];replace hr_:=Hj hr_;clear hg_ a1 E_ e1 B0 SUM;rintro w1 ⟨k1,p1,x1⟩;have Q1:Hid (∀ s,Ext w1 s->Ky s g3 sk/\Kp s r zp/\Ext w s):=fun s e=>⟨k1.ext e,p1.ext e,x1.trans e⟩
 clear k1 p1 x1;refine qgF (R:=Ext) jnQ (fun _ _ _=>Ext.trans) [0,1,2,3] [4] [0,0,2,7,15] [true,true,true,true,false] ?_;refine jnT (fun _=>jnQ _) _ rfl (v:= .agg (cellsOf sk).toArray) (d:=7) rfl rfl ?_ ?_
 ·intro a_ w_ hev hR hk;have e3:a_.eval (.tmp 3)=_:=hk 3 rfl;exact (jd rfl e3 (Q1.out w_ (Ext.trans (jnQ _).drew hR)).1.1 rfl rfl (by rw [S_sk];rfl))
 refine jnT (fun _=>jnQ _) _ rfl (v:= .agg (cellsOf sk).toArray) (d:=8) rfl rfl ?_ ?_
 ·intro a_ w_ hev hR hk;have e3:a_.eval (.tmp 3)=_:=hk 3 rfl;exact (jd rfl e3 (Q1.out w_ (Ext.trans (jnQ _).drew hR)).1.1 rfl rfl (by rw [S_sk];rfl))
 refine jx _ rfl (fun u _=>u= .agg (cellsOf pk).toArray) (d:=9) rfl (fun _ _ _ h _=>h) rfl ?_ ?_
 ·intro a_ w_ hev hR hk K1 hK1;have e7:a_.eval (.tmp 7)=_:=hk 7 rfl;clear hk;have f7:=jz.trans e7;go_simp;refine (BAS.out _ (Q1.out w_ (Ext.trans (jnQ _).drew hR)).2.2).mono ?_;rintro e_ w2_ ⟨rfl,x_⟩;exact hK1.out _ _ x_ rfl
 refine jnT (fun _=>jnQ _) _ rfl (v:= .agg (cellsOf rr).toArray) (d:=10) rfl rfl ?_ ?_
 ·intro a_ w_ hev hR hk;have e6:a_.eval (.tmp 6)=_:=hk 6 rfl;have e8:a_.eval (.tmp 8)=_:=hk 8 rfl;exact (qe rfl (by simp only [jqE,jqA,jqF,e6,e8];exact BLT.out))
 intro v_ w2 hR hV_ hN_;obtain ⟨hv3,hv2,hv1,hv0,_⟩:=hV_;replace hv0:v_ 0=_:=hv0;replace hv1:v_ 1=_:=hv1;replace hv2:v_ 2=_:=hv2;replace hv3:v_ 3=_:=hv3;dsimp only [yQ,zv];clear hN_;rw [hv0,hv1,hv2,hv3];go_frame
 clear hv0 hv1 hv2 hv3;have kz:=Hj (Q1.out w2 ((jnQ _).drew.trans hR)).2;refine qi (z:=4) _ rfl rfl (by kernel_rfl) ?_;intro K1 hK1;refine jrf _ _ _ rfl r (cellsOf rr).toArray rfl rfl 31 (cellsOf zp).toArray kz.out.1.1 (by rw [S_rr];rfl) (by rw [S_rr,S_zp]) O_rr ?_;refine hK1.out _ _ ?_;clear hK1 K1;refine qT (by kernel_rfl) ?_;clear hR Q1;go_wp2_with fail;(try simp only [jqV,Exit.then]);refine jqW (jqX rfl _ _ r 31 (cellsOf rr).toArray (0,0) _ rfl (jqc _ _ _ _ _ _ kz.out.1.1) rfl rfl (by rw [S_rr];rfl)) rfl ?_;exact ⟨rfl,jqb kz.out.2 (by rw [hr_.out];exact jpo _) _⟩
end
section
open Go.ChangeShapes Go.WideShapes Go.ChangeAt Go.RowKit Go.Deep Go.Maps
def zP:List UInt8:=j3 [98]
theorem jay:zP.length=64:=yU _
theorem jds:zP.drop 32=jE [98]:=by
 unfold zP;rw [jaz];exact List.drop_left' (qr _ _)
theorem Y6 (x:List UInt8):(j3 x).take 32=jC [] x:=by rw [jaz];exact jqv (qr _ _)
theorem jeN (x:List UInt8):(j3 x).drop 32=jE x:=by rw [jaz];exact List.drop_left' (qr _ _)
def J2 (shared:List UInt8):Rt:=qg (ZU shared (jE [98])) (j3 (jO [120] 0))
theorem jft (shared:List UInt8):qh (ZU shared (jE [98])) (j3 (jO [120] 0))=0:=by
 unfold qh qE;rw [Y6];exact jek _ _
theorem jel (w:World) (x:Int):(convert 33 33 (.slice (some ⟨w.heap.size,0,none⟩) 1 1)).run jpx (w.alloc (.cells #[.int .u8 x] 5))= .ok (.slice (some ⟨w.heap.size,0,none⟩) 1 1) (w.alloc (.cells #[.int .u8 x] 5 (1,2))):=Qn w _ 1 1
theorem Bs.one13 (w:World) (x:UInt8) (v:Int) (hv:v=(x.toNat:Int)):Bs (w.alloc (.cells #[.int .u8 v] 5 (1,2))) (some ⟨w.heap.size,0,none⟩) 1 1 [x]:=by
 subst hv;refine ⟨rfl,jpo _,by unfold maxLen;omega,fun _=>⟨w.heap.size,0,rfl,by rw [je];omega,fun j hj=> ?_⟩⟩;obtain rfl:j=0:=by omega
 rw [jqe _ _ _ _ _ (1,2) (jqq _ _)]
 rfl
theorem QD {B:Nat}{w:World}{o o':Obj}(h:B<=w.heap.size):Below B (w.alloc o) (w.alloc o'):=⟨rfl,rfl,rfl,by rw [je,je];exact jpo _,fun i hi=>by
 have e:Ext w (w.alloc o):=(jnQ w).alloc o;have e':Ext w (w.alloc o'):=(jnQ w).alloc o';rw [e.block i (by omega),e'.block i (by omega)]⟩
def jjJ:List Value:= [.pointer none, .pointer none]
def jh1 (s kp mb g lo:Nat) (shared:List UInt8):Pty:=⟨s,kp,mb,g,lo,[120],1,⟨J2 shared,[],0⟩⟩
def jjk (s kp mb g lo:Nat) (shared:List UInt8):Pty:=⟨s,kp,mb,g,lo,[121],0,⟨YB shared zP,[],0⟩⟩
end
section
open Go.ChangeShapes Go.WideShapes Go.ChangeAt Go.RowKit Go.Deep
theorem jgQ {ks ns:List UInt8}{n:Nat}{bs:List UInt8}:yY ks ns n (yY ks ns n bs)=bs:=by
 refine Y0 (by rw [yE,yE]) fun j hj=> ?_
 rw [yE,yE] at hj;rw [jad (by rw [yE];exact hj),jad hj,Nat.xor_assoc,Nat.xor_self,Nat.xor_zero]
theorem jdO (ks bs:List UInt8):zi ks (zi ks bs)=bs:=jgQ
theorem jaO {ks bs ts:List UInt8}{n:Nat}(h:ts.length=n):(qA ks bs ts).take n=zi ks ts:=by
 unfold qA;exact jqv (by rw [JW];exact h)
theorem je0 {ks bs ts:List UInt8}{n:Nat}(h:ts.length=n):(qA ks bs ts).drop n=YI ks bs (zi ks ts):=by
 unfold qA;exact List.drop_left' (by rw [JW];exact h)
end
section
open Go.ChangeShapes Go.WideShapes Go.ChangeAt Go.RowKit Go.Deep Go.Maps
theorem jdq (k data text:List UInt8):J4 k data (qA k data text)=0/\J5 k data (qA k data text)=text:=by
 have hl:=JV k data text;have h1: ¬ (qA k data text).length < 32:=by omega
 have h2:(qA k data text).length - 32=text.length:=by omega
 have h3:YI k data ((qA k data text).take text.length)=(qA k data text).drop text.length:=by rw [jaO rfl,je0 rfl]
 unfold J4 J5;rw [if_neg h1,if_neg h1,h2,if_pos h3,if_pos h3,jaO rfl,jdO];exact ⟨rfl,rfl⟩
structure Ahead (s u:Rt) (x y:List UInt8):Prop where
 own:s.own=j3 x
 uown:u.own=j3 y
 si:s.si=true
 mt:s.mt=false
 ho:s.ho=true
 ot:s.ot=jE y
 un: ¬(u.ho=true/\jE x=u.ot)
 root:s.root=jM (jC u.root (zu (jC [] x) (jE y))) yG
 sc:s.sc=Yg (jM (jC u.root (zu (jC [] x) (jE y))) vI) s.sm.toNat
 sm:0<=s.sm
 fwd:u.ri=true->s.bf<=u.rm
structure Insync (s u:Rt) (x y:List UInt8):Prop where
 own:s.own=j3 x
 uown:u.own=j3 y
 si:s.si=true
 mt:s.mt=false
 ho:s.ho=true
 ot:s.ot=jE y
 uho:u.ho=true
 uot:u.ot=jE x
 umt:u.mt=true
 uri:u.ri=true
 root:s.root=u.root
 sc:s.sc=Yg u.rc (s.sm - u.rm).toNat
 rm:0<=u.rm/\u.rm<=s.sm
theorem jiy {s:Rt}{x:List UInt8}(h:s.own=j3 x):s.sec=jC [] x:=by unfold Rt.sec;rw [h,Y6]
theorem jaE {s:Rt}{x:List UInt8}(h:s.own=j3 x):s.pub=jE x:=by unfold Rt.pub;rw [h,jeN]
theorem jf9 (a b:List UInt8):zu (jC [] a) (jE b)=zu (jC [] b) (jE a):=jhh
theorem QX {s u:Rt}{x y:List UInt8}(h:Ahead s u x y):YG u (jE x)=0/\Insync s (za u (jE x)) x y/\(za u (jE x)).rm=0/\(za u (jE x)).sm=u.sm:=by
 have hc:YY u (jE x)=zu (jC [] x) (jE y):=by unfold YY;rw [jiy h.uown];exact jf9 y x
 have he:YG u (jE x)=0:=by unfold YG;rw [hc];exact jek _ _
 have hs:za u (jE x)={u with root:=s.root,ri:=true,rc:=jM (jC u.root (zu (jC [] x) (jE y))) vI,rm:=0,ho:=true,ot:=jE x,mt:=true}:=by
  unfold za;rw [if_pos he,hc,h.root]
 rw [hs];refine ⟨he,⟨h.own,h.uown,h.si,h.mt,h.ho,h.ot,rfl,rfl,rfl,rfl,rfl,?_,jrl 0,h.sm⟩,rfl,rfl⟩
 show s.sc=Yg (jM (jC u.root (zu (jC [] x) (jE y))) vI) (s.sm - 0).toNat
 rw [Int.sub_zero];exact h.sc
theorem jbD {s u:Rt}{x y:List UInt8}(h:Ahead s u x y) (L:List Ke) (p:Int):opA ⟨u,L,p⟩ (jE x) s.bf=(⟨za u (jE x),L,p⟩,0):=by
 obtain ⟨_,_,_,A4⟩:=jcu ⟨u,L,p⟩ (jE x) s.bf;rw [A4 h.un (fun z=>by have:=h.fwd z.1;have z2:=z.2;dsimp only at z2;omega)];rw [(QX h).1]
theorem jgG (u:Rt) (L:List Ke) (p:Int):qO u u.rm=0/\jX ⟨u,L,p⟩ u.rm=⟨u,L,p⟩:=by
 have h0:Jf u u.rm=0:=by unfold Jf;omega
 have e:qO u u.rm=0:=by unfold qO;rw [h0];rfl
 refine ⟨e,?_⟩;have:=(yu ⟨u,L,p⟩ u.rm).2 e;rw [this];have hw:wkL u u.rm= []:=by unfold wkL;rw [if_pos e,h0];rfl
 have hc:wkC u u.rm=u.rc:=by unfold wkC;rw [if_pos e,h0];rfl
 dsimp only;rw [hw,hc]
 rfl
theorem jbM {s u:Rt}{x y:List UInt8}(h:Insync s u x y) (hm:u.rm=s.sm) (p:Int) (data text:List UInt8):
 zj ⟨u,[],p⟩ s.sm data (qA (jM s.sc qd) data text)=(⟨yX u,[],p⟩,text,0)/\Insync (jW s) (yX u) x y/\(yX u).rm=(jW s).sm:=by
 obtain ⟨e0,e1⟩:=jgG u [] p;have hsc:s.sc=u.rc:=by have:=h.sc;rw [hm,Int.sub_self] at this;exact this
 obtain ⟨_,_,B3⟩:=jnA ⟨u,[],p⟩ s.sm;rw [<-hm] at B3 ⊢;have hB:opB ⟨u,[],p⟩ u.rm=(⟨yX u,[],p⟩,0):=by
  rw [B3 (by rintro (z | z);dsimp only at z;rw [h.uri] at z;cases z;dsimp only at z;omega) e0,e1]
 have hK:opK ⟨u,[],p⟩ u.rm=jM s.sc qd:=by unfold opK;rw [e1,hsc]
 refine ⟨?_,⟨h.own,h.uown,h.si,h.mt,h.ho,h.ot,h.uho,h.uot,h.umt,h.uri,h.root,?_,?_⟩,?_⟩
 ·unfold zj;rw [hB,if_neg (fun z=>z rfl),hK];rw [(jdq _ _ _).1,(jdq _ _ _).2]
 ·show jM s.sc vI=Yg (jM u.rc vI) (s.sm+1 - (u.rm+1)).toNat
  rw [hsc,show s.sm+1 - (u.rm+1)=0 by omega]
  rfl
 ·show 0<=u.rm+1/\u.rm+1<=s.sm+1
  have:=h.rm;omega
 ·show u.rm+1=s.sm+1
  omega
theorem jal {s u:Rt}{x y:List UInt8}(h:Ahead s u x y) (h0:s.sm=0) (p:Int) (bs text:List UInt8) (hk:okH s.bf s.sm=true):
 yt ⟨u,[],p⟩ bs (jE x) s.bf s.sm (qA (jM s.sc qd) (qb bs (jE x) s.bf s.sm) text)=0/\Ym ⟨u,[],p⟩ bs (jE x) s.bf s.sm (qA (jM s.sc qd) (qb bs (jE x) s.bf s.sm) text)=text/\
 zf ⟨u,[],p⟩ bs (jE x) s.bf s.sm (qA (jM s.sc qd) (qb bs (jE x) s.bf s.sm) text)=⟨yX (za u (jE x)),[],p⟩/\Insync (jW s) (yX (za u (jE x))) x y/\(yX (za u (jE x))).rm=(jW s).sm:=by
 obtain ⟨_,f2,f3,_⟩:=QX h;obtain ⟨t1,t2,t3⟩:=jbM f2 (f3.trans h0.symm) p (qb bs (jE x) s.bf s.sm) text;have ho:vZ ⟨u,[],p⟩ (jE x) s.bf s.sm (qb bs (jE x) s.bf s.sm) (qA (jM s.sc qd) (qb bs (jE x) s.bf s.sm) text)=(⟨yX (za u (jE x)),[],p⟩,text,0):=by
  rw [(QI _ _ _ _ _ _).2.2 rfl (by rw [jbD h]),jbD h];exact t1
 have e:yt ⟨u,[],p⟩ bs (jE x) s.bf s.sm (qA (jM s.sc qd) (qb bs (jE x) s.bf s.sm) text)=0:=by unfold yt;rw [hk,ho];rfl
 exact ⟨e,by unfold Ym;rw [if_pos e,ho],by unfold zf;rw [if_pos e,ho],t2,t3⟩
theorem jff {s u:Rt}{x y z:List UInt8}(h:Insync s u x y) (hm:u.rm=s.sm) (rev:s.ri=true->u.sm<=s.rm) (hz:jE z≠jE y):
 qh u (j3 z)=0/\Ahead (qg u (j3 z)) s z x/\(qg u (j3 z)).sm=0/\(qg u (j3 z)).bf=u.sm/\(qg u (j3 z)).ri=true/\(qg u (j3 z)).rm=s.sm:=by
 have hc:qE u (j3 z)=zu (jC [] z) (jE x):=by unfold qE;rw [Y6,h.uot]
 have he:qh u (j3 z)=0:=by unfold qh;rw [hc];exact jek _ _
 have hs:qg u (j3 z)={u with own:=j3 z,root:=jM (jC s.root (zu (jC [] z) (jE x))) yG,bf:=u.sm,si:=true,sc:=jM (jC s.root (zu (jC [] z) (jE x))) vI,sm:=0,mt:=false}:=by
  unfold qg;rw [if_pos he,hc,h.root]
 rw [hs];refine ⟨he,⟨rfl,h.own,rfl,rfl,h.uho,h.uot,fun q=>hz ?_,rfl,rfl,jrl 0,rev⟩,rfl,rfl,h.uri,hm⟩;rw [<-h.ot];exact q.2
theorem Zw (shared:List UInt8):Ahead (J2 shared) (YB shared zP) (jO [120] 0) [98]/\(J2 shared).sm=0/\(J2 shared).bf=0/\(J2 shared).ri=false:=by
 have he:=jft shared;have hc:qE (ZU shared (jE [98])) (j3 (jO [120] 0))=zu (jC [] (jO [120] 0)) (jE [98]):=by unfold qE;rw [Y6];rfl
 have hs:J2 shared={ZU shared (jE [98]) with own:=j3 (jO [120] 0),root:=jM (jC shared (zu (jC [] (jO [120] 0)) (jE [98]))) yG,bf:=0,si:=true,sc:=jM (jC shared (zu (jC [] (jO [120] 0)) (jE [98]))) vI,sm:=0,mt:=false}:=by
  unfold J2 qg;rw [if_pos he,hc]
  rfl
 rw [hs];exact ⟨⟨rfl,rfl,rfl,rfl,rfl,rfl,(fun q=>absurd q.1 (fun z=>by cases z)),rfl,rfl,jrl 0,(fun q=>by cases q)⟩,rfl,rfl,rfl⟩
theorem jeZ {s:Rt}{p text:List UInt8}(si:s.si=true) (mt:s.mt=false) (ht:text.length<=300) (hk:okH s.bf s.sm=true):
 qW s p text=0/\yj s p text=jW s/\yI s p text=hdC s.pub s.bf s.sm/\(∀ bs,yH s p bs text=qA (jM s.sc qd) (qb bs s.pub s.bf s.sm) text)/\∀ k,yg s text k=k:=by
 have hT:qN s p=s:=by unfold qN;rw [mt];rfl
 have e:qW s p text=0:=by
  unfold qW;rw [if_neg (fun z=>by rw [si] at z;cases z.1),if_neg (by omega),if_neg (fun z=>by rw [mt] at z;cases z.1),hT,hk]
  rfl
 refine ⟨e,by unfold yj;rw [if_pos e,hT],by unfold yI;rw [if_pos e,hT],fun bs=>by unfold yH;rw [if_pos e,hT],fun k=>by unfold yg;rw [if_pos (.inr (.inr mt))]⟩
theorem jix {s:Rt}{p text:List UInt8}(mt:s.mt=true) (he:qh s p=0) (ht:text.length<=300) (hk:okH (qg s p).bf (qg s p).sm=true):
 qW s p text=0/\yj s p text=jW (qg s p)/\yI s p text=hdC (qg s p).pub (qg s p).bf (qg s p).sm/\(∀ bs,yH s p bs text=qA (jM (qg s p).sc qd) (qb bs (qg s p).pub (qg s p).bf (qg s p).sm) text)/\∀ k,yg s text k=k+1:=by
 have hT:qN s p=qg s p:=by unfold qN;rw [mt];rfl
 have e:qW s p text=0:=by
  unfold qW;rw [if_neg (fun z=>by rw [mt] at z;cases z.2),if_neg (by omega),if_neg (fun z=>z.2 he),hT,hk]
  rfl
 refine ⟨e,by unfold yj;rw [if_pos e,hT],by unfold yI;rw [if_pos e,hT],fun bs=>by unfold yH;rw [if_pos e,hT],fun k=>by unfold yg;rw [if_neg (by rintro (z | z | z);rw [mt] at z;cases z.2;omega;rw [mt] at z;cases z)]⟩
def mkK (c:List UInt8) (i:Nat):List UInt8:=jM (Yg c i) qd
structure LateS (c pk:List UInt8) (t:Rz) (come:Nat->Bool) (r:Nat):Prop where
 ho:t.s.ho=true
 ot:t.s.ot=pk
 ri:t.s.ri=true
 rm:t.s.rm=(r:Int)
 rc:t.s.rc=Yg c r
 mem:∀ x∈t.L,x.pk=pk/\∃ j:Nat,j < r/\come j=false/\x.n=(j:Int)/\x.k=mkK c j
 has:∀ j:Nat,j < r->come j=false->yZ t.L pk (j:Int)=true
 fut:∀ j:Nat,r<=j->come j=false
 len:t.L.length<=r
section
variable {c pk:List UInt8}{t:Rz}{come:Nat->Bool}{r i:Nat}{prev:Int}{data body:List UInt8}
end
theorem Bs.lit13 (w:World) (t:jpC) (fr:Nat×Nat) (xs:List UInt8) (cs:Array Value) (hcs:cs=(xs.map fun x=>jpA .u8 (x.toNat:Int)).toArray) (n:Nat) (hn:xs.length=n) (hm:n<=1000000):
 Bs (w.alloc (.cells cs t fr)) (some ⟨w.heap.size,0,none⟩) n n xs:=by
 refine ⟨hn,jpo _,by unfold maxLen;omega,fun _=>⟨w.heap.size,0,rfl,by rw [je];omega,fun j hj=> ?_⟩⟩;rw [jqe _ _ _ _ _ fr (jqq _ _),hcs];simp [bt,jpr,show j < xs.length by omega]
theorem Bs.two13 {w u:World}{b off n c i j:Nat}{xs:List UInt8}(h:Bs w (some ⟨b,off,none⟩) n c xs) (x:Two i j w u) (h1:b≠i) (h2:b≠j):Bs u (some ⟨b,off,none⟩) n c xs:=
 ⟨h.1,h.2.1,h.2.2.1,fun h0=>by
   obtain ⟨b',off',e,hb,hc⟩:=h.2.2.2 h0
   cases e
   exact ⟨b,off,rfl,jpq hb x.2.2.2.1,fun k hk=>(World.cell?_of_block (x.2.2.2.2 b hb h1 h2)).trans (hc k hk)⟩⟩
def Qe:List UInt8:=1::jqn 31 0
theorem jde:Tryz.prog.built 23 [(0, .int .u8 1)]=some (cellsOf Qe).toArray:=by kernel_rfl
theorem Own.at13 {B:Nat}{w:World}{A:Option Addr}{n c:Nat}{xs:List UInt8}(h:Own B w A n c xs) (h0:0 < n):∃ b off,A=some ⟨b,off,none⟩/\B<=b:=by
 obtain ⟨b',off',e,hbl,hc⟩:=h.bs.2.2.2 h0;subst e;refine ⟨b',off',rfl,?_⟩;rcases h.2 with ⟨hv,hn⟩ | ⟨g,cap,cur,hv,hge,_⟩
 ·omega
 ·injection hv with q1 _ _
  injection q1 with q1
  injection q1 with q1
  omega
structure SpkA (c pk:List UInt8) (i:Nat) (s:Rt):Prop where
 lp:pk.length=32
 si:s.si=true
 mt:s.mt=false
 pub:s.pub=pk
 bf:s.bf=0
 sm:s.sm=(i:Int)
 sc:s.sc=Yg c i
structure Bgn (u:Rt) (c pk:List UInt8):Prop where
 late:LateS c pk ⟨za u pk,[],0⟩ (fun _=>false) 0
 first:∀ (n:Int) (data body:List UInt8),vZ ⟨u,[],0⟩ pk 0 n data body=zj ⟨za u pk,[],0⟩ n data body
section
variable {u:Rt}{c pk:List UInt8}{t:Rz}{come:Nat->Bool}{r i:Nat}{data body:List UInt8}
end
def One (c pk:List UInt8) (W:World) (sa ga la sb gb lb i:Nat) (Q:Rz->Prop) (tg tp:jpC×Nat×Nat):Prop:=
 ∃ (ka ma kb mb:Nat) (s:Rt) (t:Rz),Duo W ⟨sa,ka,ma,ga,la,[120],1,⟨s,[],0⟩⟩ ⟨sb,kb,mb,gb,lb,[121],0,t⟩ tg tp/\SpkA c pk i s/\Q t
section
variable {c pk:List UInt8}{W W':World}{sa ga la sb gb lb i:Nat}{Q Q':Rz->Prop}{tg tp:jpC×Nat×Nat}
end
end
section
open Go.ChangeShapes Go.WideShapes Go.ChangeAt Go.RowKit Go.Deep
theorem Own.ne_of {B:Nat}{w:World}{A:Option Addr}{n c:Nat}{xs:List UInt8}(h:Own B w A n c xs){g:Nat}{t:jpC}{cs:Array Value}{fr:Nat×Nat}(hg:w.heap[g]? =some (.cells cs t fr)) (ht:t≠5):jrb (.slice A n c)≠some g:=by
 rcases h.2 with ⟨hv,_⟩ | ⟨g',cap,cur,hv,_,hg',_⟩
 ·rw [hv];simp [jrb]
 ·rw [hv];simp only [jrb];intro q
  injection q with q
  subst q;rw [hg] at hg'
  injection hg' with h1
  injection h1 with _ h2 _
  exact ht h2
end
section
open Go.ChangeShapes Go.WideShapes Go.ChangeAt Go.RowKit Go.Deep Go.Maps
def wrV (s:Rt) (p:List UInt8) (f t:Int) (op text:List UInt8) (A:Option Addr) (n c:Nat):List Value:=
 if qW s p (op++text)=0 then [.int .i64 f, .int .i64 t]++(cellsOf (wrC f t op text)++(yI s p (op++text)++ [.slice A n c])) else evZ
theorem jok {w:World}{l sg kp mb gs lo k:Nat}{t:Rz}{fr tt:Int}{op text xs:List UInt8}{B:Option Addr}{m c:Nat}(hL:Cb w l 150 (lnC fr tt sg)) (h:SS w sg kp mb gs t) (hs:SrcSt w lo gs xs k) (hk:k < 1000000) (hgs:gs < sg) (lop:op.length=32) (hm:m<=250)
 {tg tp:jpC×Nat×Nat} (hG:Gl w tg) (hP:Gp w tp) (hq:1 < lo) (hM:∀ u,Two sg gs w u->Bs u B m c text):
 Calls jpx 31 #[.pointer (some ⟨l,0,none⟩), .agg (cellsOf op).toArray, .slice B m c] w fun e w'=>∃ A' n' c',e= .returned (.tuple #[.agg (wrV t.s (j3 (jO xs k)) fr tt op text A' n' c').toArray, .int .i64 (qW t.s (j3 (jO xs k)) (op++text))])/\Own w.heap.size w' A' n' c' (yH t.s (j3 (jO xs k)) (jn fr tt (wrC fr tt op text)) (op++text))/\SS w' sg kp mb gs ⟨yj t.s (j3 (jO xs k)) (op++text),t.L,t.puts⟩/\SrcSt w' lo gs xs (yg t.s (op++text) k)/\Two sg gs w w':=by
 have hal:=jn3;have BZ:=Hj jow;have L_z:=joH;have O_z:=joV;obtain ⟨Z,hZ⟩:∃ x,x=evZ:=⟨_,rfl⟩;rw [<-hZ] at hal BZ L_z O_z;replace hZ:=Hj (fun _:Unit=>hZ);have BF:=Hj (joM fr tt);obtain ⟨E0,hE0⟩:∃ x,x=evC fr tt (jqn 32 0) (jqn 32 0) 0 0 none 0 0:=⟨_,rfl⟩;have L_E0:E0.length=69:=by rw [hE0];exact Z2 rfl rfl _ _ _ _ _ _ _
 have O_E0:E0.toArray.all (·.oneCell')=true:=by rw [hE0];exact qC fun v hv=>joF v hv
 rw [<-hE0] at BF;replace hE0:=Hj (fun _:Unit=>hE0);have S_E0:E0.toArray.size=69:=by rw [jqu,L_E0]
 have S_z:Z.toArray.size=69:=by rw [jqu,L_z]
 have S_o:(cellsOf op).toArray.size=32:=by simp [ja,lop]
 have d1:decide ((250:Int) < (m:Int))=false:=decide_eq_false (by omega);have B0:Hid (Cb ((w.alloc (.cells (cellsOf op).toArray 23)).alloc (.cells Z.toArray 89)) w.heap.size 23 (cellsOf op)/\Cb ((w.alloc (.cells (cellsOf op).toArray 23)).alloc (.cells Z.toArray 89)) (w.heap.size+1) 89 Z/\Ext w ((w.alloc (.cells (cellsOf op).toArray 23)).alloc (.cells Z.toArray 89))):=⟨jQ _ _ _,jK _ _ _,((jnQ w).alloc _).alloc _⟩;go_enter Tryz.func31,Tryz.ntmps31
 go_upto_region 1 with fail;obtain ⟨r,hr⟩:=ex_ (w.heap.size+1);obtain ⟨ro,hro⟩:∃ r,r=w.heap.size:=⟨_,rfl⟩;refine jg (fun W=>Cb W w.heap.size 23 (cellsOf op)/\Cb W (w.heap.size+1) 89 Z/\Ext w W) B0.out ?_;rw [<-hr,<-hro];have wr_:w.heap.size < r:=by omega
 have wo_:w.heap.size<=ro:=by omega
 have rro:ro≠r:=by omega
 clear B0;replace hr:=Hj hr;replace hro:=Hj hro;rintro w0 ⟨ko,k6,x0⟩;have hL0:=hL.ext x0;have c0:=hL0.cell (j:=0) rfl;have c1:=hL0.cell (j:=1) rfl;have ll:=hL.lt;have rol:=ko.lt;have rl:=k6.lt;go_upto_region 3 with fail;have x00:=x0.size;have PL:Hid (∀ u,Below w0.heap.size w0 u->u.cell? ⟨l,0,none⟩=some (.int .i64 fr)/\u.cell? ⟨l,1,none⟩=some (.int .i64 tt)):=fun u x=>by
  have q:=hL0.kept x hL0.lt;exact ⟨q.cell rfl,q.cell rfl⟩
 refine jo2 w0.heap.size 12 [0,1,2,3,4,5,6,7,8,9,10,11,12] [11,12] ?_;repeat (refine qzR _ (fun w' e=>PL.out w' ((jpm _ w0).drew.trans e)) ?_;go_frame)
 refine qzV rfl (fun _=>True) (fun _ _=>trivial) (.agg E0.toArray) (fun w' _=>qe rfl (by simp only [jqE,jqA,jqF];exact BF.out)) ?_;go_frame
 repeat (refine jio ?_;go_frame)
 have q0:Hid (Ext w0 w0.drew):=(jnQ w0).drew;have q0s:w0.heap.size<=w0.drew.heap.size:=jpo _;generalize w0.drew=V at *;refine qzD fun K hK=> ?_
 go_simp;refine hK.out _ _ (.inr (by exact (jpm _ V).alloc q0s _)) ?_;clear hK K;(try go_frame);have zE:=jqq V (jqY Z.toArray 89);obtain ⟨g8,hg8⟩:∃ x,x=V.heap.size:=⟨_,rfl⟩;rw [<-hg8] at zE ⊢;refine qzD fun K hK=> ?_
 refine jrf _ _ _ rfl g8 E0.toArray rfl rfl 89 Z.toArray zE (by rw [S_E0];rfl) (by rw [S_E0];exact S_z) O_E0 ?_;refine hK.out _ _ (.inl rfl) ?_;clear hK K;(try go_frame);refine jN ?_;have gV:w0.heap.size<=g8:=by have:=q0.out.size;omega
 refine yf (fun W=>Cb W g8 89 E0/\Ext w0 W) ⟨Cb.set zE,by rw [hg8];exact q0.out.trans (Ext.newRow V _ _)⟩ ?_;clear zE hg8 q0 q0s PL c0 c1 hL0;rintro w1 ⟨k8,x1⟩;have lt_:=(hM w (Two.refl _ _ _)).len;have JL:(qz [[u8I fr],[u8I tt],text]).length<=100000000:=by simp [qz,jaM];omega
 have x01:=Hj (x0.trans x1);have BT:Hid (∀ u,Ext w1 u->Bs u B m c text):=fun u x=>hM u (Two.of_ext (x01.out.trans x))
 have OB:Hid (∀ (W:World) (z:Int),Calls jpx 61 #[.int .i64 z] W (Qw [u8I z] W)):=fun W z=>Y7
 have MK:Hid (∀ (W:World) (C:Option Addr),Ext w1 W->Rw W C 3 3 [[u8I fr],[u8I tt],text]->Calls jpx 60 #[.agg (cellsOf op).toArray, .slice C 3 3] W fun e w'=>e= .returned (.agg (cellsOf (wrC fr tt op text)).toArray)/\Ext W w'):=fun W C e z=>joD lop z JL (hG.kept (x01.out.trans e) hG.lt)
 have L_cm:=joj fr tt op text;obtain ⟨cm,hcm⟩:∃ x,x=wrC fr tt op text:=⟨_,rfl⟩;rw [<-hcm] at MK L_cm;have S_cm:(cellsOf cm).toArray.size=32:=by simp [ja,L_cm]
 have O_cm:=ji cm;obtain ⟨T0,hT0⟩:∃ x,x=hdC (jqn 32 0) 0 0++ [.slice none 0 0]:=⟨_,rfl⟩;have L_T0:T0.length=35:=by rw [hT0,jpG,yz rfl];rfl
 have E0s:Hid (∀ _:Unit,E0= [.int .i64 fr, .int .i64 tt]++(cellsOf (jqn 32 0)++T0)):=fun _=>by rw [hE0.out (),hT0];rfl
 replace hT0:=Hj (fun _:Unit=>hT0);have FE:Hid (∀ s,Ext w1 s->s.cell? ⟨g8,0,none⟩=some (.int .i64 fr)/\s.cell? ⟨g8,1,none⟩=some (.int .i64 tt)):=fun s e=>by
  have q:=k8.ext e;rw [E0s.out ()] at q;exact ⟨q.cell rfl,q.cell rfl⟩
 have KO:Hid (∀ s,Ext w1 s->s.heap[ro]? =some (.cells (cellsOf op).toArray 23 (0,0))):=fun s e=>ko.ext (x1.trans e)
 have K8:Hid (∀ s,Ext w1 s->Cb (s.setCells g8 2 (cellsOf cm)) g8 89 ([.int .i64 fr, .int .i64 tt]++(cellsOf cm++T0))/\s.there g8 2 32):=fun s e=>by
  have q:=k8.ext e;refine ⟨q.put (E0s.out ()) rfl (by rw [ja,ja,L_cm];rfl),q.there (by rw [L_E0];omega)⟩
 have k6':=Hj (k6.ext x1);have lg8:=k8.lt;have k8':=Hj k8;have x1':=Hj x1;have x10:=x1.size;replace hcm:=Hj (fun _:Unit=>hcm);have hM0:=Hj hM;clear k8 x1 ko k6 x0 hM;go_wp2_with fail;refine ym 11 [0,1,2,4,5,7,3,6,8,9,10,11] [3,6,8,9,11] ?_;have e0:Hid (Ext w1 w1.drew):=(jnQ w1).drew;generalize w1.drew=W at *;refine qzV rfl (fun w'=>w'.heap[ro]? =some (.cells (cellsOf op).toArray 23 (0,0))) (fun w' e=>KO.out w' (e0.out.trans e)) (.agg (cellsOf op).toArray) (fun w' hF=>jd rfl rfl hF rfl rfl (by rw [S_o];rfl)) ?_;go_frame
 repeat (refine qzR _ (fun w' e=>FE.out w' (e0.out.trans e)) ?_;go_frame)
 refine qzD fun K1 hK1=> ?_
 go_simp;refine (OB.out _ _).mono ?_;rintro e V1 ⟨A1,n1,d1_,rfl,b1,y1⟩;obtain rfl:n1=1:=b1.len.symm;refine hK1.out _ _ (.inr y1) ?_;clear hK1 K1;(try go_frame);refine qzD fun K1 hK1=> ?_
 go_simp;refine (OB.out _ _).mono ?_;rintro e V2 ⟨A2,n2,d2_,rfl,b2,y2⟩;obtain rfl:n2=1:=b2.len.symm;refine hK1.out _ _ (.inr y2) ?_;clear hK1 K1;(try go_frame);have e2:=Hj (e0.out.trans (y1.trans y2));obtain rfl:m=text.length:=(BT.out w1 (jnQ _)).len.symm;have hR:=Hj (jjC (t:=33) (b1.ext y2) b2 (BT.out V2 e2.out));clear b1 b2 y1 y2;refine qzD fun K1 hK1=> ?_
 go_simp;refine hK1.out _ _ (.inr ((jnQ V2).alloc _)) ?_;clear hK1 K1;(try go_frame);have e3:=Hj (e2.out.trans ((jnQ V2).alloc (jqY #[.slice A1 1 d1_, .slice A2 1 d2_, .slice B text.length c] 33)));generalize V2.alloc (jqY #[.slice A1 1 d1_, .slice A2 1 d2_, .slice B text.length c] 33)=V3 at *;refine qzD fun K1 hK1=> ?_
 go_simp;refine (MK.out _ _ e3.out hR.out).mono ?_;rintro e V4 ⟨rfl,y4⟩;refine hK1.out _ _ (.inr y4) ?_;clear hK1 K1;(try go_frame);repeat (refine jio ?_;go_frame)
 have e4:=Hj (e3.out.trans y4);obtain ⟨c8,t8⟩:=K8.out V4 e4.out;replace c8:=Hj c8;have ko4:=KO.out V4 e4.out;have k64:=k6'.out.ext e4.out;have x4:=Hj (x01.out.trans e4.out);clear hR e2 e3 y4 K8 MK OB FE KO;refine qzD fun K1 hK1=> ?_
 refine wp_store_mid 23 _ _ rfl g8 2 (cellsOf cm).toArray rfl rfl (by rw [S_cm];exact t8) (by rw [S_cm];rfl) O_cm ?_;refine hK1.out _ _ (.inl rfl) ?_;clear hK1 K1;(try go_frame);refine jN ?_;have gr:V4.grownBy (V4.setCells g8 2 (cellsOf cm)) (some g8):=ju;have x14:=e4.out.size;have g8r:r≠g8:=by omega
 have g8o:ro≠g8:=by omega
 obtain ⟨E1,hE1⟩:∃ x,x= [jpA .i64 fr, .int .i64 tt]++(cellsOf cm++T0):=⟨_,rfl⟩;rw [<-hE1] at c8;refine yf (fun W=>Cb W g8 89 E1/\Cb W ro 23 (cellsOf op)/\Cb W r 89 Z/\Ext w W) ⟨c8.out,(gr.block _ (jh ko4) (fun q=>g8o (jpD q))).trans ko4,(gr.block _ (jh k64) (fun q=>g8r (jpD q))).trans k64,jpn x4.out ⟨gr.os,gr.tape,gr.output,gr.size,fun i hi=>gr.block i (jpq hi x4.out.size) (fun q=>by have:=jpD q;omega)⟩⟩ ?_;have L_E1:E1.length=69:=by rw [hE1];simp [ja,L_cm,L_T0]
 have DO:Hid (∀ W,Calls jpx 68 #[.agg E1.toArray] W (YA (jn fr tt cm) W)):=fun W=>by
  have q:=Y9 (w:=W) (f:=fr) (t:=tt) (p:=0) (n:=0) (A:=none) (m:=0) (c:=0) (cm:=cm) (pk:=jqn 32 0) L_cm rfl;rw [show evC fr tt cm (jqn 32 0) 0 0 none 0 0=E1 from by rw [hE1,hT0.out ()];rfl] at q;exact q
 have LB:=jn1 (f:=fr) (t:=tt) L_cm;clear c8 gr ko4 k64 x4 e4 e0 k6' k8' t8 x14 x1' lg8;replace hE1:=Hj (fun _:Unit=>hE1);rintro w5 ⟨k8,ko,k6,x5⟩;have nl1:sg≠l:=zt h.sq hL (by decide);have nl2:gs≠l:=by
  obtain ⟨L,q⟩:=hs.cb;exact zt q hL (by decide)
 have hlo:=hs.1;have sl:=h.sl;have gl:=hG.lt;have pl:=hP.lt;have hsl:=hs.lt;have x5s:=x5.size;have hL5:=hL.ext x5;have l8:=k8.lt;have P5:Hid (∀ u,Tq w5.heap.size sg gs w5 u->(u.cell? ⟨l,2,none⟩=some (.pointer (some ⟨sg,0,none⟩))/\u.cell? ⟨l,3,none⟩=some (.func (.func 68) #[] #[]))/\Cb u g8 89 E1/\Cb u ro 23 (cellsOf op)/\Cb u r 89 Z/\Two sg gs w u):=fun u x=>by
  have q:Cb u l 150 (lnC fr tt sg):=x.block hL5 hL5.lt nl1.symm nl2.symm;exact ⟨⟨q.cell rfl,q.cell rfl⟩,x.block k8 l8 (by omega) (by omega),x.block ko ko.lt (by omega) (by omega),x.block k6 k6.lt (by omega) (by omega),⟨x.1.trans x5.os,x.2.1.trans x5.tape,x.2.2.1.trans x5.output,jp0 x5s x.2.2.2.1,fun i hi h1 h2=>(x.2.2.2.2 i (by omega) h1 h2).trans (x5.block i hi)⟩⟩
 have S1:Hid (SS w5.drew sg kp mb gs t/\SrcSt w5.drew lo gs xs k):=⟨(h.ext x5).ext (jnQ _).drew,(hs.ext x5).ext (jnQ _).drew⟩;have PKC:Hid (∀ W,Bs W B text.length c text->Calls jpx 62 #[.agg (cellsOf op).toArray, .slice B text.length c] W (YA (op++text) W)):=fun W z=>jop lop z (by omega)
 have LP:(op++text).length=32+text.length:=by rw [jpG,lop]
 have SND:Hid (∀ (W:World) (A1:Option Addr) (n1 d1:Nat) (A2:Option Addr) (n2 d2:Nat),Own w5.heap.size W A1 n1 d1 (jn fr tt cm)->Own w5.heap.size W A2 n2 d2 (op++text)->SS W sg kp mb gs t->SrcSt W lo gs xs k->Tq w5.heap.size sg gs w5 W->Calls jpx 21 #[.pointer (some ⟨sg,0,none⟩), .slice A1 n1 d1, .slice A2 n2 d2] W fun e w'=>∃ A' n' c',e= .returned (.tuple #[.agg (yI t.s (j3 (jO xs k)) (op++text)).toArray, .slice A' n' c', .int .i64 (qW t.s (j3 (jO xs k)) (op++text))])/\Own W.heap.size w' A' n' c' (yH t.s (j3 (jO xs k)) (jn fr tt cm) (op++text))/\SS w' sg kp mb gs ⟨yj t.s (j3 (jO xs k)) (op++text),t.L,t.puts⟩/\SrcSt w' lo gs xs (yg t.s (op++text) k)/\Two sg gs W w'):=fun W A1 n1 d1 A2 n2 d2 z1 z2 z3 z4 z5=>by
  have y1:=z1.len;have y2:=z2.len;have tw:=(P5.out W z5).2.2.2.2;refine jdK z3 z4 hk hgs (by omega) (tw.block hG (by omega) (by omega)) (tw.block hP (by omega) (by omega)) hq (fun u x=> ?_);obtain ⟨b1,o1,rfl,g1⟩:=z1.at13 (by omega);obtain ⟨b2,o2,rfl,g2⟩:=z2.at13 (by omega);exact ⟨z1.bs.two13 x (by omega) (by omega),z2.bs.two13 x (by omega) (by omega)⟩
 have S_E1:E1.toArray.size=69:=by rw [jqu,L_E1]
 have halH:=Jp;have L_hz:(hdC (jqn 32 0) 0 0).length=34:=yz rfl _ _;obtain ⟨ZH,hZH⟩:∃ x,x=hdC (jqn 32 0) 0 0:=⟨_,rfl⟩;rw [<-hZH] at halH L_hz;replace hZH:=Hj (fun _:Unit=>hZH);have S_hz:ZH.toArray.size=34:=by rw [jqu,L_hz]
 have VH:Hid ((yI t.s (j3 (jO xs k)) (op++text)).length=34/\(yI t.s (j3 (jO xs k)) (op++text)).toArray.all (·.oneCell')=true):=by
  unfold yI
  split
  ·rename_i z
   exact ⟨yz (Rt.pub_len (jdP h.ok (yU _))) _ _,YZ⟩
  ·exact ⟨yz rfl _ _,YZ⟩
 generalize hvE:qW t.s (j3 (jO xs k)) (op++text)=vE at SND;generalize hvB:yH t.s (j3 (jO xs k)) (jn fr tt cm) (op++text)=vB at SND;generalize hvH:yI t.s (j3 (jO xs k)) (op++text)=vH at SND VH;generalize hvS:yj t.s (j3 (jO xs k)) (op++text)=vS at SND;generalize hvK:yg t.s (op++text) k=vK at SND;generalize jn fr tt cm=dl at DO SND LB;generalize op++text=pk at PKC SND LP;replace hvE:=Hj (fun _:Unit=>hvE);replace hvB:=Hj (fun _:Unit=>hvB);replace hvH:=Hj (fun _:Unit=>hvH);replace hvS:=Hj (fun _:Unit=>hvS);replace hvK:=Hj (fun _:Unit=>hvK);have BT5:Hid (∀ u,Tq w5.heap.size sg gs w5 u->Bs u B text.length c text):=fun u x=>hM0.out u (P5.out u x).2.2.2.2
 clear hL5 x5 k8 ko k6 hL h hs BT x01 hG hP;have S_vh:vH.toArray.size=34:=by rw [jqu,VH.out.1]
 have O_vh:=Hj VH.out.2;go_upto_region 5 with fail;go_cut [9,10,11] (fun s9 s10 s11 wx=>∃ (g9:Nat) (D:Option Addr) (m' c':Nat),s9= .pointer (some ⟨g9,0,none⟩)/\s10= .slice D m' c'/\s11= .int .i64 vE/\Tq w5.heap.size sg gs w5 wx/\Own w5.heap.size wx D m' c' vB/\SS wx sg kp mb gs ⟨vS,t.L,t.puts⟩/\SrcSt wx lo gs xs vK/\Cb wx g9 47 vH/\w5.heap.size<=g9)
 case rest=>
  obtain ⟨g9,D,m',c',rfl,rfl,rfl,X,O,S,K,kH,lg9⟩:=hcut;obtain ⟨_,k8,_,k6,tw⟩:=P5.out wc X;have zw:w5.heap.size<=wc.heap.size:=X.2.2.2.1;have lrl:=k6.lt;have nr1:sg≠r:=zt S.sq k6 (by decide);have nr2:kp≠r:=zt S.sk.cb k6 (by decide);have nr3:mb≠r:=fun z=>by
   obtain ⟨es,q1,q2⟩:=S.sk.mp.obj;have q3:=k6;unfold Cb at q3;rw [<-z,q2] at q3
   cases q3
  have n81:sg≠g8:=zt S.sq k8 (by decide);have n82:kp≠g8:=zt S.sk.cb k8 (by decide);have n83:mb≠g8:=fun z=>by
   obtain ⟨es,q1,q2⟩:=S.sk.mp.obj;have q3:=k8;unfold Cb at q3;rw [<-z,q2] at q3
   cases q3
  have FIN:Hid (∀ (W:World) (C:List Value),Cb W r 89 Z->SS W sg kp mb gs ⟨vS,t.L,t.puts⟩->SrcSt W lo gs xs vK->Own w5.heap.size W D m' c' vB->Two sg gs w W->SS (W.setRow r C.toArray) sg kp mb gs ⟨vS,t.L,t.puts⟩/\SrcSt (W.setRow r C.toArray) lo gs xs vK/\Own w.heap.size (W.setRow r C.toArray) D m' c' vB/\Two sg gs w (W.setRow r C.toArray)):=fun W C k S K O T=>by
   refine ⟨S.stay (jqy _ _ _ _ nr1) (jqy _ _ _ _ nr2) (jqy _ _ _ _ nr3),K.row (by omega),World.ownsRow.mono (Own.kept O (qG W r C.toArray) (.inr (Own.ne_of O k (by decide)))) (by omega),T.1,T.2.1,T.2.2.1,by simpa using T.2.2.2.1,fun i hi h1 h2=>(jqy _ _ _ _ (by omega)).trans (T.2.2.2.2 i hi h1 h2)⟩
  have hcm':=hcm;have hvE':=hvE;have hvB':=hvB;have hvH':=hvH;have hvS':=hvS;have hvK':=hvK;clear hcm hvE hvB hvH hvS hvK;by_cases hz:vE=0
  ·subst hz;obtain ⟨EV,hEV⟩:=ex_ ([jpA .i64 fr, .int .i64 tt]++(cellsOf cm++(vH++ [.slice D m' c'])));have E1s:E1=([jpA .i64 fr, .int .i64 tt]++cellsOf cm)++(hdC (jqn 32 0) 0 0++ [.slice none 0 0]):=by rw [hE1.out (),hT0.out ()];simp
   have lp1:([jpA .i64 fr, .int .i64 tt]++cellsOf cm).length=34:=by simp [ja,L_cm]
   have q1:=k8.put (z:=vH) E1s lp1 (by rw [VH.out.1];exact yz rfl _ _);have q2:=q1.setCell (o:=68) (v:= .slice D m' c');have e2:(([jpA .i64 fr, .int .i64 tt]++cellsOf cm)++(vH++ [Value.slice none 0 0])).set 68 (.slice D m' c')=EV:=by
    rw [hEV,List.set_append_right _ _ (by rw [lp1];omega),lp1,List.set_append_right _ _ (by rw [VH.out.1];omega),VH.out.1];simp
   rw [e2] at q2;have c68:=q1.cell (j:=68) (v:= .slice none 0 0) (by rw [jqr (by rw [lp1];omega),lp1,jqr (by rw [VH.out.1];omega),VH.out.1];rfl);have f68:=q1.frozen 68;have th:=k8.there (o:=34) (n:=34) (by rw [L_E1];omega);have gr:wc.grownBy ((wc.setCells g8 34 vH).setCell ⟨g8,68,none⟩ (.slice D m' c')) (some g8):=Qr ju _ _;have hb:∀ i,i < wc.heap.size->i≠g8->((wc.setCells g8 34 vH).setCell ⟨g8,68,none⟩ (.slice D m' c')).heap[i]? =wc.heap[i]? :=fun i hi hne=>gr.block i hi (fun z=>hne (jpD z))
   have W8:Hid (Cb ((wc.setCells g8 34 vH).setCell ⟨g8,68,none⟩ (.slice D m' c')) g8 89 EV/\Cb ((wc.setCells g8 34 vH).setCell ⟨g8,68,none⟩ (.slice D m' c')) r 89 Z/\SS ((wc.setCells g8 34 vH).setCell ⟨g8,68,none⟩ (.slice D m' c')) sg kp mb gs ⟨vS,t.L,t.puts⟩/\SrcSt ((wc.setCells g8 34 vH).setCell ⟨g8,68,none⟩ (.slice D m' c')) lo gs xs vK/\Own w5.heap.size ((wc.setCells g8 34 vH).setCell ⟨g8,68,none⟩ (.slice D m' c')) D m' c' vB/\Two sg gs w ((wc.setCells g8 34 vH).setCell ⟨g8,68,none⟩ (.slice D m' c'))):=
    ⟨q2,(hb _ k6.lt (by omega)).trans k6,S.stay (hb _ S.sl n81) (hb _ S.kl n82) (hb _ S.ml n83),K.other gr (.inr (by omega)),Own.kept O gr (.inr (Own.ne_of O k8 (by decide))),⟨gr.os.trans tw.1,gr.tape.trans tw.2.1,gr.output.trans tw.2.2.1,jp0 tw.2.2.2.1 gr.size,fun i hi h1 h2=>(hb i (jpq hi tw.2.2.2.1) (by omega)).trans (tw.2.2.2.2 i hi h1 h2)⟩⟩
   have L_EV:EV.length=69:=by rw [hEV];simp [ja,L_cm,VH.out.1]
   have S_EV:EV.toArray.size=69:=by rw [jqu,L_EV]
   have O_EV:EV.toArray.all (·.oneCell')=true:=qC fun v hv=>by
    rw [hEV] at hv;simp only [jpH,jpE,jqz,or_false] at hv;rcases hv with (rfl | rfl) | h | h | rfl
    ·rfl
    ·rfl
    ·exact JT _ v h
    ·have q:=VH.out.2;rw [List.all_toArray] at q;exact jp2.1 q v h
    ·rfl
   have hV:Hid (wrV t.s (j3 (jO xs k)) fr tt op text D m' c'=EV):=by
    unfold wrV;rw [hvE'.out (),if_pos rfl,<-hcm'.out (),hvH'.out (),hEV];exact Hj rfl
   replace hEV:=Hj (fun _:Unit=>hEV);replace kH:=kH;clear q1 q2 e2 lp1 E1s gr hb X O S K tw P5 DO PKC SND BT5 k8 hE1;go_upto_region 9 with (first
    | ((with_reducible refine js (o:=⟨some 60,_,_,_,_,_⟩) ?_ 47 _ rfl g9 ?_ 47 vH.toArray (0,0) _ ?_ jrm ?_ ?_ ?_);(·rfl);(·rfl);(·exact kH);(·rfl);(·rw [S_vh];rfl);go_frame)
    | ((with_reducible refine jrj (op:=⟨none, .store 47 (.tmp 62) (.tmp 60),_,_,_,_⟩) ?_ 47 _ _ rfl g8 34 vH.toArray ?_ ?_ ?_ ?_ ?_ ?_);(·rfl);(·rfl);(·rfl);(·rw [S_vh];exact th);(·rw [S_vh];rfl);(·exact O_vh.out);go_frame))
   refine jg (fun W=>Cb W g8 89 EV/\Cb W r 89 Z/\SS W sg kp mb gs ⟨vS,t.L,t.puts⟩/\SrcSt W lo gs xs vK/\Own w5.heap.size W D m' c' vB/\Two sg gs w W) W8.out ?_;clear W8 c68 f68 th kH;rintro w8 ⟨k8,k6,S,K,O,tw⟩;have FIN8:=Hj (FIN.out w8 EV k6 S K O tw);clear S K O tw FIN;go_wp2_with (first
    | ((with_reducible refine js (o:=⟨some 64,_,_,_,_,_⟩) ?_ 89 _ rfl g8 ?_ 89 EV.toArray (0,0) _ ?_ Tryz.underlying89 ?_ ?_ ?_);(·rfl);(·rfl);(·exact k8);(·rfl);(·rw [S_EV];rfl);go_frame)
    | (refine ws_ rfl 89 rfl r EV.toArray rfl rfl k6 (by rw [S_EV];rfl) (by rw [S_EV,S_z]) O_EV ?_;simp only [jpR]))
   (try simp only [jqV,Exit.then]);refine jqW (jn9 rfl _ _ r 89 EV.toArray (0,0) _ _ rfl rfl (jqc _ _ _ _ _ _ k6) rfl rfl (by rw [S_EV];rfl)) rfl ?_;refine ⟨D,m',c',?_,?_⟩
   ·rw [hV.out,hvE'.out ()];rfl
   ·rw [<-hcm'.out (),hvB'.out (),hvS'.out (),hvK'.out ()];exact ⟨FIN8.out.2.2.1,FIN8.out.1,FIN8.out.2.1,FIN8.out.2.2.2⟩
  ·have v0:(vE==0)=false:=beq_eq_false_iff_ne.2 hz;have hV:Hid (wrV t.s (j3 (jO xs k)) fr tt op text D m' c'=Z):=by
    unfold wrV;rw [hvE'.out (),if_neg hz,hZ.out ()];exact Hj rfl
   have FIN8:=Hj (FIN.out wc Z k6 S K O tw);clear S K O tw FIN P5 DO PKC SND BT5 k8 X kH hz;go_wp2_with (first
    | (refine jm rfl _ _ rfl Z.toArray (by simp only [jqE,jqF];exact BZ.out) ?_;go_frame)
    | (refine ws_ rfl 89 rfl r Z.toArray rfl rfl k6 (by rw [S_z];rfl) rfl O_z ?_;simp only [jpR]))
   (try simp only [jqV,Exit.then]);refine jqW (jn9 rfl _ _ r 89 Z.toArray (0,0) _ _ rfl rfl (jqc _ _ _ _ _ _ k6) rfl rfl (by rw [S_z];rfl)) rfl ?_;refine ⟨D,m',c',?_,?_⟩
   ·rw [hV.out,hvE'.out ()];rfl
   ·rw [<-hcm'.out (),hvB'.out (),hvS'.out (),hvK'.out ()];exact ⟨FIN8.out.2.2.1,FIN8.out.1,FIN8.out.2.1,FIN8.out.2.2.2⟩
 have T0:Hid (∀ u,Tq w5.heap.size sg gs w5.drew u->Tq w5.heap.size sg gs w5 u):=fun u x=>Tq.trans (Tq.of_ext (jnQ w5).drew (jpo _)) x
 refine qgT (R:=Tq w5.heap.size sg gs) (Tq.refl _ _ _) (fun _ _ _=>Tq.trans) (.rd 0 (.rd 1 (.rd 2 (.rd 3 (.rd 4 (.rd 5 (.rd 6 (.rd 7 (.rd 8 (.rd 10 (.rd 11 (.alt 9 (.alt 12 (.alt 13 (.rd 14 (.rd 15 (.rd 16 (.rd 17 (.alt 18 (.alt 19 (.rd 20 (.rd 21 .nil)) .stop) .stop))))) (.alt 18 (.alt 13 (.rd 14 (.rd 15 (.rd 16 (.rd 17 (.alt 19 (.rd 20 (.rd 21 .nil)) .stop))))) .stop) .stop)) (.alt 18 (.alt 12 (.alt 13 (.rd 14 (.rd 15 (.rd 16 (.rd 17 (.alt 19 (.rd 20 (.rd 21 .nil)) .stop))))) .stop) .stop) .stop)) (.alt 18 (.alt 9 (.alt 12 (.alt 13 (.rd 14 (.rd 15 (.rd 16 (.rd 17 (.alt 19 (.rd 20 (.rd 21 .nil)) .stop))))) .stop) .stop) .stop) .stop))))))))))))) 22 ?_;repeat ((first | refine qtR _ (fun w' e=>(P5.out w' (T0.out w' e)).1) ?_ | refine qtS ?_);go_frame)
 refine qtV rfl (fun w'=>w'.heap[g8]? =some (.cells E1.toArray 89 (0,0))) (fun w' e=>(P5.out w' (T0.out w' e)).2.1) (.agg E1.toArray) (fun w' hF=>jd rfl rfl hF rfl rfl (by rw [S_E1];rfl)) ?_;go_frame
 repeat ((first | refine vN ?_ | refine qtS ?_);go_frame)
 refine qtV rfl (fun w'=>w'.heap[ro]? =some (.cells (cellsOf op).toArray 23 (0,0))) (fun w' e=>(P5.out w' (T0.out w' e)).2.2.1) (.agg (cellsOf op).toArray) (fun w' hF=>jd rfl rfl hF rfl rfl (by rw [S_o];rfl)) ?_;go_frame
 repeat ((first | refine vN ?_ | refine qtS ?_);go_frame)
 have X:Hid (Tq w5.heap.size sg gs w5 w5.drew):=Tq.of_ext (jnQ w5).drew (jpo _);have z0:w5.heap.size<=w5.drew.heap.size:=jpo _;generalize w5.drew=WC at *;repeat' (first
  | exact yD
  | (refine qc (i:=9) _ rfl ?_ ?_ (fun K1 hK1=> ?_)
     (·rfl)
     rotate_left;go_simp;refine (DO.out _).mono ?_;rintro e0 WD ⟨D1,m1,f1,rfl,o1,y⟩;refine hK1.out _ _ (Tq.of_ext y z0) ?_;clear hK1 K1;(try replace hA:=Hj (Cb.ext hA.out y));replace X:=Hj (X.out.trans (Tq.of_ext y z0));replace S1:=Hj (jqS (S1.out.1.ext y) (S1.out.2.ext y));have O1:=Hj (World.ownsRow.mono o1 z0);have z1:=jp0 z0 y.size;clear z0 y o1;have z0:=z1;clear z1;generalize WD=WC at *;(try go_frame);repeat ((first | refine vN ?_ | refine qtS ?_);go_frame)
     skip)
  | (refine qc (i:=12) _ rfl ?_ ?_ (fun K1 hK1=> ?_)
     (·rfl)
     rotate_left;go_simp;refine (PKC.out _ (BT5.out _ X.out)).mono ?_;rintro e0 WD ⟨D2,m2,f2,rfl,o2,y⟩;refine hK1.out _ _ (Tq.of_ext y z0) ?_;clear hK1 K1;(try replace hA:=Hj (Cb.ext hA.out y));replace X:=Hj (X.out.trans (Tq.of_ext y z0));replace S1:=Hj (jqS (S1.out.1.ext y) (S1.out.2.ext y));(try replace O1:=Hj (Own.ext O1.out y));have O2:=Hj (World.ownsRow.mono o2 z0);have z1:=jp0 z0 y.size;clear z0 y o2;have z0:=z1;clear z1;generalize WD=WC at *;(try go_frame);repeat ((first | refine vN ?_ | refine qtS ?_);go_frame)
     skip)
  | (refine qc (i:=13) _ rfl ?_ ?_ (fun K1 hK1=> ?_)
     (·rfl)
     rotate_left;go_simp;refine (SND.out _ _ _ _ _ _ _ O1.out O2.out S1.out.1 S1.out.2 X.out).mono ?_;rintro e0 WD ⟨D3,m3,f3,rfl,o3,s3,k3,t3⟩;refine hK1.out _ _ (Tq.of_two t3 z0) ?_;clear hK1 K1;(try replace hA:Hid (Cb WD g9 47 ZH):=t3.block hA.out (by omega) (by omega));replace X:=Hj (X.out.trans (Tq.of_two t3 z0));have O3:=Hj (World.ownsRow.mono o3 z0);have S3:=Hj (jqS s3 k3);have z1:=jp0 z0 t3.2.2.2.1;clear z0 t3 o3 s3 k3 S1 O1 O2;have z0:=z1;clear z1;generalize WD=WC at *;(try go_frame);repeat ((first | refine vN ?_ | refine qtS ?_);go_frame)
     skip)
  | (refine qc (i:=18) _ rfl ?_ ?_ (fun K1 hK1=> ?_)
     (·rfl)
     rotate_left;go_simp;have y:Ext WC (WC.alloc (jqY ZH.toArray 47)):=(jnQ WC).alloc _;obtain ⟨g9,hg9⟩:∃ g,g=WC.heap.size:=⟨_,rfl⟩;have hA:Hid (Cb (WC.alloc (jqY ZH.toArray 47)) g9 47 ZH):=by rw [hg9];exact Cb.new _ _ _
     have lg9:w5.heap.size<=g9:=by rw [hg9];exact z0
     rw [<-hg9];refine hK1.out _ (WC.alloc (jqY ZH.toArray 47)) (Tq.of_ext y z0) ?_;clear hK1 K1;replace X:=Hj (X.out.trans (Tq.of_ext y z0));(try replace S1:=Hj (jqS (S1.out.1.ext y) (S1.out.2.ext y)));(try replace S3:=Hj (jqS (S3.out.1.ext y) (S3.out.2.ext y)));(try replace O1:=Hj (Own.ext O1.out y));(try replace O2:=Hj (Own.ext O2.out y));(try replace O3:=Hj (Own.ext O3.out y));have z1:=jp0 z0 y.size;clear z0 y;have z0:=z1;clear z1;replace hg9:=Hj hg9;generalize WC.alloc (jqY ZH.toArray 47)=WC at *;(try go_frame);repeat ((first | refine vN ?_ | refine qtS ?_);go_frame)
     skip)
  | (refine qc (i:=19) _ rfl ?_ ?_ (fun K1 hK1=> ?_)
     (·rfl)
     rotate_left;refine jrf _ _ _ rfl g9 vH.toArray rfl rfl 47 ZH.toArray hA.out (by rw [S_vh];rfl) (by rw [S_vh];exact S_hz) O_vh.out ?_;refine hK1.out _ _ (Tq.row _ _ lg9) ?_;clear hK1 K1;replace X:=Hj (X.out.trans (Tq.row WC vH.toArray lg9));replace O3:=Hj (Own.kept O3.out (qG WC g9 vH.toArray) (.inr (Own.ne_of O3.out hA.out (by decide))));replace S3:Hid (SS (WC.setRow g9 vH.toArray) sg kp mb gs ⟨vS,t.L,t.puts⟩/\SrcSt (WC.setRow g9 vH.toArray) lo gs xs vK):=⟨S3.out.1.stay (jqy _ _ _ _ (zt S3.out.1.sq hA.out (by decide))) (jqy _ _ _ _ (zt S3.out.1.sk.cb hA.out (by decide))) (jqy _ _ _ _ (fun z=>by
      obtain ⟨es,q1,q2⟩:=S3.out.1.sk.mp.obj;have q3:=hA.out;unfold Cb at q3;rw [<-z,q2] at q3
      cases q3)),S3.out.2.row (by omega)⟩
     replace hA:Hid (Cb (WC.setRow g9 vH.toArray) g9 47 vH):=Cb.set hA.out;generalize WC.setRow g9 vH.toArray=WC at *;(try simp only [jpR]);repeat ((first | refine vN ?_ | refine qtS ?_);go_frame)
     skip)
  | (refine yC ?_
     go_wp2_with fail;go_meet
     exact ⟨g9,D3,m3,f3,rfl,rfl,rfl,X.out,O3.out,S3.out.1,S3.out.2,hA.out,lg9⟩))
end
section
open Go.ChangeShapes Go.WideShapes Go.ChangeAt Go.RowKit Go.Deep
def unK (bs:List UInt8):List UInt8:=if bs.length < 32 then jqn 32 0 else bs.take 32
def unT (bs:List UInt8):List UInt8:=if bs.length < 32 then [] else bs.drop 32
def unE (bs:List UInt8):Int:=if bs.length < 32 then 3 else 0
theorem joX (bs:List UInt8):(unK bs).length=32:=by
 unfold unK
 split
 ·simp
 ·rw [jps];omega
theorem joY (bs:List UInt8):(unT bs).length<=bs.length:=by
 unfold unT
 split
 ·simp
 ·rw [List.length_drop];omega
def jog (ks bs:List UInt8) (er:Int) (w:World) (e:Ending) (w':World):Prop:=∃ A n c,e= .returned (.tuple #[.agg (cellsOf ks).toArray, .slice A n c, .int .i64 er])/\Own w.heap.size w' A n c bs/\Ext w w'
set_option maxRecDepth 100000 in
theorem joG {A:Option Addr}{n c:Nat}{bs:List UInt8}{w:World}(h:Bs w A n c bs) (hn:32<=n) (hm:n<=100000000):
 Calls jpx 65 #[.slice A n c] w (jog (bs.take 32) (bs.drop 32) 0 w):=by
 have q1':decide ((n:Int) < 32)=false:=decide_eq_false (by omega);have c1:=h.le;have c2:=h.cap;have hl:=h.len;have hal:=j2;have hz0:=j7;generalize jr=Z at *;have B0:Hid (((w.alloc (jqY Z 23)).alloc (jqY Z 23)).heap[w.heap.size]? =some (.cells Z 23 (0,0))/\((w.alloc (jqY Z 23)).alloc (jqY Z 23)).heap[w.heap.size+1]? =some (.cells Z 23 (0,0))/\Ext w ((w.alloc (jqY Z 23)).alloc (jqY Z 23))):=⟨jQ _ _ _,jK _ _ _,((jnQ w).alloc _).alloc _⟩;replace h:=Hj h;go_enter Tryz.func65,Tryz.ntmps65
 go_upto_region 4 with fail;refine jg (fun W=>W.heap[w.heap.size]? =some (.cells Z 23 (0,0))/\W.heap[w.heap.size+1]? =some (.cells Z 23 (0,0))/\Ext w W) B0.out ?_;clear B0;rintro w0 ⟨b0,b1,e0⟩;have h0:=Hj (h.out.ext e0);replace b0:=Hj b0;replace b1:=Hj b1;replace e0:=Hj e0;go_wp2_with fail;refine jbn (xs:=bs) rfl b1.out h0.out hn hz0 ?_;have LT:(bs.take 32).length=32:=by rw [jps];omega
 have R1:Hid ((w0.setRow (w.heap.size+1) (cellsOf (bs.take 32)).toArray).heap[w.heap.size+1]? =some (.cells (cellsOf (bs.take 32)).toArray 23 (0,0))):=jqc _ _ _ _ _ _ b1.out;have R0:Hid ((w0.setRow (w.heap.size+1) (cellsOf (bs.take 32)).toArray).heap[w.heap.size]? =some (.cells Z 23 (0,0))):=(jqy _ _ _ _ (by omega)).trans b0.out;have E1:Hid (Ext w (w0.setRow (w.heap.size+1) (cellsOf (bs.take 32)).toArray)):=jqb e0.out (Nat.le_succ _) _;have H1:Hid (Bs (w0.setRow (w.heap.size+1) (cellsOf (bs.take 32)).toArray) A n c bs):=h.out.ext E1.out;go_upto_region 5 with fail;refine jg (fun W=>W.heap[w.heap.size]? =some (.cells Z 23 (0,0))/\W.heap[w.heap.size+1]? =some (.cells (cellsOf (bs.take 32)).toArray 23 (0,0))/\Bs W A n c bs/\Ext w W) ⟨R0.out,R1.out,H1.out,E1.out⟩ ?_;clear R0 R1 E1 H1 b0 b1 e0 h0 h;rintro w1 ⟨r0,r1,h1,e1⟩;have z1:=jh r1;have CUT:=Hj (h1.cut (k:=32) hn);replace r0:=Hj r0;replace r1:=Hj r1;replace e1:=Hj e1;clear h1;have KS:(cellsOf (bs.take 32)).toArray.size=32:=by simp [ja,hl];omega
 have K1:=ji (bs.take 32);have R1:Hid (∀ w',w1.grownBy w' (some w.heap.size)->w'.heap[w.heap.size+1]? =some (.cells (cellsOf (bs.take 32)).toArray 23 (0,0))):=fun w' e=>(e.block _ z1 (fun q=>by injection q with q;omega)).trans r1.out
 generalize bs.take 32=hd at *;generalize bs.drop 32=tl at *;refine qgW (w.heap.size) [0,1,2,3,4,5,6] [3,4] ?_;refine qV rfl (fun w'=>w'.heap[(w.heap.size+1)]? =some (.cells (cellsOf hd).toArray 23 (0,0))) (fun w' e=>R1.out w' (jj (jV (jnQ _).drew _) e)) (.agg (cellsOf hd).toArray) (fun w' hF=>jd rfl rfl hF rfl rfl (by rw [KS];rfl)) ?_;go_frame
 iterate 1 ((first | refine qR0 ?_ | refine qS ?_);go_frame)
 refine qV rfl (fun _=>True) (fun _ _=>trivial) (.slice (if c=32 then A else A.map (·.add 32)) (n - 32) (c - 32)) (fun w' _=>jgc rfl rfl rfl hn c1) ?_;go_frame
 have CUT':=Hj (CUT.out.ext (jnQ w1).drew);have r0':Hid (w1.drew.heap[w.heap.size]? =some (.cells Z 23 (0,0))):=r0.out;have e1':Hid (Ext w w1.drew):=e1.out.drew;have o0:=Hj (Own.nil w1.drew.heap.size w1.drew);have zz:w.heap.size < w1.drew.heap.size:=jh r0'.out;clear CUT r0 e1 R1 r1;generalize w1.drew=W at *;refine qD fun K hK=> ?_
 refine jcO (B:=W.heap.size) rfl rfl rfl o0.out CUT'.out (by omega) (jpo _) ?_;intro A3 c3 w3 o3 g3 b3;have x3:Ext W w3:=b3;refine hK.out _ _ (jV x3 _) ?_;clear hK K;try go_frame
 have r3:=Hj ((x3.block _ zz).trans r0'.out);have E3:Hid (Ext w w3):=e1'.out.trans x3;replace o3:=Hj o3;clear g3 b3 x3 CUT' o0;refine qD fun K hK=> ?_
 refine jrf _ _ _ rfl w.heap.size (cellsOf hd).toArray rfl rfl 23 Z r3.out (by rw [KS];rfl) (by rw [KS];exact hz0) K1 ?_;refine hK.out _ _ (jet _ _ _) ?_;clear hK K;try go_frame
 repeat ((first | refine qR0 ?_ | refine qS ?_);go_frame)
 refine jp ?_;go_wp2_with fail;all_goals
  (try simp only [jqV,Exit.then]);refine jqW (v:= .tuple #[.agg (cellsOf hd).toArray, .slice A3 (n - 32) c3, .int .i64 0]) ?_ rfl ?_
  ·exact qL rfl _ _ w.heap.size 23 (cellsOf hd).toArray (0,0) _ _ _ rfl rfl rfl (jqc _ _ _ _ _ _ r3.out) rfl rfl (by rw [KS];rfl)
  ·have hb:=(o3.out.kept (jet w3 w.heap.size (cellsOf hd).toArray) (.inr (fun q=>by have:=o3.out.ge _ q;omega)));rw [jpz] at hb;exact ⟨A3,n - 32,c3,rfl,World.ownsRow.mono hb e1'.out.size,jqb E3.out (jpo _) _⟩
theorem jos {A:Option Addr}{n c:Nat}{bs:List UInt8}{w:World}(h:Bs w A n c bs) (hn:n < 32):
 Calls jpx 65 #[.slice A n c] w (jog (jqn 32 0) [] 3 w):=by
 have c1:=h.le;have c2:=h.cap;have hal:=j2;have hb:=zJ;have hs:=j7;have ho:=JI;have hc:=Hj jU;have hz:Hid ((w.alloc (jqY jr 23)).heap[w.heap.size]? =some (jqY jr 23)):=jqq _ _;have he:Hid (∀ C,Ext w ((w.alloc (jqY jr 23)).setRow w.heap.size C)):=fun C=>jqb ((jnQ w).alloc _) (jpo _) _
 unfold jog;rw [hc.out];clear hc;generalize jr=Z at *;have q1':decide ((n:Int) < 32)=true:=decide_eq_true (by omega);clear h;go_enter Tryz.func65,Tryz.ntmps65
 go_wp2_with (first
  | refine jm rfl _ _ rfl Z hb ?_
  | refine ws_ rfl 23 rfl w.heap.size Z rfl rfl (by with_reducible exact hz.out) (by rw [hs];rfl) rfl ho ?_)
 (try simp only [jqV,Exit.then]);refine jqW (v:= .tuple #[.agg Z, .slice none 0 0, .int .i64 3]) ?_ rfl ?_
 ·exact qL rfl _ _ w.heap.size 23 Z (0,0) _ _ _ rfl rfl rfl (jqc _ _ _ _ _ _ hz.out) rfl rfl (by rw [hs];rfl)
 ·exact ⟨none,0,0,rfl,Own.nil _ _,he.out _⟩
theorem jof {A:Option Addr}{n c:Nat}{bs:List UInt8}{w:World}(h:Bs w A n c bs) (hm:n<=100000000):
 Calls jpx 65 #[.slice A n c] w (jog (unK bs) (unT bs) (unE bs) w):=by
 have hl:=h.len;unfold unK unT unE;by_cases q:n < 32
 ·rw [if_pos (by omega),if_pos (by omega),if_pos (by omega)];exact jos h q
 ·rw [if_neg (by omega),if_neg (by omega),if_neg (by omega)];exact joG h (by omega) hm
theorem jor {w:World}{K:Array Value}(hK:K.size=32):(part 23 K 0).run jpx w= .ok (.agg K) w:=by
 obtain ⟨i,hi,hz0,hz1,hz2⟩:=info_parts jfG;have he:K.extract 0 32=K:=by rw [<-hK];exact Array.extract_size
 simp [part,isAgg,jql jqD,sizeOf,typeInfo,hi,hz1,he]
theorem jon:∃ f:Field,(Tryz.prog.fieldsOf 160).toList= [f]∧f.type=23∧f.offset=0∧f.name≠ "_" :=by
 have h:((Tryz.prog.fieldsOf 160).toList.map fun f=>(f.name,f.type,f.offset))= [("key",23,0)]:=by kernel_rfl
 match hl:(Tryz.prog.fieldsOf 160).toList with
 | []=>rw [hl] at h;simp at h
 | [f]=>
   rw [hl] at h;simp only [jqA,jqF,List.cons.injEq,and_true,Prod.mk.injEq] at h;exact ⟨f,rfl,h.2.1,h.2.2,by rw [h.1];decide⟩
 | f::g::r=>rw [hl] at h;simp at h
theorem joB {xs ys:List UInt8}(hx:xs.length=32) (hy:ys.length=32) (w:World):
 (Op.equalIn 10000 160 (.agg (cellsOf xs).toArray) (.agg (cellsOf ys).toArray)).run jpx w= .ok (decide (xs=ys)) w:=by
 have hX:(cellsOf xs).toArray.size=32:=by simp [ja,hx]
 have hY:(cellsOf ys).toArray.size=32:=by simp [ja,hy]
 have hk:(Op.equalIn 9999 23 (.agg (cellsOf xs).toArray) (.agg (cellsOf ys).toArray)).run jpx w= .ok (decide (xs=ys)) w:=by
  rw [zS,zS,run_equalIn_bytes w 9997 23 5 32 rfl rfl (fun _=>rfl) xs ys hx hy]
  congr 1
  rw [Bool.eq_iff_iff];simp
 obtain ⟨f,hf,ht,ho,hn⟩:=jon;rw [run_equalIn_struct w 9999 160 _ _ (by kernel_rfl) (by kernel_rfl),hf];simp only [Op.eqFields,ht,ho,if_pos hn,jqi,jor hX,jor hY,jqk,hk]
 cases decide (xs=ys) <;> rfl
theorem joC:Tryz.prog.eqGuardType Tryz.prog.depth 160=false:=by kernel_rfl
theorem jod {o:Oper}{a:Act}{w:World}{x y:Operand}{t':jpC}{xs ys:List UInt8}{b:Bool}(hb:(!decide (xs=ys))=b) (lx:xs.length=32) (ly:ys.length=32) (ho:o.op= .binOp .neq 160 x y t') (hx:a.eval x= .agg (cellsOf xs).toArray) (hy:a.eval y= .agg (cellsOf ys).toArray):
 (jpY a.eval o).run jpx w= .ok (.value (.bool b)) w:=by
 unfold jpY;simp only [ho,hx,hy,jqi,run_eqGuard_agg _ _ _ _ _ _ _ joC,jqk,run_neq_struct,joB lx ly,jqj,hb]
set_option maxRecDepth 100000 in
theorem joc {A:Option Addr}{n c:Nat}{l:List (List UInt8)}{ks xs:List UInt8}{b:Bool}{w:World}(hk:ks.length=32) (hx:xs.length=32) (hb:(!decide (jC ks (qz l)=xs))=b) (h:Rw w A n c l) (hm:(qz l).length<=100000000){tg:jpC×Nat×Nat}(hG:Gl w tg):
 Calls jpx 38 #[.agg (cellsOf xs).toArray, .agg (cellsOf ks).toArray, .slice A n c] w fun e w'=>e= .returned (.int .i64 (if b then 4 else 0))/\Ext w w':=by
 have MADE:Hid (∀ (W:World),Ext w W->Calls jpx 69 #[.agg (cellsOf ks).toArray, .slice A n c] W fun e w'=>e= .returned (.agg (cellsOf (jC ks (qz l))).toArray)/\Ext W w'):=fun W e=>jn8 hk (h.ext e) hm (hG.kept e hG.lt)
 clear hG h;have ML:=qr ks (qz l);generalize jC ks (qz l)=D at *;replace hb:=Hj hb;have KS:(cellsOf ks).toArray.size=32:=by simp [ja,hk]
 have XS:(cellsOf xs).toArray.size=32:=by simp [ja,hx]
 have hbd:Hid (Tryz.prog.built 160 [(0, .agg (cellsOf xs).toArray)]=some (cellsOf xs).toArray):=jn7 XS;have B0:Hid (∀ w',Ext ((w.alloc (jqY (cellsOf xs).toArray 23)).alloc (jqY (cellsOf ks).toArray 23)) w'->Ky w' w.heap.size xs/\Ky w' (w.heap.size+1) ks/\Ext w w'):=fun w' e=>⟨⟨(e.block _ (by rw [je,je];omega)).trans (jQ _ _ _),hx⟩,⟨(e.block _ (by rw [je,je];omega)).trans (jK _ _ _),hk⟩,(((jnQ w).alloc _).alloc _).trans e⟩
 go_enter Tryz.func38,Tryz.ntmps38
 go_upto_region 1 with fail;refine jg (fun W=>∀ w',Ext W w'->Ky w' w.heap.size xs/\Ky w' (w.heap.size+1) ks/\Ext w w') B0.out ?_;clear B0;rintro w0 b0;have B0:=Hj b0;clear b0;go_wp2_with fail;refine qgE [0,1,3,4,2,5] [2] ?_;refine qV rfl (fun w'=>w'.heap[(w.heap.size+1)]? =some (.cells (cellsOf ks).toArray 23 (0,0))) (fun w' e=>(B0.out w' ((jnQ _).drew.trans e)).2.1.1) (.agg (cellsOf ks).toArray) (fun w' hF=>jd rfl rfl hF rfl rfl (by rw [KS];rfl)) ?_;go_frame
 repeat ((first | refine qR0 ?_ | refine qS ?_);go_frame)
 refine qV rfl (fun w'=>w'.heap[w.heap.size]? =some (.cells (cellsOf xs).toArray 23 (0,0))) (fun w' e=>(B0.out w' ((jnQ _).drew.trans e)).1.1) (.agg (cellsOf xs).toArray) (fun w' hF=>jd rfl rfl hF rfl rfl (by rw [XS];rfl)) ?_;go_frame
 refine qV rfl (fun _=>True) (fun _ _=>trivial) (.agg (cellsOf xs).toArray) (fun w' _=>qe rfl (by simp only [jqE,jqA,jqF];exact hbd.out)) ?_;go_frame
 refine qD fun K hK=> ?_
 go_simp;refine (MADE.out _ (B0.out _ (jnQ _).drew).2.2).mono ?_;rintro e w1 ⟨rfl,e1⟩;refine hK.out _ _ e1 ?_;clear hK K;try go_frame
 refine qV rfl (fun _=>True) (fun _ _=>trivial) (.bool b) (fun w' _=>jod hb.out ML hx rfl rfl rfl) ?_;go_frame
 refine jp ?_;have E1:Hid (Ext w w1):=(B0.out _ ((jnQ _).drew.trans e1)).2.2;clear MADE B0 hbd e1 hb
 cases b
 ·go_wp2_with fail;go_ret;exact ⟨rfl,E1.out⟩
 ·go_wp2_with fail;go_ret;exact ⟨rfl,E1.out⟩
end
section
open Go.ChangeShapes Go.WideShapes Go.ChangeAt Go.RowKit Go.Deep Go.Maps
theorem Y5 {P:jpB}{fn:Func}{u p v:Tmp}{ty:jpC}(h:fn.results= #[.tmp u, .cell p ty, .tmp v]) (tmps:Array Value) (w:World) (g:Nat) (t:jpC) (cs:Array Value) (fr:Nat×Nat) (d:TypeDesc) (x y:Value)
 (hx:tmps.getD u undef=x) (hp:tmps.getD p undef= .pointer (some ⟨g,0,none⟩)) (hy:tmps.getD v undef=y) (hg:w.heap[g]? =some (.cells cs t fr))
 (hu:P.underlying ty=some d) (hd:(match d with | .struct _ | .array _ _=>true | _=>false)=true) (hi:(P.info? ty).map (·.size)=some cs.size):
 (results fn tmps).run P w= .ok (.tuple #[x, .agg cs,y]) w:=by
 have hp':tmps[p]?.getD undef= .pointer (some ⟨g,0,none⟩):=by simpa using hp
 have hx':tmps[u]?.getD undef=x:=by simpa using hx
 have hy':tmps[v]?.getD undef=y:=by simpa using hy
 simp [results,h,hp',hx',hy',asAddr,run_loadVar_row w g t ty cs fr d hg hu hd hi,jqi,Result.andThen]
def uwE (t:Rz) (f t':Int) (cm pk:List UInt8) (p n:Int) (body:List UInt8):Int:=
 if yt t (jn f t' cm) pk p n body=0 then
  (if unE (Ym t (jn f t' cm) pk p n body)=0 then (if wrC f t' (unK (Ym t (jn f t' cm) pk p n body)) (unT (Ym t (jn f t' cm) pk p n body))=cm then 0 else 4) else unE (Ym t (jn f t' cm) pk p n body))
 else yt t (jn f t' cm) pk p n body
def uwT (t:Rz) (f t':Int) (cm pk:List UInt8) (p n:Int) (body:List UInt8):List UInt8:=if uwE t f t' cm pk p n body=0 then unT (Ym t (jn f t' cm) pk p n body) else []
def uwK (t:Rz) (f t':Int) (cm pk:List UInt8) (p n:Int) (body:List UInt8):List UInt8:=if uwE t f t' cm pk p n body=0 then unK (Ym t (jn f t' cm) pk p n body) else jqn 32 0
theorem joI (k data body:List UInt8):(J5 k data body).length<=body.length:=by
 unfold J5
 split
 ·simp
 ·split
  ·rw [JW,jps];omega
  ·simp
theorem joQ (t:Rz) (pk:List UInt8) (prev n:Int) (data body:List UInt8):(vZ t pk prev n data body).2.1.length<=body.length:=by
 unfold vZ;dsimp only
 split
 ·exact joI _ _ _
 ·split
  ·simp
  ·split
   ·simp
   ·exact joI _ _ _
theorem joR (t:Rz) (bs pk:List UInt8) (prev n:Int) (body:List UInt8):(Ym t bs pk prev n body).length<=body.length:=by
 unfold Ym
 split
 ·exact joQ _ _ _ _ _ _
 ·simp
theorem jou {w:World}{i j:Nat}{t t':jpC}{C D:Array Value}(h:w.heap[i]? =some (jqY C t (0,0))) (k:w.heap[j]? =some (jqY D t' (0,0))) (ht:t≠t'):i≠j:=by
 rintro rfl;rw [h] at k
 injection k with k
 injection k with _ k
 exact ht k
section
variable {w:World}{l sg kp mb gs:Nat}{t:Rz}{fr tt:Int}{f' t' p n:Int}{cm pk body:List UInt8}{A:Option Addr}{m c:Nat}
theorem jpg (hL:Cb w l 150 (lnC fr tt sg)) (lc:cm.length=32) (lp:pk.length=32) (hbad:f'≠tt\/t'≠fr):
 Calls jpx 34 #[.pointer (some ⟨l,0,none⟩), .agg (evC f' t' cm pk p n A m c).toArray] w fun e w'=>e= .returned (.tuple #[.slice none 0 0, .agg (cellsOf (jqn 32 0)).toArray, .int .i64 1])/\Ext w w':=by
 have hal:=j2;have hzb:=zJ;have hzc:=jU;have S_Z:=j7;have O_Z:=JI;rw [hzc];clear hzc;generalize jr=Z at *;replace hzb:=Hj hzb;have L_E:=Z2 lc lp f' t' p n A m c;obtain ⟨e0,e1,qq⟩:=joN lc lp f' t' p n A m c;clear qq;generalize evC f' t' cm pk p n A m c=E at *;have S_E:E.toArray.size=69:=by rw [jqu,L_E]
 obtain ⟨r,hr⟩:=ex_ w.heap.size;have B0:Hid (Cb ((w.alloc (.cells E.toArray 89)).alloc (.cells Z 23)) r 89 E/\((w.alloc (.cells E.toArray 89)).alloc (.cells Z 23)).heap[r+1]? =some (.cells Z 23 (0,0))/\Ext w ((w.alloc (.cells E.toArray 89)).alloc (.cells Z 23))):=by rw [hr];exact ⟨jQ _ _ _,jK _ _ _,((jnQ w).alloc _).alloc _⟩
 go_enter Tryz.func34,Tryz.ntmps34
 go_upto_region 1 with fail;refine jg (fun W=>Cb W r 89 E/\W.heap[r+1]? =some (.cells Z 23 (0,0))/\Ext w W) B0.out ?_;rw [<-hr];have wr:w.heap.size<=r+1:=by omega
 clear B0;replace hr:=Hj hr;rintro w0 ⟨k3,k5,x0⟩;have FE:Hid (∀ s,Ext w0 s->s.cell? ⟨r,0,none⟩=some (.int .i64 f')/\s.cell? ⟨r,1,none⟩=some (.int .i64 t')/\s.cell? ⟨l,0,none⟩=some (.int .i64 fr)/\s.cell? ⟨l,1,none⟩=some (.int .i64 tt)):=fun s e=>by
  have q:=(hL.ext x0).ext e;exact ⟨(k3.ext e).cell e0,(k3.ext e).cell e1,q.cell rfl,q.cell rfl⟩
 have FIN:Hid (Ext w (w0.drew.setRow (r+1) Z)):=jqb x0.drew wr _;have k5':w0.drew.heap[r+1]? =some (.cells Z 23 (0,0)):=k5;have q0:Hid (Ext w0 w0.drew):=(jnQ w0).drew;have FR:Hid (∀ s,Ext w0.drew s->s.cell? ⟨r,0,none⟩=some (.int .i64 f')/\s.cell? ⟨r,1,none⟩=some (.int .i64 t')/\s.cell? ⟨l,0,none⟩=some (.int .i64 fr)/\s.cell? ⟨l,1,none⟩=some (.int .i64 tt)):=fun s e=>FE.out s (q0.out.trans e)
 clear FE q0 k3 k5 x0 hL e0 e1;by_cases h1:f'=tt
 ·have h2:t'≠fr:=hbad.resolve_left (fun q=>q h1);have v1:(t'==fr)=false:=beq_eq_false_iff_ne.2 h2;have v2:(t' !=fr)=true:=by unfold bne;rw [v1];rfl
  subst h1;clear hbad h2;refine qgE [0,1,2,3,4,5,6,7,8,9,10,11,12,13,14,15,16,17] [] ?_;generalize w0.drew=V at *;repeat ((first | refine qR _ (fun w' e=>FR.out w' e) ?_ | refine qS ?_);go_frame)
  refine jp ?_;clear FR;go_wp2_with (first
   | (refine jm rfl _ _ rfl Z (by simp only [jqE,jqF];exact hzb.out) ?_;go_frame)
   | (refine ws_ rfl 23 rfl (r+1) Z rfl rfl k5' (by rw [S_Z];rfl) rfl O_Z ?_;simp only [jpR]))
  (try simp only [jqV,Exit.then]);refine jqW (Y5 rfl _ _ (r+1) 23 Z (0,0) _ _ _ rfl rfl rfl (jqc _ _ _ _ _ _ k5') rfl rfl (by rw [S_Z];rfl)) rfl ?_;exact ⟨rfl,FIN.out⟩
 ·have v1:(f'==tt)=false:=beq_eq_false_iff_ne.2 h1;have v2:(f' !=tt)=true:=by unfold bne;rw [v1];rfl
  clear hbad h1;refine qgE [0,1,2,3,4,5,6,7,8,9,10,11,12,13,14,15,16,17] [] ?_;generalize w0.drew=V at *;repeat ((first | refine qR _ (fun w' e=>FR.out w' e) ?_ | refine qS ?_);go_frame)
  refine jp ?_;clear FR;go_wp2_with (first
   | (refine jm rfl _ _ rfl Z (by simp only [jqE,jqF];exact hzb.out) ?_;go_frame)
   | (refine ws_ rfl 23 rfl (r+1) Z rfl rfl k5' (by rw [S_Z];rfl) rfl O_Z ?_;simp only [jpR]))
  (try simp only [jqV,Exit.then]);refine jqW (Y5 rfl _ _ (r+1) 23 Z (0,0) _ _ _ rfl rfl rfl (jqc _ _ _ _ _ _ k5') rfl rfl (by rw [S_Z];rfl)) rfl ?_;exact ⟨rfl,FIN.out⟩
theorem jox (hL:Cb w l 150 (lnC t' f' sg)) (h:SS w sg kp mb gs t) (hp:t.puts<=1000000000) (lc:cm.length=32) (lp:pk.length=32) (hb:Bs w A m c body) (hm:m<=1000000){tg tp:jpC×Nat×Nat}(hG:Gl w tg) (hP:Gp w tp) (hs1:0≠sg) (hs2:1≠sg):
 Calls jpx 34 #[.pointer (some ⟨l,0,none⟩), .agg (evC f' t' cm pk p n A m c).toArray] w fun e w'=>∃ A' n' c' kp' mb',e= .returned (.tuple #[.slice A' n' c', .agg (cellsOf (uwK t f' t' cm pk p n body)).toArray, .int .i64 (uwE t f' t' cm pk p n body)])/\Own w.heap.size w' A' n' c' (uwT t f' t' cm pk p n body)/\SS w' sg kp' mb' gs (zf t (jn f' t' cm) pk p n body)/\w.grownBy w' (some sg)/\((kp'=kp/\mb'=mb)\/(w.heap.size<=kp'/\w.heap.size<=mb')):=by
 have hal:=j2;have hzb:=zJ;have hzc:=jU;have S_Z:=j7;have O_Z:=JI;generalize jr=Z at *;replace hzb:=Hj hzb;replace hzc:=Hj (fun _:Unit=>hzc);have L_E:=Z2 lc lp f' t' p n A m c;have L_hd:=yz lp p n;have L_cm:(cellsOf cm).length=32:=by rw [ja,lc]
 obtain ⟨e0,e1,e68,es1,es2⟩:=joN lc lp f' t' p n A m c;have DO:Hid (∀ W,Calls jpx 68 #[.agg (evC f' t' cm pk p n A m c).toArray] W (YA (jn f' t' cm) W)):=fun W=>Y9 lc lp
 have LB:=jn1 (f:=f') (t:=t') lc;have hPL:(Ym t (jn f' t' cm) pk p n body).length<=1000000:=by have:=joR t (jn f' t' cm) pk p n body;have:=hb.len;omega
 obtain ⟨E,hE⟩:=ex_ (evC f' t' cm pk p n A m c);rw [<-hE] at L_E e0 e1 e68 es1 es2 DO ⊢;replace es1:=Hj (fun _:Unit=>es1);replace es2:=Hj (fun _:Unit=>es2);replace e0:=Hj e0;replace e1:=Hj e1;replace e68:=Hj e68;clear hE;have S_E:E.toArray.size=69:=by rw [jqu,L_E]
 have S_hd:(hdC pk p n).toArray.size=34:=by rw [jqu,L_hd]
 obtain ⟨HD,hHD⟩:∃ H,H=hdC pk p n:=⟨_,rfl⟩;have RCV:Hid (∀ (W:World) (A1:Option Addr) (n1 d1:Nat),w.grownBy W (some sg)->SS W sg kp mb gs t->Bs W A1 n1 d1 (jn f' t' cm)->Bs W A m c body->Calls jpx 23 #[.pointer (some ⟨sg,0,none⟩), .slice A1 n1 d1, .agg HD.toArray, .slice A m c] W fun e w'=>∃ A' n' c' kp' mb',e= .returned (.tuple #[.slice A' n' c', .int .i64 (yt t (jn f' t' cm) pk p n body)])/\Own W.heap.size w' A' n' c' (Ym t (jn f' t' cm) pk p n body)/\SS w' sg kp' mb' gs (zf t (jn f' t' cm) pk p n body)/\W.grownBy w' (some sg)/\((kp'=kp/\mb'=mb)\/(W.heap.size<=kp'/\W.heap.size<=mb'))):=fun W A1 n1 d1 g z1 z2 z3=>by
  have hG':Gl W tg:=(g.block _ hG.lt fun q=>hs1 (jpD q)).trans hG;have hP':Gp W tp:=(g.block _ hP.lt fun q=>hs2 (jpD q)).trans hP;rw [hHD];exact jdJ z1 hp z2 z3 (by have:=z2.len;omega) hm lp hG' hP'
 have L_HD:HD.length=34:=by rw [hHD];exact L_hd
 have HDs:Hid (∀ _:Unit,E=([jpA .i64 f', .int .i64 t']++cellsOf cm)++(HD++ [.slice A m c])):=fun _=>by rw [hHD];exact es1.out ()
 replace hHD:=Hj (fun _:Unit=>hHD);obtain ⟨P,hPP⟩:=ex_ (Ym t (jn f' t' cm) pk p n body);obtain ⟨Er,hEr⟩:∃ E,E=yt t (jn f' t' cm) pk p n body:=⟨_,rfl⟩;obtain ⟨Sr,hSr⟩:∃ S,S=zf t (jn f' t' cm) pk p n body:=⟨_,rfl⟩;have U1:Hid (Er≠0->uwE t f' t' cm pk p n body=Er/\uwT t f' t' cm pk p n body= []/\uwK t f' t' cm pk p n body=jqn 32 0):=fun z=>by
  have e:uwE t f' t' cm pk p n body=Er:=by unfold uwE;rw [<-hEr,if_neg z]
  exact ⟨e,by unfold uwT;rw [e,if_neg z],by unfold uwK;rw [e,if_neg z]⟩
 have U2:Hid (Er=0->unE P≠0->uwE t f' t' cm pk p n body=unE P/\uwT t f' t' cm pk p n body= []/\uwK t f' t' cm pk p n body=jqn 32 0):=fun z z2=>by
  have e:uwE t f' t' cm pk p n body=unE P:=by unfold uwE;rw [<-hEr,if_pos z,<-hPP,if_neg z2]
  exact ⟨e,by unfold uwT;rw [e,if_neg z2],by unfold uwK;rw [e,if_neg z2]⟩
 have U3:Hid (Er=0->unE P=0->wrC f' t' (unK P) (unT P)≠cm->uwE t f' t' cm pk p n body=4/\uwT t f' t' cm pk p n body= []/\uwK t f' t' cm pk p n body=jqn 32 0):=fun z z2 z3=>by
  have e:uwE t f' t' cm pk p n body=4:=by unfold uwE;rw [<-hEr,if_pos z,<-hPP,if_pos z2,if_neg z3]
  exact ⟨e,by unfold uwT;rw [e,if_neg (by decide)],by unfold uwK;rw [e,if_neg (by decide)]⟩
 have U4:Hid (Er=0->unE P=0->wrC f' t' (unK P) (unT P)=cm->uwE t f' t' cm pk p n body=0/\uwT t f' t' cm pk p n body=unT P/\uwK t f' t' cm pk p n body=unK P):=fun z z2 z3=>by
  have e:uwE t f' t' cm pk p n body=0:=by unfold uwE;rw [<-hEr,if_pos z,<-hPP,if_pos z2,if_pos z3]
  exact ⟨e,by unfold uwT;rw [e,if_pos rfl,<-hPP],by unfold uwK;rw [e,if_pos rfl,<-hPP]⟩
 rw [<-hPP,<-hEr,<-hSr] at RCV;rw [<-hPP] at hPL;rw [<-hSr];clear hPP hEr hSr;generalize uwE t f' t' cm pk p n body=vE at *;generalize uwT t f' t' cm pk p n body=vT at *;generalize uwK t f' t' cm pk p n body=vK at *;generalize jn f' t' cm=dl at *;have L_KP:=joX P;have L_TP:=joY P;have hsl:=h.sl;have nl:l≠sg:=(zt h.sq hL (by decide)).symm;obtain ⟨r,hr⟩:=ex_ w.heap.size;have B0:Hid (Cb ((w.alloc (.cells E.toArray 89)).alloc (.cells Z 23)) r 89 E/\((w.alloc (.cells E.toArray 89)).alloc (.cells Z 23)).heap[r+1]? =some (.cells Z 23 (0,0))/\Ext w ((w.alloc (.cells E.toArray 89)).alloc (.cells Z 23))):=by rw [hr];exact ⟨jQ _ _ _,jK _ _ _,((jnQ w).alloc _).alloc _⟩
 replace h:=Hj h;replace hb:=Hj hb;have HG:=Hj hG;go_enter Tryz.func34,Tryz.ntmps34
 go_upto_region 1 with fail;refine jg (fun W=>Cb W r 89 E/\W.heap[r+1]? =some (.cells Z 23 (0,0))/\Ext w W) B0.out ?_;rw [<-hr];have wr:w.heap.size<=r:=by omega
 clear B0;replace hr:=Hj hr;rintro w0 ⟨k3,k5,x0⟩;have q0:Ext w0 w0.drew:=(jnQ w0).drew;have K3:Hid (Cb w0.drew r 89 E):=k3.ext q0;have K5:Hid (w0.drew.heap[r+1]? =some (.cells Z 23 (0,0))):=k5;have X0:Hid (Ext w w0.drew):=x0.trans q0;clear k3 k5 x0 q0;have FR:Hid (∀ s,Ext w0.drew s->s.cell? ⟨r,0,none⟩=some (.int .i64 f')/\s.cell? ⟨r,1,none⟩=some (.int .i64 t')/\s.cell? ⟨l,0,none⟩=some (.int .i64 t')/\s.cell? ⟨l,1,none⟩=some (.int .i64 f')):=fun s e=>by
  have q:=(hL.ext X0.out).ext e;exact ⟨(K3.out.ext e).cell e0.out,(K3.out.ext e).cell e1.out,q.cell rfl,q.cell rfl⟩
 refine qgE [0,1,2,3,4,5,6,7,8,9,10,11,12,13,14,15,16,17] [] ?_;generalize w0.drew=V at *;repeat ((first | refine qR _ (fun w' e=>FR.out w' e) ?_ | refine qS ?_);go_frame)
 refine jp ?_;clear FR;go_upto_region 3 with fail;have q0:Ext V V.drew:=(jnQ V).drew;replace K3:=Hj (K3.out.ext q0);replace K5:Hid (V.drew.heap[r+1]? =some (.cells Z 23 (0,0))):=K5.out;replace X0:Hid (Ext w V.drew):=X0.out.trans q0;clear q0;refine qgW sg [0,1,2,3,4,5,6,7,8,10,11,12,13,9,14,15,16,17,18,19] [9,14] ?_;generalize V.drew=V at *;have P3:Hid (∀ s,V.grownBy s (some sg)->Cb s r 89 E/\s.heap[r+1]? =some (.cells Z 23 (0,0))/\(s.cell? ⟨r,68,none⟩=some (.slice A m c)/\s.cell? ⟨l,2,none⟩=some (.pointer (some ⟨sg,0,none⟩))/\s.cell? ⟨l,3,none⟩=some (.func (.func 68) #[] #[]))/\w.grownBy s (some sg)):=fun s g=>by
  have kr:Cb s r 89 E:=(g.block _ K3.out.lt (fun q=>by have:=jpD q;omega)).trans K3.out;have kl:Cb s l 150 (lnC t' f' sg):=(g.block _ (hL.ext X0.out).lt (fun q=>nl (jpD q))).trans (hL.ext X0.out);exact ⟨kr,(g.block _ (jh K5.out) (fun q=>by have:=jpD q;omega)).trans K5.out,⟨kr.cell e68.out,kl.cell rfl,kl.cell rfl⟩,jj (jV X0.out _) g⟩
 have P3m:Hid (∀ s,V.grownBy s (some sg)->∀ j v,HD[j]? =some v->s.cell? ⟨r,34+j,none⟩=some v):=fun s g=>(P3.out s g).1.mid (HDs.out ()) (by simp [ja,lc])
 have S3:Hid (SS V sg kp mb gs t/\Bs V A m c body):=⟨h.out.ext X0.out,hb.out.ext X0.out⟩;have zV:=X0.out.size;repeat ((first | refine qR _ (fun w' e=>(P3.out w' e).2.2.1) ?_ | refine qS ?_);go_frame)
 refine qV rfl (fun w'=>w'.heap[r]? =some (.cells E.toArray 89 (0,0))) (fun w' e=>(P3.out w' e).1) (.agg E.toArray) (fun w' hF=>jd rfl rfl hF rfl rfl (by rw [S_E];rfl)) ?_;go_frame
 repeat ((first | refine qR _ (fun w' e=>(P3.out w' e).2.2.1) ?_ | refine qS ?_);go_frame)
 refine qV rfl (fun w'=>∀ q_ v,HD[q_]? =some v->w'.cell? ⟨r,34+q_,none⟩=some v) (fun w' e=>P3m.out w' e) (.agg HD.toArray) (fun w' hF=>jy rfl rfl hF rfl rfl (by rw [L_HD];rfl)) ?_;go_frame
 repeat ((first | refine qR _ (fun w' e=>(P3.out w' e).2.2.1) ?_ | refine qS ?_);go_frame)
 refine qD fun K hK=> ?_
 go_simp;refine (DO.out _).mono ?_;rintro e w3 ⟨A3,n3,c3,rfl,o3,x3⟩;refine hK.out _ _ (jV x3 _) ?_;clear hK K;try go_frame
 have RC:=Hj (RCV.out w3 A3 n3 c3 (jV (X0.out.trans x3) _) (S3.out.1.ext x3) o3.bs (S3.out.2.ext x3));have G3:=Hj (jV x3 (some sg));have z3:=jp0 zV x3.size;clear DO RCV S3 o3 x3;repeat ((first | refine qR0 ?_ | refine qS ?_);go_frame)
 refine qD fun K hK=> ?_
 go_simp;refine RC.out.mono ?_;rintro e w4 ⟨A4,n4,c4,kp4,mb4,rfl,o4,s4,g4,km⟩;refine hK.out _ _ g4 ?_;clear hK K;try go_frame
 obtain ⟨k34,k54,_,gw⟩:=P3.out w4 (jj G3.out g4);have z4:=jp0 z3 g4.size;replace km:Hid ((kp4=kp/\mb4=mb)\/(w.heap.size<=kp4/\w.heap.size<=mb4)):=by
  rcases km with q | q
  ·exact .inl q
  ·exact .inr ⟨jp0 z3 q.1,jp0 z3 q.2⟩
 have O4:Hid (Bs w4 A4 n4 c4 P):=o4.bs;have l4:=o4.len;have nk1:kp4≠r+1:=jou s4.sk.cb k54 (by decide);have nk2:mb4≠r+1:=fun z=>by
  obtain ⟨es,q1,q2⟩:=s4.sk.mp.obj;rw [<-z,q2] at k54
  cases k54
 have FIN:Hid (∀ W (C:Array Value),Ext w4 W->∀ (A':Option Addr) (n' c':Nat) (T:List UInt8),Own w.heap.size W A' n' c' T->Own w.heap.size (W.setRow (r+1) C) A' n' c' T/\SS (W.setRow (r+1) C) sg kp4 mb4 gs Sr/\w.grownBy (W.setRow (r+1) C) (some sg)):=fun W C x A' n' c' T o=>by
  have q5:W.heap[r+1]? =some (.cells Z 23 (0,0)):=(x.block _ (jh k54)).trans k54;have sW:=s4.ext x;exact ⟨Own.kept o (jet W (r+1) C) (.inr (Own.ne_of o q5 (by decide))),sW.stay (jqy _ _ _ _ (by omega)) (jqy _ _ _ _ nk1) (jqy _ _ _ _ nk2),x.os.trans gw.os,x.tape.trans gw.tape,x.output.trans gw.output,by have:=gw.size;have:=x.size;simp;omega,fun i hi hne=>(jqy _ _ _ _ (by omega)).trans ((x.block i (by have:=gw.size;omega)).trans (gw.block i hi hne))⟩
 have K34:=Hj k34;have K54:=Hj k54;have XG:Hid (Gl w4 tg):=(gw.block _ HG.out.lt fun q=>hs1 (jpD q)).trans HG.out;clear P3 P3m RC G3 o4 s4 g4 gw k34 nk1 nk2 K3 K5 X0 h hb hL;repeat ((first | refine qR0 ?_ | refine qS ?_);go_frame)
 refine jp ?_;by_cases hE0:Er=0
 case neg=>
  obtain ⟨u1,u2,u3⟩:=U1.out hE0;have v1:(Er==0)=false:=beq_eq_false_iff_ne.2 hE0;have F:=Hj (FIN.out w4 Z (jnQ _) none 0 0 [] (Own.nil _ _));have k5:=K54.out;clear U1 U2 U3 U4 FIN O4 XG K34 hE0;go_wp2_with (first
   | (refine jm rfl _ _ rfl Z (by simp only [jqE,jqF];exact hzb.out) ?_;go_frame)
   | (refine ws_ rfl 23 rfl (r+1) Z rfl rfl k5 (by rw [S_Z];rfl) rfl O_Z ?_;simp only [jpR]))
  (try simp only [jqV,Exit.then]);refine jqW (Y5 rfl _ _ (r+1) 23 Z (0,0) _ _ _ rfl rfl rfl (jqc _ _ _ _ _ _ k5) rfl rfl (by rw [S_Z];rfl)) rfl ?_;refine ⟨none,0,0,kp4,mb4,?_,?_,F.out.2.1,F.out.2.2,km.out⟩
  ·rw [u1,u3,<-hzc.out ()];rfl
  ·rw [u2];exact F.out.1
 have UN:=Hj (jof O4.out (by omega));clear U1 O4;subst hE0;replace U2:=Hj (U2.out rfl);replace U3:=Hj (U3.out rfl);replace U4:=Hj (U4.out rfl);go_wp2_with fail;refine UN.out.mono ?_;rintro e w5 ⟨A5,n5,c5,rfl,o5,x5⟩;have l5:=o5.len;have S_K:(cellsOf (unK P)).toArray.size=32:=by simp [ja,L_KP]
 have O_K:=ji (unK P);have W6:Hid (Ky ((w5.alloc (.cells Z 23)).setRow w5.heap.size (cellsOf (unK P)).toArray) w5.heap.size (unK P)/\Ext w5 ((w5.alloc (.cells Z 23)).setRow w5.heap.size (cellsOf (unK P)).toArray)):=⟨Ky.new _ L_KP,Ext.newRow _ _ _⟩;have k9z:(w5.alloc (.cells Z 23)).heap[w5.heap.size]? =some (.cells Z 23 (0,0)):=jqq _ _;clear UN;replace o5:=Hj o5;replace x5:=Hj x5;go_upto_region 7 with (first
  | (refine ws_ rfl 23 rfl w5.heap.size (cellsOf (unK P)).toArray rfl rfl k9z (by rw [S_K];rfl) (by rw [S_K];exact S_Z) O_K ?_;simp only [jpR]))
 refine jg (fun W=>Ky W w5.heap.size (unK P)/\Ext w5 W) W6.out ?_;have g9r:w5.heap.size≠r+1:=by have:=x5.out.size;have:=jh K54.out;omega
 generalize w5.heap.size=g9 at *;clear W6 k9z;rintro w6 ⟨k9,x6⟩;have O6:Hid (Own w.heap.size w6 A5 n5 c5 (unT P)):=World.ownsRow.mono (Own.ext o5.out x6) z4;have X6:Hid (Ext w4 w6):=x5.out.trans x6;replace k9:=Hj k9;have k5:=(X6.out.block _ (jh K54.out)).trans K54.out;clear o5 x5 x6;by_cases hU0:unE P=0
 case neg=>
  obtain ⟨u1,u2,u3⟩:=U2.out hU0;have v1:(unE P==0)=false:=beq_eq_false_iff_ne.2 hU0;have F:=Hj (FIN.out w6 Z X6.out none 0 0 [] (Own.nil _ _));clear U2 U3 U4 FIN O6 XG K34 hU0;generalize unE P=eu at *;go_wp2_with (first
   | (refine jm rfl _ _ rfl Z (by simp only [jqE,jqF];exact hzb.out) ?_;go_frame)
   | (refine ws_ rfl 23 rfl (r+1) Z rfl rfl k5 (by rw [S_Z];rfl) rfl O_Z ?_;simp only [jpR]))
  (try simp only [jqV,Exit.then]);refine jqW (Y5 rfl _ _ (r+1) 23 Z (0,0) _ _ _ rfl rfl rfl (jqc _ _ _ _ _ _ k5) rfl rfl (by rw [S_Z];rfl)) rfl ?_;refine ⟨none,0,0,kp4,mb4,?_,?_,F.out.2.1,F.out.2.2,km.out⟩
  ·rw [u1,u3,<-hzc.out ()];rfl
  ·rw [u2];exact F.out.1
 obtain ⟨bb,hbb⟩:∃ b,(!decide (jC (unK P) (qz [[u8I f'],[u8I t'],unT P])=cm))=b:=⟨_,rfl⟩;have JL:(qz [[u8I f'],[u8I t'],unT P]).length<=100000000:=by simp [qz,jaM];omega
 have CHK:Hid (∀ (W:World) (C:Option Addr),Ext w4 W->Rw W C 3 3 [[u8I f'],[u8I t'],unT P]->Calls jpx 38 #[.agg (cellsOf cm).toArray, .agg (cellsOf (unK P)).toArray, .slice C 3 3] W fun e w'=>e= .returned (.int .i64 (if bb then 4 else 0))/\Ext W w'):=fun W C x z=>joc L_KP lc hbb z JL (XG.out.ext x)
 have OB:Hid (∀ (W:World) (z:Int),Calls jpx 61 #[.int .i64 z] W (Qw [u8I z] W)):=fun W z=>Y7
 have UB:Hid ((bb=true->vE=4/\vT= []/\vK=jqn 32 0)/\(bb=false->vE=0/\vT=unT P/\vK=unK P)):=by
  rw [<-hbb];refine ⟨fun z=>U3.out hU0 fun q=> ?_,fun z=>U4.out hU0 ?_⟩
  ·have q':jC (unK P) (qz [[u8I f'],[u8I t'],unT P])=cm:=q;rw [q'] at z;simp at z
  ·have:decide (jC (unK P) (qz [[u8I f'],[u8I t'],unT P])=cm)=true:=by simpa using z
   exact of_decide_eq_true this
 clear hbb U2 U3 U4 JL;obtain ⟨vC,hvC⟩:∃ v,v=if bb then (4:Int) else 0:=⟨_,rfl⟩
 rw [<-hvC] at CHK;replace hvC:=Hj hvC;go_upto_region 9 with fail;have q0:Hid (Ext w6 w6.drew):=(jnQ w6).drew;have FE:Hid (∀ s,Ext w6.drew s->(s.cell? ⟨r,0,none⟩=some (.int .i64 f')/\s.cell? ⟨r,1,none⟩=some (.int .i64 t'))/\(∀ j v,(cellsOf cm)[j]? =some v->s.cell? ⟨r,2+j,none⟩=some v)/\s.heap[g9]? =some (.cells (cellsOf (unK P)).toArray 23 (0,0))):=fun s e=>by
  have x:=q0.out.trans e;have kr:=K34.out.ext (X6.out.trans x);exact ⟨⟨kr.cell e0.out,kr.cell e1.out⟩,kr.mid (es2.out ()) rfl,(k9.out.ext x).1⟩
 have BT:Hid (∀ s,Ext w6.drew s->Bs s A5 n5 c5 (unT P)):=fun s e=>(Own.bs O6.out).ext (q0.out.trans e)
 refine qgE [0,1,2,3,4,6,7,9,5,8,10,11,12] [5,8,10,11] ?_;have XV:Hid (Ext w4 w6.drew):=X6.out.trans q0.out;have EV:Hid (Ext w6 w6.drew):=q0.out;clear q0;generalize w6.drew=V at *;repeat ((first | refine qR _ (fun w' e=>(FE.out w' e).1) ?_ | refine qS ?_);go_frame)
 refine qV rfl (fun w'=>∀ q_ v,(cellsOf cm)[q_]? =some v->w'.cell? ⟨r,2+q_,none⟩=some v) (fun w' e=>(FE.out w' e).2.1) (.agg (cellsOf cm).toArray) (fun w' hF=>jy rfl rfl hF rfl rfl (by rw [L_cm];rfl)) ?_;go_frame
 refine qV rfl (fun w'=>w'.heap[g9]? =some (.cells (cellsOf (unK P)).toArray 23 (0,0))) (fun w' e=>(FE.out w' e).2.2) (.agg (cellsOf (unK P)).toArray) (fun w' hF=>jd rfl rfl hF rfl rfl (by rw [S_K];rfl)) ?_;go_frame
 repeat ((first | refine qR _ (fun w' e=>(FE.out w' e).1) ?_ | refine qS ?_);go_frame)
 refine qD fun K1 hK1=> ?_
 go_simp;refine (OB.out _ _).mono ?_;rintro e W1 ⟨A1,n1,d1,rfl,b1,x1⟩;obtain rfl:n1=1:=b1.len.symm;refine hK1.out _ _ x1 ?_;clear hK1 K1;try go_frame
 repeat ((first | refine qR0 ?_ | refine qS ?_);go_frame)
 refine qD fun K2 hK2=> ?_
 go_simp;refine (OB.out _ _).mono ?_;rintro e W2 ⟨A2,n2,d2,rfl,b2,x2⟩;obtain rfl:n2=1:=b2.len.symm;refine hK2.out _ _ x2 ?_;clear hK2 K2;try go_frame
 obtain rfl:n5=(unT P).length:=l5.symm;have hR:=Hj (jjC (t:=33) (b1.ext x2) b2 (BT.out W2 (x1.trans x2)));have e2:=Hj (x1.trans x2);clear b1 b2 x1 x2 FE;repeat ((first | refine qR0 ?_ | refine qS ?_);go_frame)
 refine qD fun K3 hK3=> ?_
 go_simp;refine hK3.out _ _ ((jnQ W2).alloc _) ?_;clear hK3 K3;try go_frame
 have e3:=Hj (e2.out.trans ((jnQ W2).alloc (jqY #[.slice A1 1 d1, .slice A2 1 d2, .slice A5 (unT P).length c5] 33)));generalize W2.alloc (jqY #[.slice A1 1 d1, .slice A2 1 d2, .slice A5 (unT P).length c5] 33)=W3 at *;refine qD fun K4 hK4=> ?_
 go_simp;refine (CHK.out W3 _ (XV.out.trans e3.out) hR.out).mono ?_;rintro e W4 ⟨rfl,x4⟩;refine hK4.out _ _ x4 ?_;clear hK4 K4;try go_frame
 repeat ((first | refine qR0 ?_ | refine qS ?_);go_frame)
 refine jp ?_;have E4:Hid (Ext w6 W4):=EV.out.trans (e3.out.trans x4);have X4:Hid (Ext w4 W4):=X6.out.trans E4.out;have O7:Hid (Own w.heap.size W4 A5 (unT P).length c5 (unT P)):=Own.ext O6.out E4.out;have k5':=(X4.out.block _ (jh K54.out)).trans K54.out;have k9':=(k9.out.ext E4.out).1;clear hR e2 e3 x4 BT XV EV CHK OB O6 X6 k5 k9 E4 XG K34;rcases bb with _ | _
 ·obtain ⟨u1,u2,u3⟩:=UB.out.2 rfl;have hv:vC=0:=hvC.out;subst hv;clear UB hvC;go_upto_region 12 with fail;have q1:Ext W4 W4.drew:=(jnQ W4).drew;have F:=Hj (FIN.out W4.drew (cellsOf (unK P)).toArray (X4.out.trans q1) A5 _ c5 _ (Own.ext O7.out q1));have k5d:Hid (W4.drew.heap[r+1]? =some (.cells Z 23 (0,0))):=k5';have k9d:Hid (∀ s,W4.drew.grownBy s (some (r+1))->s.heap[g9]? =some (.cells (cellsOf (unK P)).toArray 23 (0,0))):=fun s g=>(g.block _ (jh (show W4.drew.heap[g9]? =_ from k9')) (fun q=>g9r (jpD q))).trans k9'
  clear q1 k5' k9' FIN X4 O7;refine qgW ((r+1)) [0,1,2,3,4] [3] ?_;generalize W4.drew=V at *;repeat ((first | refine qR0 ?_ | refine qS ?_);go_frame)
  refine qV rfl (fun w'=>w'.heap[g9]? =some (.cells (cellsOf (unK P)).toArray 23 (0,0))) (fun w' e=>k9d.out w' e) (.agg (cellsOf (unK P)).toArray) (fun w' hF=>jd rfl rfl hF rfl rfl (by rw [S_K];rfl)) ?_;go_frame
  repeat ((first | refine qR0 ?_ | refine qS ?_);go_frame)
  refine qD fun K hK=> ?_
  refine jrf _ _ _ rfl (r+1) (cellsOf (unK P)).toArray rfl rfl 23 Z k5d.out (by rw [S_K];rfl) (by rw [S_K];exact S_Z) O_K ?_;refine hK.out _ _ (jet _ _ _) ?_;clear hK K;try simp only [jpR]
  repeat ((first | refine qR0 ?_ | refine qS ?_);go_frame)
  refine jp ?_;go_wp2_with fail;all_goals
   (try simp only [jqV,Exit.then]);refine jqW (Y5 rfl _ _ (r+1) 23 (cellsOf (unK P)).toArray (0,0) _ _ _ rfl rfl rfl (jqc _ _ _ _ _ _ k5d.out) rfl rfl (by rw [S_K];rfl)) rfl ?_;refine ⟨A5,(unT P).length,c5,?_,?_,kp4,mb4,F.out.2.1,F.out.2.2,km.out⟩
   ·rfl
   ·exact F.out.1
 ·obtain ⟨u1,u2,u3⟩:=UB.out.1 rfl;have hv:vC=4:=hvC.out;subst hv;have F:=Hj (FIN.out W4 Z X4.out none 0 0 [] (Own.nil _ _));clear UB hvC FIN X4 O7 k9';go_wp2_with (first
   | (refine jm rfl _ _ rfl Z (by simp only [jqE,jqF];exact hzb.out) ?_;go_frame)
   | (refine ws_ rfl 23 rfl (r+1) Z rfl rfl k5' (by rw [S_Z];rfl) rfl O_Z ?_;simp only [jpR]))
  (try simp only [jqV,Exit.then]);refine jqW (Y5 rfl _ _ (r+1) 23 Z (0,0) _ _ _ rfl rfl rfl (jqc _ _ _ _ _ _ k5') rfl rfl (by rw [S_Z];rfl)) rfl ?_;refine ⟨none,0,0,?_,?_,kp4,mb4,F.out.2.1,F.out.2.2,km.out⟩
  ·rw [<-hzc.out ()];rfl
  ·exact F.out.1
end
theorem jn6 (w:World):(jpI 79).run jpx w= .ok (.agg jjJ.toArray) w:=by kernel_rfl
theorem joy (a b:Nat):Tryz.prog.built 79 [(0, .pointer (some ⟨a,0,none⟩)),(1, .pointer (some ⟨b,0,none⟩))]=some #[.pointer (some ⟨a,0,none⟩), .pointer (some ⟨b,0,none⟩)]:=by kernel_rfl
theorem joz {w:World}{shared:List UInt8}(lr:shared.length=32){tg tp:jpC×Nat×Nat}(hG:Gl w tg) (hP:Gp w tp):
 Calls jpx 29 #[.agg (cellsOf shared).toArray] w fun e w'=>∃ l0 l1 sa ka ma ga la sb kb mb gb lb,e= .returned (.agg #[.pointer (some ⟨l0,0,none⟩), .pointer (some ⟨l1,0,none⟩)])/\Duo w' (jh1 sa ka ma ga la shared) (jjk sb kb mb gb lb shared) tg tp/\Cb w' l0 150 (lnC 2 5 sa)/\Cb w' l1 150 (lnC 5 2 sb)/\Ext w w'/\(w.heap.size<=la/\w.heap.size<=lb/\w.heap.size<=l0/\w.heap.size<=l1):=by
 have PAI:Hid (∀ (W:World) (A:Option Addr) (c:Nat),Bs W A 1 c [98]->Calls jpx 18 #[.slice A 1 c] W fun e w'=>e= .returned (.agg (cellsOf zP).toArray)/\Ext W w'):=fun W A c h=>jdH h (by omega)
 have NEW:Hid (∀ (W:World) (A:Option Addr) (c:Nat) (x:UInt8),Ext w W->Bs W A 1 c [x]->Calls jpx 27 #[.slice A 1 c] W fun e w'=>∃ g,e= .returned (.pointer (some ⟨g,0,none⟩))/\SrcSt w' W.heap.size g [x] 0/\Ext W w'):=fun W A c x e h=>jgs h (by omega) (hG.kept e hG.lt)
 have gl:=hG.lt;have pl:=hP.lt;have GG:Hid (∀ W,Ext w W->Gl W tg/\Gp W tp):=fun W e=>⟨hG.kept e hG.lt,hP.ext e⟩
 have BEG:Hid (∀ (W:World) (lo gs:Nat),SrcSt W lo gs [120] 0->Ext w W->1 < lo->Calls jpx 26 #[.agg (cellsOf shared).toArray, .agg (cellsOf (jE [98])).toArray, .pointer (some ⟨gs,0,none⟩)] W fun e w'=>SrcSt w' lo gs [120] 1/\W.grownBy w' (some gs)/\∃ sg kp mb,e= .returned (.tuple #[.pointer (some ⟨sg,0,none⟩), .int .i64 0])/\(W.heap.size<=sg/\W.heap.size<=kp/\W.heap.size<=mb)/\SS w' sg kp mb gs ⟨J2 shared,[],0⟩):=fun W lo gs z1 z2 z3=>
  (jbe lr (YH _) z1 (by omega) (GG.out W z2).1 (GG.out W z2).2 z3).mono fun e w' q=>by
    obtain ⟨q1,q2,q3 | q3⟩:=q
    ·exact ⟨q1,q2,q3.2⟩
    ·exact absurd (jft shared) q3.1
 have ANS:Hid (∀ (W:World) (gs:Nat),Calls jpx 36 #[.agg (cellsOf shared).toArray, .agg (cellsOf zP).toArray, .pointer (some ⟨gs,0,none⟩)] W fun e w'=>∃ sg kp mb,e= .returned (.pointer (some ⟨sg,0,none⟩))/\(W.heap.size<=sg/\W.heap.size<=kp/\W.heap.size<=mb)/\SS w' sg kp mb gs ⟨YB shared zP,[],0⟩/\Ext W w'):=fun W gs=>Z9 lr jay
 have FN:Hid (∀ (W:World) (sg:Nat),Calls jpx 37 #[.pointer (some ⟨sg,0,none⟩), .int .i64 2, .int .i64 5] W fun e w'=>∃ l,e= .returned (.tuple #[.pointer (some ⟨l,0,none⟩), .int .i64 0])/\W.heap.size<=l/\Cb w' l 150 (lnC 2 5 sg)/\Ext W w'):=fun W sg=>joi rfl
 have FM:Hid (∀ (W:World) (sg:Nat),Calls jpx 37 #[.pointer (some ⟨sg,0,none⟩), .int .i64 5, .int .i64 2] W fun e w'=>∃ l,e= .returned (.tuple #[.pointer (some ⟨l,0,none⟩), .int .i64 0])/\W.heap.size<=l/\Cb w' l 150 (lnC 5 2 sg)/\Ext W w'):=fun W sg=>joi rfl
 have L_o:=jay;have PUB:=Hj (fun _:Unit=>jds);have Lpb:=YH [98];have PSP:Hid (cellsOf zP=cellsOf (zP.take 32)++(cellsOf (jE [98])++ [])):=by
  rw [<-jds,List.append_nil,<-Yr,List.take_append_drop];exact Hj rfl
 have LPT:(cellsOf (zP.take 32)).length=32:=by rw [ja,jps,jay];rfl
 clear hG hP;obtain ⟨pA,hpA⟩:∃ f:Nat->Nat->Nat->Nat->Nat->Pty,f=fun s kp mb g lo=>jh1 s kp mb g lo shared:=⟨_,rfl⟩
 obtain ⟨BA0,hBA0⟩:∃ x,x=J2 shared:=⟨_,rfl⟩;obtain ⟨AN0,hAN0⟩:∃ x,x=YB shared zP:=⟨_,rfl⟩;rw [<-hBA0] at BEG;rw [<-hAN0] at ANS;have PA:Hid (∀ s kp mb g lo,jh1 s kp mb g lo shared=⟨s,kp,mb,g,lo,[120],1,⟨BA0,[],0⟩⟩):=fun s kp mb g lo=>by rw [hBA0];rfl
 have PB:Hid (∀ s kp mb g lo,jjk s kp mb g lo shared=⟨s,kp,mb,g,lo,[121],0,⟨AN0,[],0⟩⟩):=fun s kp mb g lo=>by rw [hAN0];rfl
 clear hpA pA hBA0 hAN0;generalize jE [98]=pb at *;generalize zP=ob at *;have S_sh:(cellsOf shared).toArray.size=32:=by simp [ja,lr]
 have S_o:(cellsOf ob).toArray.size=64:=by simp [ja,L_o]
 have O_o:=ji ob;have C_pb:(cellsOf pb).length=32:=by rw [ja,Lpb]
 have halp:=yS;have L_zp:(jqn 64 (0:UInt8)).length=64:=rfl;generalize jqn 64 (0:UInt8)=zp at *;have S_zp:(cellsOf zp).toArray.size=64:=by simp [ja,L_zp]
 have hal2:=jn6;obtain ⟨T0,hT0⟩:∃ x,x=jjJ:=⟨_,rfl⟩;rw [<-hT0] at hal2;have S_T0:T0.toArray.size=2:=by rw [hT0];rfl
 clear hT0;obtain ⟨r,hr⟩:=ex_ w.heap.size;have B0:Hid (Cb ((w.alloc (.cells (cellsOf shared).toArray 23)).alloc (.cells T0.toArray 79)) r 23 (cellsOf shared)/\Cb ((w.alloc (.cells (cellsOf shared).toArray 23)).alloc (.cells T0.toArray 79)) (r+1) 79 T0/\Ext w ((w.alloc (.cells (cellsOf shared).toArray 23)).alloc (.cells T0.toArray 79))):=by rw [hr];exact ⟨jQ _ _ _,jK _ _ _,((jnQ w).alloc _).alloc _⟩
 go_enter Tryz.func29,Tryz.ntmps29
 go_upto_region 1 with fail;refine jg (fun W=>Cb W r 23 (cellsOf shared)/\Cb W (r+1) 79 T0/\Ext w W) B0.out ?_;rw [<-hr];have wr_:w.heap.size<=r:=jre hr.symm;clear B0;replace hr:=Hj hr;rintro w0 ⟨k1,k2,x0⟩;have P0:Hid (∀ u,Ext w0 u->Cb u r 23 (cellsOf shared)/\Cb u (r+1) 79 T0/\Ext w u):=fun u x=>⟨k1.ext x,k2.ext x,x0.trans x⟩
 have l2:=k2.lt;have L1:=Hj (PAI.out _ _ _ (Bs.one13 w0 98 98 rfl));have cv0:=jel w0 98;clear k1 k2 x0 PAI;go_wp2_with fail;refine L1.out.mono ?_;rintro e w1 ⟨rfl,x1⟩;have y1:=Hj (((jnQ w0).alloc (.cells #[.int .u8 98] 5 (1,2))).trans x1);have Y:Hid (Cb ((w1.alloc (.cells (cellsOf zp).toArray 31)).setRow w1.heap.size (cellsOf ob).toArray) w1.heap.size 31 (cellsOf ob)/\Ext w1 ((w1.alloc (.cells (cellsOf zp).toArray 31)).setRow w1.heap.size (cellsOf ob).toArray)):=⟨Cb.set (Cb.new _ _ _),Ext.newRow _ _ _⟩;have w01:=y1.out.size;clear L1 x1 cv0;go_upto_region 2 with (refine ws_ rfl 31 rfl w1.heap.size (cellsOf ob).toArray rfl rfl (jqq _ _) (by rw [S_o];rfl) (by rw [S_o,S_zp]) O_o ?_;simp only [jpR])
 obtain ⟨g3,hg3⟩:∃ x,x=w1.heap.size:=⟨_,rfl⟩;refine jg (fun W=>Cb W w1.heap.size 31 (cellsOf ob)/\Ext w1 W) Y.out ?_;rw [<-hg3];have w1g:w1.heap.size<=g3:=jre hg3.symm;clear Y;replace hg3:=Hj hg3;rintro w2 ⟨k3,x2⟩;have P2:Hid (∀ u,Below w2.heap.size w2.drew u->Cb u g3 31 (cellsOf ob)/\Cb u r 23 (cellsOf shared)/\Cb u (r+1) 79 T0/\Ext w u):=fun u x=>by
  have x':Ext w2 u:=Ext.trans (jnQ w2).drew x;obtain ⟨a1,a2,a3⟩:=P0.out u ((y1.out.trans x2).trans x');exact ⟨k3.ext x',a1,a2,a3⟩
 have P2m:Hid (∀ u,Below w2.heap.size w2.drew u->∀ j v,(cellsOf pb)[j]? =some v->u.cell? ⟨g3,32+j,none⟩=some v):=fun u x=>(P2.out u x).1.mid PSP.out LPT
 have l3:=k3.lt;clear P0 k3 x2 y1;refine qgB w2.heap.size [0,1,2,3,4,5,6,7,8,9,10,11] [3,4,5,6] ?_;refine qV rfl (fun w'=>w'.heap[r]? =some (.cells (cellsOf shared).toArray 23 (0,0))) (fun w' e=>(P2.out w' e).2.1) (.agg (cellsOf shared).toArray) (fun w' hF=>jd rfl rfl hF rfl rfl (by rw [S_sh];rfl)) ?_;go_frame
 repeat ((first | refine qR0 ?_ | refine qS ?_);go_frame)
 refine qV rfl (fun w'=>∀ q_ v,(cellsOf pb)[q_]? =some v->w'.cell? ⟨g3,32+q_,none⟩=some v) (fun w' e=>P2m.out w' e) (.agg (cellsOf pb).toArray) (fun w' hF=>jy rfl rfl hF rfl rfl (by rw [C_pb];rfl)) ?_;go_frame
 have X2:Hid (Below w2.heap.size w2.drew w2.drew):=jpm _ _;have z2:w2.heap.size<=w2.drew.heap.size:=jpo _;generalize w2.drew=V at *;refine qD fun K hK=> ?_
 go_simp;have b3:=Hj (Bs.one13 V 120 120 rfl);have e3:Ext V (V.alloc (.cells #[.int .u8 120] 5 (1,2))):=(jnQ V).alloc _;have cv:=jel V 120;refine hK.out _ _ (((jnQ V).alloc _).mono z2) ?_;clear hK K;try go_frame
 refine qD fun K hK=> ?_
 go_simp;refine hK.out _ _ (QD z2) ?_;clear hK K;try go_frame
 replace X2:=Hj (jpn X2.out (e3.mono z2));clear cv;repeat ((first | refine qR0 ?_ | refine qS ?_);go_frame)
 have N3:=Hj (NEW.out _ _ _ 120 (P2.out _ X2.out).2.2.2 b3.out);have z3:w2.heap.size<=(V.alloc (.cells #[.int .u8 120] 5 (1,2))).heap.size:=jp0 z2 e3.size;clear e3 b3;generalize V.alloc (.cells #[.int .u8 120] 5 (1,2))=V3 at *;refine qD fun K hK=> ?_
 go_simp;refine N3.out.mono ?_;rintro e w4 ⟨ga,rfl,s4,x4⟩;refine hK.out _ _ (x4.mono z3) ?_;clear hK K;try go_frame
 replace X2:=Hj (jpn X2.out (x4.mono z3));have z4:=jp0 z3 x4.size;have ws:=(P2.out _ X2.out).2.2.2.size;have wV3:w.heap.size<=V3.heap.size:=by omega
 have lga:=s4.1;have BG:=Hj (BEG.out w4 V3.heap.size ga s4 (P2.out _ X2.out).2.2.2 (by omega));obtain ⟨la,hla⟩:∃ x,x=V3.heap.size:=⟨_,rfl⟩;rw [<-hla] at BG lga;have wla:w2.heap.size<=la:=by omega
 have lgs:=s4.lt;clear N3 s4 x4 BEG hla;repeat ((first | refine qR0 ?_ | refine qS ?_);go_frame)
 refine qD fun K hK=> ?_
 go_simp;refine BG.out.mono ?_;rintro e w5 ⟨s5,g5,sa,ka,ma,rfl,⟨l1,l2',l3'⟩,ss5⟩;have X5:Below w2.heap.size w4 w5:=⟨g5.os,g5.tape,g5.output,g5.size,fun i hi=>g5.block i (by omega) (fun z=>by have:=jpD z;omega)⟩;refine hK.out _ _ X5 ?_;clear hK K;try go_frame
 replace X2:=Hj (jpn X2.out X5);have z5:=jp0 z4 g5.size;replace s5:=Hj s5;replace ss5:=Hj ss5;clear BG X5 g5;repeat ((first | refine qR0 ?_ | refine qS ?_);go_frame)
 refine jp ?_;have P5:Hid (∀ u,Ext w5 u->Cb u g3 31 (cellsOf ob)/\Cb u r 23 (cellsOf shared)/\Cb u (r+1) 79 T0/\Ext w u):=fun u x=>P2.out u (jpn X2.out (x.mono z5))
 have lsa:=ss5.out.sl;have lka:=ss5.out.kl;have lma:=ss5.out.ml;clear P2 P2m X2;go_wp2_with fail;refine (FN.out _ sa).mono ?_;rintro e w6 ⟨l0,rfl,hl0,kl0,x6⟩;replace s5:=Hj (s5.out.ext x6);replace ss5:=Hj (ss5.out.ext x6);replace P5:=Hj (fun u (x:Ext w6 u)=>P5.out u (x6.trans x));have z56:=x6.size;replace kl0:=Hj kl0;have wl0:w.heap.size<=l0:=by omega
 clear x6 FN;go_upto_region 4 with fail;have P6:Hid (∀ u,Below w6.heap.size w6.drew u->Cb u g3 31 (cellsOf ob)/\Cb u r 23 (cellsOf shared)):=fun u x=>by
  obtain ⟨a1,a2,_,_⟩:=P5.out u (Ext.trans (jnQ w6).drew x);exact ⟨a1,a2⟩
 have z60:w6.heap.size<=w6.drew.heap.size:=jpo _;have X6:Hid (Below w6.heap.size w6.drew w6.drew):=jpm _ _;refine qgB w6.heap.size [0,1,2,3,4,5,6,7,8,9,10,11] [2,3,4,5,6] ?_;refine qV rfl (fun w'=>w'.heap[r]? =some (.cells (cellsOf shared).toArray 23 (0,0))) (fun w' e=>(P6.out w' e).2) (.agg (cellsOf shared).toArray) (fun w' hF=>jd rfl rfl hF rfl rfl (by rw [S_sh];rfl)) ?_;go_frame
 refine qV rfl (fun w'=>w'.heap[g3]? =some (.cells (cellsOf ob).toArray 31 (0,0))) (fun w' e=>(P6.out w' e).1) (.agg (cellsOf ob).toArray) (fun w' hF=>jd rfl rfl hF rfl rfl (by rw [S_o];rfl)) ?_;go_frame
 have E6:Hid (∀ u,Below w6.heap.size w6.drew u->Ext w6 u):=fun u x=>Ext.trans (jnQ w6).drew x
 generalize w6.drew=V at *;refine qD fun K hK=> ?_
 go_simp;have b3:=Hj (Bs.one13 V 121 121 rfl);have e3:Ext V (V.alloc (.cells #[.int .u8 121] 5 (1,2))):=(jnQ V).alloc _;have cv:=jel V 121;refine hK.out _ _ (((jnQ V).alloc _).mono z60) ?_;clear hK K;try go_frame
 refine qD fun K hK=> ?_
 go_simp;refine hK.out _ _ (QD z60) ?_;clear hK K;try go_frame
 replace X6:=Hj (jpn X6.out (e3.mono z60));clear cv;repeat ((first | refine qR0 ?_ | refine qS ?_);go_frame)
 have N3:=Hj (NEW.out _ _ _ 121 (P5.out _ (E6.out _ X6.out)).2.2.2 b3.out);have z7:w6.heap.size<=(V.alloc (.cells #[.int .u8 121] 5 (1,2))).heap.size:=jp0 z60 e3.size;clear e3 b3 NEW;generalize V.alloc (.cells #[.int .u8 121] 5 (1,2))=V3 at *;refine qD fun K hK=> ?_
 go_simp;refine N3.out.mono ?_;rintro e w7 ⟨gb,rfl,s7,x7⟩;refine hK.out _ _ (x7.mono z7) ?_;clear hK K;try go_frame
 have z8:=jp0 z7 x7.size;replace X6:=Hj (jpn X6.out (x7.mono z7));obtain ⟨lb,hlb⟩:∃ x,x=V3.heap.size:=⟨_,rfl⟩;rw [<-hlb] at s7 z7;have lgb:=s7.1;have lgs7:=s7.lt;replace s7:=Hj s7;clear N3 x7 hlb;repeat ((first | refine qR0 ?_ | refine qS ?_);go_frame)
 have AN:=Hj (ANS.out w7 gb);clear ANS;refine qD fun K hK=> ?_
 go_simp;refine AN.out.mono ?_;rintro e w8 ⟨sb,kb,mb,rfl,⟨m1,m2,m3⟩,ss8,x8⟩;refine hK.out _ _ (x8.mono z8) ?_;clear hK K;try go_frame
 replace X6:=Hj (jpn X6.out (x8.mono z8));have z9:=jp0 z8 x8.size;have sl8:=ss8.sl;have kl8:=ss8.kl;have ml8:=ss8.ml;replace s7:=Hj (s7.out.ext x8);replace ss8:=Hj ss8;clear AN x8;repeat ((first | refine qR0 ?_ | refine qS ?_);go_frame)
 refine qD fun K hK=> ?_
 go_simp;refine (FM.out _ sb).mono ?_;rintro e w9 ⟨l1,rfl,hl1,kl1,x9⟩;refine hK.out _ _ (x9.mono z9) ?_;clear hK K;try go_frame
 replace X6:=Hj (jpn X6.out (x9.mono z9));replace s7:=Hj (s7.out.ext x9);replace ss8:=Hj (ss8.out.ext x9);replace kl1:=Hj kl1;have z10:=jp0 z9 x9.size;have z89:=x9.size;clear FM x9;repeat ((first | refine qR0 ?_ | refine qS ?_);go_frame)
 refine jp ?_;have EX:=Hj (E6.out w9 X6.out);obtain ⟨_,_,k2,xw⟩:=P5.out w9 EX.out;have g8:=GG.out w9 xw;have sA:=s5.out.ext EX.out;have ssA:=ss5.out.ext EX.out;have kA:=kl0.out.ext EX.out;have sB:=s7.out;have ssB:=ss8.out;have kB:=kl1.out;have nr:r+1 < w2.heap.size:=by omega
 have RW:w9.grownBy (w9.setRow (r+1) #[.pointer (some ⟨l0,0,none⟩), .pointer (some ⟨l1,0,none⟩)]) (some (r+1)):=qG _ _ _;have FIN:Hid (Duo (w9.setRow (r+1) #[.pointer (some ⟨l0,0,none⟩), .pointer (some ⟨l1,0,none⟩)]) (jh1 sa ka ma ga la shared) (jjk sb kb mb gb lb shared) tg tp/\Cb (w9.setRow (r+1) #[.pointer (some ⟨l0,0,none⟩), .pointer (some ⟨l1,0,none⟩)]) l0 150 (lnC 2 5 sa)/\Cb (w9.setRow (r+1) #[.pointer (some ⟨l0,0,none⟩), .pointer (some ⟨l1,0,none⟩)]) l1 150 (lnC 5 2 sb)/\Ext w (w9.setRow (r+1) #[.pointer (some ⟨l0,0,none⟩), .pointer (some ⟨l1,0,none⟩)])):=by
  have hb:∀ i,i < w9.heap.size->i≠r+1->(w9.setRow (r+1) #[.pointer (some ⟨l0,0,none⟩), .pointer (some ⟨l1,0,none⟩)]).heap[i]? =w9.heap[i]? :=fun i hi hne=>RW.block i hi (fun z=>hne (jpD z))
  rw [PA.out,PB.out];have a1:=kA.lt;have a2:=kB.lt;refine ⟨⟨⟨ssA.stay (hb _ ssA.sl (by omega)) (hb _ ssA.kl (by omega)) (hb _ ssA.ml (by omega)),sA.other RW (.inl (by omega)),by dsimp only;omega,by dsimp only;omega⟩,⟨ssB.stay (hb _ ssB.sl (by omega)) (hb _ ssB.kl (by omega)) (hb _ ssB.ml (by omega)),sB.other RW (.inl (by omega)),by dsimp only;omega,by dsimp only;omega⟩,by dsimp only;omega,⟨by unfold Off;dsimp only;omega,by unfold Off;dsimp only;omega⟩,⟨by unfold Off;dsimp only;omega,by unfold Off;dsimp only;omega⟩,(hb _ g8.1.lt (by omega)).trans g8.1,(hb _ g8.2.lt (by omega)).trans g8.2⟩,(hb _ a1 (by omega)).trans kA,(hb _ a2 (by omega)).trans kB,jqb xw (by omega) _⟩
 have OO: #[jro (some ⟨l0,0,none⟩), .pointer (some ⟨l1,0,none⟩)].all (·.oneCell')=true:=qC (L:= [jro (some ⟨l0,0,none⟩), .pointer (some ⟨l1,0,none⟩)]) (fun v hv=>by
  rcases jpE.1 hv with rfl | hv
  ·rfl
  ·rcases jpE.1 hv with rfl | hv
   ·rfl
   ·cases hv)
 have BT:=Hj (joy l0 l1);have wl1:w.heap.size<=l1:=by omega
 have wla':w.heap.size<=la:=by omega
 have wlb:w.heap.size<=lb:=by omega
 have k2':w9.heap[r+1]? =some (.cells T0.toArray 79 (0,0)):=k2;clear P5 P6 X6 s5 ss5 s7 ss8 kl0 kl1 sA ssA sB ssB kA kB g8 xw RW PA PB GG EX E6 k2;go_wp2_with (first
  | (refine jm rfl _ _ rfl #[.pointer (some ⟨l0,0,none⟩), .pointer (some ⟨l1,0,none⟩)] (by simp only [jqE,jqA,jqF];exact BT.out) ?_;go_frame)
  | (refine ws_ rfl 79 rfl (r+1) #[.pointer (some ⟨l0,0,none⟩), .pointer (some ⟨l1,0,none⟩)] rfl rfl k2' rfl (by rw [S_T0];rfl) OO ?_;simp only [jpR]))
 (try simp only [jqV,Exit.then]);refine jqW (jqX rfl _ _ (r+1) 79 #[.pointer (some ⟨l0,0,none⟩), .pointer (some ⟨l1,0,none⟩)] (0,0) _ rfl (jqc _ _ _ _ _ _ k2') rfl rfl rfl) rfl ?_;exact ⟨l0,l1,sa,ka,ma,ga,la,sb,kb,mb,gb,lb,rfl,FIN.out.1,FIN.out.2.1,FIN.out.2.2.1,FIN.out.2.2.2,wla',wlb,wl0,wl1⟩
end
section
open Go.ChangeShapes Go.WideShapes Go.ChangeAt Go.RowKit Go.Deep
theorem ja2:jC [] [121]= [107,114,177,210,244,7,6,228,142,7,135,191,82,23,64,253,181,94,127,138,208,242,70,97,155,57,113,167,218,127,166,220]:=by decide+kernel
theorem jmk:jC [] [98]= [4,68,158,146,201,167,101,126,242,214,119,184,239,157,164,108,8,143,19,87,94,168,135,228,129,143,196,85,162,188,165,0]:=by decide+kernel
theorem jmj:kL (jY [4,68,158,146,201,167,101,126,242,214,119,184,239,157,164,108,8,143,19,87,94,168,135,228,129,143,196,85,162,188,165,0] 9)= [215,119,235,107,105,49,36,248,78,208,136,217,223,252,95,215,158,120,231,18,137,255,69,80,54,185,25,219,235,179,108,23]:=by decide+kernel
theorem jk3:jE [98]= [215,119,235,107,105,49,36,248,78,208,136,217,223,252,95,215,158,120,231,18,137,255,69,80,54,185,25,219,235,179,108,23]:=by unfold jE;rw [jmk,jmj]
theorem jll:jO [121] 0= [20,13,166,112,65,152,126,219,103,65,140,7,178,194,56,100,184,150,191,140,152,127,190,238,108,123,239,80,220,211,122,161]:=by unfold jO;rw [ja2];decide+kernel
theorem jlZ:jC [] [20,13,166,112,65,152,126,219,103,65,140,7,178,194,56,100,184,150,191,140,152,127,190,238,108,123,239,80,220,211,122,161]= [55,243,72,3,163,240,95,114,136,89,102,176,228,127,217,92,36,69,195,30,51,35,93,57,87,135,109,172,182,98,55,138]:=by decide+kernel
theorem jlF:kL (jY [55,243,72,3,163,240,95,114,136,89,102,176,228,127,217,92,36,69,195,30,51,35,93,57,87,135,109,172,182,98,55,138] 9)= [162,123,81,249,137,197,254,151,122,222,58,40,10,186,111,55,198,132,56,129,84,108,168,40,243,202,230,210,155,133,14,85]:=by decide+kernel
theorem jie:jE (jO [121] 0)= [162,123,81,249,137,197,254,151,122,222,58,40,10,186,111,55,198,132,56,129,84,108,168,40,243,202,230,210,155,133,14,85]:=by rw [jll];unfold jE;rw [jlZ,jlF]
theorem jkr:jE [98]≠jE (jO [121] 0):=by rw [jk3,jie];decide
end
section
open Go.ChangeShapes Go.WideShapes Go.ChangeAt Go.RowKit Go.Deep Go.Maps
def jb4 (xs:List UInt8):Nat->List UInt8
 | 0=> [98]
 | k+1=>jO xs k
theorem jfN {p n:Int}(h:0<=p/\p<=1000000) (h':0<=n/\n<=1000000):okH p n=true:=by
 unfold okH upB;simp
 omega
structure Insy (xs ys:List UInt8) (k j:Nat) (s u:Rt) (m:Nat):Prop where
 ins:Insync s u (jb4 xs k) (jb4 ys j)
 rm:u.rm=s.sm
 rev:s.ri=true->u.sm<=s.rm
 b1:s.sm<=m
 b2:0<=u.sm/\u.sm<=m
 b3:0<=s.bf/\s.bf<=m
theorem Insy.sm0 {xs ys:List UInt8}{k j m:Nat}{s u:Rt}(h:Insy xs ys k j s u m):0<=s.sm:=by have:=h.ins.rm;omega
structure Said (s u:Rt) (pr text bs pk:List UInt8) (bf sm:Int) (SB:List UInt8) (S' U':Rt) (pp:Int):Prop where
 lp:pk.length=32
 e:qW s pr text=0
 h:yI s pr text=hdC pk bf sm
 b:yH s pr bs text=SB
 s:yj s pr text=S'
 l:SB.length=text.length+32
 re:yt ⟨u,[],pp⟩ bs pk bf sm SB=0
 rt:Ym ⟨u,[],pp⟩ bs pk bf sm SB=text
 rs:zf ⟨u,[],pp⟩ bs pk bf sm SB=⟨U',[],pp⟩
theorem jaN {x y:List UInt8}{s u T:Rt}{pr text bs:List UInt8}{pp:Int}(ha:Ahead T u x y) (h0:T.sm=0) (hk:okH T.bf 0=true)
 (e:qW s pr text=0) (eS:yj s pr text=jW T) (eH:yI s pr text=hdC T.pub T.bf T.sm) (eB:∀ bs,yH s pr bs text=qA (jM T.sc qd) (qb bs T.pub T.bf T.sm) text):
 ∃ S' U' SB,Said s u pr text bs (jE x) T.bf 0 SB S' U' pp/\S'.sm=1/\S'.bf=T.bf/\S'.ri=T.ri/\S'.rm=T.rm/\U'.sm=u.sm/\Insync S' U' x y/\U'.rm=S'.sm:=by
 obtain ⟨r1,r2,r3,r4,r5⟩:=jal ha h0 pp bs text (by rw [h0];exact hk);have f4:=(QX ha).2.2.2;have hp:=jaE ha.own;have eB':=eB bs;rw [hp,h0] at eH eB';rw [h0] at r1 r2 r3;generalize za u (jE x)=F at *;have hS:(jW T).sm=1:=by show T.sm+1=1;rw [h0];rfl
 have hU:(yX F).sm=u.sm:=f4;have l:=JV (jM T.sc qd) (qb bs (jE x) T.bf 0) text;generalize qA (jM T.sc qd) (qb bs (jE x) T.bf 0) text=SB at *;exact ⟨jW T,yX F,SB,⟨YH x,e,eH,eB',eS,l,r1,r2,r3⟩,hS,rfl,rfl,rfl,hU,r4,r5⟩
theorem jbK {xs ys:List UInt8}{k j m:Nat}{s u:Rt}(h:Insy xs ys k j s u m) (hm:m<=1000){text:List UInt8}(ht:text.length<=300){z:List UInt8}(hzz:z=jO ys j) (hz:jE z≠jE (jb4 ys j)) (bs:List UInt8) (pp:Int):
 ∃ S' U' SB,Said u s (j3 z) text bs (jE z) u.sm 0 SB S' U' pp/\yg u text j=j+1/\S'.sm=1/\S'.bf=u.sm/\U'.sm=s.sm/\Insy ys xs (j+1) k S' U' (m+1):=by
 have h0:=h.sm0;have hb1:=h.b1;have hb2:=h.b2;obtain ⟨t1,t2,t3,t4,t5,t6⟩:=jff h.ins h.rm h.rev hz;have hk0:okH u.sm 0=true:=jfN (by omega) (by omega);have hk:okH (qg u (j3 z)).bf (qg u (j3 z)).sm=true:=by rw [t3,t4];exact hk0
 obtain ⟨e,eS,eH,eB,eK⟩:=jix (p:=j3 z) h.ins.umt t1 ht hk;generalize qg u (j3 z)=T at *;obtain ⟨S',U',SB,q1,q2,q3,q4,q5,q6,q7,q8⟩:=jaN (bs:=bs) (pp:=pp) t2 t3 (by rw [t4];exact hk0) e eS eH eB;rw [t4] at q1 q3;have cs:jb4 ys (j+1)=z:=hzz.symm;refine ⟨S',U',SB,q1,eK j,q2,q3,q6,⟨by rw [cs];exact q7,q8,?_,?_,?_,?_⟩⟩
 ·intro _;rw [q6,q5,t6];exact jrl _
 ·rw [q2];omega
 ·rw [q6];omega
 ·rw [q3];omega
theorem jeW (shared:List UInt8){text:List UInt8}(ht:text.length<=300){z:List UInt8}(hzz:z=jO [120] 0) (pr bs:List UInt8) (pp:Int):
 ∃ S' U' SB,Said (J2 shared) (YB shared zP) pr text bs (jE z) 0 0 SB S' U' pp/\yg (J2 shared) text 1=1/\S'.sm=1/\S'.bf=0/\U'.sm=0/\Insy [120] [121] 1 0 S' U' 1:=by
 obtain ⟨t2,t3,t4,t5⟩:=Zw shared;have cs:jb4 [120] 1=z:=hzz.symm;rw [<-hzz] at t2;have u0:(YB shared zP).sm=0:=rfl;generalize YB shared zP=u at *;generalize J2 shared=T at *;have hk:okH T.bf T.sm=true:=by rw [t3,t4];rfl
 obtain ⟨e,eS,eH,eB,eK⟩:=jeZ (p:=pr) t2.si t2.mt ht hk;obtain ⟨S',U',SB,q1,q2,q3,q4,q5,q6,q7,q8⟩:=jaN (bs:=bs) (pp:=pp) t2 t3 (by rw [t4];rfl) e eS eH eB;rw [t4] at q1 q3;rw [u0] at q6;refine ⟨S',U',SB,q1,eK 1,q2,q3,q6,⟨by rw [cs];exact q7,q8,?_,?_,?_,?_⟩⟩
 ·intro y;rw [q4,t5] at y;cases y
 ·rw [q2];decide
 ·rw [q6];decide
 ·rw [q3];decide
def jf3 (shared:List UInt8) (k j:Nat) (s u:Rt) (m:Nat):Prop:=
 (m=0/\k=1/\j=0/\s=J2 shared/\u=YB shared zP)\/(k=j+1/\k+j<=m+1/\Insy [120] [121] k j s u m)\/(k=j/\1<=k/\k+j<=m+1/\Insy [121] [120] j k u s m)
end
end Go.Proofs.YtakpgbaijkhpmaaGreatDoor
