import Derived.Test.YtakpgbaijkhpmaaGreatDoorPkAA
import Derived.Defers
import Derived.Laws.Pointers
import Derived.Laws.LoneSync
import Derived.RegionTactic
import Derived.RegionCalls
import Derived.Test.YtakpgbaijkhpmaaGreatDoorPkAH
import Derived.Test.YtakpgbaijkhpmaaGreatDoorPkAB
import Derived.Deep.DeepCutAuto
import Derived.Deep.DeepHandedRow
open And renaming intro→jqS
open Array renaming all_eq_true_iff_forall_mem→jpV,getElem?_eq_none→jpv,getElem?_toList→jpU,replicate→jpW
open Bool renaming and_eq_true→jpK,not_eq_true'→jpL
open Go renaming Program→jpB,TypeId→jpC,below_setRow→jqb,bodyPost_ret→jqW,cell_of_row→jqe,execOp→jpY,heap_alloc_new→jqq,results_cell_row→jqX,setRow_heap→jqc,setRow_other→jqy,splice→jp9,wpList_store_mid→jrj,wp_store_row→jrf,zeroValue→jpI
open Go.Act renaming put→jpR
open Go.Exit renaming inBlock→jqV
open Go.Instr renaming fill→jqo
open Go.IntWalk renaming i64_in→jq0
open Go.Obj renaming cells→jqY
open Go.Proofs.Tryz renaming prog→jpx,underlying23→jqD
open Go.Region renaming ready→jpS,wanted→jpX
open Go.RowKit.Below renaming heap_setCell→jp7,refl→jpm,trans→jpn
open Go.Value renaming agg→jqp,bool→jri
open Go.World.grownBy renaming refl→jpZ
open Int renaming tdiv_eq_ediv_of_nonneg→jq3,tmod_eq_emod_of_nonneg→jq4
open List renaming all_eq_true→jp2,append_assoc→jqd,append_of_mem→jrk,eq_nil_of_length_eq_zero→jpw,getD→jpr,getD_eq_getElem?_getD→jra,getElem?_append_left→jqs,getElem?_append_right→jqr,getElem?_eq_none→jqa,getElem?_eq_some_iff→jqx,getElem?_map→jpT,getElem?_toArray→jqt,length_append→jpG,length_set→jp5,map_append→jqw,map_cons→jqA,map_nil→jqF,map_toArray→jqE,mem_append→jpH,mem_cons→jpE,mem_cons_of_mem→jqC,mem_cons_self→jqB,mem_map→jpN,nil_append→jq8,range→jp1,replicate→jqn,take_left'→jqv
open Nat renaming add_zero→jpP,div_div_eq_div_mul→jqQ,le_of_eq→jre,le_of_lt→jqU,le_refl→jpo,le_trans→jp0,lt_of_le_of_lt→jp4,lt_of_lt_of_le→jpq,mod_eq_of_lt→jqM,mod_lt→jp3,mul_comm→jqI,pow_succ→jqN,zero_add→jpz,zero_le→jpp
open Option.some renaming inj→jpD
open UInt8 renaming ofNat→jpt
namespace Go.Proofs.YtakpgbaijkhpmaaGreatDoor
set_option maxHeartbeats 64000000
set_option linter.unusedSimpArgs false
set_option linter.unusedVariables false
set_option maxRecDepth 100000
section
open Go.ChangeShapes Go.WideShapes Go.ChangeAt Go.RowKit Go.Deep
theorem jdm (w:World):(callFunc 186 #[]).run jpx w= .ok (.value (.tuple #[])) w:=run_call_mark0 Tryz.func186 (by kernel_rfl) (by kernel_rfl) (by kernel_rfl) .disable (by kernel_rfl) w
theorem jfM (w:World):(callFunc 188 #[]).run jpx w= .ok (.value (.tuple #[])) w:=run_call_mark0 Tryz.func188 (by kernel_rfl) (by kernel_rfl) (by kernel_rfl) .enable (by kernel_rfl) w
theorem jhU (a:Addr) (w:World):(callFunc 189 #[.pointer (some a)]).run jpx w= .ok (.value (.tuple #[])) w:=run_call_marked Tryz.func189 (by kernel_rfl) (by kernel_rfl) (by kernel_rfl) .acquire (by kernel_rfl) a w
theorem jbi (a:Addr) (w:World):(callFunc 191 #[.pointer (some a)]).run jpx w= .ok (.value (.tuple #[])) w:=run_call_marked Tryz.func191 (by kernel_rfl) (by kernel_rfl) (by kernel_rfl) .releaseMerge (by kernel_rfl) a w
theorem ZY (a:Addr) (x:Value) (u:FrameMode) (w:World) (hc:w.cell? a=some x) (hz:w.frozen? a=false):
 CallsD jpx 175 #[.pointer (some a), .bool true] u w fun e u' w'=>u'=u/\(e= .returned (.tuple #[])/\w'=w.drew.setCell a (.int .u32 1)):=by
 have hc':w.drew.cell? a=some x:=by go_simp
 have hz':w.drew.frozen? a=false:=by go_simp
 have hst:=run_call_store (P:=jpx) Tryz.func184 (by kernel_rfl) (by kernel_rfl) (by kernel_rfl) (by kernel_rfl) (k:= .u32) (y:=1) hc' hz';go_enter_d Tryz.func175,Tryz.ntmps175
 go_wp2
 go_region_calls
 all_goals (go_end0;exact ⟨rfl,rfl⟩)
theorem Zk (a:Addr) (u:FrameMode) (w:World) (hc:w.cell? a=some (.int .i32 1)) (hz:w.frozen? a=false):
 CallsD jpx 174 #[.pointer (some a)] u w fun e u' w'=>u'=u/\(e= .returned (.tuple #[])/\w'=w.setCell a (.int .i32 0)):=by
 have hd:=jdm;have he:=jfM;have hr:=jbi;have hadd:=run_call_add (P:=jpx) Tryz.func192 (by kernel_rfl) (by kernel_rfl) (by kernel_rfl) .i32 (by kernel_rfl) (y:= -1) (s:=0) hc hz (by simp [go_sem];rfl);have hcv:=run_convert_to_unsafe (P:=jpx) (src:=274) (dst:=278) Tryz.underlying274 Tryz.underlying278 (by kernel_rfl) hc;go_enter_d Tryz.func174,Tryz.ntmps174
 go_wp2
 go_end0
 go_wp2
 go_end0
 exact ⟨rfl,rfl⟩
theorem jeF (a:Addr) (w:World) (hc:w.cell? a=some (.int .i32 0)) (hz:w.frozen? a=false):
 Calls jpx 173 #[.pointer (some a)] w fun e w'=>e= .returned (.tuple #[])/\w'=w.setCell a (.int .i32 1):=by
 have hd:=jdm;have he:=jfM;have ha:=jhU;have hcas:=run_call_cas_hit (P:=jpx) Tryz.func187 (by kernel_rfl) (by kernel_rfl) (by kernel_rfl) .i32 (by kernel_rfl) (y:=1) hc hz;have hc':(w.setCell a (.int .i32 1)).cell? a=some (.int .i32 1):=World.cell?_setCell_same w a _ hc;have hcv:=run_convert_to_unsafe (P:=jpx) (src:=274) (dst:=278) Tryz.underlying274 Tryz.underlying278 (by kernel_rfl) hc';go_enter Tryz.func173,Tryz.ntmps173
 go_wp2
 first | go_end0 | (simp only [jqV,Exit.then];refine jqW (results_none rfl _ _ _) rfl ?_) | refine jqW (results_none rfl _ _ _) rfl ?_
 go_wp2
 go_end0
 exact ⟨rfl,rfl⟩
set_option maxRecDepth 100000 in
theorem jbL {A:Option Addr}{m d:Nat}{bs:List UInt8}{w:World}(h:Bs w A m d bs){tg:jpC×Nat×Nat}(hG:Gl w tg):
 Calls jpx 156 #[.slice A m d] w fun e w'=>e= .returned (.agg (cellsOf (jC [] bs)).toArray)/\Ext w w':=by
 have hal:∀ w,(jpI 23).run jpx w= .ok (.agg jr) w:=fun _=>by kernel_rfl
 have HL:(cellsOf (jC [] bs)).toArray.size=32:=by simp [ja,qr]
 have H1:=ji (jC [] bs);have CALL:Hid (Calls jpx 95 #[.slice none 0 0, .slice A m d] (w.alloc (jqY jr 23)) fun e w'=>e= .returned (.tuple #[.agg (cellsOf (jC [] bs)).toArray, .int .i64 0])/\Ext (w.alloc (jqY jr 23)) w'):=
  Zi (Bs.nil _) (h.ext ((jnQ w).alloc _)) (by omega) (hG.kept ((jnQ w).alloc _) hG.lt)
 clear hG;have hz0:=j7;generalize jr=Z at *;generalize (cellsOf (jC [] bs)).toArray=D at *;go_enter Tryz.func156,Tryz.ntmps156
 go_wp2_with fail;refine CALL.out.mono ?_;rintro e w1 ⟨rfl,e1⟩;have r0:=Hj ((e1.block w.heap.size (by rw [je];omega)).trans (jqq w (jqY Z 23)));have r1:Hid (((w1.alloc (jqY Z 23)).setRow w1.heap.size D).heap[w.heap.size]? =some (jqY Z 23)):=(jqy _ _ _ _ (Nat.ne_of_lt (jh r0.out))).trans (((jnQ w1).alloc _ |>.block _ (jh r0.out)).trans r0.out);clear CALL;go_wp2_with (first
  | refine ws_ rfl 23 rfl w1.heap.size D rfl rfl (by with_reducible exact jqq _ _) (by rw [HL];rfl) (by rw [HL];exact hz0) H1 ?_
  | refine wl_ rfl 23 rfl w1.heap.size rfl (by with_reducible exact jqc _ _ _ _ _ _ (jqq _ _)) rfl rfl (by rw [HL];rfl) ?_
  | refine ws_ rfl 23 rfl w.heap.size D rfl rfl (by with_reducible exact r1.out) (by rw [HL];rfl) (by rw [HL];exact hz0) H1 ?_)
 (try simp only [jqV,Exit.then]);refine jqW (jqX rfl _ _ w.heap.size 23 D (0,0) _ rfl (jqc _ _ _ _ _ _ r1.out) rfl rfl (by rw [HL];rfl)) rfl ?_;exact ⟨rfl,jqb (jqb ((((jnQ w).alloc _).trans e1).alloc _) (jqU (jh r0.out)) _) (jpo _) _⟩
theorem Sb.drew {w:World}{g n c m:Nat}{A:Option Addr}{d s:Int}{rt:List UInt8}(h:Sb w g A n c d s rt m):Sb w.drew g A n c d s rt m:=⟨h.1,h.2⟩
theorem Bs.grownK {w w':World}{A:Option Addr}{n c g:Nat}{xs:List UInt8}(h:Bs w A n c xs) (k:w.grownBy w' (some g)) (hne:∀ a,A=some a->a.block≠g):Bs w' A n c xs:=
 ⟨h.1,h.2.1,h.2.2.1,fun hn=>by
   obtain ⟨b,off,e,hb,hc⟩:=h.2.2.2 hn;refine ⟨b,off,e,jpq hb k.size,fun j hj=> ?_⟩;have hk:=k.block b hb (fun q=>hne _ e (by cases q;rfl));have:=hc j hj;unfold World.cell? at this ⊢;rw [show (⟨b,off+j,none⟩:Addr).block=b from rfl] at this ⊢;rw [hk];exact this⟩
theorem jaZ {w:World}{g n c m:Nat}{A:Option Addr}{d s:Int}{rt xs:List UInt8}(h:Sb w g A n c d s rt m) (hb:Bs w A n c xs){tg:jpC×Nat×Nat}(hG:Gl w tg):
 Calls jpx 135 #[.pointer (some ⟨g,0,none⟩)] w fun e w'=>e= .returned (.tuple #[])/\w.grownBy w' (some g)/\Sb w' g none 0 0 d s (jC [] xs) m:=by
 have SUM:=Hj (jbL hb hG);clear hG hb;have L_rk:=qr [] xs;generalize jC [] xs=rk at *;have S_rk:(cellsOf rk).toArray.size=32:=by simp [ja,L_rk]
 have O_rk:=ji rk;have c0:=h.cell0;replace h:=Hj h;go_enter Tryz.func135,Tryz.ntmps135
 go_wp2_with fail;refine SUM.out.mono ?_;rintro e w1 ⟨rfl,e1⟩;have h1:=Hj (h.out.ext e1);have g1:Hid (w.grownBy w1 (some g)):=jD e1;clear SUM h e1 c0;go_upto_region 1 with (refine jrj rfl 23 _ _ rfl g 4 (cellsOf rk).toArray rfl rfl (by rw [S_rk];exact h1.out.there) (by rw [S_rk];rfl) O_rk ?_;simp only [jpR])
 refine jg (fun W=>Sb W g A n c d s rk m/\w.grownBy W (some g)) ⟨h1.out.setRoot L_rk,jt g1.out ju⟩ ?_;clear h1 g1;rintro w2 ⟨h,g2⟩;have c0:=h.cell0;have f0:=h.frozen 0;have h3:=Hj (h.set0 none 0 0);have g3:Hid (w.grownBy (w2.setCell ⟨g,0,none⟩ (.slice none 0 0)) (some g)):=jt g2 jP;clear h g2;go_wp2_with fail;go_end0
 exact ⟨rfl,g3.out,h3.out⟩
theorem jb8 {w:World}{g n c m:Nat}{A:Option Addr}{rt xs:List UInt8}(h:Sb w g A n c 0 0 rt m) (hb:Bs w A n c xs) (hne:∀ a,A=some a->a.block≠g){tg:jpC×Nat×Nat}(hG:Gl w tg) (hGk:∀ W,w.grownBy W (some g)->Gl W tg):
 Calls jpx 159 #[.pointer (some ⟨g,1,none⟩), .func (.func 135) #[.pointer (some ⟨g,0,none⟩)] #[]] w fun e w'=>e= .returned (.tuple #[])/\w.grownBy w' (some g)/\Sb w' g none 0 0 1 0 (jC [] xs) m:=by
 have hnot:∀ (x:Bool) (w:World),(Op.unary .not (.bool x)).run jpx w= .ok (.bool (!x)) w:=fun _ _=>rfl
 have hB:=Hj hb;have hN:=Hj hne;have hK:=Hj hGk;clear hb hne hGk hG;have LK:=Hj (jeF ⟨g,2,none⟩ w h.cell2 (h.frozen 2));replace h:=Hj h;go_enter_defers Tryz.func159,Tryz.ntmps159
 go_wp2_with fail;refine LK.out.mono ?_;rintro e w' ⟨rfl,rfl⟩;go_upto_region 1 with fail;refine jg (fun W=>Sb W g A n c 0 1 rt m/\w.grownBy W (some g)) ⟨h.out.set2 1,jP⟩ ?_;clear h LK;rintro w1 ⟨h,g1⟩;have hl:=run_call_load (P:=jpx) Tryz.func172 (by kernel_rfl) (by kernel_rfl) (by kernel_rfl) .u32 (by kernel_rfl) (w:=w1) (a:=⟨g,1,none⟩) (x:=0) h.cell1;have TK:=Hj (jaZ h (hB.out.grownK g1 hN.out) (hK.out _ g1));clear h hB hN hK;replace g1:=Hj g1;go_wp2_with (go_at_call 158;go_in)
 refine TK.out.mono ?_;rintro e w2 ⟨rfl,g2,h2⟩;have gg:=Hj (jt g1.out g2);have s1:=Hj (h2.drew.set1 1);have s2:=Hj (s1.out.set2 0);clear g1 g2 TK;go_wp2_with fail;refine leaves_cons (f:=175) (args:= #[.pointer (some ⟨g,1,none⟩), .bool true]) (by simp) (by simp [go_sem]) ?_;refine (ZY ⟨g,1,none⟩ (.int .u32 0) .returning _ h2.cell1 (h2.frozen 1)).mono ?_;rintro e u' w'' ⟨rfl,rfl,rfl⟩;refine leaves_cons (f:=174) (args:= #[.pointer (some ⟨g,2,none⟩)]) (by simp [settle]) (by simp [go_sem]) ?_;refine (Zk ⟨g,2,none⟩ _ _ s1.out.cell2 (s1.out.frozen 2)).mono ?_;rintro e u' w'' ⟨rfl,rfl,rfl⟩;simp [Leaves,settle,results,Tryz.results159]
 exact ⟨jt (jt (jaj gg.out) jP) jP,s2.out⟩
theorem jhi {w:World}{g n c m:Nat}{A:Option Addr}{rt xs:List UInt8}(h:Sb w g A n c 0 0 rt m) (hb:Bs w A n c xs) (hne:∀ a,A=some a->a.block≠g){tg:jpC×Nat×Nat}(hG:Gl w tg) (hGk:∀ W,w.grownBy W (some g)->Gl W tg):
 Calls jpx 134 #[.pointer (some ⟨g,1,none⟩), .func (.func 135) #[.pointer (some ⟨g,0,none⟩)] #[]] w fun e w'=>e= .returned (.tuple #[])/\w.grownBy w' (some g)/\Sb w' g none 0 0 1 0 (jC [] xs) m:=by
 have hnot:∀ (x:Bool) (w:World),(Op.unary .not (.bool x)).run jpx w= .ok (.bool (!x)) w:=fun _ _=>rfl
 have hl:=run_call_load (P:=jpx) Tryz.func172 (by kernel_rfl) (by kernel_rfl) (by kernel_rfl) .u32 (by kernel_rfl) (w:=w) (a:=⟨g,1,none⟩) (x:=0) h.cell1;have SL:=Hj (jb8 h hb hne hG hGk);clear h hb hne hG hGk;go_enter Tryz.func134,Tryz.ntmps134
 go_wp2_with (first | (go_at_call 159;refine SL.out.mono ?_;rintro e w2 ⟨rfl,g2,h2⟩) | (go_at_call 158;go_in))
 go_end0
 exact ⟨rfl,g2,h2⟩
theorem jiY {w:World}{g n c m:Nat}{A:Option Addr}{s:Int}{rt:List UInt8}{fv:Value}(h:Sb w g A n c 1 s rt m):
 Calls jpx 134 #[.pointer (some ⟨g,1,none⟩),fv] w fun e w'=>e= .returned (.tuple #[])/\w'=w:=by
 have hnot:∀ (x:Bool) (w:World),(Op.unary .not (.bool x)).run jpx w= .ok (.bool (!x)) w:=fun _ _=>rfl
 have hl:=run_call_load (P:=jpx) Tryz.func172 (by kernel_rfl) (by kernel_rfl) (by kernel_rfl) .u32 (by kernel_rfl) (w:=w) (a:=⟨g,1,none⟩) (x:=1) h.cell1;clear h;go_enter Tryz.func134,Tryz.ntmps134
 go_wp2_with (go_at_call 158;go_in)
 go_end0
 exact ⟨rfl,rfl⟩
end
section
structure Ent where
 i:Nat
 d:Nat
 Φ:Value->World->Prop
 nw:Bool:=false
def blk:Value->Option Nat
 | .pointer (some a)=>some a.block
 | .slice (some a) _ _=>some a.block
 | .map (some b)=>some b
 | _=>none
def Zj (L:List Ent) (i:Nat):Bool:=L.any fun e=>e.i==i&&e.nw
def ZD (a0:Act) (s:Nat):List Ent->Value->World->Prop
 | [],u,_=>u=a0.tmps.getD s undef
 | e::r,u,w=>if e.d==s+1 then e.Φ u w else ZD a0 s r u w
def jgY (v:Nat->Value) (w:World):List Ent->Prop
 | []=>True
 | e::r=>e.Φ (v e.i) w/\jgY v w r
def zv:Nat->Option Nat
 | 0=>none
 | d+1=>some d
def yQ (a0:Act) (v:Nat->Value):List Ent->Act
 | []=>a0
 | e::r=>(yQ a0 v r).put (zv e.d) (v e.i)
section
variable {P:jpB}{ops:Array Oper}{Q:Exit->Act->World->Prop}
def Ob (P:jpB) (ops:Array Oper) (Q:Exit->Act->World->Prop) (R:World->World->Prop) (w0:World) (a0:Act) (L:List Ent) (i:Nat) (nw:Bool) (Φ:Value->World->Prop):Prop:=
 ∀ o,ops[i]? =some o->∀ a w,R w0 w->(∀ s,(o.looksAt ops).contains s=true->ZD a0 s L (a.tmps.getD s undef) w)->
   wpOp P ops Q i (fun a' w'=>∃ v,a'=a.put o.dst v/\R w w'/\Φ v w'/\(nw=true->∀ g,blk v=some g->w.heap.size<=g)) a w
def jcQ (P:jpB) (ops:Array Oper) (Q:Exit->Act->World->Prop) (R:World->World->Prop) (w0:World) (a0:Act) (L:List Ent) (e:Ent):Prop:=
 (∀ o,ops[e.i]? =some o->QC o=e.d)/\(∀ u w w',e.Φ u w->R w w'->e.Φ u w')/\Ob P ops Q R w0 a0 L e.i e.nw e.Φ/\(e.nw=true->e.d≠0/\∀ u w,e.Φ u w->∃ g,blk u=some g/\g < w.heap.size)
def Qa (P:jpB) (ops:Array Oper) (Q:Exit->Act->World->Prop) (R:World->World->Prop) (w0:World) (a0:Act) (F:List Ent->Prop):List Ent->List Nat->Prop
 | L,[]=>F L
 | L,i::r=>∃ Φ d nw,jcQ P ops Q R w0 a0 L ⟨i,d,Φ,nw⟩/\Qa P ops Q R w0 a0 F (⟨i,d,Φ,nw⟩::L) r
def jgZ (P:jpB) (ops:Array Oper) (Q:Exit->Act->World->Prop) (R:World->World->Prop) (w0:World) (a0:Act):List Ent->Prop
 | []=>True
 | e::r=>jcQ P ops Q R w0 a0 r e/\jgZ P ops Q R w0 a0 r
theorem jfy {R:World->World->Prop}{w0:World}{a0:Act}{F:List Ent->Prop}:∀ (r:List Nat) (L:List Ent),Qa P ops Q R w0 a0 F L r->jgZ P ops Q R w0 a0 L->∃ L',jgZ P ops Q R w0 a0 L'/\L'.map (·.i)=r.reverse++L.map (·.i)/\F L'
 | [],L,h,hc=>⟨L,hc,by simp,h⟩
 | i::r,L,⟨Φ,d,nw,hg,h⟩,hc=>by
   obtain ⟨L',h1,h2,h3⟩:=jfy r _ h ⟨hg,hc⟩;exact ⟨L',h1,by rw [h2];simp,h3⟩
def jkw (D:List (Nat×Nat×Nat)) (pre:List Nat):Bool:=
 (jp1 D.length).all fun i=>match D[i]? with
   | none=>false
   | some x=>(jp1 D.length).all fun k=> !(pre.getD i 0).testBit k||x.1.testBit k||(jp1 D.length).any fun d=>x.1.testBit d&&(pre.getD d 0).testBit k
def jbt (D:List (Nat×Nat×Nat)) (pre:List Nat) (i:Nat) (r:List Nat):Bool:=
 match D[i]? with
 | none=>false
 | some x=>(jp1 D.length).all (fun k=> !x.1.testBit k||r.contains k)&&r.all fun j=>match D[j]? with
    | none=>false
    | some y=>(y.2.1==0|| !x.2.2.testBit y.2.1||(pre.getD i 0).testBit j)&&(x.2.1==0|| !y.2.2.testBit x.2.1||(pre.getD i 0).testBit j)&&(x.2.1==0||x.2.1 !=y.2.1)&&i !=j
def okB (D:List (Nat×Nat×Nat)) (pre:List Nat):List Nat->Bool
 | []=>true
 | i::r=>jbt D pre i r&&okB D pre r
def zB (D:List (Nat×Nat×Nat)) (pre:List Nat) (es Z:List Nat):Bool:=
 (jp1 D.length).all fun i=>es.contains i||(Z.contains i&&es.all fun j=>(pre.getD i 0).testBit j)
theorem jeI {D:List (Nat×Nat×Nat)}{pre:List Nat}:∀ {a:List Nat}{i:Nat}{r:List Nat},okB D pre (a++i::r)=true->jbt D pre i r=true
 | [],i,r,h=>by simp only [jq8,okB,jpK] at h;exact h.1
 | b::a,i,r,h=>by simp only [List.cons_append,okB,jpK] at h;exact jeI h.2
theorem JM {D:List (Nat×Nat×Nat)}{pre:List Nat}{i j:Nat}{r:List Nat}{x y:Nat×Nat×Nat}(h:jbt D pre i r=true) (hx:D[i]? =some x) (hj:j∈r) (hy:D[j]? =some y):
 (∀ s,y.2.1=s+1->x.2.2.testBit (s+1)=true->(pre.getD i 0).testBit j=true)/\(∀ s,x.2.1=s+1->y.2.2.testBit (s+1)=true->(pre.getD i 0).testBit j=true)/\(∀ s,x.2.1=s+1->y.2.1≠s+1)/\i≠j:=by
 unfold jbt at h;rw [hx] at h;simp only [jpK] at h;have h2:=jp2.1 h.2 j hj;rw [hy] at h2;simp only [jpK,Bool.or_eq_true,beq_iff_eq,jpL,bne_iff_ne,ne_eq] at h2;obtain ⟨⟨⟨q1,q2⟩,q3⟩,q4⟩:=h2;refine ⟨fun s e b=> ?_,fun s e b=> ?_,fun s e e'=> ?_,q4⟩
 ·rcases q1 with (q | q) | q
  ·omega
  ·rw [e,b] at q;cases q
  ·exact q
 ·rcases q2 with (q | q) | q
  ·omega
  ·rw [e,b] at q;cases q
  ·exact q
 ·rcases q3 with q | q
  ·omega
  ·exact q (by rw [e,e'])
theorem jdj {a0:Act}{s:Nat}{u:Value}{w:World}:∀ {L:List Ent},(∀ e∈L,e.d=s+1->e.Φ u w)->((∀ e∈L,e.d≠s+1)->u=a0.tmps.getD s undef)->ZD a0 s L u w
 | [],_,h=>h (by simp)
 | e::r,h1,h2=>by
   unfold ZD;by_cases hd:e.d=s+1
   ·rw [if_pos (by simp [hd])];exact h1 e (jqB ..) hd
   ·rw [if_neg (by simp [hd])];exact jdj (fun e he=>h1 e (jqC _ he)) fun hn=>h2 fun e' he'=>by
     rcases jpE.1 he' with rfl | q
     ·exact hd
     ·exact hn e' q
theorem zU {R:World->World->Prop}{w0:World}{a0:Act}:∀ {A:List Ent}{e:Ent}{B:List Ent},jgZ P ops Q R w0 a0 (A++e::B)->jcQ P ops Q R w0 a0 B e
 | [],_,_,h=>h.1
 | _::_,_,_,h=>zU h.2
structure Inv (ops:Array Oper) (R:World->World->Prop) (w0:World) (a0:Act) (pre:List Nat) (L:List Ent) (done:Nat) (listed:Array Bool) (a:Act) (w:World):Prop where
 hL:Listed ops.size done listed
 hR:R w0 w
 h2:∀ e∈L,done.testBit e.i=true->∃ v,e.Φ v w/\∀ s,e.d=s+1->a.tmps.getD s undef=v
 h3:∀ s,(∀ e∈L,done.testBit e.i=true->e.d≠s+1)->a.tmps.getD s undef=a0.tmps.getD s undef
 h4:a.tmps.size=a0.tmps.size/\a.defers=a0.defers
 h5:∀ i,i < ops.size->done.testBit i=true->∀ k,k < ops.size->(pre.getD i 0).testBit k=true->done.testBit k=true
 h6:∀ i,done.testBit i=true->i∈L.map (·.i)
 h7:∀ e∈L,∀ e'∈L,e.i≠e'.i->done.testBit e.i=true->done.testBit e'.i=true->e.nw=true->e'.nw=true->blk (a.tmps.getD (e.d - 1) undef)≠blk (a.tmps.getD (e'.d - 1) undef)
theorem YE {a:Act}{s:Nat}{v:Value}(h:s < a.tmps.size):(a.put (some s) v).tmps.getD s undef=v:=by simp [jpR,Array.getD,h]
theorem yr {a:Act}{d:Option Nat}{s:Nat}{v:Value}(h:d≠some s):(a.put d v).tmps.getD s undef=a.tmps.getD s undef:=by
 cases d with
 | none=>rfl
 | some d=>
   have:d≠s:=fun e=>h (by rw [e])
   simp only [jpR,Array.getD_eq_getD_getElem?,Array.getElem?_setIfInBounds,if_neg this]
theorem jdx {a:Act}{d:Option Nat}{v:Value}:(a.put d v).tmps.size=a.tmps.size:=by cases d <;> simp [jpR]
theorem jaH {a:Act}{d:Option Nat}{v:Value}:(a.put d v).defers=a.defers:=by cases d <;> rfl
theorem jkf {o:Oper}{s:Nat}:QC o=s+1↔o.dst=some s:=by
 unfold QC
 cases o.dst with
 | none=>simp
 | some d=>simp
theorem jah {done:Nat}:∀ {es:List Nat},(∃ i∈es,done.testBit i=false)->∃ A i r,es=A++i::r/\done.testBit i=false/\∀ j∈r,done.testBit j=true
 | [],h=>by obtain ⟨_,h,_⟩:=h;simp at h
 | b::es,h=>by
   by_cases h':∃ i∈es,done.testBit i=false
   ·obtain ⟨A,i,r,rfl,h1,h2⟩:=jah h';exact ⟨b::A,i,r,rfl,h1,h2⟩
   ·obtain ⟨i,hi,hd⟩:=h;rcases jpE.1 hi with rfl | q
    ·exact ⟨[],i,es,rfl,hd,fun j hj=>by
      cases hb:done.testBit j with
      | true=>rfl
      | false=>exact absurd ⟨j,hj,hb⟩ h'⟩
    ·exact absurd ⟨i,q,hd⟩ h'
def left (done:Nat) (es:List Nat):Nat:=(es.filter fun i=> !done.testBit i).length
theorem jbB {done:Nat}{es:List Nat}(h:left done es=0):∀ i∈es,done.testBit i=true:=fun i hi=>by
 cases hb:done.testBit i with
 | true=>rfl
 | false=>
   have:i∈es.filter fun i=> !done.testBit i:=List.mem_filter.2 ⟨hi,by simp [hb]⟩
   rw [jpw h] at this;simp at this
theorem jhL {done k:Nat}{es:List Nat}(h:left done es=k+1):∃ i∈es,done.testBit i=false:=by
 cases hf:es.filter fun i=> !done.testBit i with
 | nil=>unfold left at h;rw [hf] at h;cases h
 | cons i r=>
   have:i∈es.filter fun i=> !done.testBit i:=by rw [hf];simp
   obtain ⟨h1,h2⟩:=List.mem_filter.1 this;exact ⟨i,h1,by simpa using h2⟩
theorem v9 (done i j:Nat):(done|||(1 <<< i)).testBit j=(done.testBit j||decide (i=j)):=by
 rw [Nat.testBit_or,Nat.one_shiftLeft,Nat.testBit_two_pow]
theorem jbA {done i:Nat}:∀ {es:List Nat},es.Nodup->i∈es->done.testBit i=false->left done es=left (done|||(1 <<< i)) es+1
 | [],_,h,_=>by simp at h
 | b::es,hn,h,hd=>by
   obtain ⟨h1,h2⟩:=List.nodup_cons.1 hn;unfold left;rw [List.filter_cons,List.filter_cons,v9];rcases jpE.1 h with rfl | q
   ·have:es.filter (fun j=> !(done|||(1 <<< i)).testBit j)=es.filter fun j=> !done.testBit j:=List.filter_congr fun j hj=>by
     have:i≠j:=fun e=>h1 (e ▸ hj)
     rw [v9];simp [this]
    rw [this];simp [hd]
   ·have hib:i≠b:=fun e=>h1 (e ▸ q)
    have:=jbA h2 q hd;unfold left at this
    cases hb:done.testBit b <;> simp [hib,this]
theorem jh3 {D:List (Nat×Nat×Nat)}{pre:List Nat}(hp:jkw D pre=true){i:Nat}{x:Nat×Nat×Nat}(hi:D[i]? =some x){done:Nat}(hdep:∀ k,x.1.testBit k=true->done.testBit k=true)
 (h5:∀ i,i < D.length->done.testBit i=true->∀ k,(pre.getD i 0).testBit k=true->k < D.length->done.testBit k=true):∀ k,k < D.length->(pre.getD i 0).testBit k=true->done.testBit k=true:=fun k hk hb=>by
 have hil:i < D.length:=(jqx.1 hi).1;have h1:=jp2.1 hp i (List.mem_range.2 hil);rw [hi] at h1;have h2:=jp2.1 h1 k (List.mem_range.2 hk);simp only [Bool.or_eq_true,jpL] at h2;rcases h2 with (q | q) | q
 ·rw [hb] at q;cases q
 ·exact hdep k q
 ·obtain ⟨d,hd,q2⟩:=List.any_eq_true.1 q;rw [jpK] at q2;exact h5 d (List.mem_range.1 hd) (hdep d q2.1) k q2.2 hk
theorem jbz {R:World->World->Prop}(htr:∀ a b c,R a b->R b c->R a c){w0:World}{a0:Act}{D:List (Nat×Nat×Nat)}{pre:List Nat}{L:List Ent}{Z:List Nat}
 (hD:ops.toList.map (vA ops)=D) (hsub:∀ (j:Nat) o,ops[j]? =some o->∀ e∈o.after,e.on < ops.size) (hc:jgZ P ops Q R w0 a0 L) (hn:(L.map (·.i)).Nodup)
 (hp:jkw D pre=true) (hok:okB D pre (L.map (·.i))=true) (hz:zB D pre (L.map (·.i)) Z=true) (hb:∀ e∈L,e.d<=a0.tmps.size) (hes:∀ e∈L,e.i < ops.size)
 (hF:∀ listed done a w,Inv ops R w0 a0 pre L done listed a w->left done (L.map (·.i))=0->wpAny P .any ops Q Z.length listed a w):
 ∀ (k:Nat) (listed:Array Bool) (done:Nat) (a:Act) (w:World),Inv ops R w0 a0 pre L done listed a w->left done (L.map (·.i))=k->wpAny P .any ops Q (k+Z.length) listed a w
 | 0,listed,done,a,w,hi,hk=>by rw [jpz];exact hF listed done a w hi hk
 | k+1,listed,done,a,w,hi,hk=>by
   have hlen:D.length=ops.size:=by rw [<-hD];simp
   have hDi:∀ (j:Nat) oj,ops[j]? =some oj->D[j]? =some (vA ops oj):=fun j oj hj=>by
    rw [<-hD,jpT,jpU,hj];rfl
   obtain ⟨A,i,r,hes',hdi,hr⟩:=jah (jhL hk);rw [show k+1+Z.length=(k+Z.length)+1 by omega];refine ⟨fun h0=> ?_,fun j hj=> ?_⟩
   ·exfalso
    have hci:=jeI (hes' ▸ hok);have hil:i < ops.size:=by
     have:i∈L.map (·.i):=by rw [hes'];simp
     obtain ⟨e,he,rfl⟩:=jpN.1 this;exact hes e he
    have ho:ops[i]? =some ops[i]:=Array.getElem?_eq_getElem hil;have:i∈jpS .any ops listed:=mem_ready.2 ⟨(hi.hL.2 i hil).trans hdi,ops[i],ho,fun e he hbn=>hi.hL.on (by
     have hd:(vA ops ops[i]).1.testBit e.on=true:=(yc ops[i] e.on).2 ⟨e,he,hbn,rfl⟩;unfold jbt at hci;rw [hDi i _ ho] at hci;simp only [jpK] at hci;have:=jp2.1 hci.1 e.on (List.mem_range.2 (by rw [hlen];exact hsub i _ ho e he));rw [hd] at this;simp at this
     exact hr _ this) (hsub i _ ho e he)⟩
    rw [h0] at this
    cases this
   ·obtain ⟨h0,oj,hoj,hall⟩:=mem_ready.1 hj;have hjl:=hi.hL.lt h0;rw [hi.hL.2 j hjl] at h0;have hdep:∀ k,(vA ops oj).1.testBit k=true->done.testBit k=true:=fun k hk=>by
     obtain ⟨e,he,hbn,rfl⟩:=(yc oj k).1 hk;exact hi.hL.off (hall e he hbn)
    have hpre:=jh3 hp (hDi j oj hoj) hdep (fun i hi' hd k hk hkl=>hi.h5 i (by omega) hd k (by omega) hk);have hjes:j∈L.map (·.i):=by
     have h1:=jp2.1 hz j (List.mem_range.2 (by omega));rw [Bool.or_eq_true] at h1;rcases h1 with q | q
     ·simpa using q
     ·exfalso
      rw [jpK] at q;have hi':i∈L.map (·.i):=by rw [hes'];simp
      have h2:=jp2.1 q.2 i hi';have hil:i < ops.size:=by
       obtain ⟨e,he,rfl⟩:=jpN.1 hi';exact hes e he
      rw [hpre i (by omega) h2] at hdi
      cases hdi
    obtain ⟨e,he,rfl⟩:=jpN.1 hjes;obtain ⟨L1,L2,rfl⟩:=jrk he;have hg:=zU hc;have hde:=hg.1 oj hoj;have cond_at:∀ {A:List Ent} {x:Ent} {B:List Ent},L1++e::L2=A++x::B->jbt D pre x.i (B.map (·.i))=true:=fun {A x B} q=>by
     rw [q,jqw,jqA] at hok;exact jeI hok
    have hce:=cond_at (A:=L1) (x:=e) (B:=L2) rfl;have spec2:∀ e'∈L2,∃ o',ops[e'.i]? =some o'/\QC o'=e'.d:=fun e' he'=>by
     have hl:=hes e' (by simp [he']);have ho':ops[e'.i]? =some (ops[e'.i]'hl):=Array.getElem?_eq_getElem hl;obtain ⟨A',B',rfl⟩:=jrk he';have hg':jcQ P ops Q R w0 a0 B' e':=zU (A:=L1++e::A') (by rw [jqd,List.cons_append];exact hc);exact ⟨_,ho',hg'.1 _ ho'⟩
    have hlook:∀ s,(oj.looksAt ops).contains s=true->ZD a0 s L2 (a.tmps.getD s undef) w:=fun s hs=>by
     have hls:(vA ops oj).2.2.testBit (s+1)=true:=(jdk oj s).trans hs;refine jdj (fun e' he' hd'=> ?_) fun hno=> ?_
     ·obtain ⟨o',ho',hdy⟩:=spec2 e' he';have cs:=JM hce (hDi _ _ hoj) (jpN.2 ⟨e',he',rfl⟩) (hDi _ _ ho');have hdd:done.testBit e'.i=true:=hpre e'.i (by have:=hes e' (by simp [he']);omega) (cs.1 s (by rw [<-hd',<-hdy];rfl) hls);obtain ⟨v,hv,hs'⟩:=hi.h2 e' (by simp [he']) hdd;rw [hs' s hd'];exact hv
     ·refine hi.h3 s fun e' he' hd'=> ?_
      rcases jpH.1 he' with q | q
      ·obtain ⟨A',B',rfl⟩:=jrk q;intro hds;have hl:=hes e' (by simp);have ho':ops[e'.i]? =some (ops[e'.i]'hl):=Array.getElem?_eq_getElem hl;have hg':jcQ P ops Q R w0 a0 (B'++e::L2) e':=zU (A:=A') (by rw [<-List.cons_append,<-jqd];exact hc);have hce':=cond_at (A:=A') (x:=e') (B:=B'++e::L2) (by simp);have cs:=JM hce' (hDi _ _ ho') (j:=e.i) (jpN.2 ⟨e,by simp,rfl⟩) (hDi _ _ hoj);have hb':=cs.2.1 s (by rw [<-hds,<-hg'.1 _ ho'];rfl) hls;rw [hi.h5 e'.i hl hd' e.i hjl hb'] at h0
       cases h0
      ·rcases jpE.1 q with rfl | q
       ·rw [hd'] at h0;cases h0
       ·exact hno e' q
    refine wpOp_mono (fun a' w' ⟨v,ha',hR',hΦ,zY⟩=> ?_) (hg.2.2.1 oj hoj a w hi.hR hlook);subst ha';have hdst:∀ s,oj.dst=some s↔e.d=s+1:=fun s=>by rw [<-hde,jkf]
    have hother:∀ e'∈L1++e::L2,done.testBit e'.i=true->∀ s,e'.d=s+1->oj.dst≠some s:=fun e' he' hd' s hs hq=>by
     have hq':=(hdst s).1 hq;rcases jpH.1 he' with q | q
     ·obtain ⟨A',B',rfl⟩:=jrk q;have hl:=hes e' (by simp);have ho':ops[e'.i]? =some (ops[e'.i]'hl):=Array.getElem?_eq_getElem hl;have hg':jcQ P ops Q R w0 a0 (B'++e::L2) e':=zU (A:=A') (by rw [<-List.cons_append,<-jqd];exact hc);have hce':=cond_at (A:=A') (x:=e') (B:=B'++e::L2) (by simp);have cs:=JM hce' (hDi _ _ ho') (j:=e.i) (jpN.2 ⟨e,by simp,rfl⟩) (hDi _ _ hoj);exact cs.2.2.1 s (by rw [<-hs,<-hg'.1 _ ho'];rfl) (by rw [<-hq',<-hde];rfl)
     ·rcases jpE.1 q with rfl | q
      ·rw [hd'] at h0;cases h0
      ·obtain ⟨o',ho',hdy⟩:=spec2 e' q;have cs:=JM hce (hDi _ _ hoj) (jpN.2 ⟨e',q,rfl⟩) (hDi _ _ ho');exact cs.2.2.1 s (by rw [<-hq',<-hde];rfl) (by rw [<-hs,<-hdy];rfl)
    have hstab:∀ e'∈L1++e::L2,∀ u,e'.Φ u w->e'.Φ u w':=fun e' he' u hu=>by
     obtain ⟨A',B',hq⟩:=jrk he';have hg':jcQ P ops Q R w0 a0 B' e':=zU (A:=A') (hq ▸ hc);exact hg'.2.1 u w w' hu hR'
    refine jbz htr hD hsub hc hn hp hok hz hb hes hF k _ (done|||(1 <<< e.i)) _ w' ⟨hi.hL.set hjl,htr _ _ _ hi.hR hR',fun e' he' hd'=> ?_,fun s hs=> ?_,⟨jdx.trans hi.h4.1,jaH.trans hi.h4.2⟩,fun i' hi' hd' k' hkl' hk'=> ?_,fun i' hd'=> ?_,fun x hx y hy hxy hdx hdy hnx hny=> ?_⟩ ?_
    ·rw [v9,Bool.or_eq_true,decide_eq_true_eq] at hd';rcases hd' with q | q
     ·obtain ⟨v',hv',hs'⟩:=hi.h2 e' he' q;exact ⟨v',hstab e' he' v' hv',fun s hs=>by rw [yr (hother e' he' q s hs)];exact hs' s hs⟩
     ·have:e'=e:=by
       rw [jqw,jqA] at hn;have hn2:=List.nodup_append.1 hn;rcases jpH.1 he' with z | z
       ·exact absurd rfl (hn2.2.2 e'.i (jpN.2 ⟨e',z,rfl⟩) e'.i (by rw [<-q];simp))
       ·rcases jpE.1 z with z | z
        ·exact z
        ·exfalso
         refine (List.nodup_cons.1 hn2.2.1).1 ?_;rw [q];exact jpN.2 ⟨e',z,rfl⟩
      subst this;refine ⟨v,hΦ,fun s hs=> ?_⟩;rw [(hdst s).2 hs];exact YE (by rw [hi.h4.1];have:=hb e' he';omega)
    ·have he:oj.dst≠some s:=fun q=>hs e he (by rw [v9];simp) ((hdst s).1 q)
     rw [yr he];exact hi.h3 s fun e' he' hd'=>hs e' he' (by rw [v9,hd'];rfl)
    ·rw [v9,Bool.or_eq_true,decide_eq_true_eq] at hd' ⊢
     left
     rcases hd' with q | q
     ·exact hi.h5 i' hi' q k' hkl' hk'
     ·subst q;exact hpre k' (by omega) hk'
    ·rw [v9,Bool.or_eq_true,decide_eq_true_eq] at hd';rcases hd' with q | q
     ·exact hi.h6 i' q
     ·rw [<-q];exact hjes
    ·have dpos:∀ z∈L1++e::L2,z.nw=true->z.d≠0/\∀ u w,z.Φ u w->∃ g,blk u=some g/\g < w.heap.size:=fun z hz hnz=>by
      obtain ⟨A',B',hq⟩:=jrk hz;have hg':jcQ P ops Q R w0 a0 B' z:=zU (A:=A') (hq ▸ hc);exact hg'.2.2.2 hnz
     have same:∀ z∈L1++e::L2,z.i=e.i->z=e:=fun z hz q=>by
      have hn':=hn;rw [jqw,jqA] at hn';have hn2:=List.nodup_append.1 hn';rcases jpH.1 hz with t | t
      ·exact absurd q (hn2.2.2 z.i (jpN.2 ⟨z,t,rfl⟩) e.i (by simp))
      ·rcases jpE.1 t with t | t
       ·exact t
       ·exfalso
        refine (List.nodup_cons.1 hn2.2.1).1 ?_;rw [<-q];exact jpN.2 ⟨z,t,rfl⟩
     have old:∀ z∈L1++e::L2,done.testBit z.i=true->z.nw=true->(a.put oj.dst v).tmps.getD (z.d - 1) undef=a.tmps.getD (z.d - 1) undef/\∃ g,blk (a.tmps.getD (z.d - 1) undef)=some g/\g < w.heap.size:=fun z hz hdz hnz=>by
      obtain ⟨d0,hb'⟩:=dpos z hz hnz;have hs:z.d=(z.d - 1)+1:=by omega
      obtain ⟨v',hv',hs'⟩:=hi.h2 z hz hdz;refine ⟨yr (hother z hz hdz _ hs),?_⟩;rw [hs' _ hs];exact hb' v' w hv'
     have new:e.nw=true->(a.put oj.dst v).tmps.getD (e.d - 1) undef=v:=fun hne=>by
      have d0:=(dpos e he hne).1;have hs:e.d=(e.d - 1)+1:=by omega
      rw [(hdst (e.d - 1)).2 hs];exact YE (by rw [hi.h4.1];have:=hb e he;omega)
     rw [v9,Bool.or_eq_true,decide_eq_true_eq] at hdx hdy;rcases hdx with qx | qx
     ·rcases hdy with qy | qy
      ·rw [(old x hx qx hnx).1,(old y hy qy hny).1];exact hi.h7 x hx y hy hxy qx qy hnx hny
      ·have:=same y hy qy.symm;subst this;obtain ⟨o1,g,o2,o3⟩:=old x hx qx hnx;rw [o1,o2,new hny];intro q;have:=zY hny g q.symm;omega
     ·have:=same x hx qx.symm;subst this;rcases hdy with qy | qy
      ·obtain ⟨o1,g,o2,o3⟩:=old y hy qy hny;rw [o1,o2,new hnx];intro q;have:=zY hnx g q;omega
      ·exact absurd (congrArg Ent.i (same y hy qy.symm)).symm hxy
    ·have:=jbA hn hjes h0;omega
theorem Zm {a0:Act}{v:Nat->Value}:∀ {L:List Ent},(yQ a0 v L).tmps.size=a0.tmps.size
 | []=>rfl
 | e::r=>jdx.trans Zm
theorem jnW {a0:Act}{v:Nat->Value}:∀ {L:List Ent},(yQ a0 v L).defers=a0.defers
 | []=>rfl
 | e::r=>jaH.trans jnW
theorem jfA {d s:Nat}(h:d≠s+1):zv d≠some s:=by
 cases d with
 | zero=>simp [zv]
 | succ d=>simp [zv];omega
theorem jaG {a0:Act}{v:Nat->Value}{s:Nat}:∀ {L:List Ent},(∀ e∈L,e.d≠s+1)->(yQ a0 v L).tmps.getD s undef=a0.tmps.getD s undef
 | [],_=>rfl
 | e::r,h=>(yr (jfA (h e (jqB ..)))).trans (jaG fun e' he'=>h e' (jqC _ he'))
theorem jfS {a0:Act}{v:Nat->Value}{s:Nat}{x:Value}:∀ {L:List Ent},(∀ e∈L,e.d<=a0.tmps.size)->(∃ e∈L,e.d=s+1)->(∀ e∈L,e.d=s+1->v e.i=x)->(yQ a0 v L).tmps.getD s undef=x
 | [],_,h,_=>by obtain ⟨_,h,_⟩:=h;simp at h
 | e::r,hb,h,hx=>by
   by_cases hd:e.d=s+1
   ·show ((yQ a0 v r).put (zv e.d) (v e.i)).tmps.getD s undef=x
    rw [hd,hx e (jqB ..) hd];exact YE (by rw [Zm];have:=hb e (jqB ..);omega)
   ·show ((yQ a0 v r).put (zv e.d) (v e.i)).tmps.getD s undef=x
    rw [yr (jfA hd)];refine jfS (fun e' he'=>hb e' (jqC _ he')) ?_ fun e' he'=>hx e' (jqC _ he')
    obtain ⟨e',he',hd'⟩:=h;rcases jpE.1 he' with rfl | q
    ·exact absurd hd' hd
    ·exact ⟨e',q,hd'⟩
theorem jfs {v:Nat->Value}{w:World}:∀ {L:List Ent},(∀ e∈L,e.Φ (v e.i) w)->jgY v w L
 | [],_=>trivial
 | e::r,h=>⟨h e (jqB ..),jfs fun e' he'=>h e' (jqC _ he')⟩
theorem jiQ {a b:Act}(h1:a.tmps.size=b.tmps.size) (h2:∀ s,a.tmps.getD s undef=b.tmps.getD s undef) (h3:a.defers=b.defers):a=b:=by
 cases a with
 | mk ta da=>
   cases b with
   | mk tb db=>
     simp only at h1 h2 h3;subst h3
     congr 1
     apply Array.ext h1
     intro i hi hi';have:=h2 i
     simpa [Array.getD,hi,hi'] using this
theorem ji6 {R:World->World->Prop}{w0:World}{a0:Act}{pre:List Nat}{L:List Ent}{done:Nat}{listed:Array Bool}{a:Act}{w:World}(hi:Inv ops R w0 a0 pre L done listed a w) (hn:(L.map (·.i)).Nodup)
 (hdis:∀ e∈L,∀ e'∈L,∀ s,e.d=s+1->e'.d=s+1->e.i=e'.i) (hb:∀ e∈L,e.d<=a0.tmps.size) (hall:∀ e∈L,done.testBit e.i=true) (hnz:∀ e∈L,e.nw=true->e.d≠0):∃ v:Nat->Value,a=yQ a0 v L/\jgY v w L/\∀ i j,Zj L i=true->Zj L j=true->i≠j->blk (v i)≠blk (v j):=by
 have uniq:∀ e∈L,∀ e'∈L,e.i=e'.i->e=e':=fun e he e' he' q=>by
  obtain ⟨A,B,rfl⟩:=jrk he;rw [jqw,jqA] at hn;have hn2:=List.nodup_append.1 hn;rcases jpH.1 he' with z | z
  ·exact absurd q.symm (hn2.2.2 e'.i (jpN.2 ⟨e',z,rfl⟩) e.i (by simp))
  ·rcases jpE.1 z with z | z
   ·exact z.symm
   ·exfalso
    refine (List.nodup_cons.1 hn2.2.1).1 ?_;rw [q];exact jpN.2 ⟨e',z,rfl⟩
 have ch:∀ i,∃ v:Value,∀ e∈L,e.i=i->e.Φ v w/\∀ s,e.d=s+1->a.tmps.getD s undef=v:=fun i=>by
  by_cases h:∃ e∈L,e.i=i
  ·obtain ⟨e,he,rfl⟩:=h;obtain ⟨v,h1,h2⟩:=hi.h2 e he (hall e he);exact ⟨v,fun e' he' q=>by rw [uniq e' he' e he q];exact ⟨h1,h2⟩⟩
  ·exact ⟨undef,fun e he q=>absurd ⟨e,he,q⟩ h⟩
 refine ⟨fun i=>(ch i).choose,jiQ (hi.h4.1.trans Zm.symm) (fun s=> ?_) (hi.h4.2.trans jnW.symm),jfs fun e he=>((ch e.i).choose_spec e he rfl).1,fun i j hni hnj hij=> ?_⟩;rotate_left
 ·obtain ⟨e,he,h1⟩:=List.any_eq_true.1 hni;obtain ⟨e',he',h2⟩:=List.any_eq_true.1 hnj;simp only [jpK,beq_iff_eq] at h1 h2;obtain ⟨rfl,n1⟩:=h1;obtain ⟨rfl,n2⟩:=h2;have c1:=((ch e.i).choose_spec e he rfl).2 (e.d - 1) (by have:=hnz e he n1;omega);have c2:=((ch e'.i).choose_spec e' he' rfl).2 (e'.d - 1) (by have:=hnz e' he' n2;omega)
  show blk (ch e.i).choose≠blk (ch e'.i).choose
  rw [<-c1,<-c2];exact hi.h7 e he e' he' hij (hall e he) (hall e' he') n1 n2
 by_cases h:∃ e∈L,e.d=s+1
 ·obtain ⟨e,he,hd⟩:=h;refine (jfS hb ⟨e,he,hd⟩ fun e' he' hd'=> ?_).symm;have hq:=hdis e' he' e he s hd' hd
  show (ch e'.i).choose=_
  exact (((ch e'.i).choose_spec e' he' rfl).2 s hd').symm
 ·rw [jaG fun e he hd=>h ⟨e,he,hd⟩];exact hi.h3 s fun e he _ hd=>h ⟨e,he,hd⟩
def jco:List Nat->Bool
 | []=>true
 | i::r=> !r.contains i&&jco r
theorem jas:∀ {l:List Nat},jco l=true->l.Nodup
 | [],_=>List.nodup_nil
 | i::r,h=>by
   simp only [jco,jpK,jpL] at h;refine List.nodup_cons.2 ⟨fun hm=> ?_,jas h.2⟩;have h1:=h.1;rw [List.contains_iff_mem.2 hm] at h1
   cases h1
def jmb (D:List (Nat×Nat×Nat)) (es:List Nat):Bool:=es.all fun i=>es.all fun j=>i==j||(D.getD i (0,0,0)).2.1==0||(D.getD i (0,0,0)).2.1 !=(D.getD j (0,0,0)).2.1
def jhu (D:List (Nat×Nat×Nat)) (pre es Z:List Nat) (lz:List Bool) (n:Nat):Bool:=
 jco es&&jkw D pre&&okB D pre es&&zB D pre es Z&&jmb D es&&es.all (fun i=>i < D.length&&(D.getD i (0,0,0)).2.1<=n)&&lz==(jp1 D.length).map (fun i=>es.contains i)&&es.length+Z.length==D.length
theorem ja9 {R:World->World->Prop}(hrf:∀ w,R w w) (htr:∀ a b c,R a b->R b c->R a c){id:Nat}{a:Act}{w:World}(σ Z pre:List Nat) (lz:List Bool) (D:List (Nat×Nat×Nat)) (hm:P.follows .mixedOrders=true) (hin:y9 ops=true)
 (hD:ops.toList.map (vA ops)=D) (hp:jhu D pre σ.reverse Z lz a.tmps.size=true)
 (h:Qa P ops Q R w.drew a (fun L=>∀ v w',R w.drew w'->jgY v w' L->(∀ i j,Zj L i=true->Zj L j=true->i≠j->blk (v i)≠blk (v j))->wpAny P .any ops Q Z.length lz.toArray (yQ a v L) w') [] σ):(Code.region id ops true).wp P Q a w:=by
 obtain ⟨L,hc,hLi,hF⟩:=jfy σ [] h trivial;simp only [jqF,List.append_nil] at hLi;simp only [jhu,jpK,beq_iff_eq] at hp;obtain ⟨⟨⟨⟨⟨⟨⟨h1,h2⟩,h3⟩,h4⟩,h5⟩,h6⟩,h7⟩,h8'⟩:=hp;rw [<-hLi] at h1 h3 h4 h5 h6 h7;have hlen:D.length=ops.size:=by rw [<-hD];simp
 have hsub:∀ (j:Nat) o,ops[j]? =some o->∀ e∈o.after,e.on < ops.size:=fun j o ho e he=>by
  have q:=jpV.1 hin o (Array.mem_of_getElem? ho)
  simpa using jpV.1 q e he
 have hes:∀ e∈L,e.i < ops.size/\(D.getD e.i (0,0,0)).2.1<=a.tmps.size:=fun e he=>by
  have:=jp2.1 h6 e.i (jpN.2 ⟨e,he,rfl⟩);simp only [jpK,decide_eq_true_eq] at this;exact ⟨by omega,this.2⟩
 have hd:∀ e∈L,(D.getD e.i (0,0,0)).2.1=e.d:=fun e he=>by
  have hl:=(hes e he).1;have ho:ops[e.i]? =some ops[e.i]:=Array.getElem?_eq_getElem hl;obtain ⟨A,B,rfl⟩:=jrk he;have hg:=zU hc;rw [<-hg.1 _ ho,<-hD,jra,jpT,jpU,ho]
  rfl
 have hb:∀ e∈L,e.d<=a.tmps.size:=fun e he=>by rw [<-hd e he];exact (hes e he).2
 have hdis:∀ e∈L,∀ e'∈L,∀ s,e.d=s+1->e'.d=s+1->e.i=e'.i:=fun e he e' he' s q q'=>by
  have:=jp2.1 (jp2.1 h5 e.i (jpN.2 ⟨e,he,rfl⟩)) e'.i (jpN.2 ⟨e',he',rfl⟩);rw [hd e he,hd e' he',q,q'] at this
  simpa using this
 refine wp_region_any hm ?_;have hleft:left 0 (L.map (·.i))=σ.length:=by
  unfold left;rw [List.filter_eq_self.2 (fun i _=>by simp)];rw [hLi,List.length_reverse]
 have hsz:σ.length+Z.length=ops.size:=by rw [<-hlen,<-h8',List.length_reverse]
 have main:=jbz (Q:=Q) (Z:=Z) htr hD hsub hc (jas h1) h2 h3 h4 hb (fun e he=>(hes e he).1) (fun listed done a' w' hi h0=>by
  have hall:∀ e∈L,done.testBit e.i=true:=fun e he=>jbB h0 e.i (jpN.2 ⟨e,he,rfl⟩)
  obtain ⟨v,rfl,hv,hnw⟩:=ji6 hi (jas h1) hdis hb hall fun e he hne=>by
   obtain ⟨A,B,rfl⟩:=jrk he;exact ((zU hc).2.2.2 hne).1
  have hl:listed=lz.toArray:=by
   apply Array.ext
   ·rw [hi.hL.1,h7];simp [hlen]
   ·intro i q1 q2;have hii:i < ops.size:=by rw [<-hi.hL.1];exact q1
    have h8:=hi.hL.2 i hii;have h9:listed[i]=done.testBit i:=by simpa [Array.getD,q1] using h8
    rw [h9];have:lz.toArray[i]=(L.map (·.i)).contains i:=by simp [h7]
    rw [this,Bool.eq_iff_iff,List.contains_iff_mem];exact ⟨fun q=>hi.h6 i q,fun q=>jbB h0 i q⟩
  rw [hl];exact hF v w' hi.hR hv hnw) σ.length (jpW ops.size false) 0 a w.drew ⟨⟨by simp,fun j hj=>by simp [Array.getD,hj]⟩,hrf _,fun e _ q=>by simp at q,fun s _=>rfl,⟨rfl,rfl⟩,fun i _ q=>by simp at q,fun i q=>by simp at q,fun e _ e' _ _ q=>by simp at q⟩ hleft
 rw [hsz] at main;exact main
def jiP (ev:Operand->Value):Prop:=(∀ c,ev (.const c)=c)/\(∀ f,ev (.func f)= .func (.func f) #[] #[])/\∀ g,ev (.global g)= .pointer (some ⟨g,0,none⟩)
theorem jkW (a:Act):jiP a.eval:=⟨fun _=>rfl,fun _=>rfl,fun _=>rfl⟩
theorem jz {b:Act}{s:Nat}:b.tmps[s]?.getD undef=b.eval (.tmp s):=(Array.getD_eq_getD_getElem? ..).symm
theorem JF {o:Oper}{y:Nat->Option Bool}(h:o.guard=none):jpX o y=true:=by unfold jpX;rw [h]
variable {R:World->World->Prop}{w0:World}{a0:Act}{F:List Ent->Prop}{L:List Ent}{i:Nat}{r:List Nat}
theorem jx (o:Oper) (ho':yO ops.toList i=some o) (Φ:Value->World->Prop){d:Nat}(hd:QC o=d) (hΦ:∀ u w w',Φ u w->R w w'->Φ u w') (hg:o.guard=none)
 (h:∀ (b:Act) w,jiP b.eval->R w0 w->(∀ s,(o.looksAt ops).contains s=true->ZD a0 s L (b.eval (.tmp s)) w)->∀ K':Act->World->Prop,Shut (∀ v w',R w w'->Φ v w'->K' (b.put o.dst v) w')->o.wp P b w K' Q)
 (hr:Qa P ops Q R w0 a0 F (⟨i,d,Φ,false⟩::L) r):Qa P ops Q R w0 a0 F L (i::r):=
 ⟨Φ,d,false,⟨fun o' ho=>by rw [vV ho'] at ho;cases ho;exact hd,hΦ,fun o' ho a w hR hk=>by
   have ho1:=vV ho';rw [ho1] at ho
   cases ho
   refine wpOp_step ho1 fun K' hK=> ?_
   rw [if_pos (JF hg)];exact h a w (jkW a) hR hk K' fun v w' h1 h2=>hK _ _ ⟨v,rfl,h1,h2,fun q=>by cases q⟩,fun q=>by cases q⟩,hr⟩
theorem qY (o:Oper) (ho':yO ops.toList i=some o) (Φ:Value->World->Prop){d:Nat}(hd:QC o=d) (hΦ:∀ u w w',Φ u w->R w w'->Φ u w') (hg:o.guard=none) (d0:d≠0) (hb:∀ u w,Φ u w->∃ g,blk u=some g/\g < w.heap.size)
 (h:∀ (b:Act) w,jiP b.eval->R w0 w->(∀ s,(o.looksAt ops).contains s=true->ZD a0 s L (b.eval (.tmp s)) w)->∀ K':Act->World->Prop,Shut (∀ v w',R w w'->Φ v w'->(∀ g,blk v=some g->w.heap.size<=g)->K' (b.put o.dst v) w')->o.wp P b w K' Q)
 (hr:Qa P ops Q R w0 a0 F (⟨i,d,Φ,true⟩::L) r):Qa P ops Q R w0 a0 F L (i::r):=
 ⟨Φ,d,true,⟨fun o' ho=>by rw [vV ho'] at ho;cases ho;exact hd,hΦ,fun o' ho a w hR hk=>by
   have ho1:=vV ho';rw [ho1] at ho
   cases ho
   refine wpOp_step ho1 fun K' hK=> ?_
   rw [if_pos (JF hg)];exact h a w (jkW a) hR hk K' fun v w' h1 h2 h3=>hK _ _ ⟨v,rfl,h1,h2,fun _=>h3⟩,fun _=>⟨d0,hb⟩⟩,hr⟩
theorem jnT (hrf:∀ w,R w w) (o:Oper) (ho':yO ops.toList i=some o){v:Value}{d:Nat}(hd:QC o=d) (hg:o.guard=none)
 (h:∀ (b:Act) w,jiP b.eval->R w0 w->(∀ s,(o.looksAt ops).contains s=true->ZD a0 s L (b.eval (.tmp s)) w)->(jpY b.eval o).run P w= .ok (.value v) w)
 (hr:Qa P ops Q R w0 a0 F (⟨i,d,fun u _=>u=v,false⟩::L) r):Qa P ops Q R w0 a0 F L (i::r):=
 jx o ho' (fun u _=>u=v) hd (fun _ _ _ h _=>h) hg (fun b w he hR hk K' hK=>by unfold Oper.wp;rw [h b w he hR hk];exact hK v w (hrf w) rfl) hr
theorem qT {lz:Array Bool}{a:Act}{w:World}(h1:jpS .any ops lz= []) (h:Q .normal a w):wpAny P .any ops Q 0 lz a w:=⟨h1,h⟩
theorem qi {lz:Array Bool}{z n:Nat}{a:Act}{w:World}(o:Oper) (ho':yO ops.toList z=some o) (hg:o.guard=none) (h1:jpS .any ops lz= [z])
 (h:∀ K':Act->World->Prop,Shut (∀ a' w',wpAny P .any ops Q n (lz.setIfInBounds z true) a' w'->K' a' w')->o.wp P a w K' Q):wpAny P .any ops Q (n+1) lz a w:=by
 refine ⟨fun q=>absurd q (by rw [h1];simp),fun i hi=> ?_⟩;rw [h1] at hi;obtain rfl:i=z:=by simpa using hi
 refine wpOp_step (vV ho') fun K' hK=> ?_
 rw [if_pos (JF hg)];exact h K' hK
end
section
variable {P:jpB}{ops:Array Oper}{Q:Exit->Act->World->Prop}{R:World->World->Prop}{id:Nat}{a:Act}{w:World}
theorem qgF (hrf:∀ w,R w w) (htr:∀ a b c,R a b->R b c->R a c) (σ Z pre:List Nat) (lz:List Bool)
 (h:Qa P ops Q R w.drew a (fun L=>∀ v w',R w.drew w'->jgY v w' L->(∀ i j,Zj L i=true->Zj L j=true->i≠j->blk (v i)≠blk (v j))->wpAny P .any ops Q Z.length lz.toArray (yQ a v L) w') [] σ) (hm:P.follows .mixedOrders=true:=by kernel_rfl) (hin:y9 ops=true:=by kernel_rfl)
 (hp:jhu (ops.toList.map (vA ops)) pre σ.reverse Z lz a.tmps.size=true:=by kernel_rfl):(Code.region id ops true).wp P Q a w:=
 ja9 hrf htr σ Z pre lz _ hm hin rfl hp h
end
end
section
open Go.ChangeShapes Go.WideShapes Go.ChangeAt Go.RowKit Go.Deep
theorem JS {a w:World}{g r:Nat}{C:Array Value}(h:a.grownBy w (some g)) (hr:a.heap.size<=r):a.grownBy (w.setRow r C) (some g):=
 ⟨h.os,h.tape,h.output,jp0 h.size (by simp),fun i hi hne=>(jqy _ _ _ _ (by omega)).trans (h.block i hi hne)⟩
theorem JR {a b c:World}{g:Nat}(h:a.grownBy b (some g)) (e:Ext b c):a.grownBy c (some g):=jt h (jD e)
theorem Sb.row {w:World}{g n c m r:Nat}{A:Option Addr}{d s:Int}{rt:List UInt8}{C:Array Value}(h:Sb w g A n c d s rt m) (hne:g≠r):Sb (w.setRow r C) g A n c d s rt m:=⟨(jqy _ _ _ _ hne).trans h.1,h.2⟩
theorem Sb.other {w w':World}{g h' n c m:Nat}{A:Option Addr}{d s:Int}{rt:List UInt8}(h:Sb w g A n c d s rt m) (k:w.grownBy w' (some h')) (hne:g≠h'):Sb w' g A n c d s rt m:=⟨jo7 k hne h.1,h.2⟩
def jO (xs:List UInt8) (k:Nat):List UInt8:=jC (jC [] xs) (J3 k 8).reverse
theorem jdX (xs:List UInt8) (k:Nat):(jO xs k).length=32:=qr _ _
def SrcSt (w:World) (lo g:Nat) (xs:List UInt8) (k:Nat):Prop:=
 (0 < lo/\lo<=g)/\((∃ A n c rt,Sb w g A n c 0 0 rt k/\Bs w A n c xs/\∀ a,A=some a->lo<=a.block/\a.block < g)\/Sb w g none 0 0 1 0 (jC [] xs) k)
theorem SrcSt.lt {w:World}{lo g k:Nat}{xs:List UInt8}(h:SrcSt w lo g xs k):g < w.heap.size:=by
 rcases h.2 with ⟨A,n,c,rt,h,_,_⟩ | h <;> exact h.lt
theorem SrcSt.ext {w w':World}{lo g k:Nat}{xs:List UInt8}(h:SrcSt w lo g xs k) (e:Ext w w'):SrcSt w' lo g xs k:=by
 refine ⟨h.1,?_⟩;rcases h.2 with ⟨A,n,c,rt,h,hb,hA⟩ | h
 ·exact .inl ⟨A,n,c,rt,h.ext e,hb.ext e,hA⟩
 ·exact .inr (h.ext e)
theorem SrcSt.other {w w':World}{lo g k h':Nat}{xs:List UInt8}(h:SrcSt w lo g xs k) (e:w.grownBy w' (some h')) (hne:h' < lo\/g < h'):SrcSt w' lo g xs k:=by
 refine ⟨h.1,?_⟩;have:=h.1.2;rcases h.2 with ⟨A,n,c,rt,h,hb,hA⟩ | h
 ·exact .inl ⟨A,n,c,rt,h.other e (by omega),hb.grownK e (fun a q=>by have:=hA a q;omega),hA⟩
 ·exact .inr (h.other e (by omega))
theorem SrcSt.row {w:World}{lo g k r:Nat}{C:Array Value}{xs:List UInt8}(h:SrcSt w lo g xs k) (hr:g < r):SrcSt (w.setRow r C) lo g xs k:=
 h.other ⟨rfl,rfl,rfl,by simp,fun i _ hne=>jqy _ _ _ _ (fun q=>hne (by rw [q]))⟩ (.inr hr)
theorem jgK {A:Option Addr}{n c:Nat}:Tryz.prog.built 143 [(0, .slice A n c)]=some (Zp A n c 0 0 (jqn 32 0) 0).toArray:=by kernel_rfl
theorem jgs {w:World}{A:Option Addr}{n c:Nat}{xs:List UInt8}(h:Bs w A n c xs) (hn:n<=140737488355328){tg:jpC×Nat×Nat}(hG:Gl w tg):
 Calls jpx 27 #[.slice A n c] w fun e w'=>∃ g,e= .returned (.pointer (some ⟨g,0,none⟩))/\SrcSt w' w.heap.size g xs 0/\Ext w w':=by
 have o0:=Hj (Own.nil w.heap.size w);have lg:=Hj hG.lt;clear hG;replace h:=Hj h;go_enter Tryz.func27,Tryz.ntmps27
 go_wp2_with (first
  | (at_builtin;(with_reducible refine jJ rfl (B:=w.heap.size) (s:= .const (.slice none 0 0)) (x:= .tmp 3) rfl rfl rfl o0.out h.out (by omega) (jpo _) ?_);intro A1 c1' w1 o1 g1 b1;rw [jpz] at *;replace o1:=Hj o1;clear g1;replace b1:Hid (Ext w w1):=b1;go_frame)
  | (refine jm rfl _ _ rfl (Zp A1 n c1' 0 0 (jqn 32 0) 0).toArray (by simp only [jqE,jqA,jqF];exact jgK) ?_;go_frame))
 go_ret;refine ⟨_,rfl,⟨⟨lg.out,b1.out.size⟩, .inl ⟨A1,n,c1',jqn 32 0,⟨jqq _ _,rfl⟩,o1.out.bs.ext ((jnQ _).alloc _),fun a q=> ?_⟩⟩,b1.out.alloc _⟩;subst q;have ho:=o1.out;rcases ho.2 with ⟨hv,_⟩ | ⟨g,cap,cur,hv,hge,hg,_⟩
 ·cases hv
 ·injection hv with h1 h2 h3
  injection h1 with h1
  subst h1;exact ⟨hge,jh hg⟩
theorem jeJ {w:World}{lo g k:Nat}{xs:List UInt8}(h:SrcSt w lo g xs k){tg:jpC×Nat×Nat}(hG:Gl w tg):
 Calls jpx 134 #[.pointer (some ⟨g,1,none⟩), .func (.func 135) #[.pointer (some ⟨g,0,none⟩)] #[]] w fun e w'=>e= .returned (.tuple #[])/\w.grownBy w' (some g)/\Sb w' g none 0 0 1 0 (jC [] xs) k:=by
 obtain ⟨⟨h1,h2⟩,h3⟩:=h;rcases h3 with ⟨A,n,c,rt,hs,hb,hA⟩ | hs
 ·exact jhi hs hb (fun a q=>by have:=hA a q;omega) hG fun W e=>(e.block _ hG.lt (fun q=>by have:=jpD q;omega)).trans hG
 ·refine (jiY hs).mono ?_;rintro e w' ⟨rfl,rfl⟩;exact ⟨rfl,jpZ _ _,hs⟩
theorem je1 {w:World}{lo g k:Nat}{xs:List UInt8}(h:SrcSt w lo g xs k) (hk:k < 1000000){tg:jpC×Nat×Nat}(hG:Gl w tg):
 Calls jpx 110 #[.pointer (some ⟨g,0,none⟩)] w fun e w'=>e= .returned (.agg (cellsOf (jO xs k)).toArray)/\w.grownBy w' (some g)/\SrcSt w' lo g xs (k+1):=by
 have hal:∀ w,(jpI 23).run jpx w= .ok (.agg (cellsOf (jqn 32 0)).toArray) w:=fun w=>by rw [jU];exact j2 w
 have L_zk:(jqn 32 (0:UInt8)).length=32:=rfl;generalize jqn 32 (0:UInt8)=zk at *;have S_zk:(cellsOf zk).toArray.size=32:=by simp [ja,L_zk]
 have hmf:∀ (fn:Fn) (first cap:Array Value) (w:World),(Instr.makeFunc fn first cap).run jpx w= .ok (.func fn first cap) w:=fun _ _ _ _=>rfl
 have lo2:=Hj h.1;have glt:g < w.heap.size:=h.lt;have ON:=Hj (jeJ (h.ext ((jnQ w).alloc (jqY (cellsOf zk).toArray 23))) (hG.ext ((jnQ w).alloc _)));have gl0:Hid (∀ W,(w.alloc (jqY (cellsOf zk).toArray 23)).grownBy W (some g)->Gl W tg/\Ky W w.heap.size zk/\w.grownBy W (some g)):=fun W e=>
  ⟨(e.block _ (by rw [je];exact Nat.lt_succ_of_lt hG.lt) (fun q=>by have:=jpD q;have:=h.1;omega)).trans (hG.ext ((jnQ w).alloc _)),
   ⟨jo7 e (by omega) (jqq _ _),L_zk⟩,jt (jD ((jnQ w).alloc _)) e⟩
 clear h hG;have DR:Hid (∀ (W:World) (A:Option Addr) (m d:Nat),Gl W tg->Bs W A m d (J3 k 8).reverse->Calls jpx 114 #[.agg (cellsOf (jC [] xs)).toArray, .slice A m d] W fun e w'=>e= .returned (.agg (cellsOf (jO xs k)).toArray)/\Ext W w'):=fun W A m d hg hb=>Qp (qr _ _) hb hg
 have HI:Hid (∀ W,Calls jpx 116 #[.int .u64 (k:Int), .int .i64 8] W (Qw (J3 k 8).reverse W)):=fun W=>Yj (by omega) (by omega) (by omega) (jpo _) (by decide)
 have DK:=Hj (jdX xs k);have FIN:Hid (∀ W,Sb W g none 0 0 1 0 (jC [] xs) (k+1)->SrcSt W lo g xs (k+1)):=fun W h=>⟨lo2.out, .inr h⟩
 have L_rt:=qr [] xs;generalize jC [] xs=rt at *;have L_dk:=DK.out;generalize jO xs k=dk at *;have S_rt:(cellsOf rt).length=32:=by simp [ja,L_rt]
 have S_dk:(cellsOf dk).toArray.size=32:=by simp [ja,L_dk]
 have O_dk:=ji dk;generalize hhs:(J3 k 8).reverse=hs at *;clear hhs DK lo2;have cv:IntKind.u64.wrap (k:Int)=(k:Int):=by simp [IntKind.wrap,IntKind.bits,IntKind.signed];omega
 have ad:IntKind.i64.wrap ((k:Int)+1)=(k:Int)+1:=jq0 _ (by omega);go_enter Tryz.func110,Tryz.ntmps110
 go_wp2_with fail;refine ON.out.mono ?_;rintro e w1 ⟨rfl,g1,h1⟩;obtain ⟨r,hr⟩:=ex_ w.heap.size;have P1:=gl0.out _ g1;rw [<-hr] at P1 ⊢;replace hr:=Hj hr;clear gl0 ON g1;replace P1:=Hj P1;replace h1:=Hj h1;have Q1:Hid (∀ s,Ext w1 s->Sb s g none 0 0 1 0 rt k/\Gl s tg):=fun s e=>⟨h1.out.ext e,P1.out.1.ext e⟩
 go_upto_region 2 with fail;refine qgF (R:=Ext) jnQ (fun _ _ _=>Ext.trans) [0,1,2,3,4,5,6,7,8,9,10,11] [12] [0,1,3,7,0,16,48,112,240,496,1023,0,4095] [true,true,true,true,true,true,true,true,true,true,true,true,false] ?_;refine jnT (fun _=>jnQ _) _ rfl (v:= ?_) (d:=11) rfl rfl ?_ ?_;rotate_left
 ·intro a_ w_ hev hR hk;have e0:a_.eval (.tmp 0)=_:=hk 0 rfl;clear hk;generalize a_.eval=ev at *;obtain ⟨hev1,hev2,hev3⟩:=hev;go_simp;(try with_reducible rfl)
 refine jnT (fun _=>jnQ _) _ rfl (v:= ?_) (d:=12) rfl rfl ?_ ?_;rotate_left
 ·intro a_ w_ hev hR hk;have e10:a_.eval (.tmp 10)=_:=hk 10 rfl;clear hk;generalize a_.eval=ev at *;obtain ⟨hev1,hev2,hev3⟩:=hev;go_simp;(try with_reducible rfl)
 refine jnT (fun _=>jnQ _) _ rfl (v:= ?_) (d:=13) rfl rfl ?_ ?_;rotate_left
 ·intro a_ w_ hev hR hk;have e11:a_.eval (.tmp 11)=_:=hk 11 rfl;clear hk;generalize a_.eval=ev at *;obtain ⟨hev1,hev2,hev3⟩:=hev;go_simp;(try with_reducible rfl)
 refine jnT (fun _=>jnQ _) _ rfl (v:= .agg (cellsOf rt).toArray) (d:=14) rfl rfl ?_ ?_
 ·intro a_ w_ hev hR hk;have e12:a_.eval (.tmp 12)=_:=hk 12 rfl;exact (jy rfl e12 (Q1.out w_ (Ext.trans (jnQ _).drew hR)).1.at4 rfl rfl (by rw [S_rt];rfl))
 refine jnT (fun _=>jnQ _) _ rfl (v:= ?_) (d:=15) rfl rfl ?_ ?_;rotate_left
 ·intro a_ w_ hev hR hk;have e0:a_.eval (.tmp 0)=_:=hk 0 rfl;clear hk;generalize a_.eval=ev at *;obtain ⟨hev1,hev2,hev3⟩:=hev;go_simp;(try with_reducible rfl)
 refine jnT (fun _=>jnQ _) _ rfl (v:= ?_) (d:=16) rfl rfl ?_ ?_;rotate_left
 ·intro a_ w_ hev hR hk;have e14:a_.eval (.tmp 14)=_:=hk 14 rfl;clear hk;generalize a_.eval=ev at *;obtain ⟨hev1,hev2,hev3⟩:=hev;go_simp;(try with_reducible rfl)
 refine jnT (fun _=>jnQ _) _ rfl (v:= ?_) (d:=17) rfl rfl ?_ ?_;rotate_left
 ·intro a_ w_ hev hR hk;have e15:a_.eval (.tmp 15)=_:=hk 15 rfl;clear hk;generalize a_.eval=ev at *;obtain ⟨hev1,hev2,hev3⟩:=hev;go_simp;(try with_reducible rfl)
 refine jnT (fun _=>jnQ _) _ rfl (v:= ?_) (d:=18) rfl rfl ?_ ?_;rotate_left
 ·intro a_ w_ hev hR hk;have e16:a_.eval (.tmp 16)=_:=hk 16 rfl;clear hk;have hF:=((Q1.out w_ (Ext.trans (jnQ _).drew hR)).1.cell36);generalize a_.eval=ev at *;obtain ⟨hev1,hev2,hev3⟩:=hev;go_simp;(try with_reducible rfl)
 refine jnT (fun _=>jnQ _) _ rfl (v:= ?_) (d:=19) rfl rfl ?_ ?_;rotate_left
 ·intro a_ w_ hev hR hk;have e17:a_.eval (.tmp 17)=_:=hk 17 rfl;clear hk;generalize a_.eval=ev at *;obtain ⟨hev1,hev2,hev3⟩:=hev;go_simp;(try with_reducible rfl)
 refine jx _ rfl (fun u w_=>∃ A n c,u= .slice A n c/\Bs w_ A n c (hs)) (d:=20) rfl (fun _ _ _ h e=>by obtain ⟨A,n,c,h1,h2⟩:=h;exact ⟨A,n,c,h1,h2.ext e⟩) rfl ?_ ?_
 ·intro a_ w_ hev hR hk K1 hK1;have e18:a_.eval (.tmp 18)=_:=hk 18 rfl;clear hk;have f18:=jz.trans e18;go_simp;refine (HI.out _).mono ?_;rintro e_ w2_ ⟨A_,n_,c_,rfl,b_,x_⟩;exact hK1.out _ _ x_ ⟨A_,n_,c_,rfl,b_⟩
 refine jx _ rfl (fun u _=>u= .agg (cellsOf dk).toArray) (d:=21) rfl (fun _ _ _ h _=>h) rfl ?_ ?_
 ·intro a_ w_ hev hR hk K1 hK1;have e13:a_.eval (.tmp 13)=_:=hk 13 rfl;obtain ⟨A_19,N_19,C_19,e19,b19⟩:∃ A n c,a_.eval (.tmp 19)= .slice A n c/\Bs w_ A n c _:=hk 19 rfl;clear hk;have f13:=jz.trans e13;have f19:=jz.trans e19;go_simp;refine (DR.out _ _ _ _ (Q1.out w_ (Ext.trans (jnQ _).drew hR)).2 b19).mono ?_;rintro e_ w2_ ⟨rfl,x_⟩;exact hK1.out _ _ x_ rfl
 refine qY _ rfl (fun u w_=>∃ g,u= .pointer (some ⟨g,0,none⟩)/\w1.drew.heap.size<=g/\w_.heap[g]? =some (.cells (cellsOf zk).toArray 23 (0,0))) (d:=4) rfl (fun _ _ _ h e=>by obtain ⟨g,h1,h2,h3⟩:=h;exact ⟨g,h1,h2,(e.block g (jh h3)).trans h3⟩) rfl (by decide) (fun _ _ h=>by obtain ⟨g,h1,h2,h3⟩:=h;subst h1;exact ⟨g,rfl,jh h3⟩) ?_ ?_
 ·intro a_ w_ hev hR hk K1 hK1;go_simp;exact hK1.out _ _ ((jnQ _).alloc _) ⟨_,rfl,hR.size,jqq _ _⟩ (fun _ q=>by cases q;exact jpo _)
 intro v_ w2 hR hV_ hN_;obtain ⟨hv11,hv10,hv9,hv8,hv7,hv6,hv5,hv4,hv3,hv2,hv1,hv0,_⟩:=hV_;replace hv0:v_ 0=_:=hv0;replace hv1:v_ 1=_:=hv1;replace hv2:v_ 2=_:=hv2;replace hv3:v_ 3=_:=hv3;replace hv4:v_ 4=_:=hv4;replace hv5:v_ 5=_:=hv5;replace hv6:v_ 6=_:=hv6;replace hv7:v_ 7=_:=hv7;replace hv8:v_ 8=_:=hv8
 skip
 replace hv10:v_ 10=_:=hv10
 skip
 dsimp only [yQ,zv];obtain ⟨A_9,N_9,C_9,hv9,hb_9⟩:=hv9;obtain ⟨g_11,hv11,gb_11,gc_11⟩:=hv11;clear hN_;rw [hv0,hv1,hv2,hv3,hv4,hv5,hv6,hv7,hv8,hv9,hv10,hv11];go_frame
 clear hv0 hv1 hv2 hv3 hv4 hv5 hv6 hv7 hv8 hv9 hv10 hv11;refine qi (z:=12) _ rfl rfl (by kernel_rfl) ?_;intro K1 hK1;refine jrf _ _ _ rfl g_11 (cellsOf dk).toArray rfl rfl 23 (cellsOf zk).toArray gc_11 (by rw [S_dk];rfl) (by rw [S_dk,S_zk]) O_dk ?_;refine hK1.out _ _ ?_;clear hK1 K1;refine qT (by kernel_rfl) ?_;have E2:Ext w1 (w2.setRow g_11 (cellsOf dk).toArray):=jqb ((jnQ w1).drew.trans hR) gb_11 _;have hgr:g < g_11:=jpq h1.out.lt gb_11;have hrr:r < g_11:=jpq (jh P1.out.2.1.1) gb_11;refine yf (fun W=>Sb W g none 0 0 1 0 rt k/\Ky W r zk/\Ky W g_11 dk/\w.grownBy W (some g)) ⟨h1.out.ext E2,P1.out.2.1.ext E2,⟨jqc _ _ _ _ _ _ gc_11,L_dk⟩,JR P1.out.2.2 E2⟩ ?_;clear E2 hR gc_11 P1 Q1 h1 DR HI;rintro w3 ⟨h3,z3,d3,g3⟩;have c36:=h3.cell36;have f36:=h3.frozen 36;have h4:=Hj (h3.set36 (k+1));have gne:g≠g_11:=by omega
 have z4:Hid (Ky (w3.setCell ⟨g,36,none⟩ (.int .i64 ((k+1:Nat):Int))) r zk/\Ky (w3.setCell ⟨g,36,none⟩ (.int .i64 ((k+1:Nat):Int))) g_11 dk/\w.grownBy (w3.setCell ⟨g,36,none⟩ (.int .i64 ((k+1:Nat):Int))) (some g)):=
  ⟨⟨jo7 jP (by have:=hr.out;omega) z3.1,z3.2⟩,⟨jo7 jP (by omega) d3.1,d3.2⟩,jt g3 jP⟩
 have k1:((k+1:Nat):Int)=(k:Int)+1:=by omega
 clear h3 z3 d3 g3;go_upto_region 4 with fail;refine jg (fun W=>Sb W g none 0 0 1 0 rt (k+1)/\Ky W r zk/\Ky W g_11 dk/\w.grownBy W (some g)) (by rw [<-k1];exact ⟨h4.out,z4.out⟩) ?_;clear h4 z4 c36 f36 k1;rintro w4 ⟨h4,z4,d4,g4⟩;replace h4:=Hj h4;replace z4:=Hj z4;replace d4:=Hj d4;replace g4:=Hj g4;go_wp2_with (first
  | (refine wl_ rfl 23 rfl g_11 rfl d4.out.1 rfl rfl (by rw [S_dk];rfl) ?_;go_frame)
  | (refine ws_ rfl 23 rfl r (cellsOf dk).toArray rfl rfl z4.out.1 (by rw [S_dk];rfl) (by rw [S_dk,S_zk]) O_dk ?_;go_frame))
 (try simp only [jqV,Exit.then]);refine jqW (jqX rfl _ _ r 23 (cellsOf dk).toArray (0,0) _ rfl (jqc _ _ _ _ _ _ z4.out.1) rfl rfl (by rw [S_dk];rfl)) rfl ?_;exact ⟨rfl,JS g4.out (by rw [hr.out];exact jpo _),FIN.out _ (h4.out.row (by have:=hr.out;omega))⟩
end
section
open Go.ChangeShapes Go.WideShapes Go.ChangeAt Go.RowKit Go.Deep Go.Maps
theorem Zz {w:World}{g o:Nat}{T:jpC}{p q:List Value}{b:Bool}{ch:List UInt8}{m:Int}(h:Cb w g T (p++([.bool b]++(cellsOf ch++([.int .i64 m]++q))))) (hp:p.length=o) (lc:ch.length=32) (hm:0<=m/\m<=4000000){tg:jpC×Nat×Nat}(hG:Gl w tg):
 Calls jpx 46 #[.pointer (some ⟨g,o,none⟩)] w fun e w'=>e= .returned (.agg (cellsOf (jM ch qd)).toArray)/\Cb w' g T (p++([.bool b]++(cellsOf (jM ch vI)++([.int .i64 (m+1)]++q))))/\w.grownBy w' (some g):=by
 have ST:Hid (∀ W,Ext w W->Calls jpx 80 #[.agg (cellsOf ch).toArray] W (Qk (jM ch qd) (jM ch vI) W)):=fun W e=>jaU lc (hG.kept e hG.lt)
 have L0:=jR ch qd;have L1:=jR ch vI;generalize jM ch qd=k0 at *;generalize jM ch vI=k1 at *;have S0:(cellsOf k0).toArray.size=32:=by simp [ja,L0]
 have S1:(cellsOf k1).toArray.size=32:=by simp [ja,L1]
 have SC:(cellsOf ch).toArray.size=32:=by simp [ja,lc]
 have O0:=ji k0;have O1:=ji k1;have hal:∀ w,(jpI 23).run jpx w= .ok (.agg (cellsOf (jqn 32 0)).toArray) w:=fun w=>by rw [jU];exact j2 w
 have L_zk:(jqn 32 (0:UInt8)).length=32:=rfl;generalize jqn 32 (0:UInt8)=zk at *;have S_zk:(cellsOf zk).toArray.size=32:=by simp [ja,L_zk]
 have gl:=h.lt;obtain ⟨r,hr⟩:=ex_ w.heap.size;have B0:Hid (Cb (w.alloc (.cells (cellsOf zk).toArray 23)) r 23 (cellsOf zk)/\Ext w (w.alloc (.cells (cellsOf zk).toArray 23))):=by rw [hr];exact ⟨Cb.new _ _ _,(jnQ w).alloc _⟩
 obtain ⟨q1,hq1⟩:∃ x:List Value,x=cellsOf ch++([.int .i64 m]++q):=⟨_,rfl⟩;have H1:Hid (∀ s,Cb s g T (p++([.bool b]++(cellsOf ch++([.int .i64 m]++q))))->(∀ j v,(cellsOf ch)[j]? =some v->s.cell? ⟨g,o+1+j,none⟩=some v)/\s.cell? ⟨g,o+33,none⟩=some (.int .i64 m)):=fun s k=>⟨by
  refine k.mid (p:=p++ [.bool b]) (q:= [.int .i64 m]++q) (by simp) (by simp [hp]),k.cell (by
  rw [show p++([jri b]++(cellsOf ch++([.int .i64 m]++q)))=(p++([.bool b]++cellsOf ch))++([.int .i64 m]++q) by simp,jqr (by simp [hp,ja,lc]),show o+33 - (p++([jri b]++cellsOf ch)).length=0 by simp [hp,ja,lc]]
  rfl)⟩
 have H2:Hid (∀ s,Cb s g T (p++([.bool b]++(cellsOf ch++([.int .i64 m]++q))))->s.there g (o+1) 32/\Cb (s.setCells g (o+1) (cellsOf k1)) g T (p++([.bool b]++(cellsOf k1++([.int .i64 m]++q))))):=fun s k=>⟨k.there (by simp [hp,ja,lc];omega),by
  have:=k.put (p:=p++ [.bool b]) (y:=cellsOf ch) (q:= [.int .i64 m]++q) (z:=cellsOf k1) (off:=o+1) (by simp) (by simp [hp]) (by simp [ja,lc,L1])
  simpa using this⟩
 have H3:Hid (∀ s,Cb s g T (p++([.bool b]++(cellsOf k1++([.int .i64 m]++q))))->s.cell? ⟨g,o+33,none⟩=some (.int .i64 m)/\s.frozen? ⟨g,o+33,none⟩=false/\Cb (s.setCell ⟨g,o+33,none⟩ (.int .i64 (m+1))) g T (p++([.bool b]++(cellsOf k1++([.int .i64 (m+1)]++q))))):=fun s k=>by
  have e:∀ x:Int,p++([jri b]++(cellsOf k1++([.int .i64 x]++q)))=(p++([.bool b]++cellsOf k1))++([.int .i64 x]++q):=fun x=>by simp
  have l:(p++([jri b]++cellsOf k1)).length=o+33:=by simp [hp,ja,L1]
  refine ⟨k.cell (by rw [e];exact jo6 l),k.frozen _,?_⟩;have:=k.setCell (o:=o+33) (v:= .int .i64 (m+1));rw [e,JY l,<-e] at this;exact this
 clear hq1 q1;have hq:Hid (Cb w g T (p++([.bool b]++(cellsOf ch++([.int .i64 m]++q))))):=h;obtain ⟨LL,hLL⟩:=ex_ (p++([.bool b]++(cellsOf ch++([.int .i64 m]++q))));rw [<-hLL] at hq H1 H2;obtain ⟨LM,hLM⟩:=ex_ (p++([.bool b]++(cellsOf k1++([.int .i64 m]++q))));rw [<-hLM] at H2 H3;obtain ⟨LN,hLN⟩:=ex_ (p++([.bool b]++(cellsOf k1++([.int .i64 (m+1)]++q))));rw [<-hLN] at H3 ⊢;clear hLL hLM hLN h hG;have w1_:IntKind.i64.wrap (m+1)=m+1:=jq0 _ (by omega);go_enter Tryz.func46,Tryz.ntmps46
 go_upto_region 1 with fail;refine jg (fun W=>Cb W r 23 (cellsOf zk)/\Ext w W) B0.out ?_;rw [<-hr];have wr_:w.heap.size<=r:=jre hr.symm;clear B0;replace hr:=Hj hr;rintro w0 ⟨k0_,x0⟩;have P0:Hid (∀ s,Ext w0 s->Cb s g T LL/\Cb s r 23 (cellsOf zk)/\Ext w s):=fun s e=>⟨(Cb.ext (hq.out) (x0.trans e)),k0_.ext e,x0.trans e⟩
 have S0_:=Hj (ST.out w0 x0);have c1:=Hj (H1.out w0 (P0.out w0 (jnQ _)).1);have rl:=k0_.lt;clear k0_ x0 ST hq;go_wp2_with (first | ((with_reducible refine jI (o:=⟨some 9,_,_,_,_,_⟩) (ty:=23) (g:=g) (off:=(o+1)) (ys:=cellsOf ch) ?_ rfl ?_ ?_ jqD ?_ ?_ ?_);(·rfl);(·rfl);(·exact c1.out.1);(·rfl);(·rw [(ja _).trans lc];rfl);go_frame))
 refine S0_.out.mono ?_;rintro e w1 ⟨rfl,x1⟩;have a0:Hid (Cb ((w1.alloc (.cells (cellsOf zk).toArray 23)).alloc (.cells (cellsOf zk).toArray 23)) w1.heap.size 23 (cellsOf zk)):=jQ _ _ _;have a1:Hid (Cb ((w1.alloc (.cells (cellsOf zk).toArray 23)).alloc (.cells (cellsOf zk).toArray 23)) (w1.heap.size+1) 23 (cellsOf zk)):=jK _ _ _;have Y:Hid (Cb ((((w1.alloc (.cells (cellsOf zk).toArray 23)).alloc (.cells (cellsOf zk).toArray 23)).setRow w1.heap.size (cellsOf k0).toArray).setRow (w1.heap.size+1) (cellsOf k1).toArray) w1.heap.size 23 (cellsOf k0)/\Cb ((((w1.alloc (.cells (cellsOf zk).toArray 23)).alloc (.cells (cellsOf zk).toArray 23)).setRow w1.heap.size (cellsOf k0).toArray).setRow (w1.heap.size+1) (cellsOf k1).toArray) (w1.heap.size+1) 23 (cellsOf k1)/\Ext w1 ((((w1.alloc (.cells (cellsOf zk).toArray 23)).alloc (.cells (cellsOf zk).toArray 23)).setRow w1.heap.size (cellsOf k0).toArray).setRow (w1.heap.size+1) (cellsOf k1).toArray)):=
  ⟨(jqy _ _ _ _ (by omega)).trans (jqc _ _ _ _ _ _ a0.out),jqc _ _ _ _ _ _ ((jqy _ _ _ _ (by omega)).trans a1.out),jqb (jqb (((jnQ w1).alloc _).alloc _) (jpo _) _) (by omega) _⟩
 clear S0_ c1;go_upto_region 2 with (first
  | (refine ws_ rfl 23 rfl w1.heap.size (cellsOf k0).toArray rfl rfl a0.out (by rw [S0];rfl) (by rw [S0,S_zk]) O0 ?_;simp only [jpR])
  | (refine ws_ rfl 23 rfl (w1.heap.size+1) (cellsOf k1).toArray rfl rfl ((jqy _ _ _ _ (by omega)).trans a1.out) (by rw [S1];rfl) (by rw [S1,S_zk]) O1 ?_;simp only [jpR]))
 obtain ⟨x,hx⟩:=ex_ w1.heap.size;refine jg (fun W=>Cb W w1.heap.size 23 (cellsOf k0)/\Cb W (w1.heap.size+1) 23 (cellsOf k1)/\Ext w1 W) Y.out ?_;rw [<-hx];have wx:w0.heap.size<=x:=by rw [hx];exact x1.size
 clear Y a0 a1;replace hx:=Hj hx;rintro w2 ⟨j0,j1,x2⟩;obtain ⟨hq,kr,xw⟩:=P0.out w2 (x1.trans x2);obtain ⟨th,hp1⟩:=H2.out w2 hq;have gx:g < x:=jpq gl (jp0 (jp0 wr_ (jqU rl)) wx);have F2:Hid (Cb (w2.setCells g (o+1) (cellsOf k1)) g T LM/\Cb (w2.setCells g (o+1) (cellsOf k1)) x 23 (cellsOf k0)/\Cb (w2.setCells g (o+1) (cellsOf k1)) r 23 (cellsOf zk)/\w.grownBy (w2.setCells g (o+1) (cellsOf k1)) (some g)):=
  ⟨hp1,(ju.block x j0.lt (fun z=>by have:=jpD z;omega)).trans j0,(ju.block r kr.lt (fun z=>by have:=jpD z;omega)).trans kr,jt (jD xw) ju⟩
 replace j1:=Hj j1;replace th:=Hj th;clear H1 H2 P0 hq kr xw hp1 j0 x1 x2;go_upto_region 3 with (first
  | ((with_reducible refine js (o:=⟨some 14,_,_,_,_,_⟩) ?_ 23 _ rfl (x+1) ?_ 23 (cellsOf k1).toArray (0,0) _ ?_ jqD ?_ ?_ ?_);(·rfl);(·rfl);(·exact j1.out);(·rfl);(·rw [S1];rfl);go_frame)
  | ((with_reducible refine jrj (op:=⟨none, .store 23 (.tmp 16) (.tmp 14),_,_,_,_⟩) ?_ 23 _ _ rfl g (o+1) (cellsOf k1).toArray ?_ ?_ ?_ ?_ ?_ ?_);(·rfl);(·rfl);(·rfl);(·rw [S1];exact th.out);(·rw [S1];rfl);(·exact O1);go_frame))
 refine jg (fun W=>Cb W g T LM/\Cb W x 23 (cellsOf k0)/\Cb W r 23 (cellsOf zk)/\w.grownBy W (some g)) F2.out ?_;clear F2 j1 th;rintro w3 ⟨hq,j0,kr,gr⟩;obtain ⟨c1,z1,hn⟩:=H3.out w3 hq;have F3:Hid (Cb (w3.setCell ⟨g,o+33,none⟩ (.int .i64 (m+1))) g T LN/\Cb (w3.setCell ⟨g,o+33,none⟩ (.int .i64 (m+1))) x 23 (cellsOf k0)/\Cb (w3.setCell ⟨g,o+33,none⟩ (.int .i64 (m+1))) r 23 (cellsOf zk)/\w.grownBy (w3.setCell ⟨g,o+33,none⟩ (.int .i64 (m+1))) (some g)):=
  ⟨hn,(jP.block x j0.lt (fun z=>by have:=jpD z;omega)).trans j0,(jP.block r kr.lt (fun z=>by have:=jpD z;omega)).trans kr,jt gr jP⟩
 clear H3 hq j0 kr gr hn;go_upto_region 4 with fail;refine jg (fun W=>Cb W g T LN/\Cb W x 23 (cellsOf k0)/\Cb W r 23 (cellsOf zk)/\w.grownBy W (some g)) F3.out ?_;clear F3 c1 z1;rintro w4 ⟨hq,j0,kr,gr⟩;have F4:Hid (Cb (w4.setRow r (cellsOf k0).toArray) g T LN/\w.grownBy (w4.setRow r (cellsOf k0).toArray) (some g)):=⟨(jqy _ _ _ _ (by omega)).trans hq,JS gr (by omega)⟩;replace j0:=Hj j0;replace kr:=Hj kr;clear hq gr;go_wp2_with (first
  | ((with_reducible refine js (o:=⟨some 24,_,_,_,_,_⟩) ?_ 23 _ rfl x ?_ 23 (cellsOf k0).toArray (0,0) _ ?_ jqD ?_ ?_ ?_);(·rfl);(·rfl);(·exact j0.out);(·rfl);(·rw [S0];rfl);go_frame)
  | (refine ws_ rfl 23 rfl r (cellsOf k0).toArray rfl rfl kr.out (by rw [S0];rfl) (by rw [S0,S_zk]) O0 ?_;simp only [jpR]))
 (try simp only [jqV,Exit.then]);refine jqW (jqX rfl _ _ r 23 (cellsOf k0).toArray (0,0) _ rfl (jqc _ _ _ _ _ _ kr.out) rfl rfl (by rw [S0];rfl)) rfl ?_;exact ⟨rfl,F4.out⟩
end
section
open Go.ChangeShapes Go.WideShapes Go.ChangeAt Go.RowKit Go.Deep
def prC (a b c d:List Nat):List Value:=jb a++(jb b++(jb c++jb d))
def L8 (a b c d:List Nat):Prop:=a.length=8/\b.length=8/\c.length=8/\d.length=8
theorem qU {a b c d:List Nat}(h:L8 a b c d):(prC a b c d).length=32:=by
 obtain ⟨h1,h2,h3,h4⟩:=h;simp [prC,j4 h1,j4 h2,j4 h3,j4 h4]
theorem Z4 (a b c d:List Nat):(prC a b c d).toArray.all (·.oneCell')=true:=by
 refine all_oneCell_toArray fun v hv=> ?_
 have:∀ xs:List Nat,v∈jb xs->v.oneCell'=true:=fun xs h=>by
  have:=jo xs;rw [Array.all_eq_true'] at this;exact this v (by simpa using h)
 simp only [prC,jpH] at hv;rcases hv with h | h | h | h <;> exact this _ h
def Pr (w:World) (g:Nat) (a b c d:List Nat):Prop:=w.heap[g]? =some (.cells (prC a b c d).toArray 238 (0,0))/\L8 a b c d
section
variable {w w':World}{g:Nat}{a b c d:List Nat}
theorem Pr.lt (h:Pr w g a b c d):g < w.heap.size:=jh h.1
theorem Pr.kept {B:Nat}(h:Pr w g a b c d) (he:Below B w w') (hB:g < B):Pr w' g a b c d:=⟨(he.block g hB).trans h.1,h.2⟩
theorem Pr.at0 (h:Pr w g a b c d):∀ j v,(jb a)[j]? =some v->w.cell? ⟨g,0+j,none⟩=some v:=fun j v hv=>by
 rw [jqe w g _ _ _ _ h.1,jqt,prC,jpz,jqs (jqx.1 hv).1,hv]
theorem Pr.at8 (h:Pr w g a b c d):∀ j v,(jb b)[j]? =some v->w.cell? ⟨g,8+j,none⟩=some v:=fun j v hv=>by
 rw [jqe w g _ _ _ _ h.1,jqt,prC,jqr (by rw [j4 h.2.1];omega),j4 h.2.1,Nat.add_sub_cancel_left,jqs (jqx.1 hv).1,hv]
theorem Pr.at16 (h:Pr w g a b c d):∀ j v,(jb c)[j]? =some v->w.cell? ⟨g,16+j,none⟩=some v:=fun j v hv=>by
 rw [jqe w g _ _ _ _ h.1,jqt,prC,jqr (by rw [j4 h.2.1];omega),j4 h.2.1,jqr (by rw [j4 h.2.2.1];omega),j4 h.2.2.1,show 16+j - 8 - 8=j by omega,jqs (jqx.1 hv).1,hv]
theorem Pr.at24 (h:Pr w g a b c d):∀ j v,(jb d)[j]? =some v->w.cell? ⟨g,24+j,none⟩=some v:=fun j v hv=>by
 rw [jqe w g _ _ _ _ h.1,jqt,prC,jqr (by rw [j4 h.2.1];omega),j4 h.2.1,jqr (by rw [j4 h.2.2.1];omega),j4 h.2.2.1,jqr (by rw [j4 h.2.2.2.1];omega),j4 h.2.2.2.1,show 24+j - 8 - 8 - 8=j by omega,hv]
theorem je6 (h:L8 a b c d){x:List Nat}(hx:x.length=8):jp9 (prC a b c d) 0 (jb x)=prC x b c d:=by
 unfold jp9 prC;rw [List.take_zero,jq8,j4 hx,jpz,List.drop_left' (j4 h.1)]
theorem je7 (h:L8 a b c d){x:List Nat}(hx:x.length=8):jp9 (prC a b c d) 8 (jb x)=prC a x c d:=by
 unfold jp9 prC;rw [j4 hx,jqv (j4 h.1),<-jqd (jb a) (jb b),List.drop_left' (by simp [j4 h.1,j4 h.2.1])]
theorem jdT (h:L8 a b c d){x:List Nat}(hx:x.length=8):jp9 (prC a b c d) 16 (jb x)=prC a b x d:=by
 unfold jp9 prC;rw [j4 hx,<-jqd (jb a) (jb b),jqv (by simp [j4 h.1,j4 h.2.1]),<-jqd (jb a++jb b) (jb c),List.drop_left' (by simp [j4 h.1,j4 h.2.1,j4 h.2.2.1])];simp
theorem jdU (h:L8 a b c d){x:List Nat}(hx:x.length=8):jp9 (prC a b c d) 24 (jb x)=prC a b c x:=by
 unfold jp9 prC;rw [j4 hx,<-jqd (jb b) (jb c),<-jqd (jb a),jqv (by simp [j4 h.1,j4 h.2.1,j4 h.2.2.1]),List.drop_eq_nil_of_le (by simp [j4 h.1,j4 h.2.1,j4 h.2.2.1,j4 h.2.2.2])];simp
theorem Pr.set0 (h:Pr w g a b c d){x:List Nat}(hx:x.length=8):Pr (w.setCells g 0 (jb x)) g x b c d:=⟨by rw [<-je6 h.2 hx];exact qI _ _ _ _ h.1 (by rw [qU h.2,j4 hx];omega),hx,h.2.2⟩
theorem Pr.set8 (h:Pr w g a b c d){x:List Nat}(hx:x.length=8):Pr (w.setCells g 8 (jb x)) g a x c d:=⟨by rw [<-je7 h.2 hx];exact qI _ _ _ _ h.1 (by rw [qU h.2,j4 hx];omega),h.2.1,hx,h.2.2.2⟩
theorem Pr.set16 (h:Pr w g a b c d){x:List Nat}(hx:x.length=8):Pr (w.setCells g 16 (jb x)) g a b x d:=⟨by rw [<-jdT h.2 hx];exact qI _ _ _ _ h.1 (by rw [qU h.2,j4 hx];omega),h.2.1,h.2.2.1,hx,h.2.2.2.2⟩
theorem Pr.set24 (h:Pr w g a b c d){x:List Nat}(hx:x.length=8):Pr (w.setCells g 24 (jb x)) g a b c x:=⟨by rw [<-jdU h.2 hx];exact qI _ _ _ _ h.1 (by rw [qU h.2,j4 hx];omega),h.2.1,h.2.2.1,h.2.2.2.1,hx⟩
theorem Pr.there {o:Nat}(h:Pr w g a b c d) (ho:o+8<=32):w.there g o 8:=Ja h.1 (by rw [qU h.2];omega)
end
theorem jhp {g:Nat}{a b c d:List Nat}{w:World}(h:Pr w g a b c d):
 Calls jpx 139 #[.int .u8 1, .pointer (some ⟨g,0,none⟩)] w fun e w'=>e= .returned (.tuple #[])/\w.grownBy w' (some g)/\Pr w' g b a d c:=by
 obtain ⟨la,lb,lc,ld⟩:=h.2;have Sa:=jf la;have Sb:=jf lb;have Sc:=jf lc;have Sd:=jf ld;have Oa:=jo a;have Ob':=jo b;have Oc:=jo c;have Od:=jo d;have Ca:=j4 la;have Cb:=j4 lb;have Cc:=j4 lc;have Cd:=j4 ld;replace h:=Hj h;have h1:=Hj (h.out.set0 lb);have h2:=Hj (h1.out.set8 la);have g2:Hid (w.grownBy ((w.setCells g 0 (jb b)).setCells g 8 (jb a)) (some g)):=jt ju ju;go_enter Tryz.func139,Tryz.ntmps139
 go_upto_region 2 with (first
  | (refine jI rfl (ys:=jb b) rfl rfl h.out.at8 rfl rfl (by rw [Cb];rfl) ?_;go_frame)
  | (refine jI rfl (ys:=jb a) rfl rfl h.out.at0 rfl rfl (by rw [Ca];rfl) ?_;go_frame)
  | (refine jrj rfl 233 _ _ rfl g 0 (jb b).toArray rfl rfl (by rw [Sb];exact h.out.there (by omega)) (by rw [Sb];rfl) Ob' ?_;go_frame)
  | (refine jrj rfl 233 _ _ rfl g 8 (jb a).toArray rfl rfl (by rw [Sa];exact h1.out.there (by omega)) (by rw [Sa];rfl) Oa ?_;go_frame))
 refine jg (fun W=>Pr W g b a c d/\w.grownBy W (some g)) ⟨h2.out,g2.out⟩ ?_;clear h h1 h2 g2;rintro w1 ⟨h,g1⟩;replace h:=Hj h;replace g1:=Hj g1;have h1:=Hj (h.out.set16 ld);have h2:=Hj (h1.out.set24 lc);have g2:Hid (w.grownBy ((w1.setCells g 16 (jb d)).setCells g 24 (jb c)) (some g)):=jt g1.out (jt ju ju);go_wp2_with (first
  | (refine jI rfl (ys:=jb d) rfl rfl h.out.at24 rfl rfl (by rw [Cd];rfl) ?_;go_frame)
  | (refine jI rfl (ys:=jb c) rfl rfl h.out.at16 rfl rfl (by rw [Cc];rfl) ?_;go_frame)
  | (refine jrj rfl 233 _ _ rfl g 16 (jb d).toArray rfl rfl (by rw [Sd];exact h.out.there (by omega)) (by rw [Sd];rfl) Od ?_;go_frame)
  | (refine jrj rfl 233 _ _ rfl g 24 (jb c).toArray rfl rfl (by rw [Sc];exact h1.out.there (by omega)) (by rw [Sc];rfl) Oc ?_;go_frame))
 go_end0
 exact ⟨rfl,g2.out,h2.out⟩
theorem jbx {x g:Nat}{a b c d:List Nat}{w:World}(hx:x=1) (h:Pr w g a b c d):
 Calls jpx 139 #[.int .u8 (x:Int), .pointer (some ⟨g,0,none⟩)] w fun e w'=>e= .returned (.tuple #[])/\w.grownBy w' (some g)/\Pr w' g b a d c:=by
 subst hx;exact jhp h
theorem jby {x g:Nat}{w:World}(hx:x≠1):
 Calls jpx 139 #[.int .u8 (x:Int), .pointer (some ⟨g,0,none⟩)] w fun e w'=>e= .returned (.tuple #[])/\w'=w:=by
 have t:((x:Int)==1)=false:=by simp;omega
 go_enter Tryz.func139,Tryz.ntmps139
 go_wp2_with fail;go_end0
 exact ⟨rfl,rfl⟩
def jhF:List UInt8:= [65,219,1]++jqn 29 0
def jhG:List UInt8:= [1]++jqn 31 0
def jdf:List UInt8:= [9]++jqn 31 0
theorem jka:Tryz.prog.built 23 [(0, .int .u8 65),(1, .int .u8 219),(2, .int .u8 1)]=some (cellsOf jhF).toArray:=by kernel_rfl
theorem jkb:Tryz.prog.built 23 [(0, .int .u8 1)]=some (cellsOf jhG).toArray:=by kernel_rfl
theorem jg9:Tryz.prog.built 23 [(0, .int .u8 9)]=some (cellsOf jdf).toArray:=by kernel_rfl
theorem jmd:ofV jhF=121665:=by decide+kernel
theorem jme:ofV jhG=1:=by decide+kernel
theorem jk2:ofV jdf=9:=by decide+kernel
theorem jgw {w:World}{tg:jpC×Nat×Nat}(hG:Gp w tg):Calls jpx 138 #[] w fun e w'=>e= .returned (eV 1)/\Ext w w':=by
 have OF:Hid (∀ W,Ext w W->Calls jpx 136 #[.agg (cellsOf jhG).toArray] W fun e w'=>e= .returned (eV 1)/\Ext W w'):=fun W e=>by
  have:=jav (ks:=jhG) rfl (hG.ext e)
  rwa [jme] at this
 clear hG;unfold eV at *;have RL:=jnz 8 1;generalize lbs 8 1=rr at *;have RS:=jf RL;have OR:=jo rr;have hal2:=vr;have ZL:zw8.length=8:=rfl;generalize zw8=zs at *;have ZS:=jf ZL;have hb:=Hj jkb;generalize jhG=ks at *;have B0:Hid (Wr (w.alloc (jqY (jb zs).toArray 233)) w.heap.size 233 zs):=Wr.new _ _ _;go_enter Tryz.func138,Tryz.ntmps138
 go_wp2_with (refine jm rfl _ _ rfl (cellsOf ks).toArray (by simp only [jqE,jqA,jqF];exact hb.out) ?_;go_frame)
 refine (OF.out _ ((jnQ w).alloc _)).mono ?_;rintro e w1 ⟨rfl,e1⟩;have kr:=Hj (B0.out.kept e1 B0.out.lt);have kx:Hid (Ext w w1):=((jnQ w).alloc _).trans e1;clear B0 OF e1;go_wp2_with (refine ws_ rfl 233 rfl w.heap.size (jb rr).toArray rfl rfl kr.out (by rw [RS];rfl) (by rw [RS,ZS]) OR ?_;go_frame)
 (try simp only [jqV,Exit.then]);refine jqW (jqX rfl _ _ w.heap.size 233 (jb rr).toArray (0,0) _ rfl (jqc _ _ _ _ _ _ kr.out) rfl rfl (by rw [RS];rfl)) rfl ?_;exact ⟨rfl,jqb kx.out (jpo _) _⟩
theorem jcc {w:World}{tg:jpC×Nat×Nat}(hG:Gp w tg):Calls jpx 163 #[] w fun e w'=>e= .returned (eV 121665)/\Ext w w':=by
 have OF:Hid (∀ W,Ext w W->Calls jpx 136 #[.agg (cellsOf jhF).toArray] W fun e w'=>e= .returned (eV 121665)/\Ext W w'):=fun W e=>by
  have:=jav (ks:=jhF) rfl (hG.ext e)
  rwa [jmd] at this
 clear hG;unfold eV at *;have RL:=jnz 8 121665;generalize lbs 8 121665=rr at *;have RS:=jf RL;have OR:=jo rr;have hal2:=vr;have ZL:zw8.length=8:=rfl;generalize zw8=zs at *;have ZS:=jf ZL;have hb:=Hj jka;generalize jhF=ks at *;have B0:Hid (Wr (w.alloc (jqY (jb zs).toArray 233)) w.heap.size 233 zs):=Wr.new _ _ _;go_enter Tryz.func163,Tryz.ntmps163
 go_wp2_with (refine jm rfl _ _ rfl (cellsOf ks).toArray (by simp only [jqE,jqA,jqF];exact hb.out) ?_;go_frame)
 refine (OF.out _ ((jnQ w).alloc _)).mono ?_;rintro e w1 ⟨rfl,e1⟩;have kr:=Hj (B0.out.kept e1 B0.out.lt);have kx:Hid (Ext w w1):=((jnQ w).alloc _).trans e1;clear B0 OF e1;go_wp2_with (refine ws_ rfl 233 rfl w.heap.size (jb rr).toArray rfl rfl kr.out (by rw [RS];rfl) (by rw [RS,ZS]) OR ?_;go_frame)
 (try simp only [jqV,Exit.then]);refine jqW (jqX rfl _ _ w.heap.size 233 (jb rr).toArray (0,0) _ rfl (jqc _ _ _ _ _ _ kr.out) rfl rfl (by rw [RS];rfl)) rfl ?_;exact ⟨rfl,jqb kx.out (jpo _) _⟩
def jcx:Nat->List Value->List (Nat×Value)
 | _,[]=> []
 | i,v::r=>(i,v)::jcx (i+1) r
def Yi:List Value->List Value
 | []=> []
 | v::r=>v.cells.toList++Yi r
def jj4 (pl:Nat->Option (Nat×Nat)):Nat->Nat->List Value->Prop
 | _,_,[]=>True
 | i,off,v::r=>pl i=some (off,v.cells.size)/\jj4 pl (i+1) (off+v.cells.size) r
theorem jc5 {pl:Nat->Option (Nat×Nat)}:∀ (vs:List Value) (i off:Nat) (Z:Array Value),jj4 pl i off vs->off+(Yi vs).length<=Z.size->
 ∃ r,jqo pl Z (jcx i vs)=some r/\r.size=Z.size/\∀ k,r[k]? =if off<=k/\k < off+(Yi vs).length then (Yi vs)[k - off]? else Z[k]?
 | [],i,off,Z,_,_=>⟨Z,rfl,rfl,fun k=>by rw [if_neg (by show ¬ (off<=k/\k < off+0);omega)]⟩
 | v::r,i,off,Z,⟨h1,h2⟩,hz=>by
   have hlen:(Yi (v::r)).length=v.cells.size+(Yi r).length:=by simp [Yi]
   obtain ⟨g1,g2⟩:=Great.foldl_set off v.cells.toList 0 Z;rw [<-jo5] at g1 g2;obtain ⟨r',hr,hs,hk⟩:=jc5 r (i+1) (off+v.cells.size) _ h2 (by rw [g1];omega);refine ⟨r',?_,hs.trans g1,fun k=> ?_⟩
   ·show jqo pl Z ((i,v)::jcx (i+1) r)=_
    unfold jqo;simp only [h1];rw [if_neg (by simp;omega)];exact hr
   ·rw [hk k,g2 k,hlen];simp only [jpP,jpp,true_and,Array.length_toList,Nat.sub_zero];by_cases a:off<=k/\k < off+v.cells.size
    ·rw [if_neg (by omega),if_pos (by omega),if_pos (by omega)]
     show _=(v.cells.toList++Yi r)[k - off]?
     rw [jqs (by simp;omega)]
    ·by_cases b:off+v.cells.size<=k/\k < off+v.cells.size+(Yi r).length
     ·rw [if_pos b,if_pos (by omega)]
      show _=(v.cells.toList++Yi r)[k - off]?
      rw [jqr (by simp;omega)]
      congr 1
      simp;omega
     ·rw [if_neg b,if_neg (by omega),if_neg (by omega)]
theorem jc6 {pl:Nat->Option (Nat×Nat)}{vs:List Value}{Z:Array Value}(h:jj4 pl 0 0 vs) (hz:(Yi vs).length=Z.size):jqo pl Z (jcx 0 vs)=some (Yi vs).toArray:=by
 obtain ⟨r,hr,hs,hk⟩:=jc5 vs 0 0 Z h (by omega);rw [hr]
 congr 1
 apply Array.ext_getElem?
 intro k;rw [hk k,jpz,Nat.sub_zero];by_cases a:k < (Yi vs).length
 ·rw [if_pos ⟨jpp _,a⟩];simp
 ·rw [if_neg (fun q=>a q.2),jpv (by omega),jpv (by simp;omega)]
theorem jha {a b c d:List Nat}(h:L8 a b c d):Tryz.prog.built 238 [(0, .agg (jb a).toArray),(1, .agg (jb b).toArray),(2, .agg (jb c).toArray),(3, .agg (jb d).toArray)]=some (prC a b c d).toArray:=by
 obtain ⟨h1,h2,h3,h4⟩:=h;have hb:∃ pl:Nat->Option (Nat×Nat),(pl 0=some (0,8)/\pl 1=some (8,8)/\pl 2=some (16,8)/\pl 3=some (24,8))/\∀ ps,Tryz.prog.built 238 ps=jqo pl (prC zw8 zw8 zw8 zw8).toArray ps:=⟨(#[(0,8),(8,8),(16,8),(24,8)][·]?),⟨rfl,rfl,rfl,rfl⟩,fun ps=>by kernel_rfl⟩;obtain ⟨pl,⟨q0,q1,q2,q3⟩,hp⟩:=hb;rw [hp];have hf:Yi [.agg (jb a).toArray, .agg (jb b).toArray, .agg (jb c).toArray, .agg (jb d).toArray]=prC a b c d:=by simp [Yi,Value.cells,prC]
 have s1:(jqp (jb a).toArray).cells.size=8:=jf h1;have s2:(jqp (jb b).toArray).cells.size=8:=jf h2;have s3:(jqp (jb c).toArray).cells.size=8:=jf h3;have s4:(jqp (jb d).toArray).cells.size=8:=jf h4;rw [<-hf];exact jc6 (vs:= [.agg (jb a).toArray, .agg (jb b).toArray, .agg (jb c).toArray, .agg (jb d).toArray]) ⟨by rw [s1,q0],by rw [s1,s2,q1],by rw [s1,s2,s3,q2],by rw [s1,s2,s3,s4,q3],trivial⟩ (by rw [hf];exact qU ⟨h1,h2,h3,h4⟩)
theorem jaA (w:World):(jpI 238).run jpx w= .ok (.agg (prC zw8 zw8 zw8 zw8).toArray) w:=by
 kernel_rfl
theorem ZQ {x:Nat}{s:StN}{w:World}(hs:LtS s) (hx:x < P25){tg:jpC×Nat×Nat}(hG:Gp w tg):
 Calls jpx 140 #[.agg (prC (lbs 8 s.1) (lbs 8 s.2.1) (lbs 8 s.2.2.1) (lbs 8 s.2.2.2)).toArray, .agg (jb (lbs 8 x)).toArray] w fun e w'=>
  e= .returned (.agg (prC (lbs 8 (yM x s).1) (lbs 8 (yM x s).2.1) (lbs 8 (yM x s).2.2.1) (lbs 8 (yM x s).2.2.2)).toArray)/\Ext w w':=by
 obtain ⟨a,b,c,d⟩:=s;obtain ⟨pa,pb,pc,pd⟩:=hs;simp only at pa pb pc pd;have px:=hx;obtain ⟨q,hq⟩:∃ n_,n_=121665:=⟨_,rfl⟩;have pq:q < P25:=by rw [hq];decide+kernel
 obtain ⟨ee,hee⟩:∃ n_,n_=jnw a c:=⟨_,rfl⟩;have pee:ee < P25:=by rw [hee];exact Z3 _ _
 obtain ⟨f,hf⟩:∃ n_,n_=zO a c:=⟨_,rfl⟩;have pf:f < P25:=by rw [hf];exact Z6 _ _
 obtain ⟨g,hg⟩:∃ n_,n_=jnw b d:=⟨_,rfl⟩;have pg:g < P25:=by rw [hg];exact Z3 _ _
 obtain ⟨h,hh⟩:∃ n_,n_=zO b d:=⟨_,rfl⟩;have ph:h < P25:=by rw [hh];exact Z6 _ _
 obtain ⟨u,hu⟩:∃ n_,n_=qs ee ee:=⟨_,rfl⟩;have pu:u < P25:=by rw [hu];exact vU _ _
 obtain ⟨v,hv⟩:∃ n_,n_=qs f f:=⟨_,rfl⟩;have pv:v < P25:=by rw [hv];exact vU _ _
 obtain ⟨k,hk⟩:∃ n_,n_=zO u v:=⟨_,rfl⟩;have pk:k < P25:=by rw [hk];exact Z6 _ _
 obtain ⟨y,hy⟩:∃ n_,n_=qs h ee:=⟨_,rfl⟩;have py:y < P25:=by rw [hy];exact vU _ _
 obtain ⟨z,hz⟩:∃ n_,n_=qs g f:=⟨_,rfl⟩;have pz:z < P25:=by rw [hz];exact vU _ _
 obtain ⟨m,hm⟩:∃ n_,n_=jnw y z:=⟨_,rfl⟩;have pm:m < P25:=by rw [hm];exact Z3 _ _
 obtain ⟨n,hn⟩:∃ n_,n_=zO y z:=⟨_,rfl⟩;have pn:n < P25:=by rw [hn];exact Z6 _ _
 obtain ⟨r1,hr1⟩:∃ n_,n_=qs u v:=⟨_,rfl⟩;have pr1:r1 < P25:=by rw [hr1];exact vU _ _
 obtain ⟨r2,hr2⟩:∃ n_,n_=qs m m:=⟨_,rfl⟩;have pr2:r2 < P25:=by rw [hr2];exact vU _ _
 obtain ⟨t,ht⟩:∃ n_,n_=qs q k:=⟨_,rfl⟩;have pt:t < P25:=by rw [ht];exact vU _ _
 obtain ⟨i,hi⟩:∃ n_,n_=jnw u t:=⟨_,rfl⟩;have pi:i < P25:=by rw [hi];exact Z3 _ _
 obtain ⟨r3,hr3⟩:∃ n_,n_=qs k i:=⟨_,rfl⟩;have pr3:r3 < P25:=by rw [hr3];exact vU _ _
 obtain ⟨j,hj⟩:∃ n_,n_=qs x n:=⟨_,rfl⟩;have pj:j < P25:=by rw [hj];exact vU _ _
 obtain ⟨r4,hr4⟩:∃ n_,n_=qs j n:=⟨_,rfl⟩;have pr4:r4 < P25:=by rw [hr4];exact vU _ _
 have HR:Hid (yM x (a,b,c,d)=(r1,r2,r3,r4)):=by unfold Hid;rw [hr1,hr2,hr3,hr4,hi,hj,ht,hm,hn,hk,hy,hz,hu,hv,hh,hg,hf,hee,hq];rfl
 have F_ee:Hid (∀ W,Ext w W->Calls jpx 161 #[.agg (jb (lbs 8 a)).toArray, .agg (jb (lbs 8 c)).toArray] W fun e w'=>e= .returned (.agg (jb (lbs 8 ee)).toArray)/\Ext W w'):=fun W e_=>by rw [hee];exact YW pa pc (hG.ext e_)
 have F_f:Hid (∀ W,Ext w W->Calls jpx 162 #[.agg (jb (lbs 8 a)).toArray, .agg (jb (lbs 8 c)).toArray] W fun e w'=>e= .returned (.agg (jb (lbs 8 f)).toArray)/\Ext W w'):=fun W e_=>by rw [hf];exact YX pa pc (hG.ext e_)
 have F_g:Hid (∀ W,Ext w W->Calls jpx 161 #[.agg (jb (lbs 8 b)).toArray, .agg (jb (lbs 8 d)).toArray] W fun e w'=>e= .returned (.agg (jb (lbs 8 g)).toArray)/\Ext W w'):=fun W e_=>by rw [hg];exact YW pb pd (hG.ext e_)
 have F_h:Hid (∀ W,Ext w W->Calls jpx 162 #[.agg (jb (lbs 8 b)).toArray, .agg (jb (lbs 8 d)).toArray] W fun e w'=>e= .returned (.agg (jb (lbs 8 h)).toArray)/\Ext W w'):=fun W e_=>by rw [hh];exact YX pb pd (hG.ext e_)
 have F_u:Hid (∀ W,Ext w W->Calls jpx 141 #[.agg (jb (lbs 8 ee)).toArray, .agg (jb (lbs 8 ee)).toArray] W fun e w'=>e= .returned (.agg (jb (lbs 8 u)).toArray)/\Ext W w'):=fun W e_=>by rw [hu];exact qP pee pee (hG.ext e_)
 have F_v:Hid (∀ W,Ext w W->Calls jpx 141 #[.agg (jb (lbs 8 f)).toArray, .agg (jb (lbs 8 f)).toArray] W fun e w'=>e= .returned (.agg (jb (lbs 8 v)).toArray)/\Ext W w'):=fun W e_=>by rw [hv];exact qP pf pf (hG.ext e_)
 have F_k:Hid (∀ W,Ext w W->Calls jpx 162 #[.agg (jb (lbs 8 u)).toArray, .agg (jb (lbs 8 v)).toArray] W fun e w'=>e= .returned (.agg (jb (lbs 8 k)).toArray)/\Ext W w'):=fun W e_=>by rw [hk];exact YX pu pv (hG.ext e_)
 have F_y:Hid (∀ W,Ext w W->Calls jpx 141 #[.agg (jb (lbs 8 h)).toArray, .agg (jb (lbs 8 ee)).toArray] W fun e w'=>e= .returned (.agg (jb (lbs 8 y)).toArray)/\Ext W w'):=fun W e_=>by rw [hy];exact qP ph pee (hG.ext e_)
 have F_z:Hid (∀ W,Ext w W->Calls jpx 141 #[.agg (jb (lbs 8 g)).toArray, .agg (jb (lbs 8 f)).toArray] W fun e w'=>e= .returned (.agg (jb (lbs 8 z)).toArray)/\Ext W w'):=fun W e_=>by rw [hz];exact qP pg pf (hG.ext e_)
 have F_m:Hid (∀ W,Ext w W->Calls jpx 161 #[.agg (jb (lbs 8 y)).toArray, .agg (jb (lbs 8 z)).toArray] W fun e w'=>e= .returned (.agg (jb (lbs 8 m)).toArray)/\Ext W w'):=fun W e_=>by rw [hm];exact YW py pz (hG.ext e_)
 have F_n:Hid (∀ W,Ext w W->Calls jpx 162 #[.agg (jb (lbs 8 y)).toArray, .agg (jb (lbs 8 z)).toArray] W fun e w'=>e= .returned (.agg (jb (lbs 8 n)).toArray)/\Ext W w'):=fun W e_=>by rw [hn];exact YX py pz (hG.ext e_)
 have F_r1:Hid (∀ W,Ext w W->Calls jpx 141 #[.agg (jb (lbs 8 u)).toArray, .agg (jb (lbs 8 v)).toArray] W fun e w'=>e= .returned (.agg (jb (lbs 8 r1)).toArray)/\Ext W w'):=fun W e_=>by rw [hr1];exact qP pu pv (hG.ext e_)
 have F_r2:Hid (∀ W,Ext w W->Calls jpx 141 #[.agg (jb (lbs 8 m)).toArray, .agg (jb (lbs 8 m)).toArray] W fun e w'=>e= .returned (.agg (jb (lbs 8 r2)).toArray)/\Ext W w'):=fun W e_=>by rw [hr2];exact qP pm pm (hG.ext e_)
 have F_t:Hid (∀ W,Ext w W->Calls jpx 141 #[.agg (jb (lbs 8 q)).toArray, .agg (jb (lbs 8 k)).toArray] W fun e w'=>e= .returned (.agg (jb (lbs 8 t)).toArray)/\Ext W w'):=fun W e_=>by rw [ht];exact qP pq pk (hG.ext e_)
 have F_i:Hid (∀ W,Ext w W->Calls jpx 161 #[.agg (jb (lbs 8 u)).toArray, .agg (jb (lbs 8 t)).toArray] W fun e w'=>e= .returned (.agg (jb (lbs 8 i)).toArray)/\Ext W w'):=fun W e_=>by rw [hi];exact YW pu pt (hG.ext e_)
 have F_r3:Hid (∀ W,Ext w W->Calls jpx 141 #[.agg (jb (lbs 8 k)).toArray, .agg (jb (lbs 8 i)).toArray] W fun e w'=>e= .returned (.agg (jb (lbs 8 r3)).toArray)/\Ext W w'):=fun W e_=>by rw [hr3];exact qP pk pi (hG.ext e_)
 have F_j:Hid (∀ W,Ext w W->Calls jpx 141 #[.agg (jb (lbs 8 x)).toArray, .agg (jb (lbs 8 n)).toArray] W fun e w'=>e= .returned (.agg (jb (lbs 8 j)).toArray)/\Ext W w'):=fun W e_=>by rw [hj];exact qP px pn (hG.ext e_)
 have F_r4:Hid (∀ W,Ext w W->Calls jpx 141 #[.agg (jb (lbs 8 j)).toArray, .agg (jb (lbs 8 n)).toArray] W fun e w'=>e= .returned (.agg (jb (lbs 8 r4)).toArray)/\Ext W w'):=fun W e_=>by rw [hr4];exact qP pj pn (hG.ext e_)
 have F_q:Hid (∀ W,Ext w W->Calls jpx 163 #[] W fun e w'=>e= .returned (.agg (jb (lbs 8 q)).toArray)/\Ext W w'):=fun W e_=>by rw [hq];exact jcc (hG.ext e_)
 have HR2:Hid (∀ _:Unit,prC (lbs 8 (yM x (a,b,c,d)).1) (lbs 8 (yM x (a,b,c,d)).2.1) (lbs 8 (yM x (a,b,c,d)).2.2.1) (lbs 8 (yM x (a,b,c,d)).2.2.2)=prC (lbs 8 r1) (lbs 8 r2) (lbs 8 r3) (lbs 8 r4)):=fun _=>by rw [HR.out]
 generalize prC (lbs 8 (yM x (a,b,c,d)).1) (lbs 8 (yM x (a,b,c,d)).2.1) (lbs 8 (yM x (a,b,c,d)).2.2.1) (lbs 8 (yM x (a,b,c,d)).2.2.2)=RES at *
 show Calls jpx 140 #[.agg (prC (lbs 8 a) (lbs 8 b) (lbs 8 c) (lbs 8 d)).toArray, .agg (jb (lbs 8 x)).toArray] w _
 clear HR hG hq hx pa pb pc pd px pq pee pf pg ph pu pv pk py pz pm pn pr1 pr2 pt pi pr3 pj pr4 hee hf hg hh hu hv hk hy hz hm hn hr1 hr2 ht hi hr3 hj hr4;have L_va:=jnz 8 a;have L_vb:=jnz 8 b;have L_vc:=jnz 8 c;have L_vd:=jnz 8 d;have L_vx:=jnz 8 x;have L_vq:=jnz 8 q;have L_vee:=jnz 8 ee;have L_vf:=jnz 8 f;have L_vg:=jnz 8 g;have L_vh:=jnz 8 h;have L_vu:=jnz 8 u;have L_vv:=jnz 8 v;have L_vk:=jnz 8 k;have L_vy:=jnz 8 y;have L_vz:=jnz 8 z;have L_vm:=jnz 8 m;have L_vn:=jnz 8 n;have L_vr1:=jnz 8 r1;have L_vr2:=jnz 8 r2;have L_vt:=jnz 8 t;have L_vi:=jnz 8 i;have L_vr3:=jnz 8 r3;have L_vj:=jnz 8 j;have L_vr4:=jnz 8 r4;generalize lbs 8 a=va at *;generalize lbs 8 b=vb at *;generalize lbs 8 c=vc at *;generalize lbs 8 d=vd at *;generalize lbs 8 x=vx at *;generalize lbs 8 q=vq at *;generalize lbs 8 ee=vee at *;generalize lbs 8 f=vf at *;generalize lbs 8 g=vg at *;generalize lbs 8 h=vh at *;generalize lbs 8 u=vu at *;generalize lbs 8 v=vv at *;generalize lbs 8 k=vk at *;generalize lbs 8 y=vy at *;generalize lbs 8 z=vz at *;generalize lbs 8 m=vm at *;generalize lbs 8 n=vn at *;generalize lbs 8 r1=vr1 at *;generalize lbs 8 r2=vr2 at *;generalize lbs 8 t=vt at *;generalize lbs 8 i=vi at *;generalize lbs 8 r3=vr3 at *;generalize lbs 8 j=vj at *;generalize lbs 8 r4=vr4 at *;have S_va:=jf L_va;have O_va:=jo va;have C_va:=j4 L_va;have S_vb:=jf L_vb;have O_vb:=jo vb;have C_vb:=j4 L_vb;have S_vc:=jf L_vc;have O_vc:=jo vc;have C_vc:=j4 L_vc;have S_vd:=jf L_vd;have O_vd:=jo vd;have C_vd:=j4 L_vd;have S_vx:=jf L_vx;have O_vx:=jo vx;have C_vx:=j4 L_vx;have S_vq:=jf L_vq;have O_vq:=jo vq;have C_vq:=j4 L_vq;have S_vee:=jf L_vee;have O_vee:=jo vee;have C_vee:=j4 L_vee;have S_vf:=jf L_vf;have O_vf:=jo vf;have C_vf:=j4 L_vf;have S_vg:=jf L_vg;have O_vg:=jo vg;have C_vg:=j4 L_vg;have S_vh:=jf L_vh;have O_vh:=jo vh;have C_vh:=j4 L_vh;have S_vu:=jf L_vu;have O_vu:=jo vu;have C_vu:=j4 L_vu;have S_vv:=jf L_vv;have O_vv:=jo vv;have C_vv:=j4 L_vv;have S_vk:=jf L_vk;have O_vk:=jo vk;have C_vk:=j4 L_vk;have S_vy:=jf L_vy;have O_vy:=jo vy;have C_vy:=j4 L_vy;have S_vz:=jf L_vz;have O_vz:=jo vz;have C_vz:=j4 L_vz;have S_vm:=jf L_vm;have O_vm:=jo vm;have C_vm:=j4 L_vm;have S_vn:=jf L_vn;have O_vn:=jo vn;have C_vn:=j4 L_vn;have S_vr1:=jf L_vr1;have O_vr1:=jo vr1;have C_vr1:=j4 L_vr1;have S_vr2:=jf L_vr2;have O_vr2:=jo vr2;have C_vr2:=j4 L_vr2;have S_vt:=jf L_vt;have O_vt:=jo vt;have C_vt:=j4 L_vt;have S_vi:=jf L_vi;have O_vi:=jo vi;have C_vi:=j4 L_vi;have S_vr3:=jf L_vr3;have O_vr3:=jo vr3;have C_vr3:=j4 L_vr3;have S_vj:=jf L_vj;have O_vj:=jo vj;have C_vj:=j4 L_vj;have S_vr4:=jf L_vr4;have O_vr4:=jo vr4;have C_vr4:=j4 L_vr4;have hal2:=vr;have hal9:=jaA;have L_zs:zw8.length=8:=rfl;generalize zw8=zs at *;have S_zs:=jf L_zs;have hin:L8 va vb vc vd:=⟨L_va,L_vb,L_vc,L_vd⟩;have hzz:L8 zs zs zs zs:=⟨L_zs,L_zs,L_zs,L_zs⟩;have hout:L8 vr1 vr2 vr3 vr4:=⟨L_vr1,L_vr2,L_vr3,L_vr4⟩;have hbp:=Hj (jha hout);have S_in:(prC va vb vc vd).toArray.size=32:=qU hin
 have S_out:(prC vr1 vr2 vr3 vr4).toArray.size=32:=qU hout;have S_zz:(prC zs zs zs zs).toArray.size=32:=qU hzz;have B0:Hid (∀ s,Ext (((w.alloc (jqY (prC va vb vc vd).toArray 238)).alloc (jqY (jb vx).toArray 233)).alloc (jqY (prC zs zs zs zs).toArray 238)) s->Pr s w.heap.size va vb vc vd/\Wr s (w.heap.size+1) 233 vx/\Pr s (w.heap.size+1+1) zs zs zs zs/\Ext w s):=fun s e=>⟨Pr.kept ⟨jF _ _ _ _,hin⟩ e (by simp;omega),Wr.kept (jH _ _ _ _) e (by simp),Pr.kept ⟨jB _ _ _ _,hzz⟩ e (by simp),((((jnQ w).alloc _).alloc _).alloc _).trans e⟩
 go_enter Tryz.func140,Tryz.ntmps140
 go_upto_region 1 with fail;refine jg (fun W=>∀ s,Ext W s->Pr s w.heap.size va vb vc vd/\Wr s (w.heap.size+1) 233 vx/\Pr s (w.heap.size+1+1) zs zs zs zs/\Ext w s) B0.out ?_;clear B0;rintro w0 P0;replace P0:=Hj P0;go_wp2_with fail;refine qgF (R:=Ext) jnQ (fun _ _ _=>Ext.trans) [0,1,2,3,4,5,6,7,8,9,10,11] [12,13] [0,1,0,4,15,0,32,0,128,511,0,0,4095,8191] [true,true,true,true,true,true,true,true,true,true,true,true,false,false] ?_;refine jnT (fun _=>jnQ _) _ rfl (v:= ?_) (d:=17) rfl rfl ?_ ?_;rotate_left
 ·intro a_ w_ hev hR hk;have e2:a_.eval (.tmp 2)=_:=hk 2 rfl;clear hk;generalize a_.eval=ev at *;obtain ⟨hev1,hev2,hev3⟩:=hev;go_simp;(try with_reducible rfl)
 refine jnT (fun _=>jnQ _) _ rfl (v:= .agg (jb va).toArray) (d:=18) rfl rfl ?_ ?_
 ·intro a_ w_ hev hR hk;have e16:a_.eval (.tmp 16)=_:=hk 16 rfl;exact (jy rfl e16 (P0.out w_ (Ext.trans (jnQ _).drew hR)).1.at0 rfl rfl (by rw [C_va];rfl))
 refine jnT (fun _=>jnQ _) _ rfl (v:= ?_) (d:=19) rfl rfl ?_ ?_;rotate_left
 ·intro a_ w_ hev hR hk;have e2:a_.eval (.tmp 2)=_:=hk 2 rfl;clear hk;generalize a_.eval=ev at *;obtain ⟨hev1,hev2,hev3⟩:=hev;go_simp;(try with_reducible rfl)
 refine jnT (fun _=>jnQ _) _ rfl (v:= .agg (jb vc).toArray) (d:=20) rfl rfl ?_ ?_
 ·intro a_ w_ hev hR hk;have e18:a_.eval (.tmp 18)=_:=hk 18 rfl;exact (jy rfl e18 (P0.out w_ (Ext.trans (jnQ _).drew hR)).1.at16 rfl rfl (by rw [C_vc];rfl))
 refine jx _ rfl (fun u _=>u= .agg (jb vee).toArray) (d:=21) rfl (fun _ _ _ h _=>h) rfl ?_ ?_
 ·intro a_ w_ hev hR hk K1 hK1;have e17:a_.eval (.tmp 17)=_:=hk 17 rfl;have e19:a_.eval (.tmp 19)=_:=hk 19 rfl;clear hk;have f17:=jz.trans e17;have f19:=jz.trans e19;go_simp;refine (F_ee.out _ (P0.out w_ (Ext.trans (jnQ _).drew hR)).2.2.2).mono ?_;rintro e_ w2_ ⟨rfl,x_⟩;exact hK1.out _ _ x_ rfl
 refine jnT (fun _=>jnQ _) _ rfl (v:= ?_) (d:=22) rfl rfl ?_ ?_;rotate_left
 ·intro a_ w_ hev hR hk;have e2:a_.eval (.tmp 2)=_:=hk 2 rfl;clear hk;generalize a_.eval=ev at *;obtain ⟨hev1,hev2,hev3⟩:=hev;go_simp;(try with_reducible rfl)
 refine jnT (fun _=>jnQ _) _ rfl (v:= .agg (jb va).toArray) (d:=23) rfl rfl ?_ ?_
 ·intro a_ w_ hev hR hk;have e21:a_.eval (.tmp 21)=_:=hk 21 rfl;exact (jy rfl e21 (P0.out w_ (Ext.trans (jnQ _).drew hR)).1.at0 rfl rfl (by rw [C_va];rfl))
 refine jnT (fun _=>jnQ _) _ rfl (v:= ?_) (d:=24) rfl rfl ?_ ?_;rotate_left
 ·intro a_ w_ hev hR hk;have e2:a_.eval (.tmp 2)=_:=hk 2 rfl;clear hk;generalize a_.eval=ev at *;obtain ⟨hev1,hev2,hev3⟩:=hev;go_simp;(try with_reducible rfl)
 refine jnT (fun _=>jnQ _) _ rfl (v:= .agg (jb vc).toArray) (d:=25) rfl rfl ?_ ?_
 ·intro a_ w_ hev hR hk;have e23:a_.eval (.tmp 23)=_:=hk 23 rfl;exact (jy rfl e23 (P0.out w_ (Ext.trans (jnQ _).drew hR)).1.at16 rfl rfl (by rw [C_vc];rfl))
 refine jx _ rfl (fun u _=>u= .agg (jb vf).toArray) (d:=26) rfl (fun _ _ _ h _=>h) rfl ?_ ?_
 ·intro a_ w_ hev hR hk K1 hK1;have e22:a_.eval (.tmp 22)=_:=hk 22 rfl;have e24:a_.eval (.tmp 24)=_:=hk 24 rfl;clear hk;have f22:=jz.trans e22;have f24:=jz.trans e24;go_simp;refine (F_f.out _ (P0.out w_ (Ext.trans (jnQ _).drew hR)).2.2.2).mono ?_;rintro e_ w2_ ⟨rfl,x_⟩;exact hK1.out _ _ x_ rfl
 refine qY _ rfl (fun u w_=>∃ g,u= .pointer (some ⟨g,0,none⟩)/\w0.drew.heap.size<=g/\w_.heap[g]? =some (.cells (jb zs).toArray 233 (0,0))) (d:=6) rfl (fun _ _ _ h e=>by obtain ⟨g,h1,h2,h3⟩:=h;exact ⟨g,h1,h2,(e.block g (jh h3)).trans h3⟩) rfl (by decide) (fun _ _ h=>by obtain ⟨g,h1,h2,h3⟩:=h;subst h1;exact ⟨g,rfl,jh h3⟩) ?_ ?_
 ·intro a_ w_ hev hR hk K1 hK1;go_simp;exact hK1.out _ _ ((jnQ _).alloc _) ⟨_,rfl,hR.size,jqq _ _⟩ (fun _ q=>by cases q;exact jpo _)
 refine qY _ rfl (fun u w_=>∃ g,u= .pointer (some ⟨g,0,none⟩)/\w0.drew.heap.size<=g/\w_.heap[g]? =some (.cells (jb zs).toArray 233 (0,0))) (d:=7) rfl (fun _ _ _ h e=>by obtain ⟨g,h1,h2,h3⟩:=h;exact ⟨g,h1,h2,(e.block g (jh h3)).trans h3⟩) rfl (by decide) (fun _ _ h=>by obtain ⟨g,h1,h2,h3⟩:=h;subst h1;exact ⟨g,rfl,jh h3⟩) ?_ ?_
 ·intro a_ w_ hev hR hk K1 hK1;go_simp;exact hK1.out _ _ ((jnQ _).alloc _) ⟨_,rfl,hR.size,jqq _ _⟩ (fun _ q=>by cases q;exact jpo _)
 intro v_ w0q hR hV_ hN_;obtain ⟨hv11,hv10,hv9,hv8,hv7,hv6,hv5,hv4,hv3,hv2,hv1,hv0,_⟩:=hV_;replace hv0:v_ 0=_:=hv0;replace hv1:v_ 1=_:=hv1;replace hv2:v_ 2=_:=hv2;replace hv3:v_ 3=_:=hv3;replace hv4:v_ 4=_:=hv4;replace hv5:v_ 5=_:=hv5;replace hv6:v_ 6=_:=hv6;replace hv7:v_ 7=_:=hv7;replace hv8:v_ 8=_:=hv8;replace hv9:v_ 9=_:=hv9
 skip
 skip
 dsimp only [yQ,zv];obtain ⟨g_10,hv10,gb_10,gc_10⟩:=hv10;obtain ⟨g_11,hv11,gb_11,gc_11⟩:=hv11;have gd_10_11:g_10≠g_11:=by
  have q_:=hN_ 10 11 rfl rfl (by decide);rw [hv10,hv11] at q_
  simpa [blk] using q_
 clear hN_;rw [hv0,hv1,hv2,hv3,hv4,hv5,hv6,hv7,hv8,hv9,hv10,hv11];go_frame
 clear hv0 hv1 hv2 hv3 hv4 hv5 hv6 hv7 hv8 hv9 hv10 hv11;refine qi (z:=12) _ rfl rfl (by kernel_rfl) ?_;intro K1 hK1;refine jrf _ _ _ rfl g_10 (jb vee).toArray rfl rfl 233 (jb zs).toArray gc_10 (by rw [S_vee];rfl) (by rw [S_vee,S_zs]) O_vee ?_;refine hK1.out _ _ ?_;clear hK1 K1;refine qi (z:=13) _ rfl rfl (by kernel_rfl) ?_;intro K1 hK1;refine jrf _ _ _ rfl g_11 (jb vf).toArray rfl rfl 233 (jb zs).toArray ((jqy _ _ _ _ (by omega)).trans gc_11) (by rw [S_vf];rfl) (by rw [S_vf,S_zs]) O_vf ?_;refine hK1.out _ _ ?_;clear hK1 K1;refine qT (by kernel_rfl) ?_;refine yf (fun W=>Ext w0 W/\Wr W g_10 233 vee/\Wr W g_11 233 vf) ⟨(jqb (jqb ((jnQ w0).drew.trans hR) gb_10 _) gb_11 _),((jqy _ _ _ _ (by omega)).trans (jqc _ _ _ _ _ _ gc_10)),(jqc _ _ _ _ _ _ ((jqy _ _ _ _ (by omega)).trans gc_11))⟩ ?_;clear hR gc_10 gc_11;rintro w1 ⟨x_,k0,k1⟩;generalize g_10=g1_5 at *;generalize g_11=g1_6 at *;have P1:Hid (∀ s,Ext w1 s->Pr s w.heap.size va vb vc vd/\Wr s (w.heap.size+1) 233 vx/\Pr s (w.heap.size+1+1) zs zs zs zs/\Wr s g1_5 233 vee/\Wr s g1_6 233 vf/\Ext w s):=fun s e=>by
  obtain ⟨p0,p1,p2,p3⟩:=P0.out s (x_.trans e);exact ⟨p0,p1,p2,k0.kept e k0.lt,k1.kept e k1.lt,p3⟩
 clear P0 x_ k0 k1;clear gd_10_11;clear gb_10 gb_11;go_upto_region 2 with fail;refine qgF (R:=Ext) jnQ (fun _ _ _=>Ext.trans) [0,1,2,3,4,5,6,7,8,9,10,11] [12,13] [0,1,0,4,15,0,32,0,128,511,0,0,4095,8191] [true,true,true,true,true,true,true,true,true,true,true,true,false,false] ?_;refine jnT (fun _=>jnQ _) _ rfl (v:= ?_) (d:=27) rfl rfl ?_ ?_;rotate_left
 ·intro a_ w_ hev hR hk;have e2:a_.eval (.tmp 2)=_:=hk 2 rfl;clear hk;generalize a_.eval=ev at *;obtain ⟨hev1,hev2,hev3⟩:=hev;go_simp;(try with_reducible rfl)
 refine jnT (fun _=>jnQ _) _ rfl (v:= .agg (jb vb).toArray) (d:=28) rfl rfl ?_ ?_
 ·intro a_ w_ hev hR hk;have e26:a_.eval (.tmp 26)=_:=hk 26 rfl;exact (jy rfl e26 (P1.out w_ (Ext.trans (jnQ _).drew hR)).1.at8 rfl rfl (by rw [C_vb];rfl))
 refine jnT (fun _=>jnQ _) _ rfl (v:= ?_) (d:=29) rfl rfl ?_ ?_;rotate_left
 ·intro a_ w_ hev hR hk;have e2:a_.eval (.tmp 2)=_:=hk 2 rfl;clear hk;generalize a_.eval=ev at *;obtain ⟨hev1,hev2,hev3⟩:=hev;go_simp;(try with_reducible rfl)
 refine jnT (fun _=>jnQ _) _ rfl (v:= .agg (jb vd).toArray) (d:=30) rfl rfl ?_ ?_
 ·intro a_ w_ hev hR hk;have e28:a_.eval (.tmp 28)=_:=hk 28 rfl;exact (jy rfl e28 (P1.out w_ (Ext.trans (jnQ _).drew hR)).1.at24 rfl rfl (by rw [C_vd];rfl))
 refine jx _ rfl (fun u _=>u= .agg (jb vg).toArray) (d:=31) rfl (fun _ _ _ h _=>h) rfl ?_ ?_
 ·intro a_ w_ hev hR hk K1 hK1;have e27:a_.eval (.tmp 27)=_:=hk 27 rfl;have e29:a_.eval (.tmp 29)=_:=hk 29 rfl;clear hk;have f27:=jz.trans e27;have f29:=jz.trans e29;go_simp;refine (F_g.out _ (P1.out w_ (Ext.trans (jnQ _).drew hR)).2.2.2.2.2).mono ?_;rintro e_ w2_ ⟨rfl,x_⟩;exact hK1.out _ _ x_ rfl
 refine jnT (fun _=>jnQ _) _ rfl (v:= ?_) (d:=32) rfl rfl ?_ ?_;rotate_left
 ·intro a_ w_ hev hR hk;have e2:a_.eval (.tmp 2)=_:=hk 2 rfl;clear hk;generalize a_.eval=ev at *;obtain ⟨hev1,hev2,hev3⟩:=hev;go_simp;(try with_reducible rfl)
 refine jnT (fun _=>jnQ _) _ rfl (v:= .agg (jb vb).toArray) (d:=33) rfl rfl ?_ ?_
 ·intro a_ w_ hev hR hk;have e31:a_.eval (.tmp 31)=_:=hk 31 rfl;exact (jy rfl e31 (P1.out w_ (Ext.trans (jnQ _).drew hR)).1.at8 rfl rfl (by rw [C_vb];rfl))
 refine jnT (fun _=>jnQ _) _ rfl (v:= ?_) (d:=34) rfl rfl ?_ ?_;rotate_left
 ·intro a_ w_ hev hR hk;have e2:a_.eval (.tmp 2)=_:=hk 2 rfl;clear hk;generalize a_.eval=ev at *;obtain ⟨hev1,hev2,hev3⟩:=hev;go_simp;(try with_reducible rfl)
 refine jnT (fun _=>jnQ _) _ rfl (v:= .agg (jb vd).toArray) (d:=35) rfl rfl ?_ ?_
 ·intro a_ w_ hev hR hk;have e33:a_.eval (.tmp 33)=_:=hk 33 rfl;exact (jy rfl e33 (P1.out w_ (Ext.trans (jnQ _).drew hR)).1.at24 rfl rfl (by rw [C_vd];rfl))
 refine jx _ rfl (fun u _=>u= .agg (jb vh).toArray) (d:=36) rfl (fun _ _ _ h _=>h) rfl ?_ ?_
 ·intro a_ w_ hev hR hk K1 hK1;have e32:a_.eval (.tmp 32)=_:=hk 32 rfl;have e34:a_.eval (.tmp 34)=_:=hk 34 rfl;clear hk;have f32:=jz.trans e32;have f34:=jz.trans e34;go_simp;refine (F_h.out _ (P1.out w_ (Ext.trans (jnQ _).drew hR)).2.2.2.2.2).mono ?_;rintro e_ w2_ ⟨rfl,x_⟩;exact hK1.out _ _ x_ rfl
 refine qY _ rfl (fun u w_=>∃ g,u= .pointer (some ⟨g,0,none⟩)/\w1.drew.heap.size<=g/\w_.heap[g]? =some (.cells (jb zs).toArray 233 (0,0))) (d:=8) rfl (fun _ _ _ h e=>by obtain ⟨g,h1,h2,h3⟩:=h;exact ⟨g,h1,h2,(e.block g (jh h3)).trans h3⟩) rfl (by decide) (fun _ _ h=>by obtain ⟨g,h1,h2,h3⟩:=h;subst h1;exact ⟨g,rfl,jh h3⟩) ?_ ?_
 ·intro a_ w_ hev hR hk K1 hK1;go_simp;exact hK1.out _ _ ((jnQ _).alloc _) ⟨_,rfl,hR.size,jqq _ _⟩ (fun _ q=>by cases q;exact jpo _)
 refine qY _ rfl (fun u w_=>∃ g,u= .pointer (some ⟨g,0,none⟩)/\w1.drew.heap.size<=g/\w_.heap[g]? =some (.cells (jb zs).toArray 233 (0,0))) (d:=9) rfl (fun _ _ _ h e=>by obtain ⟨g,h1,h2,h3⟩:=h;exact ⟨g,h1,h2,(e.block g (jh h3)).trans h3⟩) rfl (by decide) (fun _ _ h=>by obtain ⟨g,h1,h2,h3⟩:=h;subst h1;exact ⟨g,rfl,jh h3⟩) ?_ ?_
 ·intro a_ w_ hev hR hk K1 hK1;go_simp;exact hK1.out _ _ ((jnQ _).alloc _) ⟨_,rfl,hR.size,jqq _ _⟩ (fun _ q=>by cases q;exact jpo _)
 intro v_ w1q hR hV_ hN_;obtain ⟨hv11,hv10,hv9,hv8,hv7,hv6,hv5,hv4,hv3,hv2,hv1,hv0,_⟩:=hV_;replace hv0:v_ 0=_:=hv0;replace hv1:v_ 1=_:=hv1;replace hv2:v_ 2=_:=hv2;replace hv3:v_ 3=_:=hv3;replace hv4:v_ 4=_:=hv4;replace hv5:v_ 5=_:=hv5;replace hv6:v_ 6=_:=hv6;replace hv7:v_ 7=_:=hv7;replace hv8:v_ 8=_:=hv8;replace hv9:v_ 9=_:=hv9
 skip
 skip
 dsimp only [yQ,zv];obtain ⟨g_10,hv10,gb_10,gc_10⟩:=hv10;obtain ⟨g_11,hv11,gb_11,gc_11⟩:=hv11;have gd_10_11:g_10≠g_11:=by
  have q_:=hN_ 10 11 rfl rfl (by decide);rw [hv10,hv11] at q_
  simpa [blk] using q_
 clear hN_;rw [hv0,hv1,hv2,hv3,hv4,hv5,hv6,hv7,hv8,hv9,hv10,hv11];go_frame
 clear hv0 hv1 hv2 hv3 hv4 hv5 hv6 hv7 hv8 hv9 hv10 hv11;refine qi (z:=12) _ rfl rfl (by kernel_rfl) ?_;intro K1 hK1;refine jrf _ _ _ rfl g_10 (jb vg).toArray rfl rfl 233 (jb zs).toArray gc_10 (by rw [S_vg];rfl) (by rw [S_vg,S_zs]) O_vg ?_;refine hK1.out _ _ ?_;clear hK1 K1;refine qi (z:=13) _ rfl rfl (by kernel_rfl) ?_;intro K1 hK1;refine jrf _ _ _ rfl g_11 (jb vh).toArray rfl rfl 233 (jb zs).toArray ((jqy _ _ _ _ (by omega)).trans gc_11) (by rw [S_vh];rfl) (by rw [S_vh,S_zs]) O_vh ?_;refine hK1.out _ _ ?_;clear hK1 K1;refine qT (by kernel_rfl) ?_;refine yf (fun W=>Ext w1 W/\Wr W g_10 233 vg/\Wr W g_11 233 vh) ⟨(jqb (jqb ((jnQ w1).drew.trans hR) gb_10 _) gb_11 _),((jqy _ _ _ _ (by omega)).trans (jqc _ _ _ _ _ _ gc_10)),(jqc _ _ _ _ _ _ ((jqy _ _ _ _ (by omega)).trans gc_11))⟩ ?_;clear hR gc_10 gc_11;rintro w2 ⟨x_,k0,k1⟩;generalize g_10=g2_7 at *;generalize g_11=g2_8 at *;have P2:Hid (∀ s,Ext w2 s->Pr s w.heap.size va vb vc vd/\Wr s (w.heap.size+1) 233 vx/\Pr s (w.heap.size+1+1) zs zs zs zs/\Wr s g1_5 233 vee/\Wr s g1_6 233 vf/\Wr s g2_7 233 vg/\Wr s g2_8 233 vh/\Ext w s):=fun s e=>by
  obtain ⟨p0,p1,p2,p3,p4,p5⟩:=P1.out s (x_.trans e);exact ⟨p0,p1,p2,p3,p4,k0.kept e k0.lt,k1.kept e k1.lt,p5⟩
 clear P1 x_ k0 k1;clear gd_10_11;clear gb_10 gb_11;go_upto_region 3 with fail;refine qgF (R:=Ext) jnQ (fun _ _ _=>Ext.trans) [0,1,2,3,4,5,6,7] [8,9] [0,0,3,0,0,31,0,0,255,511] [true,true,true,true,true,true,true,true,false,false] ?_;refine jnT (fun _=>jnQ _) _ rfl (v:= .agg (jb vee).toArray) (d:=37) rfl rfl ?_ ?_
 ·intro a_ w_ hev hR hk;have e5:a_.eval (.tmp 5)=_:=hk 5 rfl;exact (jd rfl e5 (P2.out w_ (Ext.trans (jnQ _).drew hR)).2.2.2.1 rfl rfl (by rw [S_vee];rfl))
 refine jnT (fun _=>jnQ _) _ rfl (v:= .agg (jb vee).toArray) (d:=38) rfl rfl ?_ ?_
 ·intro a_ w_ hev hR hk;have e5:a_.eval (.tmp 5)=_:=hk 5 rfl;exact (jd rfl e5 (P2.out w_ (Ext.trans (jnQ _).drew hR)).2.2.2.1 rfl rfl (by rw [S_vee];rfl))
 refine jx _ rfl (fun u _=>u= .agg (jb vu).toArray) (d:=39) rfl (fun _ _ _ h _=>h) rfl ?_ ?_
 ·intro a_ w_ hev hR hk K1 hK1;have e36:a_.eval (.tmp 36)=_:=hk 36 rfl;have e37:a_.eval (.tmp 37)=_:=hk 37 rfl;clear hk;have f36:=jz.trans e36;have f37:=jz.trans e37;go_simp;refine (F_u.out _ (P2.out w_ (Ext.trans (jnQ _).drew hR)).2.2.2.2.2.2.2).mono ?_;rintro e_ w2_ ⟨rfl,x_⟩;exact hK1.out _ _ x_ rfl
 refine jnT (fun _=>jnQ _) _ rfl (v:= .agg (jb vf).toArray) (d:=40) rfl rfl ?_ ?_
 ·intro a_ w_ hev hR hk;have e6:a_.eval (.tmp 6)=_:=hk 6 rfl;exact (jd rfl e6 (P2.out w_ (Ext.trans (jnQ _).drew hR)).2.2.2.2.1 rfl rfl (by rw [S_vf];rfl))
 refine jnT (fun _=>jnQ _) _ rfl (v:= .agg (jb vf).toArray) (d:=41) rfl rfl ?_ ?_
 ·intro a_ w_ hev hR hk;have e6:a_.eval (.tmp 6)=_:=hk 6 rfl;exact (jd rfl e6 (P2.out w_ (Ext.trans (jnQ _).drew hR)).2.2.2.2.1 rfl rfl (by rw [S_vf];rfl))
 refine jx _ rfl (fun u _=>u= .agg (jb vv).toArray) (d:=42) rfl (fun _ _ _ h _=>h) rfl ?_ ?_
 ·intro a_ w_ hev hR hk K1 hK1;have e39:a_.eval (.tmp 39)=_:=hk 39 rfl;have e40:a_.eval (.tmp 40)=_:=hk 40 rfl;clear hk;have f39:=jz.trans e39;have f40:=jz.trans e40;go_simp;refine (F_v.out _ (P2.out w_ (Ext.trans (jnQ _).drew hR)).2.2.2.2.2.2.2).mono ?_;rintro e_ w2_ ⟨rfl,x_⟩;exact hK1.out _ _ x_ rfl
 refine qY _ rfl (fun u w_=>∃ g,u= .pointer (some ⟨g,0,none⟩)/\w2.drew.heap.size<=g/\w_.heap[g]? =some (.cells (jb zs).toArray 233 (0,0))) (d:=10) rfl (fun _ _ _ h e=>by obtain ⟨g,h1,h2,h3⟩:=h;exact ⟨g,h1,h2,(e.block g (jh h3)).trans h3⟩) rfl (by decide) (fun _ _ h=>by obtain ⟨g,h1,h2,h3⟩:=h;subst h1;exact ⟨g,rfl,jh h3⟩) ?_ ?_
 ·intro a_ w_ hev hR hk K1 hK1;go_simp;exact hK1.out _ _ ((jnQ _).alloc _) ⟨_,rfl,hR.size,jqq _ _⟩ (fun _ q=>by cases q;exact jpo _)
 refine qY _ rfl (fun u w_=>∃ g,u= .pointer (some ⟨g,0,none⟩)/\w2.drew.heap.size<=g/\w_.heap[g]? =some (.cells (jb zs).toArray 233 (0,0))) (d:=11) rfl (fun _ _ _ h e=>by obtain ⟨g,h1,h2,h3⟩:=h;exact ⟨g,h1,h2,(e.block g (jh h3)).trans h3⟩) rfl (by decide) (fun _ _ h=>by obtain ⟨g,h1,h2,h3⟩:=h;subst h1;exact ⟨g,rfl,jh h3⟩) ?_ ?_
 ·intro a_ w_ hev hR hk K1 hK1;go_simp;exact hK1.out _ _ ((jnQ _).alloc _) ⟨_,rfl,hR.size,jqq _ _⟩ (fun _ q=>by cases q;exact jpo _)
 intro v_ w2q hR hV_ hN_;obtain ⟨hv7,hv6,hv5,hv4,hv3,hv2,hv1,hv0,_⟩:=hV_;replace hv0:v_ 0=_:=hv0;replace hv1:v_ 1=_:=hv1;replace hv2:v_ 2=_:=hv2;replace hv3:v_ 3=_:=hv3;replace hv4:v_ 4=_:=hv4;replace hv5:v_ 5=_:=hv5
 skip
 skip
 dsimp only [yQ,zv];obtain ⟨g_6,hv6,gb_6,gc_6⟩:=hv6;obtain ⟨g_7,hv7,gb_7,gc_7⟩:=hv7;have gd_6_7:g_6≠g_7:=by
  have q_:=hN_ 6 7 rfl rfl (by decide);rw [hv6,hv7] at q_
  simpa [blk] using q_
 clear hN_;rw [hv0,hv1,hv2,hv3,hv4,hv5,hv6,hv7];go_frame
 clear hv0 hv1 hv2 hv3 hv4 hv5 hv6 hv7;refine qi (z:=8) _ rfl rfl (by kernel_rfl) ?_;intro K1 hK1;refine jrf _ _ _ rfl g_6 (jb vu).toArray rfl rfl 233 (jb zs).toArray gc_6 (by rw [S_vu];rfl) (by rw [S_vu,S_zs]) O_vu ?_;refine hK1.out _ _ ?_;clear hK1 K1;refine qi (z:=9) _ rfl rfl (by kernel_rfl) ?_;intro K1 hK1;refine jrf _ _ _ rfl g_7 (jb vv).toArray rfl rfl 233 (jb zs).toArray ((jqy _ _ _ _ (by omega)).trans gc_7) (by rw [S_vv];rfl) (by rw [S_vv,S_zs]) O_vv ?_;refine hK1.out _ _ ?_;clear hK1 K1;refine qT (by kernel_rfl) ?_;refine yf (fun W=>Ext w2 W/\Wr W g_6 233 vu/\Wr W g_7 233 vv) ⟨(jqb (jqb ((jnQ w2).drew.trans hR) gb_6 _) gb_7 _),((jqy _ _ _ _ (by omega)).trans (jqc _ _ _ _ _ _ gc_6)),(jqc _ _ _ _ _ _ ((jqy _ _ _ _ (by omega)).trans gc_7))⟩ ?_;clear hR gc_6 gc_7;rintro w3 ⟨x_,k0,k1⟩;generalize g_6=g3_9 at *;generalize g_7=g3_10 at *;have P3:Hid (∀ s,Ext w3 s->Pr s w.heap.size va vb vc vd/\Wr s (w.heap.size+1) 233 vx/\Pr s (w.heap.size+1+1) zs zs zs zs/\Wr s g1_5 233 vee/\Wr s g1_6 233 vf/\Wr s g2_7 233 vg/\Wr s g2_8 233 vh/\Wr s g3_9 233 vu/\Wr s g3_10 233 vv/\Ext w s):=fun s e=>by
  obtain ⟨p0,p1,p2,p3,p4,p5,p6,p7⟩:=P2.out s (x_.trans e);exact ⟨p0,p1,p2,p3,p4,p5,p6,k0.kept e k0.lt,k1.kept e k1.lt,p7⟩
 clear P2 x_ k0 k1;clear gd_6_7;clear gb_6 gb_7;go_upto_region 4 with fail;have q0:=Hj (P3.out _ (jnQ _)).2.2.2.2.2.2.2.1;have q1:=Hj (P3.out _ (jnQ _)).2.2.2.2.2.2.2.2.1;go_wp2_with (first
  | (refine vQ rfl (jd rfl rfl q0.out rfl rfl (by rw [S_vu];rfl)) ?_;go_frame)
  | (refine vQ rfl (jd rfl rfl q1.out rfl rfl (by rw [S_vv];rfl)) ?_;go_frame))
 refine (F_k.out _ (P3.out _ (jnQ _)).2.2.2.2.2.2.2.2.2).mono ?_;rintro e v_ ⟨rfl,e1⟩;have a1:Hid ((v_.alloc (jqY (jb zs).toArray 233)).heap[v_.heap.size]? =some (.cells (jb zs).toArray 233 (0,0))):=jqq _ _;have e5:Ext v_ ((v_.alloc (jqY (jb zs).toArray 233)).setRow v_.heap.size (jb vk).toArray):=jqb ((jnQ v_).alloc _) (jpo _) _;go_upto_region 5 with (refine ws_ rfl 233 rfl v_.heap.size (jb vk).toArray rfl rfl a1.out (by rw [S_vk];rfl) (by rw [S_vk,S_zs]) O_vk ?_;go_frame)
 obtain ⟨g4_s,hg_⟩:∃ g,g=v_.heap.size:=⟨_,rfl⟩;refine jg (fun W=>Ext w3 W/\Wr W g4_s 233 vk) ⟨e1.trans e5,by rw [hg_];exact jqc _ _ _ _ _ _ a1.out⟩ ?_;rw [<-hg_];clear hg_ a1 e5 e1 q0 q1;rintro w4 ⟨x_,k0⟩;have P4:Hid (∀ s,Ext w4 s->Pr s w.heap.size va vb vc vd/\Wr s (w.heap.size+1) 233 vx/\Pr s (w.heap.size+1+1) zs zs zs zs/\Wr s g1_5 233 vee/\Wr s g1_6 233 vf/\Wr s g2_7 233 vg/\Wr s g2_8 233 vh/\Wr s g3_9 233 vu/\Wr s g3_10 233 vv/\Wr s g4_s 233 vk/\Ext w s):=fun s e=>by
  obtain ⟨p0,p1,p2,p3,p4,p5,p6,p7,p8,p9⟩:=P3.out s (x_.trans e);exact ⟨p0,p1,p2,p3,p4,p5,p6,p7,p8,k0.kept e k0.lt,p9⟩
 clear P3 x_ k0;refine qgF (R:=Ext) jnQ (fun _ _ _=>Ext.trans) [0,1,2,3,4,5,6,7] [8,9] [0,0,3,0,0,31,0,0,255,511] [true,true,true,true,true,true,true,true,false,false] ?_;refine jnT (fun _=>jnQ _) _ rfl (v:= .agg (jb vh).toArray) (d:=46) rfl rfl ?_ ?_
 ·intro a_ w_ hev hR hk;have e8:a_.eval (.tmp 8)=_:=hk 8 rfl;exact (jd rfl e8 (P4.out w_ (Ext.trans (jnQ _).drew hR)).2.2.2.2.2.2.1 rfl rfl (by rw [S_vh];rfl))
 refine jnT (fun _=>jnQ _) _ rfl (v:= .agg (jb vee).toArray) (d:=47) rfl rfl ?_ ?_
 ·intro a_ w_ hev hR hk;have e5:a_.eval (.tmp 5)=_:=hk 5 rfl;exact (jd rfl e5 (P4.out w_ (Ext.trans (jnQ _).drew hR)).2.2.2.1 rfl rfl (by rw [S_vee];rfl))
 refine jx _ rfl (fun u _=>u= .agg (jb vy).toArray) (d:=48) rfl (fun _ _ _ h _=>h) rfl ?_ ?_
 ·intro a_ w_ hev hR hk K1 hK1;have e45:a_.eval (.tmp 45)=_:=hk 45 rfl;have e46:a_.eval (.tmp 46)=_:=hk 46 rfl;clear hk;have f45:=jz.trans e45;have f46:=jz.trans e46;go_simp;refine (F_y.out _ (P4.out w_ (Ext.trans (jnQ _).drew hR)).2.2.2.2.2.2.2.2.2.2).mono ?_;rintro e_ w2_ ⟨rfl,x_⟩;exact hK1.out _ _ x_ rfl
 refine jnT (fun _=>jnQ _) _ rfl (v:= .agg (jb vg).toArray) (d:=49) rfl rfl ?_ ?_
 ·intro a_ w_ hev hR hk;have e7:a_.eval (.tmp 7)=_:=hk 7 rfl;exact (jd rfl e7 (P4.out w_ (Ext.trans (jnQ _).drew hR)).2.2.2.2.2.1 rfl rfl (by rw [S_vg];rfl))
 refine jnT (fun _=>jnQ _) _ rfl (v:= .agg (jb vf).toArray) (d:=50) rfl rfl ?_ ?_
 ·intro a_ w_ hev hR hk;have e6:a_.eval (.tmp 6)=_:=hk 6 rfl;exact (jd rfl e6 (P4.out w_ (Ext.trans (jnQ _).drew hR)).2.2.2.2.1 rfl rfl (by rw [S_vf];rfl))
 refine jx _ rfl (fun u _=>u= .agg (jb vz).toArray) (d:=51) rfl (fun _ _ _ h _=>h) rfl ?_ ?_
 ·intro a_ w_ hev hR hk K1 hK1;have e48:a_.eval (.tmp 48)=_:=hk 48 rfl;have e49:a_.eval (.tmp 49)=_:=hk 49 rfl;clear hk;have f48:=jz.trans e48;have f49:=jz.trans e49;go_simp;refine (F_z.out _ (P4.out w_ (Ext.trans (jnQ _).drew hR)).2.2.2.2.2.2.2.2.2.2).mono ?_;rintro e_ w2_ ⟨rfl,x_⟩;exact hK1.out _ _ x_ rfl
 refine qY _ rfl (fun u w_=>∃ g,u= .pointer (some ⟨g,0,none⟩)/\w4.drew.heap.size<=g/\w_.heap[g]? =some (.cells (jb zs).toArray 233 (0,0))) (d:=13) rfl (fun _ _ _ h e=>by obtain ⟨g,h1,h2,h3⟩:=h;exact ⟨g,h1,h2,(e.block g (jh h3)).trans h3⟩) rfl (by decide) (fun _ _ h=>by obtain ⟨g,h1,h2,h3⟩:=h;subst h1;exact ⟨g,rfl,jh h3⟩) ?_ ?_
 ·intro a_ w_ hev hR hk K1 hK1;go_simp;exact hK1.out _ _ ((jnQ _).alloc _) ⟨_,rfl,hR.size,jqq _ _⟩ (fun _ q=>by cases q;exact jpo _)
 refine qY _ rfl (fun u w_=>∃ g,u= .pointer (some ⟨g,0,none⟩)/\w4.drew.heap.size<=g/\w_.heap[g]? =some (.cells (jb zs).toArray 233 (0,0))) (d:=14) rfl (fun _ _ _ h e=>by obtain ⟨g,h1,h2,h3⟩:=h;exact ⟨g,h1,h2,(e.block g (jh h3)).trans h3⟩) rfl (by decide) (fun _ _ h=>by obtain ⟨g,h1,h2,h3⟩:=h;subst h1;exact ⟨g,rfl,jh h3⟩) ?_ ?_
 ·intro a_ w_ hev hR hk K1 hK1;go_simp;exact hK1.out _ _ ((jnQ _).alloc _) ⟨_,rfl,hR.size,jqq _ _⟩ (fun _ q=>by cases q;exact jpo _)
 intro v_ w4q hR hV_ hN_;obtain ⟨hv7,hv6,hv5,hv4,hv3,hv2,hv1,hv0,_⟩:=hV_;replace hv0:v_ 0=_:=hv0;replace hv1:v_ 1=_:=hv1;replace hv2:v_ 2=_:=hv2;replace hv3:v_ 3=_:=hv3;replace hv4:v_ 4=_:=hv4;replace hv5:v_ 5=_:=hv5
 skip
 skip
 dsimp only [yQ,zv];obtain ⟨g_6,hv6,gb_6,gc_6⟩:=hv6;obtain ⟨g_7,hv7,gb_7,gc_7⟩:=hv7;have gd_6_7:g_6≠g_7:=by
  have q_:=hN_ 6 7 rfl rfl (by decide);rw [hv6,hv7] at q_
  simpa [blk] using q_
 clear hN_;rw [hv0,hv1,hv2,hv3,hv4,hv5,hv6,hv7];go_frame
 clear hv0 hv1 hv2 hv3 hv4 hv5 hv6 hv7;refine qi (z:=8) _ rfl rfl (by kernel_rfl) ?_;intro K1 hK1;refine jrf _ _ _ rfl g_6 (jb vy).toArray rfl rfl 233 (jb zs).toArray gc_6 (by rw [S_vy];rfl) (by rw [S_vy,S_zs]) O_vy ?_;refine hK1.out _ _ ?_;clear hK1 K1;refine qi (z:=9) _ rfl rfl (by kernel_rfl) ?_;intro K1 hK1;refine jrf _ _ _ rfl g_7 (jb vz).toArray rfl rfl 233 (jb zs).toArray ((jqy _ _ _ _ (by omega)).trans gc_7) (by rw [S_vz];rfl) (by rw [S_vz,S_zs]) O_vz ?_;refine hK1.out _ _ ?_;clear hK1 K1;refine qT (by kernel_rfl) ?_;refine yf (fun W=>Ext w4 W/\Wr W g_6 233 vy/\Wr W g_7 233 vz) ⟨(jqb (jqb ((jnQ w4).drew.trans hR) gb_6 _) gb_7 _),((jqy _ _ _ _ (by omega)).trans (jqc _ _ _ _ _ _ gc_6)),(jqc _ _ _ _ _ _ ((jqy _ _ _ _ (by omega)).trans gc_7))⟩ ?_;clear hR gc_6 gc_7;rintro w5 ⟨x_,k0,k1⟩;generalize g_6=g5_12 at *;generalize g_7=g5_13 at *;have P5:Hid (∀ s,Ext w5 s->Pr s w.heap.size va vb vc vd/\Wr s (w.heap.size+1) 233 vx/\Pr s (w.heap.size+1+1) zs zs zs zs/\Wr s g1_5 233 vee/\Wr s g1_6 233 vf/\Wr s g2_7 233 vg/\Wr s g2_8 233 vh/\Wr s g3_9 233 vu/\Wr s g3_10 233 vv/\Wr s g4_s 233 vk/\Wr s g5_12 233 vy/\Wr s g5_13 233 vz/\Ext w s):=fun s e=>by
  obtain ⟨p0,p1,p2,p3,p4,p5,p6,p7,p8,p9,p10⟩:=P4.out s (x_.trans e);exact ⟨p0,p1,p2,p3,p4,p5,p6,p7,p8,p9,k0.kept e k0.lt,k1.kept e k1.lt,p10⟩
 clear P4 x_ k0 k1;clear gd_6_7;clear gb_6 gb_7;go_upto_region 6 with fail;refine qgF (R:=Ext) jnQ (fun _ _ _=>Ext.trans) [0,1,2,3,4,5,6,7] [8,9] [0,0,3,0,0,31,0,0,255,511] [true,true,true,true,true,true,true,true,false,false] ?_;refine jnT (fun _=>jnQ _) _ rfl (v:= .agg (jb vy).toArray) (d:=52) rfl rfl ?_ ?_
 ·intro a_ w_ hev hR hk;have e12:a_.eval (.tmp 12)=_:=hk 12 rfl;exact (jd rfl e12 (P5.out w_ (Ext.trans (jnQ _).drew hR)).2.2.2.2.2.2.2.2.2.2.1 rfl rfl (by rw [S_vy];rfl))
 refine jnT (fun _=>jnQ _) _ rfl (v:= .agg (jb vz).toArray) (d:=53) rfl rfl ?_ ?_
 ·intro a_ w_ hev hR hk;have e13:a_.eval (.tmp 13)=_:=hk 13 rfl;exact (jd rfl e13 (P5.out w_ (Ext.trans (jnQ _).drew hR)).2.2.2.2.2.2.2.2.2.2.2.1 rfl rfl (by rw [S_vz];rfl))
 refine jx _ rfl (fun u _=>u= .agg (jb vm).toArray) (d:=54) rfl (fun _ _ _ h _=>h) rfl ?_ ?_
 ·intro a_ w_ hev hR hk K1 hK1;have e51:a_.eval (.tmp 51)=_:=hk 51 rfl;have e52:a_.eval (.tmp 52)=_:=hk 52 rfl;clear hk;have f51:=jz.trans e51;have f52:=jz.trans e52;go_simp;refine (F_m.out _ (P5.out w_ (Ext.trans (jnQ _).drew hR)).2.2.2.2.2.2.2.2.2.2.2.2).mono ?_;rintro e_ w2_ ⟨rfl,x_⟩;exact hK1.out _ _ x_ rfl
 refine jnT (fun _=>jnQ _) _ rfl (v:= .agg (jb vy).toArray) (d:=55) rfl rfl ?_ ?_
 ·intro a_ w_ hev hR hk;have e12:a_.eval (.tmp 12)=_:=hk 12 rfl;exact (jd rfl e12 (P5.out w_ (Ext.trans (jnQ _).drew hR)).2.2.2.2.2.2.2.2.2.2.1 rfl rfl (by rw [S_vy];rfl))
 refine jnT (fun _=>jnQ _) _ rfl (v:= .agg (jb vz).toArray) (d:=56) rfl rfl ?_ ?_
 ·intro a_ w_ hev hR hk;have e13:a_.eval (.tmp 13)=_:=hk 13 rfl;exact (jd rfl e13 (P5.out w_ (Ext.trans (jnQ _).drew hR)).2.2.2.2.2.2.2.2.2.2.2.1 rfl rfl (by rw [S_vz];rfl))
 refine jx _ rfl (fun u _=>u= .agg (jb vn).toArray) (d:=57) rfl (fun _ _ _ h _=>h) rfl ?_ ?_
 ·intro a_ w_ hev hR hk K1 hK1;have e54:a_.eval (.tmp 54)=_:=hk 54 rfl;have e55:a_.eval (.tmp 55)=_:=hk 55 rfl;clear hk;have f54:=jz.trans e54;have f55:=jz.trans e55;go_simp;refine (F_n.out _ (P5.out w_ (Ext.trans (jnQ _).drew hR)).2.2.2.2.2.2.2.2.2.2.2.2).mono ?_;rintro e_ w2_ ⟨rfl,x_⟩;exact hK1.out _ _ x_ rfl
 refine qY _ rfl (fun u w_=>∃ g,u= .pointer (some ⟨g,0,none⟩)/\w5.drew.heap.size<=g/\w_.heap[g]? =some (.cells (jb zs).toArray 233 (0,0))) (d:=15) rfl (fun _ _ _ h e=>by obtain ⟨g,h1,h2,h3⟩:=h;exact ⟨g,h1,h2,(e.block g (jh h3)).trans h3⟩) rfl (by decide) (fun _ _ h=>by obtain ⟨g,h1,h2,h3⟩:=h;subst h1;exact ⟨g,rfl,jh h3⟩) ?_ ?_
 ·intro a_ w_ hev hR hk K1 hK1;go_simp;exact hK1.out _ _ ((jnQ _).alloc _) ⟨_,rfl,hR.size,jqq _ _⟩ (fun _ q=>by cases q;exact jpo _)
 refine qY _ rfl (fun u w_=>∃ g,u= .pointer (some ⟨g,0,none⟩)/\w5.drew.heap.size<=g/\w_.heap[g]? =some (.cells (jb zs).toArray 233 (0,0))) (d:=16) rfl (fun _ _ _ h e=>by obtain ⟨g,h1,h2,h3⟩:=h;exact ⟨g,h1,h2,(e.block g (jh h3)).trans h3⟩) rfl (by decide) (fun _ _ h=>by obtain ⟨g,h1,h2,h3⟩:=h;subst h1;exact ⟨g,rfl,jh h3⟩) ?_ ?_
 ·intro a_ w_ hev hR hk K1 hK1;go_simp;exact hK1.out _ _ ((jnQ _).alloc _) ⟨_,rfl,hR.size,jqq _ _⟩ (fun _ q=>by cases q;exact jpo _)
 intro v_ w5q hR hV_ hN_;obtain ⟨hv7,hv6,hv5,hv4,hv3,hv2,hv1,hv0,_⟩:=hV_;replace hv0:v_ 0=_:=hv0;replace hv1:v_ 1=_:=hv1;replace hv2:v_ 2=_:=hv2;replace hv3:v_ 3=_:=hv3;replace hv4:v_ 4=_:=hv4;replace hv5:v_ 5=_:=hv5
 skip
 skip
 dsimp only [yQ,zv];obtain ⟨g_6,hv6,gb_6,gc_6⟩:=hv6;obtain ⟨g_7,hv7,gb_7,gc_7⟩:=hv7;have gd_6_7:g_6≠g_7:=by
  have q_:=hN_ 6 7 rfl rfl (by decide);rw [hv6,hv7] at q_
  simpa [blk] using q_
 clear hN_;rw [hv0,hv1,hv2,hv3,hv4,hv5,hv6,hv7];go_frame
 clear hv0 hv1 hv2 hv3 hv4 hv5 hv6 hv7;refine qi (z:=8) _ rfl rfl (by kernel_rfl) ?_;intro K1 hK1;refine jrf _ _ _ rfl g_6 (jb vm).toArray rfl rfl 233 (jb zs).toArray gc_6 (by rw [S_vm];rfl) (by rw [S_vm,S_zs]) O_vm ?_;refine hK1.out _ _ ?_;clear hK1 K1;refine qi (z:=9) _ rfl rfl (by kernel_rfl) ?_;intro K1 hK1;refine jrf _ _ _ rfl g_7 (jb vn).toArray rfl rfl 233 (jb zs).toArray ((jqy _ _ _ _ (by omega)).trans gc_7) (by rw [S_vn];rfl) (by rw [S_vn,S_zs]) O_vn ?_;refine hK1.out _ _ ?_;clear hK1 K1;refine qT (by kernel_rfl) ?_;refine yf (fun W=>Ext w5 W/\Wr W g_6 233 vm/\Wr W g_7 233 vn) ⟨(jqb (jqb ((jnQ w5).drew.trans hR) gb_6 _) gb_7 _),((jqy _ _ _ _ (by omega)).trans (jqc _ _ _ _ _ _ gc_6)),(jqc _ _ _ _ _ _ ((jqy _ _ _ _ (by omega)).trans gc_7))⟩ ?_;clear hR gc_6 gc_7;rintro w6 ⟨x_,k0,k1⟩;generalize g_6=g6_14 at *;generalize g_7=g6_15 at *;have P6:Hid (∀ s,Ext w6 s->Pr s w.heap.size va vb vc vd/\Wr s (w.heap.size+1) 233 vx/\Pr s (w.heap.size+1+1) zs zs zs zs/\Wr s g1_5 233 vee/\Wr s g1_6 233 vf/\Wr s g2_7 233 vg/\Wr s g2_8 233 vh/\Wr s g3_9 233 vu/\Wr s g3_10 233 vv/\Wr s g4_s 233 vk/\Wr s g5_12 233 vy/\Wr s g5_13 233 vz/\Wr s g6_14 233 vm/\Wr s g6_15 233 vn/\Ext w s):=fun s e=>by
  obtain ⟨p0,p1,p2,p3,p4,p5,p6,p7,p8,p9,p10,p11,p12⟩:=P5.out s (x_.trans e);exact ⟨p0,p1,p2,p3,p4,p5,p6,p7,p8,p9,p10,p11,k0.kept e k0.lt,k1.kept e k1.lt,p12⟩
 clear P5 x_ k0 k1;clear gd_6_7;clear gb_6 gb_7;go_upto_region 7 with fail;refine qgF (R:=Ext) jnQ (fun _ _ _=>Ext.trans) [0,1,2,3,4,5,6,7,8,9,10,11,12,13,14,15,16,17,18] [19] [0,0,3,0,0,31,0,0,63,0,831,1983,4095,0,0,32767,0,131071,262143,524287] [true,true,true,true,true,true,true,true,true,true,true,true,true,true,true,true,true,true,true,false] ?_;refine jnT (fun _=>jnQ _) _ rfl (v:= .agg (jb vu).toArray) (d:=58) rfl rfl ?_ ?_
 ·intro a_ w_ hev hR hk;have e9:a_.eval (.tmp 9)=_:=hk 9 rfl;exact (jd rfl e9 (P6.out w_ (Ext.trans (jnQ _).drew hR)).2.2.2.2.2.2.2.1 rfl rfl (by rw [S_vu];rfl))
 refine jnT (fun _=>jnQ _) _ rfl (v:= .agg (jb vv).toArray) (d:=59) rfl rfl ?_ ?_
 ·intro a_ w_ hev hR hk;have e10:a_.eval (.tmp 10)=_:=hk 10 rfl;exact (jd rfl e10 (P6.out w_ (Ext.trans (jnQ _).drew hR)).2.2.2.2.2.2.2.2.1 rfl rfl (by rw [S_vv];rfl))
 refine jx _ rfl (fun u _=>u= .agg (jb vr1).toArray) (d:=60) rfl (fun _ _ _ h _=>h) rfl ?_ ?_
 ·intro a_ w_ hev hR hk K1 hK1;have e57:a_.eval (.tmp 57)=_:=hk 57 rfl;have e58:a_.eval (.tmp 58)=_:=hk 58 rfl;clear hk;have f57:=jz.trans e57;have f58:=jz.trans e58;go_simp;refine (F_r1.out _ (P6.out w_ (Ext.trans (jnQ _).drew hR)).2.2.2.2.2.2.2.2.2.2.2.2.2.2).mono ?_;rintro e_ w2_ ⟨rfl,x_⟩;exact hK1.out _ _ x_ rfl
 refine jnT (fun _=>jnQ _) _ rfl (v:= .agg (jb vm).toArray) (d:=61) rfl rfl ?_ ?_
 ·intro a_ w_ hev hR hk;have e14:a_.eval (.tmp 14)=_:=hk 14 rfl;exact (jd rfl e14 (P6.out w_ (Ext.trans (jnQ _).drew hR)).2.2.2.2.2.2.2.2.2.2.2.2.1 rfl rfl (by rw [S_vm];rfl))
 refine jnT (fun _=>jnQ _) _ rfl (v:= .agg (jb vm).toArray) (d:=62) rfl rfl ?_ ?_
 ·intro a_ w_ hev hR hk;have e14:a_.eval (.tmp 14)=_:=hk 14 rfl;exact (jd rfl e14 (P6.out w_ (Ext.trans (jnQ _).drew hR)).2.2.2.2.2.2.2.2.2.2.2.2.1 rfl rfl (by rw [S_vm];rfl))
 refine jx _ rfl (fun u _=>u= .agg (jb vr2).toArray) (d:=63) rfl (fun _ _ _ h _=>h) rfl ?_ ?_
 ·intro a_ w_ hev hR hk K1 hK1;have e60:a_.eval (.tmp 60)=_:=hk 60 rfl;have e61:a_.eval (.tmp 61)=_:=hk 61 rfl;clear hk;have f60:=jz.trans e60;have f61:=jz.trans e61;go_simp;refine (F_r2.out _ (P6.out w_ (Ext.trans (jnQ _).drew hR)).2.2.2.2.2.2.2.2.2.2.2.2.2.2).mono ?_;rintro e_ w2_ ⟨rfl,x_⟩;exact hK1.out _ _ x_ rfl
 refine jnT (fun _=>jnQ _) _ rfl (v:= .agg (jb vk).toArray) (d:=64) rfl rfl ?_ ?_
 ·intro a_ w_ hev hR hk;have e11:a_.eval (.tmp 11)=_:=hk 11 rfl;exact (jd rfl e11 (P6.out w_ (Ext.trans (jnQ _).drew hR)).2.2.2.2.2.2.2.2.2.1 rfl rfl (by rw [S_vk];rfl))
 refine jnT (fun _=>jnQ _) _ rfl (v:= .agg (jb vu).toArray) (d:=65) rfl rfl ?_ ?_
 ·intro a_ w_ hev hR hk;have e9:a_.eval (.tmp 9)=_:=hk 9 rfl;exact (jd rfl e9 (P6.out w_ (Ext.trans (jnQ _).drew hR)).2.2.2.2.2.2.2.1 rfl rfl (by rw [S_vu];rfl))
 refine jx _ rfl (fun u _=>u= .agg (jb vq).toArray) (d:=66) rfl (fun _ _ _ h _=>h) rfl ?_ ?_
 ·intro a_ w_ hev hR hk K1 hK1;clear hk;go_simp;refine (F_q.out _ (P6.out w_ (Ext.trans (jnQ _).drew hR)).2.2.2.2.2.2.2.2.2.2.2.2.2.2).mono ?_;rintro e_ w2_ ⟨rfl,x_⟩;exact hK1.out _ _ x_ rfl
 refine jnT (fun _=>jnQ _) _ rfl (v:= .agg (jb vk).toArray) (d:=67) rfl rfl ?_ ?_
 ·intro a_ w_ hev hR hk;have e11:a_.eval (.tmp 11)=_:=hk 11 rfl;exact (jd rfl e11 (P6.out w_ (Ext.trans (jnQ _).drew hR)).2.2.2.2.2.2.2.2.2.1 rfl rfl (by rw [S_vk];rfl))
 refine jx _ rfl (fun u _=>u= .agg (jb vt).toArray) (d:=68) rfl (fun _ _ _ h _=>h) rfl ?_ ?_
 ·intro a_ w_ hev hR hk K1 hK1;have e65:a_.eval (.tmp 65)=_:=hk 65 rfl;have e66:a_.eval (.tmp 66)=_:=hk 66 rfl;clear hk;have f65:=jz.trans e65;have f66:=jz.trans e66;go_simp;refine (F_t.out _ (P6.out w_ (Ext.trans (jnQ _).drew hR)).2.2.2.2.2.2.2.2.2.2.2.2.2.2).mono ?_;rintro e_ w2_ ⟨rfl,x_⟩;exact hK1.out _ _ x_ rfl
 refine jx _ rfl (fun u _=>u= .agg (jb vi).toArray) (d:=69) rfl (fun _ _ _ h _=>h) rfl ?_ ?_
 ·intro a_ w_ hev hR hk K1 hK1;have e64:a_.eval (.tmp 64)=_:=hk 64 rfl;have e67:a_.eval (.tmp 67)=_:=hk 67 rfl;clear hk;have f64:=jz.trans e64;have f67:=jz.trans e67;go_simp;refine (F_i.out _ (P6.out w_ (Ext.trans (jnQ _).drew hR)).2.2.2.2.2.2.2.2.2.2.2.2.2.2).mono ?_;rintro e_ w2_ ⟨rfl,x_⟩;exact hK1.out _ _ x_ rfl
 refine jx _ rfl (fun u _=>u= .agg (jb vr3).toArray) (d:=70) rfl (fun _ _ _ h _=>h) rfl ?_ ?_
 ·intro a_ w_ hev hR hk K1 hK1;have e63:a_.eval (.tmp 63)=_:=hk 63 rfl;have e68:a_.eval (.tmp 68)=_:=hk 68 rfl;clear hk;have f63:=jz.trans e63;have f68:=jz.trans e68;go_simp;refine (F_r3.out _ (P6.out w_ (Ext.trans (jnQ _).drew hR)).2.2.2.2.2.2.2.2.2.2.2.2.2.2).mono ?_;rintro e_ w2_ ⟨rfl,x_⟩;exact hK1.out _ _ x_ rfl
 refine jnT (fun _=>jnQ _) _ rfl (v:= .agg (jb vx).toArray) (d:=71) rfl rfl ?_ ?_
 ·intro a_ w_ hev hR hk;have e3:a_.eval (.tmp 3)=_:=hk 3 rfl;exact (jd rfl e3 (P6.out w_ (Ext.trans (jnQ _).drew hR)).2.1 rfl rfl (by rw [S_vx];rfl))
 refine jnT (fun _=>jnQ _) _ rfl (v:= .agg (jb vn).toArray) (d:=72) rfl rfl ?_ ?_
 ·intro a_ w_ hev hR hk;have e15:a_.eval (.tmp 15)=_:=hk 15 rfl;exact (jd rfl e15 (P6.out w_ (Ext.trans (jnQ _).drew hR)).2.2.2.2.2.2.2.2.2.2.2.2.2.1 rfl rfl (by rw [S_vn];rfl))
 refine jx _ rfl (fun u _=>u= .agg (jb vj).toArray) (d:=73) rfl (fun _ _ _ h _=>h) rfl ?_ ?_
 ·intro a_ w_ hev hR hk K1 hK1;have e70:a_.eval (.tmp 70)=_:=hk 70 rfl;have e71:a_.eval (.tmp 71)=_:=hk 71 rfl;clear hk;have f70:=jz.trans e70;have f71:=jz.trans e71;go_simp;refine (F_j.out _ (P6.out w_ (Ext.trans (jnQ _).drew hR)).2.2.2.2.2.2.2.2.2.2.2.2.2.2).mono ?_;rintro e_ w2_ ⟨rfl,x_⟩;exact hK1.out _ _ x_ rfl
 refine jnT (fun _=>jnQ _) _ rfl (v:= .agg (jb vn).toArray) (d:=74) rfl rfl ?_ ?_
 ·intro a_ w_ hev hR hk;have e15:a_.eval (.tmp 15)=_:=hk 15 rfl;exact (jd rfl e15 (P6.out w_ (Ext.trans (jnQ _).drew hR)).2.2.2.2.2.2.2.2.2.2.2.2.2.1 rfl rfl (by rw [S_vn];rfl))
 refine jx _ rfl (fun u _=>u= .agg (jb vr4).toArray) (d:=75) rfl (fun _ _ _ h _=>h) rfl ?_ ?_
 ·intro a_ w_ hev hR hk K1 hK1;have e72:a_.eval (.tmp 72)=_:=hk 72 rfl;have e73:a_.eval (.tmp 73)=_:=hk 73 rfl;clear hk;have f72:=jz.trans e72;have f73:=jz.trans e73;go_simp;refine (F_r4.out _ (P6.out w_ (Ext.trans (jnQ _).drew hR)).2.2.2.2.2.2.2.2.2.2.2.2.2.2).mono ?_;rintro e_ w2_ ⟨rfl,x_⟩;exact hK1.out _ _ x_ rfl
 refine jnT (fun _=>jnQ _) _ rfl (v:= .agg (prC vr1 vr2 vr3 vr4).toArray) (d:=76) rfl rfl ?_ ?_
 ·intro a_ w_ hev hR hk;have e59:a_.eval (.tmp 59)=_:=hk 59 rfl;have e62:a_.eval (.tmp 62)=_:=hk 62 rfl;have e69:a_.eval (.tmp 69)=_:=hk 69 rfl;have e74:a_.eval (.tmp 74)=_:=hk 74 rfl;exact (qe rfl (by simp only [jqE,jqA,jqF,e59,e62,e69,e74];exact hbp.out))
 intro v_ w6q hR hV_ hN_;obtain ⟨hv18,hv17,hv16,hv15,hv14,hv13,hv12,hv11,hv10,hv9,hv8,hv7,hv6,hv5,hv4,hv3,hv2,hv1,hv0,_⟩:=hV_;replace hv0:v_ 0=_:=hv0;replace hv1:v_ 1=_:=hv1;replace hv2:v_ 2=_:=hv2;replace hv3:v_ 3=_:=hv3;replace hv4:v_ 4=_:=hv4;replace hv5:v_ 5=_:=hv5;replace hv6:v_ 6=_:=hv6;replace hv7:v_ 7=_:=hv7;replace hv8:v_ 8=_:=hv8;replace hv9:v_ 9=_:=hv9;replace hv10:v_ 10=_:=hv10;replace hv11:v_ 11=_:=hv11;replace hv12:v_ 12=_:=hv12;replace hv13:v_ 13=_:=hv13;replace hv14:v_ 14=_:=hv14;replace hv15:v_ 15=_:=hv15;replace hv16:v_ 16=_:=hv16;replace hv17:v_ 17=_:=hv17;replace hv18:v_ 18=_:=hv18;dsimp only [yQ,zv];clear hN_;rw [hv0,hv1,hv2,hv3,hv4,hv5,hv6,hv7,hv8,hv9,hv10,hv11,hv12,hv13,hv14,hv15,hv16,hv17,hv18];go_frame
 clear hv0 hv1 hv2 hv3 hv4 hv5 hv6 hv7 hv8 hv9 hv10 hv11 hv12 hv13 hv14 hv15 hv16 hv17 hv18;refine qi (z:=19) _ rfl rfl (by kernel_rfl) ?_;intro K1 hK1;refine jrf _ _ _ rfl (w.heap.size+1+1) (prC vr1 vr2 vr3 vr4).toArray rfl rfl 238 (prC zs zs zs zs).toArray ((P6.out _ ((jnQ _).drew.trans hR)).2.2.1).1 (by rw [(show (prC vr1 vr2 vr3 vr4).toArray.size=32 from qU hout)];rfl) (by rw [(show (prC vr1 vr2 vr3 vr4).toArray.size=32 from qU hout),S_zz]) (Z4 _ _ _ _) ?_;refine hK1.out _ _ ?_;clear hK1 K1;refine qT (by kernel_rfl) ?_;have EX:=Hj ((P6.out _ ((jnQ _).drew.trans hR)).2.2.2.2.2.2.2.2.2.2.2.2.2.2);have kr:=Hj (((P6.out _ ((jnQ _).drew.trans hR)).2.2.1).1);clear P6 hR;go_wp2_with fail;(try simp only [jqV,Exit.then]);refine jqW (jqX rfl _ _ (w.heap.size+1+1) 238 (prC vr1 vr2 vr3 vr4).toArray (0,0) _ rfl (jqc _ _ _ _ _ _ kr.out) rfl rfl (by rw [S_out];rfl)) rfl ?_;exact ⟨by rw [HR2.out ()],jqb EX.out (by omega) _⟩
def Kb (w:World) (g:Nat) (xs:List UInt8):Prop:=w.heap[g]? =some (.cells (cellsOf xs).toArray 22 (0,0))/\xs.length=32
section
variable {w w':World}{g:Nat}{xs:List UInt8}
theorem Kb.lt (h:Kb w g xs):g < w.heap.size:=jh h.1
theorem Kb.kept {B:Nat}(h:Kb w g xs) (e:Below B w w') (hB:g < B):Kb w' g xs:=⟨(e.block g hB).trans h.1,h.2⟩
theorem Kb.cell (h:Kb w g xs){j:Nat}(hj:j < 32):w.cell? ⟨g,j,none⟩=some (.int .u8 (bt xs j:Int)):=by
 rw [jqe w g j _ _ _ h.1];have:=jZ (xs:=xs) (j:=j) (by rw [h.2];exact hj)
 simpa using this
theorem Kb.frozen (h:Kb w g xs) (j:Nat):w.frozen? ⟨g,j,none⟩=false:=frozen_of_row w g j _ _ h.1
theorem Kb.set (h:Kb w g xs){j x:Nat}(hj:j < 32) (hx:x < 256):Kb (w.setCell ⟨g,j,none⟩ (.int .u8 (x:Int))) g (xs.set j (jpt x)):=by
 refine ⟨?_,by rw [jp5];exact h.2⟩;have hc:(cellsOf xs).set j (.int .u8 (x:Int))=cellsOf (xs.set j (jpt x)):=by
  rw [qp,qp,List.map_set]
  congr 2
  simp
  omega
 rw [setCell_eq_setRow w g j _ _ (0,0) _ h.1,jqc w g _ _ _ _ h.1,<-hc];simp
end
def scL (ks:List UInt8):List UInt8:=((ks.set 0 (jpt (bt ks 0 / 8*8))).set 31 (jpt (bt ks 31 % 128))).set 31 (jpt (bt ks 31 % 64+64))
theorem jfU {ks:List UInt8}(h:ks.length=32):(scL ks).length=32:=by simp [scL,h]
theorem Qz {xs:List UInt8}{i j x:Nat}(hi:i < xs.length) (hx:x < 256):bt (xs.set i (jpt x)) j=if j=i then x else bt xs j:=by
 unfold bt;by_cases e:j=i
 ·subst e;simp [jpr,hi];omega
 ·rw [if_neg e];simp [jpr,List.getElem?_set,show ¬ i=j from fun q=>e q.symm]
theorem jj9 {ks:List UInt8}(h:ks.length=32) (j:Nat):bt (scL ks) j=if j=31 then bt ks 31 % 64+64 else if j=0 then bt ks 0 / 8*8 else bt ks j:=by
 have b0:=vL ks 0;unfold scL;rw [Qz (by simp [h]) (by omega),Qz (by simp [h]) (by omega),Qz (by simp [h]) (by omega)];by_cases e:j=31
 ·rw [if_pos e,if_pos e]
 ·rw [if_neg e,if_neg e,if_neg e]
theorem jmc:∀ x,x < 256->∀ i,i < 8->(x / 8*8) / 2 ^ i % 2=if i < 3 then 0 else x / 2 ^ i % 2:=by decide+kernel
theorem jmi:∀ x,x < 256->∀ i,i < 7->(x % 64+64) / 2 ^ i % 2=if i=6 then 1 else x / 2 ^ i % 2:=by decide+kernel
theorem jiU {ks:List UInt8}(h:ks.length=32){i:Nat}(hi:i<=254):bt (scL ks) (i / 8) / 2 ^ (i % 8) % 2=if yk ks i then 1 else 0:=by
 have hm:=jp3 i (show 0 < 8 by decide);have hd:=Nat.div_add_mod i 8;rw [jj9 h];have key:∀ n:Nat,n % 2=if decide (n % 2=1)=true then 1 else 0:=fun n=>by
  rcases Nat.mod_two_eq_zero_or_one n with q | q <;> simp [q]
 have hB: ¬ (i < 3\/i=255)-> ¬ i=254->yk ks i=decide (bt ks (i / 8) / 2 ^ (i % 8) % 2=1):=fun a b=>by unfold yk;rw [if_neg a,if_neg b]
 by_cases e:i / 8=31
 ·rw [if_pos e,jmi _ (vL ks 31) _ (by omega)];by_cases e6:i % 8=6
  ·have:yk ks i=true:=by unfold yk;rw [if_neg (by omega),if_pos (by omega)]
   rw [if_pos e6,this];rfl
  ·rw [if_neg e6,hB (by omega) (by omega),e];exact key _
 ·rw [if_neg e];by_cases e0:i / 8=0
  ·rw [if_pos e0,jmc _ (vL ks 0) _ hm];by_cases e3:i % 8 < 3
   ·have:yk ks i=false:=by unfold yk;rw [if_pos (by omega)]
    rw [if_pos e3,this];rfl
   ·rw [if_neg e3,hB (by omega) (by omega),e0];exact key _
  ·rw [if_neg e0,hB (by omega) (by omega)];exact key _
theorem jj8:∀ x,x < 256->x&&&248=x / 8*8:=by decide+kernel
theorem jj7:∀ x,x < 256->x&&&127=x % 128:=by decide+kernel
theorem jmf:∀ x,x < 256->(x % 128)|||64=x % 64+64:=by decide+kernel
theorem jdd (w:World):(jpI 22).run jpx w= .ok (.agg (cellsOf (jqn 32 0)).toArray) w:=by kernel_rfl
theorem jcE {ks:List UInt8}{w:World}(hk:ks.length=32):
 Calls jpx 137 #[.agg (cellsOf ks).toArray] w fun e w'=>e= .returned (.agg (cellsOf (scL ks)).toArray)/\Ext w w':=by
 have b0:=vL ks 0;have b31:=vL ks 31;obtain ⟨x,hx⟩:=ex_ (bt ks 0 / 8*8);obtain ⟨y,hy⟩:=ex_ (bt ks 31 % 128);obtain ⟨z,hz⟩:=ex_ (bt ks 31 % 64+64);have x8:x < 256:=by omega
 have y8:y < 256:=by omega
 have z8:z < 256:=by omega
 have q1:bits .andNot .u8 (bt ks 0:Int) 7=(x:Int):=by
  have:=u8_andNot_nat (bt ks 0) 7 b0 (by omega);rw [show ((7:Nat):Int)=7 from rfl] at this;rw [this,hx,<-jj8 _ b0]
 have q2:bits .andNot .u8 (bt ks 31:Int) 128=(y:Int):=by
  have:=u8_andNot_nat (bt ks 31) 128 b31 (by omega);rw [show ((128:Nat):Int)=128 from rfl] at this;rw [this,hy,<-jj7 _ b31]
 have q3:bits .or .u8 (y:Int) 64=(z:Int):=by
  have:=u8_or_nat y 64 y8 (by omega);rw [show ((64:Nat):Int)=64 from rfl] at this;rw [this,hz,hy,<-jmf _ b31]
 have hsc:Hid (scL ks=((ks.set 0 (jpt x)).set 31 (jpt y)).set 31 (jpt z)):=by unfold Hid;rw [hx,hy,hz];rfl
 have hb31:Hid (bt (ks.set 0 (jpt x)) 31=bt ks 31):=by unfold Hid;rw [Qz (by omega) x8];rfl
 have hby:Hid (bt ((ks.set 0 (jpt x)).set 31 (jpt y)) 31=y):=by unfold Hid;rw [Qz (by simp [hk]) y8];rfl
 clear hx hy hz;have hal:=j2;have hal2:=jdd;have zl:(jqn 32 (0:UInt8)).length=32:=rfl;generalize jqn 32 (0:UInt8)=zs at *;have ZS:(cellsOf zs).toArray.size=32:=by simp [ja,zl]
 have KS:(cellsOf ks).toArray.size=32:=by simp [ja,hk]
 have K1:=ji ks;have B0:Hid (Ky (((w.alloc (jqY (cellsOf ks).toArray 23)).alloc (jqY (cellsOf zs).toArray 22)).alloc (jqY (cellsOf zs).toArray 22)) w.heap.size ks/\Kb (((w.alloc (jqY (cellsOf ks).toArray 23)).alloc (jqY (cellsOf zs).toArray 22)).alloc (jqY (cellsOf zs).toArray 22)) (w.heap.size+1) zs/\Kb (((w.alloc (jqY (cellsOf ks).toArray 23)).alloc (jqY (cellsOf zs).toArray 22)).alloc (jqY (cellsOf zs).toArray 22)) (w.heap.size+1+1) zs/\Ext w (((w.alloc (jqY (cellsOf ks).toArray 23)).alloc (jqY (cellsOf zs).toArray 22)).alloc (jqY (cellsOf zs).toArray 22))):=⟨⟨jF _ _ _ _,hk⟩,⟨jH _ _ _ _,zl⟩,⟨jB _ _ _ _,zl⟩,(((jnQ w).alloc _).alloc _).alloc _⟩;have A0:Hid ((w.alloc (jqY (cellsOf ks).toArray 23)).heap[w.heap.size]? =some (.cells (cellsOf ks).toArray 23 (0,0))/\((w.alloc (jqY (cellsOf ks).toArray 23)).alloc (jqY (cellsOf zs).toArray 22)).heap[w.heap.size]? =some (.cells (cellsOf ks).toArray 23 (0,0))):=⟨jqq _ _,jQ _ _ _⟩;go_enter Tryz.func137,Tryz.ntmps137
 go_upto_region 2 with (first
  | (refine wl_ rfl 23 rfl w.heap.size rfl A0.out.2 rfl rfl (by rw [KS];rfl) ?_;go_frame)
  | (refine ws_ rfl 22 rfl (w.heap.size+1+1) (cellsOf ks).toArray rfl rfl B0.out.2.2.1.1 (by rw [KS];rfl) (by rw [KS,ZS]) K1 ?_;go_frame))
 refine jg (fun W=>Kb W (w.heap.size+1) zs/\Kb W (w.heap.size+1+1) ks/\Ext w W) ⟨⟨(jqy _ _ _ _ (by omega)).trans B0.out.2.1.1,zl⟩,⟨jqc _ _ _ _ _ _ B0.out.2.2.1.1,hk⟩,jqb B0.out.2.2.2 (by omega) _⟩ ?_;clear A0 B0;rintro w1 ⟨k1,k2,e0⟩;have c0:=k2.cell (j:=0) (by omega);have f0:=k2.frozen 0;have n1:=k2.set (j:=0) (x:=x) (by omega) x8;have c1:=n1.cell (j:=31) (by omega);rw [hb31.out] at c1;have f1:=n1.frozen 31;have n2:=n1.set (j:=31) (x:=y) (by omega) y8;have c2:=n2.cell (j:=31) (by omega);rw [hby.out] at c2;have f2:=n2.frozen 31;have n3:=n2.set (j:=31) (x:=z) (by omega) z8;rw [<-hsc.out] at n3;have RS:(cellsOf (scL ks)).toArray.size=32:=by simp [ja,jfU hk]
 have R1:=ji (scL ks);have gne:Hid (¬ w.heap.size+1=w.heap.size+1+1):=by unfold Hid;omega
 have kk:Hid (Kb (((w1.setCell ⟨w.heap.size+1+1,0,none⟩ (.int .u8 (x:Int))).setCell ⟨w.heap.size+1+1,31,none⟩ (.int .u8 (y:Int))).setCell ⟨w.heap.size+1+1,31,none⟩ (.int .u8 (z:Int))) (w.heap.size+1) zs/\Kb (((w1.setCell ⟨w.heap.size+1+1,0,none⟩ (.int .u8 (x:Int))).setCell ⟨w.heap.size+1+1,31,none⟩ (.int .u8 (y:Int))).setCell ⟨w.heap.size+1+1,31,none⟩ (.int .u8 (z:Int))) (w.heap.size+1+1) (scL ks)/\Ext w (((w1.setCell ⟨w.heap.size+1+1,0,none⟩ (.int .u8 (x:Int))).setCell ⟨w.heap.size+1+1,31,none⟩ (.int .u8 (y:Int))).setCell ⟨w.heap.size+1+1,31,none⟩ (.int .u8 (z:Int)))):=
  ⟨⟨(jp7 _ _ _ _ gne.out).trans ((jp7 _ _ _ _ gne.out).trans ((jp7 _ _ _ _ gne.out).trans k1.1)),zl⟩,n3,Ext.setCell (Ext.setCell (Ext.setCell e0 (show w.heap.size<=w.heap.size+1+1 by omega) _) (show w.heap.size<=w.heap.size+1+1 by omega) _) (show w.heap.size<=w.heap.size+1+1 by omega) _⟩
 replace k1:=Hj k1;clear n1 n2 n3 e0 k2 k1;clear hsc hb31 hby gne;obtain ⟨rs,hrs⟩:=ex_ (scL ks);rw [<-hrs] at kk RS R1;replace hrs:=Hj (fun _:Unit=>hrs);generalize bt ks 0=v0 at *;generalize bt ks 31=v31 at *;go_upto_region 5 with fail;refine jg (fun W=>Kb W (w.heap.size+1) zs/\Kb W (w.heap.size+1+1) rs/\Ext w W) kk.out ?_;clear kk c0 c1 c2 f0 f1 f2 q1 q2 q3;rintro w2 ⟨k1,k2,e0⟩;go_wp2_with (first
  | (refine wl_ rfl 22 rfl (w.heap.size+1+1) rfl k2.1 rfl rfl (by rw [RS];rfl) ?_;go_frame)
  | (refine ws_ rfl 22 rfl (w.heap.size+1) (cellsOf rs).toArray rfl rfl k1.1 (by rw [RS];rfl) (by rw [RS,ZS]) R1 ?_;go_frame))
 (try simp only [jqV,Exit.then]);refine jqW (jqX rfl _ _ (w.heap.size+1) 22 (cellsOf rs).toArray (0,0) _ rfl (jqc _ _ _ _ _ _ k1.1) rfl rfl (by rw [RS];rfl)) rfl ?_;exact ⟨by rw [hrs.out ()],jqb e0 (by omega) _⟩
theorem jgd {pl:Nat->Option (Nat×Nat)}(q0:pl 0=some (0,8)) (q1:pl 1=some (8,8)) (q3:pl 3=some (24,8)){K L M Z:Array Value}(s1:K.size=8) (s2:L.size=8) (s4:M.size=8) (sz:Z.size=32):
 ∃ r,jqo pl Z [(0, .agg K),(1, .agg L),(3, .agg M)]=some r/\r.size=32/\∀ k,r[k]? =if 24<=k/\k < 32 then M[k - 24]? else if 8<=k/\k < 16 then L[k - 8]? else if k < 8 then K[k]? else Z[k]? :=by
 have c1:(jqp K).cells=K:=rfl;have c2:(jqp L).cells=L:=rfl;have c4:(jqp M).cells=M:=rfl;obtain ⟨g1,g2⟩:=Great.foldl_set 0 K.toList 0 Z;obtain ⟨g3,g4⟩:=Great.foldl_set 8 L.toList 0 ((K.toList.zipIdx 0).foldl (fun cs (x:Value×Nat)=>cs.setIfInBounds (0+x.2) x.1) Z);obtain ⟨g5,g6⟩:=Great.foldl_set 24 M.toList 0 ((L.toList.zipIdx 0).foldl (fun cs (x:Value×Nat)=>cs.setIfInBounds (8+x.2) x.1) ((K.toList.zipIdx 0).foldl (fun cs (x:Value×Nat)=>cs.setIfInBounds (0+x.2) x.1) Z));rw [<-jo5,<-jo5,<-jo5] at g5 g6;rw [<-jo5,<-jo5] at g3 g4;rw [<-jo5] at g1 g2;refine ⟨_,?_,g5.trans (g3.trans (g1.trans sz)),fun k=> ?_⟩
 ·unfold jqo;simp only [q0,c1,s1];rw [if_neg (by rw [sz];simp)];unfold jqo;simp only [q1,c2,s2];rw [if_neg (by rw [g1,sz];simp)];unfold jqo;simp only [q3,c4,s4];rw [if_neg (by rw [g3,g1,sz];simp)]
  rfl
 ·rw [g6 k,g4 k,g2 k,g3,g1,sz];simp only [jpP,jpz,jpp,true_and,Array.length_toList,s1,s2,s4,Nat.sub_zero];by_cases k1:24<=k/\k < 32
  ·rw [if_pos ⟨k1.1,by omega,by omega⟩,if_pos k1];simp
  ·rw [if_neg (by omega),if_neg k1];by_cases k2:8<=k/\k < 16
   ·rw [if_pos ⟨k2.1,by omega,by omega⟩,if_pos k2];simp
   ·rw [if_neg (by omega),if_neg k2];by_cases k3:k < 8
    ·rw [if_pos ⟨by omega,by omega⟩,if_pos k3];simp
    ·rw [if_neg (by omega),if_neg k3]
theorem jf8 {a b d:List Nat}(la:a.length=8) (lb:b.length=8) (ld:d.length=8):Tryz.prog.built 238 [(0, .agg (jb a).toArray),(1, .agg (jb b).toArray),(3, .agg (jb d).toArray)]=some (prC a b zw8 d).toArray:=by
 have hb:∃ pl:Nat->Option (Nat×Nat),(pl 0=some (0,8)/\pl 1=some (8,8)/\pl 2=some (16,8)/\pl 3=some (24,8))/\∀ ps,Tryz.prog.built 238 ps=jqo pl (prC zw8 zw8 zw8 zw8).toArray ps:=⟨(#[(0,8),(8,8),(16,8),(24,8)][·]?),⟨rfl,rfl,rfl,rfl⟩,fun ps=>by kernel_rfl⟩;obtain ⟨pl,⟨q0,q1,q2,q3⟩,hp⟩:=hb;have lz:zw8.length=8:=rfl;generalize zw8=zs at *;obtain ⟨r,hr,hs,hk⟩:=jgd (Z:=(prC zs zs zs zs).toArray) q0 q1 q3 (jf la) (jf lb) (jf ld) (qU ⟨lz,lz,lz,lz⟩);rw [hp,hr]
 congr 1
 apply Array.ext_getElem?
 intro k;rw [hk k];have e1:(prC a b zs d).length=32:=qU ⟨la,lb,lz,ld⟩;have e2:(prC zs zs zs zs).length=32:=qU ⟨lz,lz,lz,lz⟩;simp only [jqt];by_cases k1:k < 8
 ·rw [if_neg (by omega),if_neg (by omega),if_pos k1,prC,jqs (by rw [j4 la];omega)]
 ·by_cases k2:k < 16
  ·rw [if_neg (by omega),if_pos (by omega),prC,jqr (by rw [j4 la];omega),j4 la,jqs (by rw [j4 lb];omega)]
  ·by_cases k3:k < 24
   ·rw [if_neg (by omega),if_neg (by omega),if_neg (by omega),prC,prC,jqr (by rw [j4 lz];omega),j4 lz,jqr (by rw [j4 lz];omega),j4 lz,jqs (by rw [j4 lz];omega),
     jqr (by rw [j4 la];omega),j4 la,jqr (by rw [j4 lb];omega),j4 lb,jqs (by rw [j4 lz];omega)]
   ·by_cases k4:k < 32
    ·rw [if_pos (by omega),prC,jqr (by rw [j4 la];omega),j4 la,jqr (by rw [j4 lb];omega),j4 lb,jqr (by rw [j4 lz];omega),j4 lz]
     congr 1
    ·rw [if_neg (by omega),if_neg (by omega),if_neg (by omega),jqa (by omega),jqa (by omega)]
theorem jar {ks ps:List UInt8}{w:World}(hk:ks.length=32) (hp:ps.length=32){tg:jpC×Nat×Nat}(hG:Gp w tg):
 Calls jpx 111 #[.agg (cellsOf ks).toArray, .agg (cellsOf ps).toArray] w fun e w'=>e= .returned (.agg (cellsOf (kL (jY ks (ofV ps)))).toArray)/\Ext w w':=by
 obtain ⟨x,hx⟩:=ex_ (ofV ps);have xp:x < P25:=by rw [hx];exact jkt ps
 rw [<-hx];have OFA:Hid (∀ W,Ext w W->Calls jpx 136 #[.agg (cellsOf ps).toArray] W fun e w'=>e= .returned (.agg (jb (lbs 8 x)).toArray)/\Ext W w'):=fun W e=>by rw [hx];exact jav hp (hG.ext e)
 have SCA:Hid (∀ W,Ext w W->Calls jpx 137 #[.agg (cellsOf ks).toArray] W fun e w'=>e= .returned (.agg (cellsOf (scL ks)).toArray)/\Ext W w'):=fun W _=>jcE hk
 have ONE:Hid (∀ W,Ext w W->Calls jpx 138 #[] W fun e w'=>e= .returned (.agg (jb (lbs 8 1)).toArray)/\Ext W w'):=fun W e=>jgw (hG.ext e)
 obtain ⟨B,hB⟩:∃ B:Nat->Bool,B=fun m=>yk ks (254 - m):=⟨_,rfl⟩
 obtain ⟨S,hS⟩:∃ S:Nat->StN,S=Zg x B:=⟨_,rfl⟩;have SL:∀ m,LtS (S m):=fun m=>by rw [hS];exact jcj xp B m
 have S1:∀ m,S (m+1)=YM (B m) (yM x (YM (B m) (S m))):=fun m=>by rw [hS];rfl
 have BIT:Hid (∀ m n:Nat,m+n=254->bt (scL ks) (n / 8) / 2 ^ (n % 8) % 2=if B m then 1 else 0):=fun m n h=>by
  rw [jiU hk (by omega),hB]
  show _=if yk ks (254 - m) then 1 else 0
  rw [show 254 - m=n by omega]
 have RES:Hid (jY ks x=qs (S 255).1 (zL (S 255).2.2.1)):=by unfold Hid;rw [hS,hB];rfl
 have RL:jY ks x < P25:=yL ks x;have S0:S 0=(1,x,0,1):=by rw [hS];rfl
 have STF:Hid (∀ m W,Ext w W->B m=false->Calls jpx 140 #[.agg (prC (lbs 8 (S m).1) (lbs 8 (S m).2.1) (lbs 8 (S m).2.2.1) (lbs 8 (S m).2.2.2)).toArray, .agg (jb (lbs 8 x)).toArray] W fun e w'=>
  e= .returned (.agg (prC (lbs 8 (S (m+1)).1) (lbs 8 (S (m+1)).2.1) (lbs 8 (S (m+1)).2.2.1) (lbs 8 (S (m+1)).2.2.2)).toArray)/\Ext W w'):=fun m W e h=>by
  have:=ZQ (SL m) xp (hG.ext e);rw [S1 m,h];exact this
 have STT:Hid (∀ m W,Ext w W->B m=true->Calls jpx 140 #[.agg (prC (lbs 8 (S m).2.1) (lbs 8 (S m).1) (lbs 8 (S m).2.2.2) (lbs 8 (S m).2.2.1)).toArray, .agg (jb (lbs 8 x)).toArray] W fun e w'=>
  e= .returned (.agg (prC (lbs 8 (S (m+1)).2.1) (lbs 8 (S (m+1)).1) (lbs 8 (S (m+1)).2.2.2) (lbs 8 (S (m+1)).2.2.1)).toArray)/\Ext W w'):=fun m W e h=>by
  have:=ZQ (s:=YM true (S m)) (jaX (SL m)) xp (hG.ext e);rw [S1 m,h];exact this
 have INV:Hid (∀ W,Ext w W->Calls jpx 142 #[.agg (jb (lbs 8 (S 255).2.2.1)).toArray] W fun e w'=>e= .returned (.agg (jb (lbs 8 (zL (S 255).2.2.1))).toArray)/\Ext W w'):=fun W e=>jgk (SL 255).2.2.1 (hG.ext e)
 have MUL:Hid (∀ W,Ext w W->Calls jpx 141 #[.agg (jb (lbs 8 (S 255).1)).toArray, .agg (jb (lbs 8 (zL (S 255).2.2.1))).toArray] W fun e w'=>e= .returned (.agg (jb (lbs 8 (jY ks x))).toArray)/\Ext W w'):=fun W e=>by
  rw [RES.out];exact qP (SL 255).1 (ji5 _) (hG.ext e)
 have KEY_:Hid (∀ W,Ext w W->Calls jpx 143 #[.agg (jb (lbs 8 (jY ks x))).toArray] W fun e w'=>e= .returned (.agg (cellsOf (kL (jY ks x))).toArray)/\Ext W w'):=fun W e=>jen
 clear RES RL S1 SL hS hx xp hG;obtain ⟨SA,hSA⟩:∃ f:Nat->List Nat,f=fun m=>lbs 8 (S m).1:=⟨_,rfl⟩
 obtain ⟨SB,hSB⟩:∃ f:Nat->List Nat,f=fun m=>lbs 8 (S m).2.1:=⟨_,rfl⟩
 obtain ⟨SC,hSC⟩:∃ f:Nat->List Nat,f=fun m=>lbs 8 (S m).2.2.1:=⟨_,rfl⟩
 obtain ⟨SD,hSD⟩:∃ f:Nat->List Nat,f=fun m=>lbs 8 (S m).2.2.2:=⟨_,rfl⟩
 have hSA':∀ m,lbs 8 (S m).1=SA m:=fun m=>by rw [hSA]
 have hSB':∀ m,lbs 8 (S m).2.1=SB m:=fun m=>by rw [hSB]
 have hSC':∀ m,lbs 8 (S m).2.2.1=SC m:=fun m=>by rw [hSC]
 have hSD':∀ m,lbs 8 (S m).2.2.2=SD m:=fun m=>by rw [hSD]
 have I0:Hid (∀ _:Unit,SA 0=lbs 8 1/\SB 0=lbs 8 x/\SC 0=zw8/\SD 0=lbs 8 1):=fun _=>by
  rw [hSA,hSB,hSC,hSD];exact ⟨by show lbs 8 (S 0).1=_;rw [S0],by show lbs 8 (S 0).2.1=_;rw [S0],by show lbs 8 (S 0).2.2.1=_;rw [S0];show lbs 8 0=zw8;decide,by show lbs 8 (S 0).2.2.2=_;rw [S0]⟩
 have L8S:Hid (∀ m,L8 (SA m) (SB m) (SC m) (SD m)):=fun m=>by
  rw [<-hSA' m,<-hSB' m,<-hSC' m,<-hSD' m];exact ⟨jnz _ _,jnz _ _,jnz _ _,jnz _ _⟩
 simp only [hSA',hSB',hSC',hSD'] at STF STT INV MUL;have L_va:(SA 255).length=8:=(L8S.out 255).1;have L_vc:(SC 255).length=8:=(L8S.out 255).2.2.1;clear hSA hSB hSC hSD hSA' hSB' hSC' hSD' S0 hB;have L_vo:=jnz 8 1;have L_vx:=jnz 8 x;have L_vi:=jnz 8 (zL (S 255).2.2.1);have L_vm:=jnz 8 (jY ks x);have L_rk:=zx (jY ks x);have L_sl:=jfU hk;generalize lbs 8 (zL (S 255).2.2.1)=vi at *;generalize lbs 8 (jY ks x)=vm at *;generalize kL (jY ks x)=rk at *;generalize lbs 8 1=vo at *;generalize lbs 8 x=vx at *;generalize scL ks=sl at *;have L_ks:=hk;have L_ps:=hp;clear S;have S_vo:=jf L_vo;have O_vo:=jo vo;have C_vo:=j4 L_vo;have S_vx:=jf L_vx;have O_vx:=jo vx;have C_vx:=j4 L_vx;have S_vi:=jf L_vi;have O_vi:=jo vi;have C_vi:=j4 L_vi;have S_vm:=jf L_vm;have O_vm:=jo vm;have C_vm:=j4 L_vm;have S_rk:(cellsOf rk).toArray.size=32:=by simp [ja,L_rk]
 have O_rk:=ji rk;have S_sl:(cellsOf sl).toArray.size=32:=by simp [ja,L_sl]
 have O_sl:=ji sl;have S_ks:(cellsOf ks).toArray.size=32:=by simp [ja,L_ks]
 have O_ks:=ji ks;have S_ps:(cellsOf ps).toArray.size=32:=by simp [ja,L_ps]
 have O_ps:=ji ps;have hbp:=Hj (jf8 L_vo L_vx L_vo);have hal2:=vr;have hal9:=jaA;have hal4:=jdd;have L_zs:zw8.length=8:=rfl;have hal:∀ w,(jpI 23).run jpx w= .ok (.agg (cellsOf (jqn 32 0)).toArray) w:=fun w=>by rw [jU];exact j2 w
 have L_zk:(jqn 32 (0:UInt8)).length=32:=rfl;generalize jqn 32 (0:UInt8)=zk at *;generalize zw8=zs at *;have S_zs:=jf L_zs;have S_zk:(cellsOf zk).toArray.size=32:=by simp [ja,L_zk]
 have hzz:L8 zs zs zs zs:=⟨L_zs,L_zs,L_zs,L_zs⟩;have hin:L8 vo vx zs vo:=⟨L_vo,L_vx,L_zs,L_vo⟩;have S_zz:(prC zs zs zs zs).toArray.size=32:=qU hzz;have B0:Hid (∀ s,Ext (((w.alloc (jqY (cellsOf ks).toArray 23)).alloc (jqY (cellsOf ps).toArray 23)).alloc (jqY (cellsOf zk).toArray 23)) s->Ky s w.heap.size ks/\Ky s (w.heap.size+1) ps/\Ky s (w.heap.size+1+1) zk/\Ext w s):=fun s e=>⟨Ky.ext ⟨jF _ _ _ _,hk⟩ e,Ky.ext ⟨jH _ _ _ _,hp⟩ e,Ky.ext ⟨jB _ _ _ _,L_zk⟩ e,((((jnQ w).alloc _).alloc _).alloc _).trans e⟩
 go_enter Tryz.func111,Tryz.ntmps111
 go_upto_region 1 with fail;refine jg (fun W=>∀ s,Ext W s->Ky s w.heap.size ks/\Ky s (w.heap.size+1) ps/\Ky s (w.heap.size+1+1) zk/\Ext w s) B0.out ?_;clear B0;rintro w0 P0;replace P0:=Hj P0;have q0:=Hj (P0.out _ (jnQ _)).2.1;go_wp2_with (refine vQ rfl (jd rfl rfl q0.out.1 rfl rfl (by rw [S_ps];rfl)) ?_;go_frame)
 refine (OFA.out _ (P0.out _ (jnQ _)).2.2.2).mono ?_;rintro e v_ ⟨rfl,e1⟩;have a1:Hid ((v_.alloc (jqY (jb zs).toArray 233)).heap[v_.heap.size]? =some (.cells (jb zs).toArray 233 (0,0))):=jqq _ _;have e5:Ext v_ ((v_.alloc (jqY (jb zs).toArray 233)).setRow v_.heap.size (jb vx).toArray):=jqb ((jnQ v_).alloc _) (jpo _) _;go_upto_region 2 with (refine ws_ rfl 233 rfl v_.heap.size (jb vx).toArray rfl rfl a1.out (by rw [S_vx];rfl) (by rw [S_vx,S_zs]) O_vx ?_;go_frame)
 obtain ⟨g1_s,hg_⟩:∃ g,g=v_.heap.size:=⟨_,rfl⟩;refine jg (fun W=>Ext w0 W/\Wr W g1_s 233 vx) ⟨e1.trans e5,by rw [hg_];exact jqc _ _ _ _ _ _ a1.out⟩ ?_;rw [<-hg_];clear hg_ a1 e5 e1 q0;rintro w1 ⟨x_,k0⟩;have P1:Hid (∀ s,Ext w1 s->Ky s w.heap.size ks/\Ky s (w.heap.size+1) ps/\Ky s (w.heap.size+1+1) zk/\Wr s g1_s 233 vx/\Ext w s):=fun s e=>by
  obtain ⟨p0,p1,p2,p3⟩:=P0.out s (x_.trans e);exact ⟨p0,p1,p2,k0.kept e k0.lt,p3⟩
 clear P0 x_ k0;have q0:=Hj (P1.out _ (jnQ _)).1;go_wp2_with (refine vQ rfl (jd rfl rfl q0.out.1 rfl rfl (by rw [S_ks];rfl)) ?_;go_frame)
 refine (SCA.out _ (P1.out _ (jnQ _)).2.2.2.2).mono ?_;rintro e v_ ⟨rfl,e1⟩;have a1:Hid ((v_.alloc (jqY (cellsOf zk).toArray 22)).heap[v_.heap.size]? =some (.cells (cellsOf zk).toArray 22 (0,0))):=jqq _ _;have e5:Ext v_ ((v_.alloc (jqY (cellsOf zk).toArray 22)).setRow v_.heap.size (cellsOf sl).toArray):=jqb ((jnQ v_).alloc _) (jpo _) _;go_upto_region 3 with (refine ws_ rfl 22 rfl v_.heap.size (cellsOf sl).toArray rfl rfl a1.out (by rw [S_sl];rfl) (by rw [S_sl,S_zk]) O_sl ?_;go_frame)
 obtain ⟨g2_s,hg_⟩:∃ g,g=v_.heap.size:=⟨_,rfl⟩;refine jg (fun W=>Ext w1 W/\Kb W g2_s sl) ⟨e1.trans e5,⟨by rw [hg_];exact jqc _ _ _ _ _ _ a1.out,L_sl⟩⟩ ?_;rw [<-hg_];clear hg_ a1 e5 e1 q0;rintro w2 ⟨x_,k0⟩;have P2:Hid (∀ s,Ext w2 s->Ky s w.heap.size ks/\Ky s (w.heap.size+1) ps/\Ky s (w.heap.size+1+1) zk/\Wr s g1_s 233 vx/\Kb s g2_s sl/\Ext w s):=fun s e=>by
  obtain ⟨p0,p1,p2,p3,p4⟩:=P1.out s (x_.trans e);exact ⟨p0,p1,p2,p3,k0.kept e k0.lt,p4⟩
 clear P1 x_ k0;refine qgF (R:=Ext) jnQ (fun _ _ _=>Ext.trans) [0,1,2,3,4] [5] [0,0,1,7,0,31] [true,true,true,true,true,false] ?_;refine jx _ rfl (fun u _=>u= .agg (jb vo).toArray) (d:=16) rfl (fun _ _ _ h _=>h) rfl ?_ ?_
 ·intro a_ w_ hev hR hk K1 hK1;clear hk;go_simp;refine (ONE.out _ (P2.out w_ (Ext.trans (jnQ _).drew hR)).2.2.2.2.2).mono ?_;rintro e_ w2_ ⟨rfl,x_⟩;exact hK1.out _ _ x_ rfl
 refine jnT (fun _=>jnQ _) _ rfl (v:= .agg (jb vx).toArray) (d:=17) rfl rfl ?_ ?_
 ·intro a_ w_ hev hR hk;have e5:a_.eval (.tmp 5)=_:=hk 5 rfl;exact (jd rfl e5 (P2.out w_ (Ext.trans (jnQ _).drew hR)).2.2.2.1 rfl rfl (by rw [S_vx];rfl))
 refine jx _ rfl (fun u _=>u= .agg (jb vo).toArray) (d:=18) rfl (fun _ _ _ h _=>h) rfl ?_ ?_
 ·intro a_ w_ hev hR hk K1 hK1;clear hk;go_simp;refine (ONE.out _ (P2.out w_ (Ext.trans (jnQ _).drew hR)).2.2.2.2.2).mono ?_;rintro e_ w2_ ⟨rfl,x_⟩;exact hK1.out _ _ x_ rfl
 refine jnT (fun _=>jnQ _) _ rfl (v:= .agg (prC vo vx zs vo).toArray) (d:=19) rfl rfl ?_ ?_
 ·intro a_ w_ hev hR hk;have e15:a_.eval (.tmp 15)=_:=hk 15 rfl;have e16:a_.eval (.tmp 16)=_:=hk 16 rfl;have e17:a_.eval (.tmp 17)=_:=hk 17 rfl;exact (qe rfl (by simp only [jqE,jqA,jqF,e15,e16,e17];exact hbp.out))
 refine qY _ rfl (fun u w_=>∃ g,u= .pointer (some ⟨g,0,none⟩)/\w2.drew.heap.size<=g/\w_.heap[g]? =some (.cells (prC zs zs zs zs).toArray 238 (0,0))) (d:=8) rfl (fun _ _ _ h e=>by obtain ⟨g,h1,h2,h3⟩:=h;exact ⟨g,h1,h2,(e.block g (jh h3)).trans h3⟩) rfl (by decide) (fun _ _ h=>by obtain ⟨g,h1,h2,h3⟩:=h;subst h1;exact ⟨g,rfl,jh h3⟩) ?_ ?_
 ·intro a_ w_ hev hR hk K1 hK1;go_simp;exact hK1.out _ _ ((jnQ _).alloc _) ⟨_,rfl,hR.size,jqq _ _⟩ (fun _ q=>by cases q;exact jpo _)
 intro v_ w2q hR hV_ hN_;obtain ⟨hv4,hv3,hv2,hv1,hv0,_⟩:=hV_;replace hv0:v_ 0=_:=hv0;replace hv1:v_ 1=_:=hv1;replace hv2:v_ 2=_:=hv2;replace hv3:v_ 3=_:=hv3
 skip
 dsimp only [yQ,zv];obtain ⟨g_4,hv4,gb_4,gc_4⟩:=hv4;clear hN_;rw [hv0,hv1,hv2,hv3,hv4];go_frame
 clear hv0 hv1 hv2 hv3 hv4;refine qi (z:=5) _ rfl rfl (by kernel_rfl) ?_;intro K1 hK1;refine jrf _ _ _ rfl g_4 (prC vo vx zs vo).toArray rfl rfl 238 (prC zs zs zs zs).toArray gc_4 (by rw [(show (prC vo vx zs vo).toArray.size=32 from qU hin)];rfl) (by rw [(show (prC vo vx zs vo).toArray.size=32 from qU hin),S_zz]) (Z4 _ _ _ _) ?_;refine hK1.out _ _ ?_;clear hK1 K1;refine qT (by kernel_rfl) ?_;refine yf (fun W=>Ext w2 W/\Pr W g_4 vo vx zs vo) ⟨jqb ((jnQ w2).drew.trans hR) gb_4 _,⟨jqc _ _ _ _ _ _ gc_4,hin⟩⟩ ?_;clear hR gc_4;rintro w3 ⟨x_,kp⟩;have zg:w2.heap.size<=g_4:=gb_4;generalize g_4=g7 at *;clear gb_4;have P3:Hid (∀ s,Below g7 w3 s->Ky s w.heap.size ks/\Ky s (w.heap.size+1) ps/\Ky s (w.heap.size+1+1) zk/\Wr s g1_s 233 vx/\Kb s g2_s sl/\Ext w s):=fun s e=>P2.out s (jpn x_ (e.mono zg))
 have lw:w.heap.size+1+1 < g7:=jpq (jh (P2.out _ (jnQ _)).2.2.1.1) zg;clear P2 x_ zg;replace kp:=Hj kp;go_wp2_with fail;go_loopw [9] (fun iv wr=>∃ m:Nat,m<=255/\iv= .int .i64 (254 - (m:Int))/\Below g7 w3 wr/\Pr wr g7 (SA m) (SB m) (SC m) (SD m)) (fun iv _=>(intOf iv+1).toNat)
 case atStart=>
  obtain ⟨i1,i2,i3,i4⟩:=I0.out ();exact ⟨0,jpp _,rfl,jpm _ _,by rw [i1,i2,i3,i4];exact kp.out⟩
 case round=>
  clear I0 kp;obtain ⟨m,hm,rfl,hB,hw⟩:=hrel;by_cases hlt:m < 255
  ·obtain ⟨n,hn⟩:∃ n:Nat,m+n=254:=⟨254 - m,by omega⟩;obtain ⟨b,hb⟩:∃ b:Int,b=254 - (m:Int):=⟨_,rfl⟩;have hbn:b=(n:Int):=by omega
   rw [<-hb];have hbn1:Hid (b - 1=254 - ((m+1:Nat):Int)):=by unfold Hid;omega
   have hme:Hid ((b - 1+1).toNat < (b+1).toNat):=by unfold Hid;omega
   have b0:(0:Int)<=b:=by omega
   have b1:b<=254:=by omega
   have bw:IntKind.i64.wrap (b - 1)=b - 1:=jq0 _ (by omega);obtain ⟨q,hq⟩:=ex_ (n / 8);obtain ⟨r,hr⟩:=ex_ (n % 8);have iq:b / 8=(q:Int):=by omega
   have ir:b % 8=(r:Int):=by omega
   have iq':Int.tdiv b 8=(q:Int):=by rw [jq3 (by omega)];omega
   have ir':Int.tmod b 8=(r:Int):=by rw [jq4 (by omega)];omega
   have q32:q < 32:=by omega
   have q32':(q:Int) < 32:=by omega
   have q0:(0:Int)<=(q:Int):=by omega
   have r8:(r:Int) < 8:=by omega
   have bb:=BIT.out m n hn;rw [<-hq,<-hr] at bb;have KC:Hid (∀ s,Below g7 w3 s->s.cell? ⟨g2_s,q,none⟩=some (.int .u8 (bt sl q:Int))):=fun s e=>((P3.out s e).2.2.2.2.1).cell q32
   have c6:=KC.out _ hB;have b256:=vL sl q;generalize bt sl q=u at *;obtain ⟨y,hy⟩:=ex_ (u / 2 ^ r);have y8:y < 256:=by rw [hy];exact jp4 (Nat.div_le_self _ _) b256
   have s1:Op.shift .shr .u8 (u:Int) .i64 (r:Int)=pure (.int .u8 (y:Int)):=by
    have:=shift_shr .u8 .i64 (u:Int) (r:Int) (by omega) (by show (r:Int)<=8;omega);rw [this,hy];simp
   have s3:(u:Int) / 2 ^ r=(y:Int):=by rw [hy];simp
   obtain ⟨t,ht⟩:=ex_ (y % 2);have s2:bits .and .u8 (y:Int) 1=(t:Int):=by
    have:=u8_and_nat y 1 y8 (by omega);rw [show ((1:Nat):Int)=1 from rfl] at this;rw [this,ht,Nat.and_one_is_mod]
   rw [<-hy,<-ht] at bb;have l8:=L8S.out m;have l8':=L8S.out (m+1);have XW:Hid (Ext w wr):=(P3.out _ hB).2.2.2.2.2;clear hn hb hbn hq hr hy ht y8 b256 KC BIT OFA SCA ONE INV MUL KEY_ L8S;replace hB:=Hj hB;replace hw:=Hj hw;rcases Bool.eq_false_or_eq_true (B m) with hbt | hbt
   ·have ST:=Hj (fun W e=>STT.out m W e hbt);rw [hbt] at bb;have bb':Hid (t=1):=bb;clear STT STF bb hbt;obtain ⟨na,hna⟩:∃ z,z=SA (m+1):=⟨_,rfl⟩;obtain ⟨nb,hnb⟩:∃ z,z=SB (m+1):=⟨_,rfl⟩;obtain ⟨nc,hnc⟩:∃ z,z=SC (m+1):=⟨_,rfl⟩;obtain ⟨nd,hnd⟩:∃ z,z=SD (m+1):=⟨_,rfl⟩;rw [<-hna,<-hnb,<-hnc,<-hnd] at ST l8';have hNN:=Hj (jqS hna (jqS hnb (jqS hnc hnd)));clear hna hnb hnc hnd;generalize SA m=sa at *;generalize SB m=sb at *;generalize SC m=sc at *;generalize SD m=sd at *;have SS:(prC sb sa sd sc).toArray.size=32:=qU ⟨l8.2.1,l8.1,l8.2.2.2,l8.2.2.1⟩;have l8n:L8 nb na nd nc:=⟨l8'.2.1,l8'.1,l8'.2.2.2,l8'.2.2.1⟩;have SN:(prC nb na nd nc).toArray.size=32:=qU l8n;have ON:=Z4 nb na nd nc;go_wp2_with fail;refine (jbx bb'.out hw.out).mono ?_;rintro e w4 ⟨rfl,gr4,p4⟩;have B4:Hid (Below g7 w3 w4):=jpn hB.out (Zx hw.out.lt gr4);have X4:Hid (Wr w4 g1_s 233 vx/\Ext w w4):=⟨(P3.out _ B4.out).2.2.2.1,(P3.out _ B4.out).2.2.2.2.2⟩;replace p4:=Hj p4;clear hw hB XW gr4 c6;go_wp2_with (first
     | (refine wl_ rfl 238 rfl g7 rfl p4.out.1 rfl rfl (by rw [SS];rfl) ?_;go_frame)
     | (refine wl_ rfl 233 rfl g1_s rfl X4.out.1 rfl rfl (by rw [S_vx];rfl) ?_;go_frame))
    refine (ST.out _ X4.out.2).mono ?_;rintro e w5 ⟨rfl,e5⟩;have p5:=Hj (p4.out.kept e5 p4.out.lt);have B5:Hid (Below g7 w3 w5):=jpn B4.out (e5.mono (jqU p4.out.lt));clear p4 B4 X4 e5;go_upto_region 11 with (refine ws_ rfl 238 rfl g7 (prC nb na nd nc).toArray rfl rfl p5.out.1 (by rw [SN];rfl) (by rw [SN,SS]) ON ?_;go_frame)
    refine jg (fun W=>Pr W g7 nb na nd nc/\Below g7 w3 W) ⟨⟨jqc _ _ _ _ _ _ p5.out.1,l8n⟩,jqb B5.out (jpo _) _⟩ ?_;clear p5 B5;rintro w6 ⟨p6,B6⟩;go_wp2_with fail;refine (jbx bb'.out p6).mono ?_;rintro e w7 ⟨rfl,gr7,p7⟩;have B7:Hid (Below g7 w3 w7):=jpn B6 (Zx p6.lt gr7);clear p6 B6 gr7;replace p7:=Hj p7;go_wp2_with fail;obtain ⟨hna,hnb,hnc,hnd⟩:=hNN.out;exact ⟨⟨m+1,by omega,by rw [<-hbn1.out],B7.out,by rw [<-hna,<-hnb,<-hnc,<-hnd];exact p7.out⟩,by simp [intOf];omega⟩
   ·have ST:=Hj (fun W e=>STF.out m W e hbt);rw [hbt] at bb;have bb':Hid (t≠1):=by unfold Hid;rw [bb];decide
    clear STT STF bb hbt;obtain ⟨na,hna⟩:∃ z,z=SA (m+1):=⟨_,rfl⟩;obtain ⟨nb,hnb⟩:∃ z,z=SB (m+1):=⟨_,rfl⟩;obtain ⟨nc,hnc⟩:∃ z,z=SC (m+1):=⟨_,rfl⟩;obtain ⟨nd,hnd⟩:∃ z,z=SD (m+1):=⟨_,rfl⟩;rw [<-hna,<-hnb,<-hnc,<-hnd] at ST l8';have hNN:=Hj (jqS hna (jqS hnb (jqS hnc hnd)));clear hna hnb hnc hnd;generalize SA m=sa at *;generalize SB m=sb at *;generalize SC m=sc at *;generalize SD m=sd at *;have SS:(prC sa sb sc sd).toArray.size=32:=qU l8;have SN:(prC na nb nc nd).toArray.size=32:=qU l8';have ON:=Z4 na nb nc nd;go_wp2_with fail;refine (jby bb'.out).mono ?_;rintro e w4 ⟨rfl,rfl⟩;have X4:Hid (Wr w4 g1_s 233 vx/\Ext w w4):=⟨(P3.out _ hB.out).2.2.2.1,XW.out⟩;clear XW c6;go_wp2_with (first
     | (refine wl_ rfl 238 rfl g7 rfl hw.out.1 rfl rfl (by rw [SS];rfl) ?_;go_frame)
     | (refine wl_ rfl 233 rfl g1_s rfl X4.out.1 rfl rfl (by rw [S_vx];rfl) ?_;go_frame))
    refine (ST.out _ X4.out.2).mono ?_;rintro e w5 ⟨rfl,e5⟩;have p5:=Hj (hw.out.kept e5 hw.out.lt);have B5:Hid (Below g7 w3 w5):=jpn hB.out (e5.mono (jqU hw.out.lt));clear hw hB X4 e5;go_upto_region 11 with (refine ws_ rfl 238 rfl g7 (prC na nb nc nd).toArray rfl rfl p5.out.1 (by rw [SN];rfl) (by rw [SN,SS]) ON ?_;go_frame)
    refine jg (fun W=>Pr W g7 na nb nc nd/\Below g7 w3 W) ⟨⟨jqc _ _ _ _ _ _ p5.out.1,l8'⟩,jqb B5.out (jpo _) _⟩ ?_;clear p5 B5;rintro w6 ⟨p6,B6⟩;go_wp2_with fail;refine (jby bb'.out).mono ?_;rintro e w7 ⟨rfl,rfl⟩;replace p6:=Hj p6;replace B6:=Hj B6;go_wp2_with fail;obtain ⟨hna,hnb,hnc,hnd⟩:=hNN.out;exact ⟨⟨m+1,by omega,by rw [<-hbn1.out],B6.out,by rw [<-hna,<-hnb,<-hnc,<-hnd];exact p6.out⟩,by simp [intOf];omega⟩
  ·obtain rfl:m=255:=by omega
   clear STF STT BIT;have P4:Hid (∀ s,Ext wr s->Pr s g7 (SA 255) (SB 255) (SC 255) (SD 255)/\Ky s (w.heap.size+1+1) zk/\Ext w s):=fun s e=>⟨hw.kept e hw.lt,(P3.out s (jpn hB (e.mono (jqU hw.lt)))).2.2.1,(P3.out s (jpn hB (e.mono (jqU hw.lt)))).2.2.2.2.2⟩
   clear P3 hB hw L8S;have C_va:=j4 L_va;have C_vc:=j4 L_vc;generalize SA 255=va at *;generalize SB 255=vb at *;generalize SC 255=vc at *;generalize SD 255=vd at *;go_wp2_with fail;refine qgF (R:=Ext) jnQ (fun _ _ _=>Ext.trans) [0,1,2,3,4,5,6] [7] [0,1,0,4,12,31,63,127] [true,true,true,true,true,true,true,false] ?_;refine jnT (fun _=>jnQ _) _ rfl (v:= ?_) (d:=42) rfl rfl ?_ ?_;rotate_left
   ·intro a_ w_ hev hR hk;have e7:a_.eval (.tmp 7)=_:=hk 7 rfl;clear hk;generalize a_.eval=ev at *;obtain ⟨hev1,hev2,hev3⟩:=hev;go_simp;(try with_reducible rfl)
   refine jnT (fun _=>jnQ _) _ rfl (v:= .agg (jb va).toArray) (d:=43) rfl rfl ?_ ?_
   ·intro a_ w_ hev hR hk;have e41:a_.eval (.tmp 41)=_:=hk 41 rfl;exact (jy rfl e41 (P4.out w_ (Ext.trans (jnQ _).drew hR)).1.at0 rfl rfl (by rw [C_va];rfl))
   refine jnT (fun _=>jnQ _) _ rfl (v:= ?_) (d:=44) rfl rfl ?_ ?_;rotate_left
   ·intro a_ w_ hev hR hk;have e7:a_.eval (.tmp 7)=_:=hk 7 rfl;clear hk;generalize a_.eval=ev at *;obtain ⟨hev1,hev2,hev3⟩:=hev;go_simp;(try with_reducible rfl)
   refine jnT (fun _=>jnQ _) _ rfl (v:= .agg (jb vc).toArray) (d:=45) rfl rfl ?_ ?_
   ·intro a_ w_ hev hR hk;have e43:a_.eval (.tmp 43)=_:=hk 43 rfl;exact (jy rfl e43 (P4.out w_ (Ext.trans (jnQ _).drew hR)).1.at16 rfl rfl (by rw [C_vc];rfl))
   refine jx _ rfl (fun u _=>u= .agg (jb vi).toArray) (d:=46) rfl (fun _ _ _ h _=>h) rfl ?_ ?_
   ·intro a_ w_ hev hR hk K1 hK1;have e44:a_.eval (.tmp 44)=_:=hk 44 rfl;clear hk;have f44:=jz.trans e44;go_simp;refine (INV.out _ (P4.out w_ (Ext.trans (jnQ _).drew hR)).2.2).mono ?_;rintro e_ w2_ ⟨rfl,x_⟩;exact hK1.out _ _ x_ rfl
   refine jx _ rfl (fun u _=>u= .agg (jb vm).toArray) (d:=47) rfl (fun _ _ _ h _=>h) rfl ?_ ?_
   ·intro a_ w_ hev hR hk K1 hK1;have e42:a_.eval (.tmp 42)=_:=hk 42 rfl;have e45:a_.eval (.tmp 45)=_:=hk 45 rfl;clear hk;have f42:=jz.trans e42;have f45:=jz.trans e45;go_simp;refine (MUL.out _ (P4.out w_ (Ext.trans (jnQ _).drew hR)).2.2).mono ?_;rintro e_ w2_ ⟨rfl,x_⟩;exact hK1.out _ _ x_ rfl
   refine jx _ rfl (fun u _=>u= .agg (cellsOf rk).toArray) (d:=48) rfl (fun _ _ _ h _=>h) rfl ?_ ?_
   ·intro a_ w_ hev hR hk K1 hK1;have e46:a_.eval (.tmp 46)=_:=hk 46 rfl;clear hk;have f46:=jz.trans e46;go_simp;refine (KEY_.out _ (P4.out w_ (Ext.trans (jnQ _).drew hR)).2.2).mono ?_;rintro e_ w2_ ⟨rfl,x_⟩;exact hK1.out _ _ x_ rfl
   intro v_ w4q hR hV_ hN_;obtain ⟨hv6,hv5,hv4,hv3,hv2,hv1,hv0,_⟩:=hV_;replace hv0:v_ 0=_:=hv0;replace hv1:v_ 1=_:=hv1;replace hv2:v_ 2=_:=hv2;replace hv3:v_ 3=_:=hv3;replace hv4:v_ 4=_:=hv4;replace hv5:v_ 5=_:=hv5;replace hv6:v_ 6=_:=hv6;dsimp only [yQ,zv];clear hN_;rw [hv0,hv1,hv2,hv3,hv4,hv5,hv6];go_frame
   clear hv0 hv1 hv2 hv3 hv4 hv5 hv6;refine qi (z:=7) _ rfl rfl (by kernel_rfl) ?_;intro K1 hK1;refine jrf _ _ _ rfl (w.heap.size+1+1) (cellsOf rk).toArray rfl rfl 23 (cellsOf zk).toArray ((P4.out _ (Ext.trans (jnQ _).drew hR)).2.1).1 (by rw [S_rk];rfl) (by rw [S_rk,S_zk]) O_rk ?_;refine hK1.out _ _ ?_;clear hK1 K1;refine qT (by kernel_rfl) ?_;have EX:=Hj ((P4.out _ (Ext.trans (jnQ _).drew hR)).2.2);have kr:=Hj (((P4.out _ (Ext.trans (jnQ _).drew hR)).2.1).1);clear P4 hR;go_wp2_with fail;(try simp only [jqV,Exit.then]);refine jqW (jqX rfl _ _ (w.heap.size+1+1) 23 (cellsOf rk).toArray (0,0) _ rfl (jqc _ _ _ _ _ _ kr.out) rfl rfl (by rw [S_rk];rfl)) rfl ?_;exact ⟨rfl,jqb EX.out (by omega) _⟩
theorem jee {ks:List UInt8}{w:World}(hk:ks.length=32){tg:jpC×Nat×Nat}(hG:Gp w tg):
 Calls jpx 157 #[.agg (cellsOf ks).toArray] w fun e w'=>e= .returned (.agg (cellsOf (kL (jY ks 9))).toArray)/\Ext w w':=by
 have MU:Hid (∀ W,Ext w W->Calls jpx 111 #[.agg (cellsOf ks).toArray, .agg (cellsOf jdf).toArray] W fun e w'=>e= .returned (.agg (cellsOf (kL (jY ks 9))).toArray)/\Ext W w'):=fun W e=>by
  have:=jar hk (show jdf.length=32 from rfl) (hG.ext e)
  rwa [jk2] at this
 clear hG;have L_rk:=zx (jY ks 9);generalize kL (jY ks 9)=rk at *;have S_rk:(cellsOf rk).toArray.size=32:=by simp [ja,L_rk]
 have O_rk:=ji rk;have S_ks:(cellsOf ks).toArray.size=32:=by simp [ja,hk]
 have hb:=Hj jg9;generalize jdf=k9 at *;have hal:∀ w,(jpI 23).run jpx w= .ok (.agg (cellsOf (jqn 32 0)).toArray) w:=fun w=>by rw [jU];exact j2 w
 have L_zk:(jqn 32 (0:UInt8)).length=32:=rfl;generalize jqn 32 (0:UInt8)=zk at *;have S_zk:(cellsOf zk).toArray.size=32:=by simp [ja,L_zk]
 have B0:Hid (Ky ((w.alloc (jqY (cellsOf ks).toArray 23)).alloc (jqY (cellsOf zk).toArray 23)) w.heap.size ks/\Ky ((w.alloc (jqY (cellsOf ks).toArray 23)).alloc (jqY (cellsOf zk).toArray 23)) (w.heap.size+1) zk/\Ext w ((w.alloc (jqY (cellsOf ks).toArray 23)).alloc (jqY (cellsOf zk).toArray 23))):=⟨⟨jQ _ _ _,hk⟩,⟨jK _ _ _,L_zk⟩,((jnQ w).alloc _).alloc _⟩;go_enter Tryz.func157,Tryz.ntmps157
 go_wp2_with (first
  | (refine wl_ rfl 23 rfl w.heap.size rfl B0.out.1.1 rfl rfl (by rw [S_ks];rfl) ?_;go_frame)
  | (refine jm rfl _ _ rfl (cellsOf k9).toArray (by simp only [jqE,jqA,jqF];exact hb.out) ?_;go_frame))
 refine (MU.out _ B0.out.2.2).mono ?_;rintro e w1 ⟨rfl,e1⟩;have kr:=Hj (B0.out.2.1.ext e1);have kx:Hid (Ext w w1):=B0.out.2.2.trans e1;clear B0 MU e1;go_wp2_with (refine ws_ rfl 23 rfl (w.heap.size+1) (cellsOf rk).toArray rfl rfl kr.out.1 (by rw [S_rk];rfl) (by rw [S_rk,S_zk]) O_rk ?_;go_frame)
 (try simp only [jqV,Exit.then]);refine jqW (jqX rfl _ _ (w.heap.size+1) 23 (cellsOf rk).toArray (0,0) _ rfl (jqc _ _ _ _ _ _ kr.out.1) rfl rfl (by rw [S_rk];rfl)) rfl ?_;exact ⟨rfl,jqb kx.out (by omega) _⟩
theorem jdh {w:World}{A:Option Addr}{n c:Nat}{xs:List UInt8}(h:Bs w A n c xs){tg tp:jpC×Nat×Nat}(hG:Gl w tg) (hP:Gp w tp):
 Calls jpx 133 #[.slice A n c] w fun e w'=>e= .returned (.agg (cellsOf (j3 xs)).toArray)/\Ext w w':=by
 have SUM:Hid (∀ W,Ext w W->Calls jpx 156 #[.slice A n c] W fun e w'=>e= .returned (.agg (cellsOf (jC [] xs)).toArray)/\Ext W w'):=fun W e=>jbL (h.ext e) (hG.ext e)
 have BAS:Hid (∀ W,Ext w W->Calls jpx 157 #[.agg (cellsOf (jC [] xs)).toArray] W fun e w'=>e= .returned (.agg (cellsOf (kL (jY (jC [] xs) 9))).toArray)/\Ext W w'):=fun W e=>jee (qr _ _) (hP.ext e)
 have BLT:=Hj (Zv (qr [] xs) (zx (jY (jC [] xs) 9)));have RLe:=yU xs;have hR_:Hid (jC [] xs++kL (jY (jC [] xs) 9)=j3 xs):=rfl;rw [hR_.out] at BLT;clear hP hG;have L_sk:=qr [] xs;have L_pk:=zx (jY (jC [] xs) 9);clear hR_;generalize kL (jY (jC [] xs) 9)=pk at *;generalize jC [] xs=sk at *;generalize j3 xs=rr at *;have S_sk:(cellsOf sk).toArray.size=32:=by simp [ja,L_sk]
 have O_sk:=ji sk;have S_rr:(cellsOf rr).toArray.size=64:=by simp [ja,RLe]
 have O_rr:=ji rr;have hal:∀ w,(jpI 23).run jpx w= .ok (.agg (cellsOf (jqn 32 0)).toArray) w:=fun w=>by rw [jU];exact j2 w
 have hal2:=yS;have L_zk:(jqn 32 (0:UInt8)).length=32:=rfl;have L_zp:(jqn 64 (0:UInt8)).length=64:=by simp
 generalize jqn 32 (0:UInt8)=zk at *;generalize jqn 64 (0:UInt8)=zp at *;have S_zk:(cellsOf zk).toArray.size=32:=by simp [ja,L_zk]
 have S_zp:(cellsOf zp).toArray.size=64:=by simp [ja,L_zp]
 have B0:Hid (Kp (w.alloc (jqY (cellsOf zp).toArray 31)) w.heap.size zp/\Ext w (w.alloc (jqY (cellsOf zp).toArray 31))):=⟨⟨jqq _ _,L_zp⟩,(jnQ w).alloc _⟩;go_enter Tryz.func133,Tryz.ntmps133
 go_wp2_with fail;refine (SUM.out _ B0.out.2).mono ?_;rintro e u_ ⟨rfl,e1⟩;have a1:Hid ((u_.alloc (jqY (cellsOf zk).toArray 23)).heap[u_.heap.size]? =some (.cells (cellsOf zk).toArray 23 (0,0))):=jqq _ _;have E_:Ext (w.alloc (jqY (cellsOf zp).toArray 31)) ((u_.alloc (jqY (cellsOf zk).toArray 23)).setRow u_.heap.size (cellsOf sk).toArray):=e1.trans (jqb ((jnQ u_).alloc _) (jpo _) _);go_upto_region 2 with (refine ws_ rfl 23 rfl u_.heap.size (cellsOf sk).toArray rfl rfl a1.out (by rw [S_sk];rfl) (by rw [S_sk,S_zk]) O_sk ?_;simp only [jpR])
 obtain ⟨g3,hg_⟩:∃ g,g=u_.heap.size:=⟨_,rfl⟩;obtain ⟨r,hr_⟩:=ex_ w.heap.size;refine jg (fun W=>Ky W g3 sk/\Kp W r zp/\Ext w W) ⟨⟨by rw [hg_];exact jqc _ _ _ _ _ _ a1.out,L_sk⟩,by rw [hr_];exact B0.out.1.ext E_,B0.out.2.trans E_⟩ ?_;rw [<-hg_,<-hr_];replace hr_:=Hj hr_;clear hg_ a1 E_ e1 B0 SUM;rintro w1 ⟨k1,p1,x1⟩;have Q1:Hid (∀ s,Ext w1 s->Ky s g3 sk/\Kp s r zp/\Ext w s):=fun s e=>⟨k1.ext e,p1.ext e,x1.trans e⟩
 clear k1 p1 x1;refine qgF (R:=Ext) jnQ (fun _ _ _=>Ext.trans) [0,1,2,3] [4] [0,0,2,7,15] [true,true,true,true,false] ?_;refine jnT (fun _=>jnQ _) _ rfl (v:= .agg (cellsOf sk).toArray) (d:=7) rfl rfl ?_ ?_
 ·intro a_ w_ hev hR hk;have e3:a_.eval (.tmp 3)=_:=hk 3 rfl;exact (jd rfl e3 (Q1.out w_ (Ext.trans (jnQ _).drew hR)).1.1 rfl rfl (by rw [S_sk];rfl))
 refine jnT (fun _=>jnQ _) _ rfl (v:= .agg (cellsOf sk).toArray) (d:=8) rfl rfl ?_ ?_
 ·intro a_ w_ hev hR hk;have e3:a_.eval (.tmp 3)=_:=hk 3 rfl;exact (jd rfl e3 (Q1.out w_ (Ext.trans (jnQ _).drew hR)).1.1 rfl rfl (by rw [S_sk];rfl))
 refine jx _ rfl (fun u _=>u= .agg (cellsOf pk).toArray) (d:=9) rfl (fun _ _ _ h _=>h) rfl ?_ ?_
 ·intro a_ w_ hev hR hk K1 hK1;have e7:a_.eval (.tmp 7)=_:=hk 7 rfl;clear hk;have f7:=jz.trans e7;go_simp;refine (BAS.out _ (Q1.out w_ (Ext.trans (jnQ _).drew hR)).2.2).mono ?_;rintro e_ w2_ ⟨rfl,x_⟩;exact hK1.out _ _ x_ rfl
 refine jnT (fun _=>jnQ _) _ rfl (v:= .agg (cellsOf rr).toArray) (d:=10) rfl rfl ?_ ?_
 ·intro a_ w_ hev hR hk;have e6:a_.eval (.tmp 6)=_:=hk 6 rfl;have e8:a_.eval (.tmp 8)=_:=hk 8 rfl;exact (qe rfl (by simp only [jqE,jqA,jqF,e6,e8];exact BLT.out))
 intro v_ w2 hR hV_ hN_;obtain ⟨hv3,hv2,hv1,hv0,_⟩:=hV_;replace hv0:v_ 0=_:=hv0;replace hv1:v_ 1=_:=hv1;replace hv2:v_ 2=_:=hv2;replace hv3:v_ 3=_:=hv3;dsimp only [yQ,zv];clear hN_;rw [hv0,hv1,hv2,hv3];go_frame
 clear hv0 hv1 hv2 hv3;have kz:=Hj (Q1.out w2 ((jnQ _).drew.trans hR)).2;refine qi (z:=4) _ rfl rfl (by kernel_rfl) ?_;intro K1 hK1;refine jrf _ _ _ rfl r (cellsOf rr).toArray rfl rfl 31 (cellsOf zp).toArray kz.out.1.1 (by rw [S_rr];rfl) (by rw [S_rr,S_zp]) O_rr ?_;refine hK1.out _ _ ?_;clear hK1 K1;refine qT (by kernel_rfl) ?_;clear hR Q1;go_wp2_with fail;(try simp only [jqV,Exit.then]);refine jqW (jqX rfl _ _ r 31 (cellsOf rr).toArray (0,0) _ rfl (jqc _ _ _ _ _ _ kz.out.1.1) rfl rfl (by rw [S_rr];rfl)) rfl ?_;exact ⟨rfl,jqb kz.out.2 (by rw [hr_.out];exact jpo _) _⟩
theorem jcv {w:World}{lo g k:Nat}{xs:List UInt8}(h:SrcSt w lo g xs k) (hk:k < 1000000){tg tp:jpC×Nat×Nat}(hG:Gl w tg) (hP:Gp w tp) (hq:1 < lo):
 Calls jpx 109 #[.func (.func 110) #[.pointer (some ⟨g,0,none⟩)] #[]] w fun e w'=>e= .returned (.agg (cellsOf (j3 (jO xs k))).toArray)/\w.grownBy w' (some g)/\SrcSt w' lo g xs (k+1):=by
 have hal:∀ w,(jpI 23).run jpx w= .ok (.agg (cellsOf (jqn 32 0)).toArray) w:=fun w=>by rw [jU];exact j2 w
 have hal2:=yS;have L_zk:(jqn 32 (0:UInt8)).length=32:=rfl;have L_zp:(jqn 64 (0:UInt8)).length=64:=by simp
 generalize jqn 32 (0:UInt8)=zk at *;generalize jqn 64 (0:UInt8)=zp at *;have S_zk:(cellsOf zk).toArray.size=32:=by simp [ja,L_zk]
 have S_zp:(cellsOf zp).toArray.size=64:=by simp [ja,L_zp]
 have x0:Ext w (w.alloc (jqY (cellsOf zp).toArray 31)):=(jnQ w).alloc _;have KE:=Hj (je1 (h.ext x0) hk (hG.ext x0));have gl:Hid (∀ W,(w.alloc (jqY (cellsOf zp).toArray 31)).grownBy W (some g)->Gl W tg/\Gp W tp/\Kp W w.heap.size zp/\w.grownBy W (some g)):=fun W e=>
  have hlo:=h.1
  ⟨(e.block _ (by rw [je];exact Nat.lt_succ_of_lt hG.lt) (fun q=>by have:=jpD q;omega)).trans (hG.ext x0),
   (e.block _ (by rw [je];exact Nat.lt_succ_of_lt hP.lt) (fun q=>by have:=jpD q;omega)).trans (hP.ext x0),
   ⟨jo7 e (by have:=h.lt;omega) (jqq _ _),L_zp⟩,jt (jD x0) e⟩
 have glt:=h.lt;have PA:Hid (∀ (W:World) (A:Option Addr) (m d:Nat),Gl W tg->Gp W tp->Bs W A m d (jO xs k)->Calls jpx 133 #[.slice A m d] W fun e w'=>e= .returned (.agg (cellsOf (j3 (jO xs k))).toArray)/\Ext W w'):=fun W A m d h1 h2 hb=>jdh hb h1 h2
 clear h hG hP x0;have L_rr:=yU (jO xs k);generalize j3 (jO xs k)=rr at *;have L_dk:=jdX xs k;generalize jO xs k=dk at *;have S_dk:(cellsOf dk).toArray.size=32:=by simp [ja,L_dk]
 have O_dk:=ji dk;have S_rr:(cellsOf rr).toArray.size=64:=by simp [ja,L_rr]
 have O_rr:=ji rr;obtain ⟨r,hr_⟩:=ex_ w.heap.size;go_enter Tryz.func109,Tryz.ntmps109
 go_wp2_with fail;refine KE.out.mono ?_;rintro e w1 ⟨rfl,g1,s1⟩;obtain ⟨q1,q2,q3,q4⟩:=gl.out _ g1;rw [<-hr_] at q3 ⊢;have a1:Hid ((w1.alloc (jqY (cellsOf zk).toArray 23)).heap[w1.heap.size]? =some (.cells (cellsOf zk).toArray 23 (0,0))):=jqq _ _;have E_:Ext w1 ((w1.alloc (jqY (cellsOf zk).toArray 23)).setRow w1.heap.size (cellsOf dk).toArray):=jqb ((jnQ w1).alloc _) (jpo _) _;replace hr_:=Hj hr_;replace q3:=Hj q3;go_upto_region 2 with (refine ws_ rfl 23 rfl w1.heap.size (cellsOf dk).toArray rfl rfl a1.out (by rw [S_dk];rfl) (by rw [S_dk,S_zk]) O_dk ?_;simp only [jpR])
 obtain ⟨g3,hg_⟩:∃ g,g=w1.heap.size:=⟨_,rfl⟩;refine jg (fun W=>Ky W g3 dk/\Kp W r zp/\Gl W tg/\Gp W tp/\w.grownBy W (some g)/\SrcSt W lo g xs (k+1)) ⟨⟨by rw [hg_];exact jqc _ _ _ _ _ _ a1.out,L_dk⟩,q3.out.ext E_,q1.ext E_,q2.ext E_,JR q4 E_,s1.ext E_⟩ ?_;rw [<-hg_];clear hg_ a1 E_ g1 s1 q1 q2 q3 q4 gl KE;rintro w2 ⟨k2,p2,l2,f2,g2,s2⟩;have PB:=Hj (PA.out _ _ _ _ l2 f2 k2.bs);replace p2:=Hj p2;replace g2:=Hj g2;replace s2:=Hj s2;clear k2 l2 f2 PA;go_wp2_with fail;refine PB.out.mono ?_;rintro e w3 ⟨rfl,e3⟩;have kr:=Hj (p2.out.ext e3);have gr:=Hj (JR g2.out e3);have sr:=Hj (s2.out.ext e3);clear p2 g2 s2 e3 PB;go_wp2_with (refine ws_ rfl 31 rfl r (cellsOf rr).toArray rfl rfl kr.out.1 (by rw [S_rr];rfl) (by rw [S_rr,S_zp]) O_rr ?_;simp only [jpR])
 (try simp only [jqV,Exit.then]);refine jqW (jqX rfl _ _ r 31 (cellsOf rr).toArray (0,0) _ rfl (jqc _ _ _ _ _ _ kr.out.1) rfl rfl (by rw [S_rr];rfl)) rfl ?_;exact ⟨rfl,JS gr.out (by rw [hr_.out];exact jpo _),sr.out.row (by have:=hr_.out;omega)⟩
theorem jdR {w:World}{lo g k:Nat}{xs:List UInt8}(h:SrcSt w lo g xs k) (hk:k < 1000000){tg tp:jpC×Nat×Nat}(hG:Gl w tg) (hP:Gp w tp) (hq:1 < lo):
 Calls jpx 75 #[.pointer (some ⟨g,0,none⟩)] w fun e w'=>e= .returned (.agg (cellsOf (j3 (jO xs k))).toArray)/\w.grownBy w' (some g)/\SrcSt w' lo g xs (k+1):=by
 have hmf:∀ (fn:Fn) (first cap:Array Value) (w:World),(Instr.makeFunc fn first cap).run jpx w= .ok (.func fn first cap) w:=fun _ _ _ _=>rfl
 have hal2:=yS;have L_zp:(jqn 64 (0:UInt8)).length=64:=by simp
 generalize jqn 64 (0:UInt8)=zp at *;have S_zp:(cellsOf zp).toArray.size=64:=by simp [ja,L_zp]
 have x0:Ext w (w.alloc (jqY (cellsOf zp).toArray 31)):=(jnQ w).alloc _;have KE:=Hj (jcv (h.ext x0) hk (hG.ext x0) (hP.ext x0) hq);have glt:=h.lt;have gl:Hid (∀ W,(w.alloc (jqY (cellsOf zp).toArray 31)).grownBy W (some g)->Kp W w.heap.size zp/\w.grownBy W (some g)):=fun W e=>
  ⟨⟨jo7 e (by omega) (jqq _ _),L_zp⟩,jt (jD x0) e⟩
 clear h hG hP x0;have L_rr:=yU (jO xs k);generalize j3 (jO xs k)=rr at *;have S_rr:(cellsOf rr).toArray.size=64:=by simp [ja,L_rr]
 have O_rr:=ji rr;go_enter Tryz.func75,Tryz.ntmps75
 go_wp2_with fail;refine KE.out.mono ?_;rintro e w1 ⟨rfl,g1,s1⟩;obtain ⟨q3,q4⟩:=gl.out _ g1;replace q3:=Hj q3;replace q4:=Hj q4;replace s1:=Hj s1;clear g1 gl KE;go_wp2_with (refine ws_ rfl 31 rfl w.heap.size (cellsOf rr).toArray rfl rfl q3.out.1 (by rw [S_rr];rfl) (by rw [S_rr,S_zp]) O_rr ?_;simp only [jpR])
 (try simp only [jqV,Exit.then]);refine jqW (jqX rfl _ _ w.heap.size 31 (cellsOf rr).toArray (0,0) _ rfl (jqc _ _ _ _ _ _ q3.out.1) rfl rfl (by rw [S_rr];rfl)) rfl ?_;exact ⟨rfl,JS q4.out (jpo _),s1.out.row glt⟩
theorem jeX {A A':Option Addr}{n c n' c':Nat}{xs ys:List UInt8}{w:World}(h:Bs w A n c xs) (h':Bs w A' n' c' ys):
 Calls jpx 112 #[.slice A n c, .slice A' n' c'] w fun e w'=>e= .returned (.bool (decide (xs=ys)))/\∃ k,w'=w.drewN k:=by
 have h1:=h.le;have h2:=h.cap;have h3:=h'.le;have h4:=h'.cap;by_cases hn:n=n'
 ·subst hn;have hl:xs.length=ys.length:=h.len.trans h'.len.symm;have hs:Hid (((Yh xs ys n:Int)==0)=decide (xs=ys)):=by
   unfold Hid;rw [Bool.eq_iff_iff,decide_eq_true_iff,beq_iff_eq,Int.natCast_eq_zero,Zy,jdM hl,h.len]
  have hl':=Hj hl;clear hl;go_enter Tryz.func112,Tryz.ntmps112
  go_wp2
  go_loopw [5,14] (fun d i wr=>∃ k m:Nat,k<=n/\i= .int .i64 k/\d= .int .u8 (Yh xs ys k)/\wr=w.drewN m) (fun _ i _=>n - (intOf i).toNat)
  case atStart=>exact ⟨0,0,jpp _,rfl,rfl,rfl⟩
  case round=>
   obtain ⟨k,m,hk,rfl,rfl,rfl⟩:=hrel;by_cases hlt:k < n
   ·obtain ⟨b,off,rfl,hb,hc⟩:=h.pos (by omega);obtain ⟨b',off',rfl,hb',hc'⟩:=h'.pos (by omega);have g1:=hc k hlt;have g2:=hc' k hlt;have hu:=Hj (jgS xs ys k);clear hc hc';go_wp2
    go_quiet (fail)
    go_wp2
    go_roundw
    case rel=>exact ⟨k+1,_,by omega,by go_num,by rw [<-hu.out],rfl⟩
    case measure=>simp [intOf];omega
   ·obtain rfl:k=n:=by omega
    go_wp2
    go_ret;exact ⟨jir hs.out,m,rfl⟩
 ·have hb:((n:Int)!=(n':Int))=true:=by rw [bne_iff_ne];omega
  go_enter Tryz.func112,Tryz.ntmps112
  go_wp2
  go_ret;refine ⟨?_,0,rfl⟩;have:xs≠ys:=fun e=>hn (by rw [<-h.len,<-h'.len,e])
  simp [this]
theorem jae (s p:List UInt8):(zu s p).length=32:=zx _
theorem jfn:Tryz.prog.built 23 []=some (cellsOf (jqn 32 0)).toArray:=by rw [jU];exact zJ
theorem QA {w:World}{s q p:List UInt8}(hs:s.length=32) (hq:q.length=32) (hp:p.length=32){tp:jpC×Nat×Nat}(hP:Gp w tp):
 Calls jpx 76 #[.agg (cellsOf (s++q)).toArray, .agg (cellsOf p).toArray] w fun e w'=>e= .returned (.tuple #[.agg (cellsOf (zu s p)).toArray, .int .i64 (jej (zu s p))])/\Ext w w':=by
 have MU:Hid (∀ W,Ext w W->Calls jpx 111 #[.agg (cellsOf s).toArray, .agg (cellsOf p).toArray] W fun e w'=>e= .returned (.agg (cellsOf (zu s p)).toArray)/\Ext W w'):=fun W e=>jar hs hp (hP.ext e)
 have L_rk:=jae s p;have hE:Hid (jej (zu s p)=if zu s p=jqn 32 0 then 12 else 0):=rfl;clear hP;generalize zu s p=rk at *;generalize hce:jej rk=ce at *;replace hce:=Hj hce;have S_rk:(cellsOf rk).toArray.size=32:=by simp [ja,L_rk]
 have O_rk:=ji rk;have S_s:(cellsOf s).length=32:=by simp [ja,hs]
 have S_p:(cellsOf p).toArray.size=32:=by simp [ja,hp]
 have S_o:(cellsOf (s++q)).toArray.size=64:=by simp [ja,hs,hq]
 have hal:∀ w,(jpI 23).run jpx w= .ok (.agg (cellsOf (jqn 32 0)).toArray) w:=fun w=>by rw [jU];exact j2 w
 have hbz:=Hj jfn;have L_zk:(jqn 32 (0:UInt8)).length=32:=rfl;generalize jqn 32 (0:UInt8)=zk at *;have S_zk:(cellsOf zk).toArray.size=32:=by simp [ja,L_zk]
 have O_zk:=ji zk;have B0:Hid (∀ s',Ext (((w.alloc (jqY (cellsOf (s++q)).toArray 31)).alloc (jqY (cellsOf p).toArray 23)).alloc (jqY (cellsOf zk).toArray 23)) s'->Kp s' w.heap.size (s++q)/\Ky s' (w.heap.size+1) p/\Ky s' (w.heap.size+1+1) zk/\Ext w s'):=fun s' e=>⟨Kp.ext ⟨jF _ _ _ _,by rw [jpG,hs,hq]⟩ e,Ky.ext ⟨jH _ _ _ _,hp⟩ e,Ky.ext ⟨jB _ _ _ _,L_zk⟩ e,((((jnQ w).alloc _).alloc _).alloc _).trans e⟩
 go_enter Tryz.func76,Tryz.ntmps76
 go_upto_region 1 with fail;refine jg (fun W=>∀ s',Ext W s'->Kp s' w.heap.size (s++q)/\Ky s' (w.heap.size+1) p/\Ky s' (w.heap.size+1+1) zk/\Ext w s') B0.out ?_;clear B0;rintro w0 P0;replace P0:=Hj P0;have q0:=Hj (P0.out _ (jnQ _)).1;have q1:=Hj (P0.out _ (jnQ _)).2.1;go_wp2_with (first
  | (refine jI rfl (g:=w.heap.size) (off:=0) (ys:=cellsOf s) rfl rfl q0.out.at0 rfl rfl (by rw [S_s];rfl) ?_;go_frame)
  | (refine wl_ rfl 23 rfl (w.heap.size+1) rfl q1.out.1 rfl rfl (by rw [S_p];rfl) ?_;go_frame))
 refine (MU.out _ (P0.out _ (jnQ _)).2.2.2).mono ?_;rintro e u_ ⟨rfl,e1⟩;have a1:Hid ((u_.alloc (jqY (cellsOf zk).toArray 23)).heap[u_.heap.size]? =some (.cells (cellsOf zk).toArray 23 (0,0))):=jqq _ _;have E_:Ext w0 ((u_.alloc (jqY (cellsOf zk).toArray 23)).setRow u_.heap.size (cellsOf rk).toArray):=e1.trans (jqb ((jnQ u_).alloc _) (jpo _) _);go_upto_region 2 with (refine ws_ rfl 23 rfl u_.heap.size (cellsOf rk).toArray rfl rfl a1.out (by rw [S_rk];rfl) (by rw [S_rk,S_zk]) O_rk ?_;simp only [jpR])
 obtain ⟨g6,hg_⟩:∃ g,g=u_.heap.size:=⟨_,rfl⟩;refine jg (fun W=>Ky W g6 rk/\Ky W (w.heap.size+1+1) zk/\Ext w W) ⟨⟨by rw [hg_];exact jqc _ _ _ _ _ _ a1.out,L_rk⟩,(P0.out _ E_).2.2⟩ ?_;rw [<-hg_];clear hg_ a1 E_ e1 q0 q1 P0 MU;rintro w1 ⟨k1,z1,x1⟩;have S1:Hid (∀ (W:World),Ext w1 W->Ky W (g6+1) zk->True):=fun _ _ _=>trivial
 clear S1;have n1:Hid (Ky (w1.alloc (jqY (cellsOf zk).toArray 23)) w1.heap.size zk):=⟨jqq _ _,L_zk⟩;have m1:Hid (Ext w1 (w1.alloc (jqY (cellsOf zk).toArray 23))):=(jnQ _).alloc _;obtain ⟨g7,hg_⟩:∃ g,g=w1.heap.size:=⟨_,rfl⟩;go_upto_region 3 with fail;refine jg (fun W=>Ky W g6 rk/\Ky W g7 zk/\Ky W (w.heap.size+1+1) zk/\Ext w W) ⟨k1.ext m1.out,by rw [hg_];exact n1.out,z1.ext m1.out,x1.trans m1.out⟩ ?_;rw [<-hg_];clear hg_ n1 m1 k1 z1 x1;rintro w2 ⟨k1,n1,z1,x1⟩;have Q2:Hid (∀ s',Ext w2 s'->Ky s' g6 rk/\Ky s' g7 zk/\Ky s' (w.heap.size+1+1) zk/\Ext w s'):=fun s' e=>⟨k1.ext e,n1.ext e,z1.ext e,x1.trans e⟩
 have SA:Hid (∀ W,Ky W g6 rk->Ky W g7 zk->Calls jpx 112 #[.slice (some ⟨g6,0,none⟩) 32 32, .slice (some ⟨g7,0,none⟩) 32 32] W fun e w'=>e= .returned (.bool (decide (rk=zk)))/\Ext W w'):=fun W h1 h2=>by
  refine (jeX h1.bs h2.bs).mono ?_;rintro e w' ⟨he,k,rfl⟩;exact ⟨he,(jnQ W).drewN k⟩
 clear k1 n1 z1 x1;obtain ⟨b,hb⟩:=ex_ (decide (rk=zk));rw [<-hb] at SA;replace hb:=Hj (fun _:Unit=>hb);refine qgF (R:=Ext) jnQ (fun _ _ _=>Ext.trans) [0,1,2] [] [0,0,3] [true,true,true] ?_;refine jnT (fun _=>jnQ _) _ rfl (v:= ?_) (d:=13) rfl rfl ?_ ?_;rotate_left
 ·intro a_ w_ hev hR hk;have e6:a_.eval (.tmp 6)=_:=hk 6 rfl;clear hk;generalize a_.eval=ev at *;obtain ⟨hev1,hev2,hev3⟩:=hev;go_simp;(try with_reducible rfl)
 refine jnT (fun _=>jnQ _) _ rfl (v:= ?_) (d:=14) rfl rfl ?_ ?_;rotate_left
 ·intro a_ w_ hev hR hk;have e7:a_.eval (.tmp 7)=_:=hk 7 rfl;clear hk;generalize a_.eval=ev at *;obtain ⟨hev1,hev2,hev3⟩:=hev;go_simp;(try with_reducible rfl)
 refine jx _ rfl (fun u _=>u= .bool b) (d:=15) rfl (fun _ _ _ h _=>h) rfl ?_ ?_
 ·intro a_ w_ hev hR hk K1 hK1;have e12:a_.eval (.tmp 12)=_:=hk 12 rfl;have e13:a_.eval (.tmp 13)=_:=hk 13 rfl;clear hk;have f12:=jz.trans e12;have f13:=jz.trans e13;go_simp;refine (SA.out _ (Q2.out w_ (Ext.trans (jnQ _).drew hR)).1 (Q2.out w_ (Ext.trans (jnQ _).drew hR)).2.1).mono ?_;rintro e_ w2_ ⟨rfl,x_⟩;exact hK1.out _ _ x_ rfl
 intro v_ w3 hR hV_ hN_;obtain ⟨hv2,hv1,hv0,_⟩:=hV_;replace hv0:v_ 0=_:=hv0;replace hv1:v_ 1=_:=hv1;replace hv2:v_ 2=_:=hv2;dsimp only [yQ,zv];clear hN_;rw [hv0,hv1,hv2];go_frame
 clear hv0 hv1 hv2;have Q3:=Hj (Q2.out w3 ((jnQ _).drew.trans hR));refine qT (by kernel_rfl) ?_;clear hR Q2 SA;have k2:=Hj Q3.out.1;have z2:=Hj Q3.out.2.2.1;have x2:=Hj Q3.out.2.2.2;clear Q3;by_cases hz:rk=zk
 ·have hbt:b=true:=by rw [hb.out ()];exact decide_eq_true hz
  have hE2:Hid (ce=12):=by unfold Hid;rw [hE.out,if_pos hz]
  clear hE hce hb;subst hbt;have hz':Hid (cellsOf rk=cellsOf zk):=by unfold Hid;rw [hz]
  clear hz;go_wp2_with (first
   | (refine jm rfl _ _ rfl (cellsOf zk).toArray (by simp only [jqE,jqF];exact hbz.out) ?_;go_frame)
   | (refine ws_ rfl 23 rfl (w.heap.size+1+1) (cellsOf zk).toArray rfl rfl z2.out.1 (by rw [S_zk];rfl) rfl O_zk ?_;simp only [jpR]))
  (try simp only [jqV,Exit.then]);refine jqW (v:= .tuple #[.agg (cellsOf zk).toArray, .int .i64 12]) ?_ rfl ?_
  ·exact qj rfl _ _ (w.heap.size+1+1) 23 (cellsOf zk).toArray (0,0) _ _ rfl rfl (jqc _ _ _ _ _ _ z2.out.1) rfl rfl (by rw [S_zk];rfl)
  exact ⟨by rw [hE2.out,hz'.out],jqb x2.out (by omega) _⟩
 ·have hbt:b=false:=by rw [hb.out ()];exact decide_eq_false hz
  have hE2:Hid (ce=0):=by unfold Hid;rw [hE.out,if_neg hz]
  clear hE hce hb hz;subst hbt;go_wp2_with (first
   | (refine wl_ rfl 23 rfl g6 rfl k2.out.1 rfl rfl (by rw [S_rk];rfl) ?_;go_frame)
   | (refine ws_ rfl 23 rfl (w.heap.size+1+1) (cellsOf rk).toArray rfl rfl z2.out.1 (by rw [S_rk];rfl) (by rw [S_rk,S_zk]) O_rk ?_;simp only [jpR]))
  (try simp only [jqV,Exit.then]);refine jqW (v:= .tuple #[.agg (cellsOf rk).toArray, .int .i64 0]) ?_ rfl ?_
  ·exact qj rfl _ _ (w.heap.size+1+1) 23 (cellsOf rk).toArray (0,0) _ _ rfl rfl (jqc _ _ _ _ _ _ z2.out.1) rfl rfl (by rw [S_rk];rfl)
  exact ⟨by rw [hE2.out],jqb x2.out (by omega) _⟩
end
section
theorem Q0 {x k:Nat}(h:k < 32):bt (kL x) k=x / 256 ^ k % 256:=by
 rw [jjT h];have e:256 ^ k=4294967296 ^ (k / 4)*256 ^ (k % 4):=by
  rw [<-jaD]
  congr 1
  omega
 rw [e,<-jqQ];unfold lb;generalize x / 4294967296 ^ (k / 4)=X;have:k % 4=0\/k % 4=1\/k % 4=2\/k % 4=3:=by omega
 rcases this with h | h | h | h <;> rw [h] <;> simp only [Nat.pow_zero,jqN,Nat.one_mul,Nat.div_one] <;> omega
theorem jhV (x:Nat):∀ i,i<=32->ofN (kL x) i=x % 256 ^ i
 | 0,_=>by rw [ofN,Nat.pow_zero,Nat.mod_one]
 | i+1,h=>by
   rw [ofN,jhV x i (by omega),Q0 (by omega),jqN,Nat.mod_mul,jqI (256 ^ i)]
theorem jcs {x:Nat}(h:x < P25):ofV (kL x)=x:=by
 have hH:x < H8:=Nat.lt_trans h (by decide+kernel);have hM:x < 256 ^ 32:=Nat.lt_trans hH (by decide+kernel);unfold ofV;rw [jhV x 32 (jpo _),jqM hM,jqM hH,jqM h]
end
section
open Go.ChangeShapes Go.WideShapes Go.ChangeAt Go.RowKit Go.Deep
theorem jje:ofV (jqn 32 0)=0:=by decide+kernel
end
end Go.Proofs.YtakpgbaijkhpmaaGreatDoor
