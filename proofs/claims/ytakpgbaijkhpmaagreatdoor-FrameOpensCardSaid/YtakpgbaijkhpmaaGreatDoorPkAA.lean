import Derived.Test.YtakpgbaijkhpmaaGreatDoorRows
import Derived.WalkKit
import Derived.ProofKit
import Derived.OpenShut
import Derived.ShutString
import Derived.ChangeOld
import Derived.Below
import Derived.Lib.Hide
import Derived.Deep.OwnRows
import Derived.Deep.Draws
import Derived.Deep.QuietTactic
import Derived.BigQuiet
import Derived.IntWalk
import Derived.Laws.BytesArg
import Derived.Deep.Light
import Derived.Laws.BitsAllLaws
import Derived.Laws.BitsLemmas
import Derived.Maps.RangeWalk
import Derived.Maps.AppendAt
import Derived.Deep.RegionHeld3
import Derived.OwnWalk
import Derived.Deep.DeepMust
import Derived.Laws.CopyOwn
import Derived.RegionTactic
import Derived.Deep.DeepCutAuto
import Derived.Laws.ResultCell
import Derived.Stop.BytesEq
import Derived.Lib.SlBytesConst
import Derived.Lib.AppendStr
import Derived.Lib.AppendZerosOnto
import Derived.Lib.ConvBytes
import Derived.Deep.AppendSrc
import Derived.Great.FillDense
import Derived.Laws.Rows
import Derived.Laws.Tables
open Array renaming all_eq_true_iff_forall_mem→jpV,getElem?_eq_none→jpv,getElem?_toList→jpU,replicate→jpW
open Bool renaming and_eq_true→jpK,not_eq_true'→jpL
open Classical renaming byContradiction→jpM
open Go renaming Program→jpB,TypeId→jpC,below_setRow→jqb,bodyPost_ret→jqW,cell_of_row→jqe,execOp→jpY,heap_alloc_new→jqq,results_cell_row→jqX,run_underlying→jql,setRow_heap→jqc,setRow_other→jqy,splice→jp9,u32_xor_nat→jq7,wp_store_row→jrf,zeroValue→jpI
open Go.Act renaming put→jpR
open Go.Builtin renaming append_→jrd
open Go.Exit renaming inBlock→jqV
open Go.Instr renaming fill→jqo,index→jqh
open Go.IntKind renaming wrap_u32→jp6
open Go.IntWalk renaming i64_in→jq0
open Go.Obj renaming cells→jqY
open Go.Proofs.Tryz renaming prog→jpx,underlying33→jpy
open Go.Region renaming noSelect→jpQ,ready→jpS,wanted→jpX
open Go.Result renaming andThen_ok→jqk
open Go.RowKit.Below renaming heap_alloc→jqg,heap_setCell→jp7,refl→jpm,trans→jpn
open Go.Sem renaming run_bind→jqi,run_pure→jqj
open Go.Value renaming agg→jqp,int→jpA,ownBlock→jrb
open Go.World.grownBy renaming refl→jpZ
open Go.World.ownsRow renaming lt→jrc
open List renaming all_eq_true→jp2,append_assoc→jqd,drop_of_length_le→jrg,eq_nil_of_length_eq_zero→jpw,ext_getElem→jp8,getD→jpr,getD_eq_getElem?_getD→jra,getElem?_append_left→jqs,getElem?_append_right→jqr,getElem?_cons_zero→jpO,getElem?_eq_getElem→jq9,getElem?_eq_none→jqa,getElem?_eq_some_iff→jqx,getElem?_map→jpT,getElem?_replicate→jq5,getElem?_take→jqf,getElem?_toArray→jqt,length_append→jpG,length_map→jqH,length_replicate→jrh,length_set→jp5,length_take→jps,map_append→jqw,map_cons→jqA,map_nil→jqF,map_toArray→jqE,mem_cons_of_mem→jqC,mem_cons_self→jqB,mem_map→jpN,nil_append→jq8,range→jp1,replicate→jqn,take_left'→jqv,take_of_length_le→jqm,take_succ_eq_append_getElem→jq6
open Nat renaming add_zero→jpP,div_div_eq_div_mul→jqQ,le_of_lt→jqU,le_refl→jpo,le_trans→jp0,lt_of_le_of_lt→jp4,lt_of_lt_of_le→jpq,lt_or_ge→jpu,mod_lt→jp3,mul_assoc→jqJ,mul_comm→jqI,pow_succ→jqN,zero_add→jpz,zero_le→jpp
open UInt8 renaming ofNat→jpt
namespace Go.Proofs.YtakpgbaijkhpmaaGreatDoor
set_option maxHeartbeats 64000000
set_option linter.unusedSimpArgs false
set_option linter.unusedVariables false
set_option maxRecDepth 100000
theorem Hj{p:Prop}(h:p):Go.RowKit.Hid p:=h
theorem ex_{a:Type}(b:a):∃ x,x=b:=⟨b,rfl⟩
theorem wl_{P:Go.Program}{ops:Array Go.Oper}{rest:List Go.Oper}{o:Go.Oper}{a:Go.Act}{w:Go.World}{Q:Go.Exit->Go.Act->Go.World->Prop}(hgd:o.guard=none) (ty:Go.TypeId){x:Go.Operand}(ho:o.op=.load ty x) (g:Nat) (hx:a.eval x=.pointer (some ⟨g,0,none⟩)){cs:Array Go.Value}{d:Go.TypeDesc}(hg:w.heap[g]? =some (.cells cs ty (0,0))) (hu:P.underlying ty=some d) (hd:(match d with | .struct _ | .array _ _=>true | _=>false)=true) (hi:(P.info? ty).map (·.size)=some cs.size) (h:Go.wpList P ops Q rest (a.put o.dst (.agg cs)) w):Go.wpList P ops Q (o::rest) a w:=Go.wpList_load_row hgd ty x ho g hx ty cs (0,0) d hg hu hd hi h
theorem ws_{P:Go.Program}{ops:Array Go.Oper}{rest:List Go.Oper}{o:Go.Oper}{a:Go.Act}{w:Go.World}{Q:Go.Exit->Go.Act->Go.World->Prop}(hgd:o.guard=none) (ty:Go.TypeId){x y:Go.Operand}(ho:o.op=.store ty x y) (g:Nat) (cells:Array Go.Value) (hx:a.eval x=.pointer (some ⟨g,0,none⟩)) (hy:a.eval y=.agg cells){old:Array Go.Value}(hg:w.heap[g]? =some (.cells old ty (0,0))) (hi:(P.info? ty).map (·.size)=some cells.size) (hold:old.size=cells.size) (h1:cells.all (·.oneCell')=true) (h:Go.wpList P ops Q rest (a.put o.dst Go.undef) (w.setRow g cells)):Go.wpList P ops Q (o::rest) a w:=Go.wpList_store_row hgd ty x y ho g cells hx hy ty old hg hi hold h1 h
section
open Go.ChangeShapes Go.WideShapes Go.ChangeAt Go.RowKit Go.Deep
def Ext (w w':World):Prop:=Below w.heap.size w w'
theorem jnQ (w:World):Ext w w:=jpm _ _
theorem Ext.size {w w':World}(h:Ext w w'):w.heap.size<=w'.heap.size:=Below.size h
theorem Ext.trans {a b c:World}(h:Ext a b) (k:Ext b c):Ext a c:=jpn h (Below.mono k h.size)
theorem Ext.trans' {a b c:World}(h:Ext a b) (k:Below a.heap.size b c):Ext a c:=jpn h k
theorem Ext.drew {a w:World}(h:Ext a w):Ext a w.drew:=Below.drew h
theorem Ext.drewN {a w:World}(h:Ext a w) (n:Nat):Ext a (w.drewN n):=⟨h.os,h.tape,h.output,h.size,h.block⟩
theorem Ext.alloc {a w:World}(h:Ext a w) (o:Obj):Ext a (w.alloc o):=Below.alloc h h.size o
theorem Ext.setCell {a w:World}(h:Ext a w){p:Addr}(hp:a.heap.size<=p.block) (u:Value):Ext a (w.setCell p u):=Below.setCell h hp u
theorem Ext.cell {w w':World}(h:Ext w w'){p:Addr}(hp:p.block < w.heap.size):w'.cell? p=w.cell? p:=Below.cell h hp
theorem jir {a b:Bool}(h:a=b):Ending.returned (.bool a)= .returned (.bool b):=by rw [h]
theorem jjz {k:IntKind}{a b:Int}(h:a=b):Ending.returned (.int k a)= .returned (.int k b):=by rw [h]
def bt (xs:List UInt8) (k:Nat):Nat:=(xs.getD k 0).toNat
theorem vL (xs:List UInt8) (k:Nat):bt xs k < 256:=(xs.getD k 0).toNat_lt
def Bs (w:World) (A:Option Addr) (n c:Nat) (xs:List UInt8):Prop:=
 xs.length=n/\n<=c/\c<=maxLen/\(0 < n->∃ b off,A=some ⟨b,off,none⟩/\b < w.heap.size/\∀ j,j < n->w.cell? ⟨b,off+j,none⟩=some (.int .u8 (bt xs j:Int)))
section
variable {w w':World}{A:Option Addr}{n c:Nat}{xs:List UInt8}
theorem Bs.len (h:Bs w A n c xs):xs.length=n:=h.1
theorem Bs.le (h:Bs w A n c xs):n<=c:=h.2.1
theorem Bs.cap (h:Bs w A n c xs):c<=9223372036854775807:=h.2.2.1
theorem Bs.nil (w:World):Bs w none 0 0 []:=⟨rfl,jpo _,jpp _,fun h=>absurd h (by omega)⟩
theorem Bs.pos (h:Bs w A n c xs) (hn:0 < n):∃ b off,A=some ⟨b,off,none⟩/\b < w.heap.size/\∀ j,j < n->w.cell? ⟨b,off+j,none⟩=some (.int .u8 (bt xs j:Int)):=h.2.2.2 hn
theorem Bs.ext (h:Bs w A n c xs) (he:Ext w w'):Bs w' A n c xs:=
 ⟨h.1,h.2.1,h.2.2.1,fun hn=>by
   obtain ⟨b,off,e,hb,hc⟩:=h.2.2.2 hn;exact ⟨b,off,e,jpq hb he.size,fun j hj=>(he.cell hb).trans (hc j hj)⟩⟩
theorem YU {xs:List UInt8}{k j:Nat}(h:j < k):bt (xs.take k) j=bt xs j:=by unfold bt;simp [jpr,h]
theorem jfu {xs:List UInt8}{k j:Nat}:bt (xs.drop k) j=bt xs (k+j):=by unfold bt;simp [jpr]
theorem Bs.take (h:Bs w A n c xs){k:Nat}(hk:k<=n):Bs w A k c (xs.take k):=
 ⟨by rw [jps,h.1];omega,by have:=h.2.1;omega,h.2.2.1,fun h0=>by
   obtain ⟨b,off,e,hb,hc⟩:=h.2.2.2 (by omega);exact ⟨b,off,e,hb,fun j hj=>by rw [hc j (by omega),YU hj]⟩⟩
theorem jf7 {a:Option Addr}{len cap:Nat}{zs:List Int}(h:(a=none/\len=0/\cap=0/\zs= [])\/
 ∃ x,a=some x/\len<=cap/\cap<=maxLen/\zs.length=cap/\(∀ i,i < zs.length->w.cell? (x.add i)=some (.int .u8 (zs.getD i 0)))/\∀ n∈zs,(Lit.int .u8 n).wf=true):∃ xs,Bs w a len cap xs:=by
 rcases h with ⟨rfl,rfl,rfl,rfl⟩ | ⟨x,rfl,hl,hc,hz,hcell,hwf⟩
 ·exact ⟨[],Bs.nil w⟩
 ·refine ⟨(zs.take len).map fun z=>jpt z.toNat,by simp;omega,hl,hc,fun h0=> ?_⟩;obtain ⟨b,off,rfl,hcl⟩:=ints_at hcell (by omega);refine ⟨b,off,rfl,?_,fun j hj=> ?_⟩
  ·have:=hcl 0 (by omega);rcases jpu b w.heap.size with h | h
   ·exact h
   ·simp [World.cell?,jpv h] at this
  ·have hj':j < zs.length:=by omega
   rw [hcl j hj'];have hb:0<=zs[j]/\zs[j]<=255:=by simpa [Lit.wf,IntKind.min,IntKind.max,IntKind.signed,IntKind.bits] using hwf _ (List.getElem_mem hj')
   simp [bt,jpr,hj',hj]
   omega
theorem Bs.zero (h:Bs w A 0 c xs):xs= []:=jpw h.1
end
theorem jdb:(Tryz.prog.info? 5).map (fun i=>(i.zero,i.size,i.bytes))=some (some (.int .u8 0),1,1):=by kernel_rfl
theorem jhQ (n:Nat) (hn:n<=281474976710656) (w:World):
 (Instr.makeSlice 33 (.int .i64 (n:Int)) (.int .i64 (n:Int))).run jpx w= .ok (.slice (some ⟨w.heap.size,0,none⟩) n n) (w.alloc (.cells (madeCells #[.int .u8 0] n) 5)):=
 run_make_row' _ _ _ 1 jpy jdb rfl .i64 .i64 n (by omega) (by omega) w
def Fill (w wr:World) (n k:Nat) (f:Nat->Nat):Prop:=Ext w wr/\wr.rowIs w.heap.size 5 n (fun i=>if i < k then .int .u8 (f i:Int) else .int .u8 0)
section
variable {w wr:World}{n k:Nat}{f:Nat->Nat}
theorem Fill.start (w:World) (n:Nat) (f:Nat->Nat):Fill w (w.alloc (.cells (madeCells #[.int .u8 0] n) 5)) n 0 f:=
 ⟨(jnQ w).alloc _,(World.rowIs_made w _ n _).congr fun i _=>by simp⟩
theorem Fill.cell (h:Fill w wr n k f) (hk:k < n):wr.cell? ⟨w.heap.size,k,none⟩=some (.int .u8 0):=by
 rw [h.2.cell hk];simp
theorem Fill.frozen (h:Fill w wr n k f) (j:Nat):wr.frozen? ⟨w.heap.size,j,none⟩=false:=h.2.frozen j
theorem Fill.step (h:Fill w wr n k f){u:Int}(hu:u=(f k:Int)):Fill w (wr.setCell ⟨w.heap.size,k,none⟩ (.int .u8 u)) n (k+1) f:=by
 subst hu;refine ⟨h.1.setCell (jpo _) _,(h.2.set k _).congr fun i _=> ?_⟩;by_cases e:i=k
 ·subst e;simp
 ·simp only [if_neg e];by_cases hi:i < k
  ·rw [if_pos hi,if_pos (by omega)]
  ·rw [if_neg hi,if_neg (by omega)]
theorem Fill.drew (h:Fill w wr n k f):Fill w wr.drew n k f:=⟨h.1.drew,h.2.drew⟩
theorem Fill.done (h:Fill w wr n n f){xs:List UInt8}(hl:xs.length=n) (hn:n<=281474976710656) (hf:∀ j,j < n->f j=bt xs j):Bs wr (some ⟨w.heap.size,0,none⟩) n n xs:=
 ⟨hl,jpo _,by unfold maxLen;omega,fun _=>⟨w.heap.size,0,rfl,h.2.lt,fun j hj=>by
   rw [jpz,h.2.cell hj,if_pos hj,hf j hj]⟩⟩
end
def vR (xs:List UInt8):ByteArray:=⟨xs.toArray⟩
theorem Zq (xs:List UInt8):(vR xs).size=xs.length:=by simp [vR,ByteArray.size]
theorem jfz {w:World}{A:Option Addr}{n c:Nat}{xs:List UInt8}(h:Bs w A n c xs):
 (convert 33 9 (.slice A n c)).run jpx w= .ok (.string (vR xs)) w:=by
 rw [run_convert_bytes_string w _ _ 5 _ _ _ jpy Tryz.underlying5 Tryz.underlying9];rcases A with _ | a
 ·have hn:n=0:=by
   rcases Nat.eq_zero_or_pos n with h0 | h0
   ·exact h0
   ·obtain ⟨b,off,e,_⟩:=h.pos h0
    cases e
  subst hn;rw [h.zero]
  rfl
 ·have hl:(loadCells a n).run jpx w= .ok ((xs.map fun x=>(x.toNat:Int)).map (jpA .u8)).toArray w:=by
   have hr:=run_loadCells_list (P:=jpx) w a ((xs.map fun x=>(x.toNat:Int)).map (jpA .u8)) (fun j v hj=>by
    have hjl:j < xs.length:=by
     rcases jpu j xs.length with h | h
     ·exact h
     ·simp [h] at hj
    obtain ⟨b,off,e,hb,hc⟩:=h.pos (by have:=h.len;omega)
    injection e with e
    subst e;have hplain:(⟨b,off,none⟩:Addr).add j=⟨b,off+j,none⟩:=by unfold Addr.add;split <;> simp_all
    rw [hplain,hc j (by rw [<-h.len];exact hjl)];simp [hjl] at hj
    subst hj;simp [bt,jpr,hjl])
   simpa [h.len] using hr
  rw [run_bytesToString w _ _ _ _ hl,foldl_push_bytes];simp [vR,ByteArray.empty,ByteArray.emptyWithCapacity]
  have e:((fun n:Int=>jpt n.toNat) ∘ fun x:UInt8=>(x.toNat:Int))=id:=by funext x;simp
  rw [e];simp
  rfl
def Qw (xs:List UInt8) (w:World) (e:Ending) (w':World):Prop:=∃ A n c,e= .returned (.slice A n c)/\Bs w' A n c xs/\Ext w w'
def YP (xs:List UInt8) (er:Int) (w:World) (e:Ending) (w':World):Prop:=∃ A n c,e= .returned (.tuple #[.slice A n c, .int .i64 er])/\Bs w' A n c xs/\Ext w w'
def u8v (x:UInt8):Value:= .int .u8 (x.toNat:Int)
theorem jiI {xs:List UInt8}{j:Nat}(h:j < xs.length):(xs.map u8v)[j]? =some (.int .u8 (bt xs j:Int)):=by simp [u8v,bt,jpr,h]
def Own (B:Nat) (w:World) (A:Option Addr) (n c:Nat) (xs:List UInt8):Prop:=w.ownsRow B 5 1 (.slice A n c) n (xs.map u8v)
section
variable {w w':World}{B:Nat}{A:Option Addr}{n c:Nat}{xs:List UInt8}
theorem Own.nil (B:Nat) (w:World):Own B w none 0 0 []:=World.ownsRow_nil w B _ 1
theorem Own.made (w:World) (B cap:Nat) (hB:B<=w.heap.size) (hm:cap<=281474976710656):Own B (w.alloc (.cells (madeCells #[.int .u8 0] cap) 5)) (some ⟨w.heap.size,0,none⟩) 0 cap []:=
 World.ownsRow_made w _ cap hB (by unfold maxLen;omega) (by rw [size_madeCells,Nat.mul_one])
theorem Own.len (h:Own B w A n c xs):xs.length=n:=by simpa using h.1
theorem Own.bs (h:Own B w A n c xs):Bs w A n c xs:=by
 have hl:=h.len;rcases h.2 with ⟨hv,hn⟩ | ⟨g,cap,cur,hv,hb,hg,hnc,hcm,hcs,htk⟩
 ·injection hv with h1 h2 h3
  subst h1 h2 h3;exact ⟨hl,jpo _,jpp _,fun h=>absurd h (by omega)⟩
 ·injection hv with h1 h2 h3
  subst h1 h3;refine ⟨hl,hnc,hcm,fun h0=>⟨g,0,rfl,?_,fun j hj=> ?_⟩⟩
  ·rcases jpu g w.heap.size with h | h
   ·exact h
   ·rw [jpv h] at hg;cases hg
  ·rw [jpz];have e:(xs.map u8v)[j]? =cur[j]? :=by
    rw [<-htk,jqf,if_pos (by omega),jpU]
   rw [jiI (by omega)] at e;simp [World.cell?,hg,<-e]
theorem Own.ext (h:Own B w A n c xs) (he:Ext w w'):Own B w' A n c xs:=by
 refine ⟨h.1,?_⟩;rcases h.2 with h | ⟨g,cap,cur,hv,hb,hg,r⟩
 ·exact .inl h
 ·exact .inr ⟨g,cap,cur,hv,hb,(he.block g (by
   rcases jpu g w.heap.size with h | h
   ·exact h
   ·rw [jpv h] at hg;cases hg)).trans hg,r⟩
theorem Own.ge (h:Own B w A n c xs):∀ g,jrb (.slice A n c)=some g->B<=g:=fun g hg=>(jrc h g hg).1
theorem Own.kept {row:Option Nat}(h:Own B w A n c xs) (hg:w.grownBy w' row) (hne:jrb (.slice A n c)=none\/jrb (.slice A n c)≠row):Own B w' A n c xs:=World.ownsRow.kept h hg hne
end
theorem Own.empty (w:World) (B:Nat) (hB:B<=w.heap.size):Own B (w.alloc (.cells #[] 5)) (some ⟨w.heap.size,0,none⟩) 0 0 []:=
 World.ownsRow_lit (e:=5) (size:=1) w #[] 0 hB (jpp _) rfl
theorem jhP (n:Nat) (hn:n<=281474976710656) (w:World):
 (Instr.makeSlice 33 (.int .i64 0) (.int .i64 (n:Int))).run jpx w= .ok (.slice (some ⟨w.heap.size,0,none⟩) 0 n) (w.alloc (.cells (madeCells #[.int .u8 0] n) 5)):=by
 obtain ⟨i,hi,hz0,hz1,hz2⟩:=info_parts jdb;have h:=run_make (P:=jpx) w 33 5 i (.int .u8 0) jpy hi hz0 .i64 .i64 0 (n:Int) (by omega) (by omega) (by rw [hz2];omega) (by omega)
 simpa [hz1,Value.cells] using h
theorem jf6 {w:World}{B:Nat}{A A':Option Addr}{n c m c':Nat}{xs ys:List UInt8}(ty:jpC) (h:Own B w A n c xs) (hr:Bs w A' m c' ys) (hm:n+m<=140737488355328) (hB:B<=w.heap.size):
 ∃ A'' c'' w',(jrd #[33,33] ty #[.slice A n c, .slice A' m c']).run jpx w= .ok (.slice A'' (n+m) c'') w'/\Own B w' A'' (n+m) c'' (xs++ys)/\w.grownBy w' (jrb (.slice A n c))/\
   (jrb (.slice A'' (n+m) c'')=jrb (.slice A n c)\/jrb (.slice A'' (n+m) c'')=some w.heap.size):=by
 obtain ⟨i,hi,hz0,hz1,hz2⟩:=info_parts jdb;have form:∀ (v':Value) (w':World),w'.ownsRow B 5 1 v' (n+m) (xs.map u8v++ys.map u8v)->∃ A'' c'',v'= .slice A'' (n+m) c''/\Own B w' A'' (n+m) c'' (xs++ys):=by
  intro v' w' ho;rcases ho.2 with ⟨hv,hn⟩ | ⟨g,cap,cur,hv,_⟩
  ·refine ⟨none,0,by rw [hv,hn],?_⟩;rw [hv] at ho;unfold Own;rw [jqw];rw [show (Value.slice none (n+m) 0)= .slice none 0 0 by rw [hn]];exact ho
  ·refine ⟨_,_,hv,?_⟩;rw [hv] at ho;unfold Own;rw [jqw];exact ho
 rcases A' with _ | a
 ·have hm0:m=0:=by
   rcases Nat.eq_zero_or_pos m with h0 | h0
   ·exact h0
   ·obtain ⟨b,off,e,_⟩:=hr.pos h0
    cases e
  subst hm0;have hy:=hr.zero;subst hy;refine ⟨A,c,w,?_,by simpa using h,⟨rfl,rfl,rfl,jpo _,fun _ _ _=>rfl⟩, .inl rfl⟩;rcases h.2 with ⟨hv,hn⟩ | ⟨g,cap,cur,hv,_,_,hnc,_⟩
  ·rw [hv];subst hn
   injection hv with _ _ h3
   subst h3;simp [jrd,jql jpy,sizeOf,typeInfo,hi,Builtin.lenOf,Builtin.firstCells]
   exact Eq.symm ‹A=none›
  ·rw [hv]
   injection hv with _ _ h3
   subst h3;simp [jrd,jql jpy,sizeOf,typeInfo,hi,Builtin.lenOf,Builtin.firstCells,hnc,storeCells]
   exact Eq.symm ‹A=some _›
 ·obtain ⟨v',w',hrun,ho,hg,_,hown⟩:=run_append_own_at (P:=jpx) w B 33 ty 5 i (.int .u8 0) 1 1 jpy hi hz0 hz1 hz2 rfl (by decide) (.slice A n c) n (xs.map u8v) h a m c' (ys.map u8v)
   (by rw [jqH,hr.len,Nat.mul_one]) (fun j u hu=>by
     have hj:j < ys.length:=by
      rcases jpu j ys.length with h | h
      ·exact h
      ·simp [h] at hu
     obtain ⟨b,off,e,hb,hc⟩:=hr.pos (by have:=hr.len;omega)
     injection e with e
     subst e;have hplain:(⟨b,off,none⟩:Addr).add j=⟨b,off+j,none⟩:=by unfold Addr.add;split <;> simp_all
     rw [hplain,hc j (by rw [<-hr.len];exact hj),<-jiI hj,hu])
   (fun u hu=>by
     obtain ⟨x,_,rfl⟩:=jpN.1 hu
     rfl) (by unfold maxLen;omega) (by omega) hB
  obtain ⟨A'',c'',rfl,ho'⟩:=form v' w' ho;exact ⟨A'',c'',w',hrun,ho',hg,hown⟩
theorem jcO {w:World}{o:Oper}{a:Act}{K:Act->World->Prop}{Q:Exit->Act->World->Prop}{B:Nat}{A A':Option Addr}{n c m c':Nat}{xs ys:List UInt8}{s x:Operand}
 (ho:o.op= .call {callee:= .builtin .append,args:= #[s,x],argTypes:= #[33,33]}) (hs:a.eval s= .slice A n c) (hx:a.eval x= .slice A' m c')
 (h:Own B w A n c xs) (hr:Bs w A' m c' ys) (hm:n+m<=140737488355328) (hB:B<=w.heap.size)
 (hK:∀ A'' c'' w',Own B w' A'' (n+m) c'' (xs++ys)->w.grownBy w' (jrb (.slice A n c))->Below B w w'->K (a.put o.dst (.slice A'' (n+m) c'')) w'):o.wp jpx a w K Q:=by
 obtain ⟨A'',c'',w',hrun,h2,h3,h4⟩:=jf6 o.type h hr hm hB;unfold Oper.wp jpY;simp only [ho,resolve,invoke,builtin,jqi,jqj,jqk,jqE,jqA,jqF,hs,hx,hrun];exact hK A'' c'' w' h2 h3 ((jpm B w).grown h3 hB h.ge)
theorem jJ {w:World}{ops:Array Oper}{rest:List Oper}{o:Oper}{a:Act}{Q:Exit->Act->World->Prop}(hgd:o.guard=none){B:Nat}{A A':Option Addr}{n c m c':Nat}{xs ys:List UInt8}{s x:Operand}
 (ho:o.op= .call {callee:= .builtin .append,args:= #[s,x],argTypes:= #[33,33]}) (hs:a.eval s= .slice A n c) (hx:a.eval x= .slice A' m c')
 (h:Own B w A n c xs) (hr:Bs w A' m c' ys) (hm:n+m<=140737488355328) (hB:B<=w.heap.size)
 (hK:∀ A'' c'' w',Own B w' A'' (n+m) c'' (xs++ys)->w.grownBy w' (jrb (.slice A n c))->Below B w w'->wpList jpx ops Q rest (a.put o.dst (.slice A'' (n+m) c'')) w'):wpList jpx ops Q (o::rest) a w:=
 wpList_plain hgd fun _ hK'=>jcO ho hs hx h hr hm hB fun A'' c'' w' h2 h3 h4=>hK' _ _ (hK A'' c'' w' h2 h3 h4)
end
section
def Y1:List Nat->Nat
 | []=>0
 | d::r=>Y1 r|||(1 <<< d)
theorem Yp:∀ (l:List Nat) (k:Nat),(Y1 l).testBit k=l.contains k
 | [],k=>by simp [Y1]
 | d::r,k=>by
   rw [Y1,Nat.testBit_or,Yp r k,List.contains_cons,Nat.one_shiftLeft,Nat.testBit_two_pow];by_cases h:d=k
   ·subst h;simp
   ·have h': ¬ k=d:=fun e=>h e.symm
    simp [h,h']
theorem QN {a b:Nat}(h:a&&&b=a){k:Nat}(hk:a.testBit k=true):b.testBit k=true:=by
 have:=congrArg (·.testBit k) h;simp only [Nat.testBit_and,hk,Bool.true_and] at this;exact this
theorem Y3 {a b:Nat}(h:a&&&b≠a):∃ k,a.testBit k=true/\b.testBit k=false:=by
 refine jpM fun hn=>h ?_
 apply Nat.eq_of_testBit_eq
 intro k;rw [Nat.testBit_and]
 cases ha:a.testBit k with
 | false=>rfl
 | true=>
   cases hb:b.testBit k with
   | true=>rfl
   | false=>exact absurd ⟨k,ha,hb⟩ hn
section
variable {P:jpB}{ops:Array Oper}{Q:Exit->Act->World->Prop}{md:Region.Mode}
def jb5 (o:Oper):List Nat:=(o.after.toList.filter fun e=>Region.binds .any e).map (·.on)
def QC (o:Oper):Nat:=match o.dst with | some d=>d+1 | none=>0
def vA (ops:Array Oper) (o:Oper):Nat×Nat×Nat:=(Y1 (jb5 o),QC o,Y1 ((o.looksAt ops).map (· +1)))
theorem yc (o:Oper) (k:Nat):(Y1 (jb5 o)).testBit k=true↔∃ e∈o.after,Region.binds .any e=true/\e.on=k:=by
 rw [Yp,List.contains_iff_mem,jb5,jpN];constructor
 ·rintro ⟨e,he,rfl⟩;rw [List.mem_filter] at he;exact ⟨e,by simpa using he.1,he.2,rfl⟩
 ·rintro ⟨e,he,hb,rfl⟩;exact ⟨e,List.mem_filter.2 ⟨by simpa using he,hb⟩,rfl⟩
theorem jdk (o:Oper) (d:Nat):(Y1 ((o.looksAt ops).map (· +1))).testBit (d+1)=(o.looksAt ops).contains d:=by
 rw [Yp,Bool.eq_iff_iff,List.contains_iff_mem,List.contains_iff_mem,jpN];constructor
 ·rintro ⟨a,ha,he⟩;obtain rfl:a=d:=by omega
  exact ha
 ·intro h;exact ⟨d,h,rfl⟩
def jbY (x y:Nat×Nat×Nat):Bool:=(x.2.1==0||(!y.2.2.testBit x.2.1&& !(y.2.1==x.2.1)))&&(y.2.1==0|| !x.2.2.testBit y.2.1)
theorem jaa {x y:Oper}(h:jbY (vA ops x) (vA ops y)=true):x.apart ops y=true:=by
 unfold jbY vA QC at h;unfold Oper.apart
 cases hx:x.dst <;> cases hy:y.dst <;> simp only [hx,hy] at h ⊢ <;> simp [jdk] at h ⊢ <;> first | exact h | trivial
def YF (i done:Nat) (x:Nat×Nat×Nat):List (Nat×Nat×Nat)->Nat->Bool
 | [],_=>true
 | y::r,j=>(j==i||done.testBit j||y.1.testBit i||jbY x y)&&YF i done x r (j+1)
theorem zD {i done:Nat}{x:Nat×Nat×Nat}:∀ {D:List (Nat×Nat×Nat)}{k:Nat},YF i done x D k=true->∀ j y,D[j]? =some y->k+j≠i->done.testBit (k+j)=false->y.1.testBit i=false->jbY x y=true
 | [],_,_,j,y,hy=>by simp at hy
 | z::r,k,h,0,y,hy=>by
   rw [YF,jpK] at h;simp only [jpO,Option.some.injEq] at hy;subst hy;intro h1 h2 h3;rw [jpP] at h1 h2
   simpa [h1,h2,h3] using h.1
 | z::r,k,h,j+1,y,hy=>by
   rw [YF,jpK] at h;intro h1 h2 h3;exact zD h.2 j y (by simpa using hy) (by omega) (by rw [show k+1+j=k+(j+1) by omega];exact h2) h3
def Qy (i done:Nat):List (Nat×Nat×Nat)->Nat->Bool
 | [],_=>true
 | y::r,j=>(j==i||done.testBit j|| !(y.1&&&done==y.1))&&Qy i done r (j+1)
theorem YR {i done:Nat}:∀ {D:List (Nat×Nat×Nat)}{k:Nat},Qy i done D k=true->∀ j y,D[j]? =some y->k+j≠i->done.testBit (k+j)=false->y.1&&&done≠y.1
 | [],_,_,j,y,hy=>by simp at hy
 | z::r,k,h,0,y,hy=>by
   rw [Qy,jpK] at h;simp only [jpO,Option.some.injEq] at hy;subst hy;intro h1 h2;rw [jpP] at h1 h2
   simpa [h1,h2] using h.1
 | z::r,k,h,j+1,y,hy=>by
   rw [Qy,jpK] at h;intro h1 h2;exact YR h.2 j y (by simpa using hy) (by omega) (by rw [show k+1+j=k+(j+1) by omega];exact h2)
def jat:List (Nat×Nat×Nat)->Nat->Option (Nat×Nat×Nat)
 | [],_=>none
 | o::_,0=>some o
 | _::r,n+1=>jat r n
theorem Yu:∀ (l:List (Nat×Nat×Nat)) (n:Nat),jat l n=l[n]?
 | [],_=>by simp [jat]
 | _::_,0=>by simp [jat]
 | _::r,n+1=>by simp [jat,Yu r n]
def ze (D:List (Nat×Nat×Nat)) (cs:List Nat):List Nat->Nat->Bool
 | [],done=>done+1==1 <<< D.length
 | i::rest,done=>
   (match jat D i with
    | none=>false
    | some x=> !done.testBit i&&x.1&&&done==x.1&&if cs.contains i=true then Qy i done D 0 else YF i done x D 0)&&
     ze D cs rest (done|||(1 <<< i))
def Listed (n done:Nat) (listed:Array Bool):Prop:=listed.size=n/\∀ j,j < n->listed.getD j true=done.testBit j
theorem Listed.set {n done i:Nat}{listed:Array Bool}(h:Listed n done listed) (hi:i < n):Listed n (done|||(1 <<< i)) (listed.setIfInBounds i true):=by
 refine ⟨by simpa using h.1,fun j hj=> ?_⟩;rw [Nat.testBit_or,Nat.one_shiftLeft,Nat.testBit_two_pow];have hl:=h.1;by_cases e:i=j
 ·subst e;simp [show i < listed.size by omega]
 ·rw [getD_set_ne true e,h.2 j hj];simp [e]
theorem Listed.on {n done:Nat}{listed:Array Bool}(h:Listed n done listed){j:Nat}(hj:done.testBit j=true) (hn:j < n):listed.getD j false=true:=by
 have h1:=h.2 j hn;have hl:=h.1;rw [hj] at h1
 simpa [Array.getD,show j < listed.size by omega] using h1
theorem Listed.off {n done:Nat}{listed:Array Bool}(h:Listed n done listed){j:Nat}(hj:listed.getD j false=true):done.testBit j=true:=by
 have hl:=h.1;rcases jpu j n with hn | hn
 ·rw [<-h.2 j hn]
  simpa [Array.getD,show j < listed.size by omega] using hj
 ·simp [Array.getD,show ¬ j < listed.size by omega] at hj
theorem Listed.lt {n done:Nat}{listed:Array Bool}(h:Listed n done listed){j:Nat}(hj:listed.getD j true=false):j < n:=by
 have hl:=h.1;rcases jpu j n with hn | hn
 ·exact hn
 ·simp [Array.getD,show ¬ j < listed.size by omega] at hj
theorem Js {S S':World->Prop}(h:∀ w,S' w->S w):∀ (fuel:Nat) (listed:Array Bool) (a:Act) (w:World),wpAnyH P md ops Q S' fuel listed a w->wpAnyH P md ops Q S fuel listed a w
 | 0,_,_,_,hh=>hh
 | fuel+1,_,_,_,hh=>⟨hh.1,fun i hi=>wpOp_mono (fun a' w' h'=>⟨h w' h'.1,Js h fuel _ a' w' h'.2⟩) (hh.2 i hi)⟩
def zQ (P:jpB) (ops:Array Oper) (Q:Exit->Act->World->Prop) (R:World->World->Prop) (cs:List Nat):List Nat->Act->World->Prop
 | [],a,w=>Q .normal a w
 | i::rest,a,w=>∃ o,ops[i]? =some o∧
    if cs.contains i=true then wpOp P ops Q i (fun a' w'=>R w w'/\zQ P ops Q R cs rest a' w') a w
    else ∃ v,YieldsIf P ops (R w) o v a/\zQ P ops Q R cs rest (a.put o.dst v) w
theorem Jr {R:World->World->Prop}(hrf:∀ w,R w w) (htr:∀ a b c,R a b->R b c->R a c){D:List (Nat×Nat×Nat)}(hs:jpQ ops=true) (hQ:∀ c a d v w,Q (.panic c) (jpR a d v) w->Q (.panic c) a w) (cs:List Nat) (hD:ops.toList.map (vA ops)=D)
 (hsub:∀ (j:Nat) o,ops[j]? =some o->∀ e∈o.after,e.on < ops.size):
 ∀ (σ:List Nat) (listed:Array Bool) (done:Nat) (a:Act) (w:World),Listed ops.size done listed->ze D cs σ done=true->zQ P ops Q R cs σ a w->wpAnyH P .any ops Q (R w) σ.length listed a w
 | [],listed,done,a,w,hL,hp,h=>by
   refine ⟨?_,h⟩;have hlen:D.length=ops.size:=by rw [<-hD];simp
   have hd:done+1=2 ^ ops.size:=by
    have:done+1=1 <<< D.length:=by simpa [ze] using hp
    rw [this,hlen,Nat.one_shiftLeft]
   cases hr:jpS .any ops listed with
   | nil=>rfl
   | cons j r=>
     have hj:j∈jpS .any ops listed:=by rw [hr];simp
     obtain ⟨h0,_⟩:=mem_ready.1 hj;have hlt:=hL.lt h0;rw [hL.2 j hlt] at h0;have:done=2 ^ ops.size - 1:=by omega
     rw [this,Nat.testBit_two_pow_sub_one] at h0;simp [hlt] at h0
 | i::rest,listed,done,a,w,hL,hp,h=>by
   obtain ⟨o,ho,h⟩:=h;have hi:i < ops.size:=(Array.getElem?_eq_some_iff.1 ho).1;rw [ze,jpK] at hp;obtain ⟨hp1,hp2⟩:=hp;have hDi:∀ (j:Nat) oj,ops[j]? =some oj->D[j]? =some (vA ops oj):=fun j oj hj=>by
    rw [<-hD,jpT,jpU,hj];rfl
   rw [Yu,hDi i o ho] at hp1;simp only [jpK,jpL,beq_iff_eq] at hp1;obtain ⟨⟨hnd,hdep⟩,hp1⟩:=hp1;have hri:i∈jpS .any ops listed:=mem_ready.2 ⟨(hL.2 i hi).trans hnd,o,ho,fun e he hb=>
    hL.on (QN hdep ((yc o e.on).2 ⟨e,he,hb,rfl⟩)) (hsub i o ho e he)⟩
   have hL':=hL.set hi;by_cases hc:cs.contains i=true
   ·rw [if_pos hc] at h hp1;refine ⟨fun h0=>(by rw [h0] at hri;cases hri),fun j hj=> ?_⟩;obtain ⟨h0,oj,hoj,hall⟩:=mem_ready.1 hj;have hjl:=hL.lt h0;rw [hL.2 j hjl] at h0;by_cases hji:j=i
    ·subst hji;exact wpOp_mono (fun a' w' ⟨he,hh⟩=>⟨he,Js (fun _ e=>htr _ _ _ he e) _ _ _ _ (Jr hrf htr hs hQ cs hD hsub rest _ _ a' w' hL' hp2 hh)⟩) h
    ·have hw:=YR hp1 j _ (hDi j oj hoj) (by omega) (by rw [jpz];exact h0);obtain ⟨k,hk1,hk2⟩:=Y3 hw;obtain ⟨e,he,hb,rfl⟩:=(yc oj k).1 hk1;rw [hL.off (hall e he hb)] at hk2
     cases hk2
   ·rw [if_neg hc] at h hp1;obtain ⟨v,hy,hh⟩:=h;refine wpAnyH_first ho (Region.noSelect_spec hs) (fun c a w=>hQ c a _ _ w) _ listed a w (fun j oj hoj hji hun hno=> ?_) hri hy (hrf w) (Jr hrf htr hs hQ cs hD hsub rest _ _ _ w hL' hp2 hh);have hjl:=hL.lt hun;rw [hL.2 j hjl] at hun;refine jaa (zD hp1 j _ (hDi j oj hoj) (by omega) (by rw [jpz];exact hun) ?_)
    cases hb:(vA ops oj).1.testBit i with
    | false=>rfl
    | true=>
      obtain ⟨e,he,hb',he'⟩:=(yc oj i).1 hb;exact absurd he' (hno e he hb')
def y9 (ops:Array Oper):Bool:=ops.all fun o=>o.after.all fun e=>decide (e.on < ops.size)
theorem zI {R:World->World->Prop}(hrf:∀ w,R w w) (htr:∀ a b c,R a b->R b c->R a c){id:Nat}{a:Act}{w:World}(σ cs:List Nat) (D:List (Nat×Nat×Nat)) (hm:P.follows .mixedOrders=true) (hs:jpQ ops=true) (hin:y9 ops=true) (hl:σ.length=ops.size)
 (hD:ops.toList.map (vA ops)=D) (hp:ze D cs σ 0=true)
 (hQ:∀ c a d v w,Q (.panic c) (jpR a d v) w->Q (.panic c) a w) (h:zQ P ops Q R cs σ a w.drew):(Code.region id ops true).wp P Q a w:=by
 refine wp_region_held (S:=R w.drew) hm ?_;have:=Jr hrf htr hs hQ cs hD (fun j o ho e he=>by
  have h1:=jpV.1 hin o (Array.mem_of_getElem? ho)
  simpa using jpV.1 h1 e he) σ (jpW ops.size false) 0 a w.drew ⟨by simp,fun j hj=>by simp [Array.getD,hj]⟩ hp h
 rw [hl] at this;exact this
def yO:List Oper->Nat->Option Oper
 | [],_=>none
 | o::_,0=>some o
 | _::r,n+1=>yO r n
theorem jfL:∀ (l:List Oper) (n:Nat),yO l n=l[n]?
 | [],_=>by simp [yO]
 | _::_,0=>by simp [yO]
 | _::r,n+1=>by simp [yO,jfL r n]
theorem vV {i:Nat}{o:Oper}(h:yO ops.toList i=some o):ops[i]? =some o:=by rw [jfL] at h;simpa using h
theorem jp {R:World->World->Prop}{cs:List Nat}{a:Act}{w:World}(h:Q .normal a w):zQ P ops Q R cs [] a w:=h
theorem JB {R:World->World->Prop}{cs:List Nat}{i:Nat}{rest:List Nat}{a:Act}{w:World}(F:World->Prop) (hF:∀ w',R w w'->F w') (o:Oper){v:Value}(ho':yO ops.toList i=some o) (hc:cs.contains i=false)
 (hw:jpX o (yielded ops a.tmps)=true) (hrun:∀ w',F w'->(jpY a.eval o).run P w'= .ok (.value v) w') (h:zQ P ops Q R cs rest (a.put o.dst v) w):zQ P ops Q R cs (i::rest) a w:=
 ⟨o,vV ho',by rw [if_neg (by rw [hc];exact Bool.false_ne_true)];exact ⟨v, .inl ⟨hw,fun w' e=>hrun w' (hF w' e)⟩,h⟩⟩
theorem jiA {R:World->World->Prop}{cs:List Nat}{i:Nat}{rest:List Nat}{a:Act}{w:World}(o:Oper) (ho':yO ops.toList i=some o) (hc:cs.contains i=false)
 (hw:jpX o (yielded ops a.tmps)=false) (h:zQ P ops Q R cs rest (a.put o.dst undef) w):zQ P ops Q R cs (i::rest) a w:=
 ⟨o,vV ho',by rw [if_neg (by rw [hc];exact Bool.false_ne_true)];exact ⟨_, .inr ⟨hw,rfl⟩,h⟩⟩
theorem jkF {R:World->World->Prop}{cs:List Nat}{i:Nat}{rest:List Nat}{a:Act}{w:World}(o:Oper) (ho':yO ops.toList i=some o) (hc:cs.contains i=true) (hw:jpX o (yielded ops a.tmps)=true)
 (h:∀ K':Act->World->Prop,Shut (∀ a' w',R w w'->zQ P ops Q R cs rest a' w'->K' a' w')->Oper.wp P o a w K' Q):zQ P ops Q R cs (i::rest) a w:=
 ⟨o,vV ho',by
   rw [if_pos hc];refine wpOp_step (vV ho') fun K' hK=> ?_
   rw [if_pos hw];exact h K' fun a' w' he hh=>hK a' w' ⟨he,hh⟩⟩
end
section
open Go.ChangeShapes Go.WideShapes Go.ChangeAt Go.RowKit Go.Deep
variable {P:jpB}{ops:Array Oper}{Q:Exit->Act->World->Prop}{R:World->World->Prop}{id i:Nat}{rest cs:List Nat}{a:Act}{w:World}
theorem qgR (hrf:∀ w,R w w) (htr:∀ a b c,R a b->R b c->R a c) (σ cs:List Nat) (h:zQ P ops Q R cs σ a w.drew) (hm:P.follows .mixedOrders=true:=by kernel_rfl) (hs:jpQ ops=true:=by kernel_rfl) (hin:y9 ops=true:=by kernel_rfl) (hl:σ.length=ops.size:=by exact rfl)
 (hp:ze (ops.toList.map (vA ops)) cs σ 0=true:=by kernel_rfl) (hQ:∀ c a d v w,Q (.panic c) (jpR a d v) w->Q (.panic c) a w:=by exact fun _ _ d _ _ h=>by cases d <;> exact h):(Code.region id ops true).wp P Q a w:=
 zI hrf htr σ cs _ hm hs hin hl rfl hp hQ h
theorem qgE (σ cs:List Nat) (h:zQ P ops Q Ext cs σ a w.drew) (hm:P.follows .mixedOrders=true:=by kernel_rfl) (hs:jpQ ops=true:=by kernel_rfl) (hin:y9 ops=true:=by kernel_rfl) (hl:σ.length=ops.size:=by exact rfl)
 (hp:ze (ops.toList.map (vA ops)) cs σ 0=true:=by kernel_rfl) (hQ:∀ c a d v w,Q (.panic c) (jpR a d v) w->Q (.panic c) a w:=by exact fun _ _ d _ _ h=>by cases d <;> exact h):(Code.region id ops true).wp P Q a w:=
 zI jnQ (fun _ _ _=>Ext.trans) σ cs _ hm hs hin hl rfl hp hQ h
theorem qgB (B:Nat) (σ cs:List Nat) (h:zQ P ops Q (Below B) cs σ a w.drew) (hm:P.follows .mixedOrders=true:=by kernel_rfl) (hs:jpQ ops=true:=by kernel_rfl) (hin:y9 ops=true:=by kernel_rfl) (hl:σ.length=ops.size:=by exact rfl)
 (hp:ze (ops.toList.map (vA ops)) cs σ 0=true:=by kernel_rfl) (hQ:∀ c a d v w,Q (.panic c) (jpR a d v) w->Q (.panic c) a w:=by exact fun _ _ d _ _ h=>by cases d <;> exact h):(Code.region id ops true).wp P Q a w:=
 zI (jpm _) (fun _ _ _=>jpn) σ cs _ hm hs hin hl rfl hp hQ h
theorem qgW (g:Nat) (σ cs:List Nat) (h:zQ P ops Q (fun a b=>a.grownBy b (some g)) cs σ a w.drew) (hm:P.follows .mixedOrders=true:=by kernel_rfl) (hs:jpQ ops=true:=by kernel_rfl) (hin:y9 ops=true:=by kernel_rfl) (hl:σ.length=ops.size:=by exact rfl)
 (hp:ze (ops.toList.map (vA ops)) cs σ 0=true:=by kernel_rfl) (hQ:∀ c a d v w,Q (.panic c) (jpR a d v) w->Q (.panic c) a w:=by exact fun _ _ d _ _ h=>by cases d <;> exact h):(Code.region id ops true).wp P Q a w:=
 zI (R:=fun a b=>a.grownBy b (some g)) (fun w=>jpZ w _) (fun _ _ _ h k=>⟨k.os.trans h.os,k.tape.trans h.tape,k.output.trans h.output,jp0 h.size k.size,fun i hi hr=>(k.block i (jpq hi h.size) hr).trans (h.block i hi hr)⟩) σ cs _ hm hs hin hl rfl hp hQ h
theorem qR (F:World->Prop) (h:∀ w',R w w'->F w'){o:Oper}{v:Value}(hn:zQ P ops Q R cs rest (a.put o.dst v) w) (ho':yO ops.toList i=some o:=by exact rfl) (hc:cs.contains i=false:=by exact rfl)
 (hw:jpX o (yielded ops a.tmps)=true:=by rfl) (hrun:∀ w',F w'->(jpY a.eval o).run P w'= .ok (.value v) w':=by intro w' hF;go_simp;(try with_reducible rfl)):zQ P ops Q R cs (i::rest) a w:=
 JB F h o ho' hc hw hrun hn
theorem qR0 {o:Oper}{v:Value}(hn:zQ P ops Q R cs rest (a.put o.dst v) w) (ho':yO ops.toList i=some o:=by exact rfl) (hc:cs.contains i=false:=by exact rfl)
 (hw:jpX o (yielded ops a.tmps)=true:=by rfl) (hrun:∀ w',(jpY a.eval o).run P w'= .ok (.value v) w':=by intro w';go_simp;(try with_reducible rfl)):zQ P ops Q R cs (i::rest) a w:=
 JB (fun _=>True) (fun _ _=>trivial) o ho' hc hw (fun w' _=>hrun w') hn
theorem qV {o:Oper}(ho':yO ops.toList i=some o) (F:World->Prop) (h:∀ w',R w w'->F w') (v:Value) (hrun:∀ w',F w'->(jpY a.eval o).run P w'= .ok (.value v) w') (hn:zQ P ops Q R cs rest (a.put o.dst v) w) (hc:cs.contains i=false:=by exact rfl)
 (hw:jpX o (yielded ops a.tmps)=true:=by rfl):zQ P ops Q R cs (i::rest) a w:=
 JB F h o ho' hc hw hrun hn
theorem qS {o:Oper}(hn:zQ P ops Q R cs rest (a.put o.dst undef) w) (ho':yO ops.toList i=some o:=by exact rfl) (hc:cs.contains i=false:=by exact rfl) (hw:jpX o (yielded ops a.tmps)=false:=by rfl):zQ P ops Q R cs (i::rest) a w:=
 jiA o ho' hc hw hn
theorem qD {o:Oper}(h:∀ K':Act->World->Prop,Shut (∀ a' w',R w w'->zQ P ops Q R cs rest a' w'->K' a' w')->Oper.wp P o a w K' Q) (ho':yO ops.toList i=some o:=by exact rfl) (hc:cs.contains i=true:=by exact rfl) (hw:jpX o (yielded ops a.tmps)=true:=by rfl):zQ P ops Q R cs (i::rest) a w:=
 jkF o ho' hc hw h
end
end
section
open Go.ChangeShapes Go.WideShapes Go.ChangeAt Go.RowKit Go.Deep
def Rw (w:World) (A:Option Addr) (n c:Nat) (l:List (List UInt8)):Prop:=
 l.length=n/\n<=c/\c<=maxLen/\(0 < n->∃ b off,A=some ⟨b,off,none⟩/\b < w.heap.size/\∀ j,j < n->∃ A' n' c',w.cell? ⟨b,off+j,none⟩=some (.slice A' n' c')/\Bs w A' n' c' (l.getD j []))
section
variable {w w':World}{A:Option Addr}{n c:Nat}{l:List (List UInt8)}
theorem Rw.len (h:Rw w A n c l):l.length=n:=h.1
theorem Rw.le (h:Rw w A n c l):n<=c:=h.2.1
theorem Rw.cap (h:Rw w A n c l):c<=9223372036854775807:=h.2.2.1
theorem Rw.pos (h:Rw w A n c l) (hn:0 < n):∃ b off,A=some ⟨b,off,none⟩/\b < w.heap.size/\∀ j,j < n->∃ A' n' c',w.cell? ⟨b,off+j,none⟩=some (.slice A' n' c')/\Bs w A' n' c' (l.getD j []):=h.2.2.2 hn
theorem Rw.ext (h:Rw w A n c l) (he:Ext w w'):Rw w' A n c l:=
 ⟨h.1,h.2.1,h.2.2.1,fun hn=>by
   obtain ⟨b,off,e,hb,hc⟩:=h.2.2.2 hn;refine ⟨b,off,e,jpq hb he.size,fun j hj=> ?_⟩;obtain ⟨A',n',c',h1,h2⟩:=hc j hj;exact ⟨A',n',c',(he.cell hb).trans h1,h2.ext he⟩⟩
end
section
variable {P:jpB}{ops:Array Oper}{Q:Exit->Act->World->Prop}
def ja5 (P:jpB) (ops:Array Oper) (Q:Exit->Act->World->Prop) (R:World->World->Prop) (z:Nat):Nat->Array Bool->Act->World->Prop
 | 0,listed,a,w=>jpS .any ops listed= []/\Q .normal a w
 | fuel+1,listed,a,w=>
   (jpS .any ops listed= []->Q .normal a w)/\
   ∀ i∈jpS .any ops listed,wpOp P ops Q i (fun a' w'=>(i=z\/R w w')/\ja5 P ops Q R z fuel (listed.setIfInBounds i true) a' w') a w
theorem ja6 {R:World->World->Prop}{z:Nat}:∀ (fuel:Nat) (listed:Array Bool) (a:Act) (w:World),ja5 P ops Q R z fuel listed a w->wpAny P .any ops Q fuel listed a w
 | 0,_,_,_,h=>h
 | fuel+1,_,_,_,h=>⟨h.1,fun i hi=>wpOp_mono (fun a' w' h'=>ja6 fuel _ a' w' h'.2) (h.2 i hi)⟩
theorem jbr {S S':World->Prop}{o:Oper}{v:Value}{a:Act}(hs:∀ w,S' w->S w) (h:YieldsIf P ops S o v a):YieldsIf P ops S' o v a:=
 h.imp (fun ⟨hw,hv⟩=>⟨hw,fun w hS=>hv w (hs w hS)⟩) id
def Closed (ops:Array Oper) (listed:Array Bool):Prop:=∀ (k:Nat) (ok:Oper),ops[k]? =some ok->listed.getD k false=true->∀ e∈ok.after,Region.binds .any e=true->listed.getD e.on false=true
theorem Qb {listed:Array Bool}{i j:Nat}(h:listed.getD i false=true):(listed.setIfInBounds j true).getD i false=true:=by
 by_cases e:j=i
 ·subst e;rcases jpu j listed.size with h' | h'
  ·simp [h']
  ·simp [jpv h'] at h
 ·rw [getD_set_ne false e];exact h
theorem Closed.set {listed:Array Bool}{j:Nat}(h:Closed ops listed) (hj:j∈jpS .any ops listed):Closed ops (listed.setIfInBounds j true):=by
 intro k ok hk hl e he hb;by_cases hkj:j=k
 ·subst hkj;obtain ⟨_,o,ho,hall⟩:=mem_ready.1 hj;rw [hk] at ho
  injection ho with ho
  subst ho;exact Qb (hall e he hb)
 ·rw [getD_set_ne false hkj] at hl;exact Qb (h k ok hk hl e he hb)
def jjS (ops:Array Oper) (oz:Oper) (i:Nat):Prop:=(∃ e∈oz.after,Region.binds .any e=true/\e.on=i)\/∃ (m:Nat) (om:Oper),ops[m]? =some om/\(∃ e∈oz.after,Region.binds .any e=true/\e.on=m)/\∃ e∈om.after,Region.binds .any e=true/\e.on=i
theorem jcN {R:World->World->Prop}(hrf:∀ w,R w w) (htr:∀ a b c,R a b->R b c->R a c){z i:Nat}{oi oz:Oper}{v:Value}(hi:ops[i]? =some oi) (hz:ops[z]? =some oz) (hiz:i≠z)
 (hwait:jjS ops oz i) (hsel:∀ (j:Nat) (o:Oper) cs b,ops[j]? =some o->o.op≠ .select cs b)
 (hQ:∀ c a w,Q (.panic c) (a.put oi.dst v) w->Q (.panic c) a w):
 ∀ (fuel:Nat) (listed:Array Bool) (a:Act) (w:World),Closed ops listed->
   (∀ j oj,ops[j]? =some oj->j≠i->listed.getD j true=false->(∀ e∈oj.after,Region.binds .any e=true->e.on≠i)->oi.apart ops oj=true)->
   i∈jpS .any ops listed->YieldsIf P ops (R w) oi v a->
   ja5 P ops Q R z fuel (listed.setIfInBounds i true) (a.put oi.dst v) w->ja5 P ops Q R z (fuel+1) listed a w:=by
 intro fuel
 induction fuel with
 | zero=>
   intro listed a w _ _ hr hy H;refine ⟨fun h=>(by rw [h] at hr;cases hr),fun j hj=> ?_⟩;by_cases hji:j=i
   ·subst hji;exact hy.wpOp hi (hrf w) ⟨.inr (hrf w),H⟩
   ·have:=ready_mono hj hji;rw [H.1] at this
    cases this
 | succ fuel ih=>
   intro listed a w hcl hfree hr hy H;refine ⟨fun h=>(by rw [h] at hr;cases hr),fun j hj=> ?_⟩;by_cases hji:j=i
   ·subst hji;exact hy.wpOp hi (hrf w) ⟨.inr (hrf w),H⟩
   ·have h1:=H.2 j (ready_mono hj hji);obtain ⟨hjun,oj,hoj,hall⟩:=mem_ready.1 hj;have hnot:∀ e∈oj.after,Region.binds .any e=true->e.on≠i:=fun e he hb heq=>by
     have h1:=hall e he hb;have h0:=(mem_ready.1 hr).1;rw [heq] at h1;rcases jpu i listed.size with h' | h'
     ·simp [h'] at h0 h1;rw [h0] at h1;cases h1
     ·simp [jpv h'] at h1
    have hjz:j≠z:=fun e=>by
     subst e;rw [hz] at hoj
     injection hoj with hoj
     subst hoj;rcases hwait with ⟨e,he,hb,heq⟩ | ⟨m,om,hom,⟨e,he,hb,heq⟩,e',he',hb',heq'⟩
     ·exact hnot e he hb heq
     ·have h1:=hall e he hb;rw [heq] at h1;have h2:=hcl m om hom h1 e' he' hb';rw [heq'] at h2;have h0:=(mem_ready.1 hr).1;rcases jpu i listed.size with h' | h'
      ·simp [h'] at h0 h2;rw [h0] at h2;cases h2
      ·simp [jpv h'] at h2
    have h2:=wpOp_putIf hoj (hfree j oj hoj hji hjun hnot) (fun cs b=>hsel i oi cs b hi) (fun cs b=>hsel j oj cs b hoj) hQ hy h1;have hfree':∀ k ok,ops[k]? =some ok->k≠i->(listed.setIfInBounds j true).getD k true=false->
     (∀ e∈ok.after,Region.binds .any e=true->e.on≠i)->oi.apart ops ok=true:=fun k ok hk hki hun hno=>by
     refine hfree k ok hk hki ?_ hno;by_cases hjk:j=k
     ·subst hjk;exact hjun
     ·rw [getD_set_ne true hjk] at hun;exact hun
    refine wpOp_mono (fun a' w' h3=> ?_) h2;obtain ⟨hy',hR,hrest⟩:=h3;have hR':R w w':=hR.resolve_left hjz;refine ⟨.inr hR',ih (listed.setIfInBounds j true) a' w' (hcl.set hj) hfree' (ready_mono hr (Ne.symm hji)) (jbr (fun _ e=>htr _ _ _ hR' e) hy') ?_⟩;rw [Array.setIfInBounds_comm _ _ hji];exact hrest
def Jj (P:jpB) (ops:Array Oper) (Q:Exit->Act->World->Prop) (R:World->World->Prop) (z:Nat) (cs:List Nat):List Nat->Act->World->Prop
 | [],a,w=>Q .normal a w
 | i::rest,a,w=>∃ o,ops[i]? =some o∧
    if cs.contains i=true then wpOp P ops Q i (fun a' w'=>(i=z\/R w w')/\Jj P ops Q R z cs rest a' w') a w
    else ∃ v,YieldsIf P ops (R w) o v a/\Jj P ops Q R z cs rest (a.put o.dst v) w
def zOk (D:List (Nat×Nat×Nat)) (cs:List Nat) (z:Nat):Bool:=cs.contains z&&match jat D z with
 | some x=>(jp1 D.length).all fun i=>i==z||(x.1.testBit i||(jp1 D.length).any fun m=>x.1.testBit m&&match jat D m with | some y=>y.1.testBit i | none=>false)
 | none=>false
theorem Jm {R:World->World->Prop}(hrf:∀ w,R w w) (htr:∀ a b c,R a b->R b c->R a c){D:List (Nat×Nat×Nat)}{z:Nat}(hs:jpQ ops=true) (hQ:∀ c a d v w,Q (.panic c) (jpR a d v) w->Q (.panic c) a w) (cs:List Nat) (hD:ops.toList.map (vA ops)=D)
 (hsub:∀ (j:Nat) o,ops[j]? =some o->∀ e∈o.after,e.on < ops.size) (hzok:zOk D cs z=true):
 ∀ (σ:List Nat) (listed:Array Bool) (done:Nat) (a:Act) (w:World),Listed ops.size done listed->Closed ops listed->ze D cs σ done=true->Jj P ops Q R z cs σ a w->ja5 P ops Q R z σ.length listed a w
 | [],listed,done,a,w,hL,_,hp,h=>by
   refine ⟨?_,h⟩;have hlen:D.length=ops.size:=by rw [<-hD];simp
   have hd:done+1=2 ^ ops.size:=by
    have:done+1=1 <<< D.length:=by simpa [ze] using hp
    rw [this,hlen,Nat.one_shiftLeft]
   cases hr:jpS .any ops listed with
   | nil=>rfl
   | cons j r=>
     have hj:j∈jpS .any ops listed:=by rw [hr];simp
     obtain ⟨h0,_⟩:=mem_ready.1 hj;have hlt:=hL.lt h0;rw [hL.2 j hlt] at h0;have:done=2 ^ ops.size - 1:=by omega
     rw [this,Nat.testBit_two_pow_sub_one] at h0;simp [hlt] at h0
 | i::rest,listed,done,a,w,hL,hcl,hp,h=>by
   obtain ⟨o,ho,h⟩:=h;have hi:i < ops.size:=(Array.getElem?_eq_some_iff.1 ho).1;rw [ze,jpK] at hp;obtain ⟨hp1,hp2⟩:=hp;have hDi:∀ (j:Nat) oj,ops[j]? =some oj->D[j]? =some (vA ops oj):=fun j oj hj=>by
    rw [<-hD,jpT,jpU,hj];rfl
   rw [Yu,hDi i o ho] at hp1;simp only [jpK,jpL,beq_iff_eq] at hp1;obtain ⟨⟨hnd,hdep⟩,hp1⟩:=hp1;have hri:i∈jpS .any ops listed:=mem_ready.2 ⟨(hL.2 i hi).trans hnd,o,ho,fun e he hb=>
    hL.on (QN hdep ((yc o e.on).2 ⟨e,he,hb,rfl⟩)) (hsub i o ho e he)⟩
   have hL':=hL.set hi;by_cases hc:cs.contains i=true
   ·rw [if_pos hc] at h hp1;refine ⟨fun h0=>(by rw [h0] at hri;cases hri),fun j hj=> ?_⟩;obtain ⟨h0,oj,hoj,hall⟩:=mem_ready.1 hj;have hjl:=hL.lt h0;rw [hL.2 j hjl] at h0;by_cases hji:j=i
    ·subst hji;exact wpOp_mono (fun a' w' ⟨he,hh⟩=>⟨he,Jm hrf htr hs hQ cs hD hsub hzok rest _ _ a' w' hL' (hcl.set hri) hp2 hh⟩) h
    ·have hw:=YR hp1 j _ (hDi j oj hoj) (by omega) (by rw [jpz];exact h0);obtain ⟨k,hk1,hk2⟩:=Y3 hw;obtain ⟨e,he,hb,rfl⟩:=(yc oj k).1 hk1;rw [hL.off (hall e he hb)] at hk2
     cases hk2
   ·have hc':=hc;rw [if_neg hc] at h hp1;obtain ⟨v,hy,hh⟩:=h;have hzz:=hzok;unfold zOk at hzz;rw [jpK] at hzz;obtain ⟨hzc,hzz⟩:=hzz;have hiz:i≠z:=fun e=>by subst e;exact hc' hzc
    have hlen:D.length=ops.size:=by rw [<-hD];simp
    cases hnz:jat D z with
    | none=>rw [hnz] at hzz;cases hzz
    | some x=>
      rw [hnz] at hzz;rw [Yu,<-hD,jpT,jpU] at hnz
      cases hoz:ops[z]? with
      | none=>rw [hoz] at hnz;cases hnz
      | some oz=>
        rw [hoz] at hnz;simp only [Option.map_some,Option.some.injEq] at hnz;have hwt:jjS ops oz i:=by
         have hx1:x.1=Y1 (jb5 oz):=by rw [<-hnz];rfl
         simp only [hx1] at hzz;have h1:=jp2.1 hzz i (List.mem_range.2 (by omega));simp only [Bool.or_eq_true,beq_iff_eq] at h1;rcases h1 with h1 | h1 | h1
         ·exact absurd h1 hiz
         ·exact .inl ((yc oz i).1 h1)
         ·obtain ⟨m,hm,h2⟩:=List.any_eq_true.1 h1;rw [jpK] at h2;obtain ⟨h2,h3⟩:=h2
          cases hom:ops[m]? with
          | none=>rw [Yu,<-hD,jpT,jpU,hom] at h3;cases h3
          | some om=>
            rw [Yu,hDi m om hom] at h3;exact .inr ⟨m,om,hom,(yc oz m).1 h2,(yc om i).1 h3⟩
        refine jcN hrf htr ho hoz hiz hwt (Region.noSelect_spec hs) (fun c a w=>hQ c a _ _ w) _ listed a w hcl (fun j oj hoj hji hun hno=> ?_) hri hy (Jm hrf htr hs hQ cs hD hsub hzok rest _ _ _ w hL' (hcl.set hri) hp2 hh);have hjl:=hL.lt hun;rw [hL.2 j hjl] at hun;refine jaa (zD hp1 j _ (hDi j oj hoj) (by omega) (by rw [jpz];exact hun) ?_)
        cases hb:(vA ops oj).1.testBit i with
        | false=>rfl
        | true=>
          obtain ⟨e,he,hb',he'⟩:=(yc oj i).1 hb;exact absurd he' (hno e he hb')
theorem jba {R:World->World->Prop}(hrf:∀ w,R w w) (htr:∀ a b c,R a b->R b c->R a c){id:Nat}{a:Act}{w:World}(z:Nat) (σ cs:List Nat) (D:List (Nat×Nat×Nat)) (hm:P.follows .mixedOrders=true) (hs:jpQ ops=true) (hin:y9 ops=true) (hl:σ.length=ops.size)
 (hD:ops.toList.map (vA ops)=D) (hp:ze D cs σ 0=true) (hz:zOk D cs z=true)
 (hQ:∀ c a d v w,Q (.panic c) (jpR a d v) w->Q (.panic c) a w) (h:Jj P ops Q R z cs σ a w.drew):(Code.region id ops true).wp P Q a w:=by
 refine wp_region_any hm (ja6 (R:=R) (z:=z) _ _ _ _ ?_);have:=Jm hrf htr hs hQ cs hD (fun j o ho e he=>by
  have h1:=jpV.1 hin o (Array.mem_of_getElem? ho)
  simpa using jpV.1 h1 e he) hz σ (jpW ops.size false) 0 a w.drew ⟨by simp,fun j hj=>by simp [Array.getD,hj]⟩ (fun k ok _ hl=>by
   exfalso
   rcases jpu k ops.size with h' | h'
   ·simp [Array.getD,h'] at hl
   ·simp [Array.getD,Nat.not_lt.2 h'] at hl) hp h
 rw [hl] at this;exact this
theorem jN {R:World->World->Prop}{z:Nat}{cs:List Nat}{a:Act}{w:World}(h:Q .normal a w):Jj P ops Q R z cs [] a w:=h
theorem Zo {R:World->World->Prop}{z:Nat}{cs:List Nat}{i:Nat}{rest:List Nat}{a:Act}{w:World}(F:World->Prop) (hF:∀ w',R w w'->F w') (o:Oper){v:Value}(ho':yO ops.toList i=some o) (hc:cs.contains i=false)
 (hw:jpX o (yielded ops a.tmps)=true) (hrun:∀ w',F w'->(jpY a.eval o).run P w'= .ok (.value v) w') (h:Jj P ops Q R z cs rest (a.put o.dst v) w):Jj P ops Q R z cs (i::rest) a w:=
 ⟨o,vV ho',by rw [if_neg (by rw [hc];exact Bool.false_ne_true)];exact ⟨v, .inl ⟨hw,fun w' e=>hrun w' (hF w' e)⟩,h⟩⟩
theorem jjD {R:World->World->Prop}{z:Nat}{cs:List Nat}{i:Nat}{rest:List Nat}{a:Act}{w:World}(o:Oper) (ho':yO ops.toList i=some o) (hc:cs.contains i=true) (hw:jpX o (yielded ops a.tmps)=true)
 (h:∀ K':Act->World->Prop,Shut (∀ a' w',(i=z\/R w w')->Jj P ops Q R z cs rest a' w'->K' a' w')->Oper.wp P o a w K' Q):Jj P ops Q R z cs (i::rest) a w:=
 ⟨o,vV ho',by
   rw [if_pos hc];refine wpOp_step (vV ho') fun K' hK=> ?_
   rw [if_pos hw];exact h K' fun a' w' he hh=>hK a' w' ⟨he,hh⟩⟩
end
section
variable {P:jpB}{ops:Array Oper}{Q:Exit->Act->World->Prop}{R:World->World->Prop}{id i z:Nat}{rest cs:List Nat}{a:Act}{w:World}
theorem ym (z:Nat) (σ cs:List Nat) (h:Jj P ops Q Ext z cs σ a w.drew) (hm:P.follows .mixedOrders=true:=by kernel_rfl) (hs:jpQ ops=true:=by kernel_rfl) (hin:y9 ops=true:=by kernel_rfl) (hl:σ.length=ops.size:=by exact rfl)
 (hp:ze (ops.toList.map (vA ops)) cs σ 0=true:=by kernel_rfl) (hz:zOk (ops.toList.map (vA ops)) cs z=true:=by kernel_rfl) (hQ:∀ c a d v w,Q (.panic c) (jpR a d v) w->Q (.panic c) a w:=by exact fun _ _ d _ _ h=>by cases d <;> exact h):(Code.region id ops true).wp P Q a w:=
 jba jnQ (fun _ _ _=>Ext.trans) z σ cs _ hm hs hin hl rfl hp hz hQ h
theorem jo2 (B:Nat) (z:Nat) (σ cs:List Nat) (h:Jj P ops Q (Below B) z cs σ a w.drew) (hm:P.follows .mixedOrders=true:=by kernel_rfl) (hs:jpQ ops=true:=by kernel_rfl) (hin:y9 ops=true:=by kernel_rfl) (hl:σ.length=ops.size:=by exact rfl)
 (hp:ze (ops.toList.map (vA ops)) cs σ 0=true:=by kernel_rfl) (hz:zOk (ops.toList.map (vA ops)) cs z=true:=by kernel_rfl) (hQ:∀ c a d v w,Q (.panic c) (jpR a d v) w->Q (.panic c) a w:=by exact fun _ _ d _ _ h=>by cases d <;> exact h):(Code.region id ops true).wp P Q a w:=
 jba (jpm _) (fun _ _ _=>jpn) z σ cs _ hm hs hin hl rfl hp hz hQ h
theorem qzR (F:World->Prop) (h:∀ w',R w w'->F w'){o:Oper}{v:Value}(hn:Jj P ops Q R z cs rest (a.put o.dst v) w) (ho':yO ops.toList i=some o:=by exact rfl) (hc:cs.contains i=false:=by exact rfl)
 (hw:jpX o (yielded ops a.tmps)=true:=by rfl) (hrun:∀ w',F w'->(jpY a.eval o).run P w'= .ok (.value v) w':=by intro w' hF;go_simp;(try with_reducible rfl)):Jj P ops Q R z cs (i::rest) a w:=
 Zo F h o ho' hc hw hrun hn
theorem jio {o:Oper}{v:Value}(hn:Jj P ops Q R z cs rest (a.put o.dst v) w) (ho':yO ops.toList i=some o:=by exact rfl) (hc:cs.contains i=false:=by exact rfl)
 (hw:jpX o (yielded ops a.tmps)=true:=by rfl) (hrun:∀ w',(jpY a.eval o).run P w'= .ok (.value v) w':=by intro w';go_simp;(try with_reducible rfl)):Jj P ops Q R z cs (i::rest) a w:=
 Zo (fun _=>True) (fun _ _=>trivial) o ho' hc hw (fun w' _=>hrun w') hn
theorem qzV {o:Oper}(ho':yO ops.toList i=some o) (F:World->Prop) (h:∀ w',R w w'->F w') (v:Value) (hrun:∀ w',F w'->(jpY a.eval o).run P w'= .ok (.value v) w') (hn:Jj P ops Q R z cs rest (a.put o.dst v) w) (hc:cs.contains i=false:=by exact rfl)
 (hw:jpX o (yielded ops a.tmps)=true:=by rfl):Jj P ops Q R z cs (i::rest) a w:=
 Zo F h o ho' hc hw hrun hn
theorem qzD {o:Oper}(h:∀ K':Act->World->Prop,Shut (∀ a' w',(i=z\/R w w')->Jj P ops Q R z cs rest a' w'->K' a' w')->Oper.wp P o a w K' Q) (ho':yO ops.toList i=some o:=by exact rfl) (hc:cs.contains i=true:=by exact rfl) (hw:jpX o (yielded ops a.tmps)=true:=by rfl):Jj P ops Q R z cs (i::rest) a w:=
 jjD o ho' hc hw h
end
def wd (vs:List Nat) (k:Nat):Nat:=vs.getD k 0
def Arr (w:World) (g:Nat) (vs:List Nat):Prop:=
 g < w.heap.size/\∀ i,i < vs.length->w.cell? ⟨g,i,none⟩=some (.int .u32 (wd vs i:Int))/\w.frozen? ⟨g,i,none⟩=false/\wd vs i < 4294967296
def qF (a b:Nat):Nat:=(a+b) % 4294967296
def QK (n x:Nat):Nat:=(x*2 ^ (32 - n)) % 4294967296|||x / 2 ^ n
theorem ve (a b:Nat):qF a b < 4294967296:=jp3 _ (by omega)
theorem yB {n x:Nat}(h:x < 4294967296):QK n x < 4294967296:=by
 unfold QK;exact Nat.or_lt_two_pow (n:=32) (jp3 _ (by omega)) (jp4 (Nat.div_le_self _ _) h)
theorem j8 {vs:List Nat}{k i x:Nat}(hk:k < vs.length):wd (vs.set k x) i=if i=k then x else wd vs i:=by
 unfold wd;by_cases h:i=k
 ·subst h;simp [jpr,hk]
 ·simp [jpr,h,List.getElem?_set_ne (Ne.symm h)]
section
variable {w w':World}{g:Nat}{vs:List Nat}
theorem Arr.ext (h:Arr w g vs) (he:Ext w w'):Arr w' g vs:=
 ⟨jpq h.1 he.size,fun i hi=>⟨(he.cell h.1).trans (h.2 i hi).1,(Below.frozen he (p:=⟨g,i,none⟩) h.1).trans (h.2 i hi).2.1,(h.2 i hi).2.2⟩⟩
theorem Jo (w:World) (p q:Addr) (u:Value):(w.setCell p u).frozen? q=w.frozen? q:=by
 simp only [World.frozen?,World.setCell,Array.getElem?_modify];by_cases h:p.block=q.block
 ·rw [if_pos h]
  cases w.heap[q.block]? with
  | none=>rfl
  | some o=>cases o <;> rfl
 ·rw [if_neg h]
theorem Arr.set {k x:Nat}(h:Arr w g vs) (hk:k < vs.length) (hx:x < 4294967296):Arr (w.setCell ⟨g,k,none⟩ (.int .u32 (x:Int))) g (vs.set k x):=by
 refine ⟨by simpa [World.setCell] using h.1,fun i hi=> ?_⟩;rw [jp5] at hi;obtain ⟨h1,h2,h3⟩:=h.2 i hi;rw [j8 hk,Jo];by_cases e:i=k
 ·subst e;simp only [if_true];exact ⟨World.cell?_setCell_same _ _ _ h1,h2,hx⟩
 ·simp only [if_neg e];refine ⟨?_,h2,h3⟩;rw [World.cell?_setCell_other _ _ _ _ (fun q=>e (by injection q with _ q2 _;exact q2.symm))];exact h1
end
theorem jg {P:jpB}{c:Code}{Q:Exit->Act->World->Prop}{a:Act}{W:World}(ψ:World->Prop) (h1:ψ W) (h2:∀ w1,ψ w1->Code.wp P c Q a w1):Code.wp P c Q a W:=h2 W h1
theorem vP {a b:Nat}:IntKind.u32.wrap ((a:Int)+(b:Int))=(qF a b:Int):=by
 rw [jp6];unfold qF;omega
theorem jL {a b:Nat}(ha:a < 4294967296) (hb:b < 4294967296):a^^^b < 4294967296:=Nat.xor_lt_two_pow (n:=32) ha hb
theorem jj {a b c:World}{r:Option Nat}(h:a.grownBy b r) (k:b.grownBy c r):a.grownBy c r:=
 ⟨k.os.trans h.os,k.tape.trans h.tape,k.output.trans h.output,jp0 h.size k.size,fun i hi hr=>(k.block i (jpq hi h.size) hr).trans (h.block i hi hr)⟩
theorem jV {a b:World}(h:Ext a b) (r:Option Nat):a.grownBy b r:=⟨h.os,h.tape,h.output,h.size,fun i hi _=>h.block i hi⟩
theorem Qr {a b:World}{g:Nat}(h:a.grownBy b (some g)) (i:Nat) (u:Value):a.grownBy (b.setCell ⟨g,i,none⟩ u) (some g):=
 ⟨h.os,h.tape,h.output,by simpa [World.setCell] using h.size,fun j hj hne=>(jp7 b ⟨g,i,none⟩ u j (fun e=>hne (by rw [e]))).trans (h.block j hj hne)⟩
def Fct (w:World) (g i x:Nat):Prop:=w.cell? ⟨g,i,none⟩=some (.int .u32 (x:Int))/\w.frozen? ⟨g,i,none⟩=false/\x < 4294967296
theorem Arr.fct {w:World}{g i:Nat}{vs:List Nat}(h:Arr w g vs) (hi:i < vs.length):Fct w g i (wd vs i):=h.2 i hi
theorem qt {w w':World}{g k:Nat}{v:Value}(h:w.grownBy w' (some g)):w.grownBy ((w'.setCell ⟨g,k,none⟩ v).drew) (some g):=jj (Qr h k v) (jV (jnQ _).drew _)
def qa (n:Nat) (vs:List Nat) (d a:Nat):List Nat:=vs.set d (QK n (wd vs d^^^wd vs a))
def qu (vs:List Nat) (c d:Nat):List Nat:=vs.set c (qF (wd vs c) (wd vs d))
theorem yd (n:Nat) (vs:List Nat) (a b:Nat):(qa n vs a b).length=vs.length:=by simp [qa]
theorem yq (vs:List Nat) (a b:Nat):(qu vs a b).length=vs.length:=by simp [qu]
def Yh (xs ys:List UInt8):Nat->Nat
 | 0=>0
 | k+1=>Yh xs ys k|||(bt xs k^^^bt ys k)
theorem jbu (xs ys:List UInt8):∀ k,Yh xs ys k < 256
 | 0=>by simp [Yh]
 | k+1=>by
   have h:=jbu xs ys k;have h1:bt xs k < 2 ^ 8:=vL xs k;have h2:bt ys k < 2 ^ 8:=vL ys k;exact Nat.or_lt_two_pow (n:=8) h (Nat.xor_lt_two_pow h1 h2)
theorem xor_zero {a b:Nat}(h:a^^^b=0):a=b:=by
 have:a^^^b^^^b=0^^^b:=by rw [h]
 simpa [Nat.xor_assoc] using this
theorem Zy (xs ys:List UInt8):∀ k,(Yh xs ys k=0↔∀ j,j < k->xs.getD j 0=ys.getD j 0)
 | 0=>by simp [Yh]
 | k+1=>by
   have ih:=Zy xs ys k;rw [Yh,Nat.or_eq_zero_iff,ih];constructor
   ·rintro ⟨h1,h2⟩ j hj;rcases jpu j k with h | h
    ·exact h1 j h
    ·obtain rfl:j=k:=by omega
     exact UInt8.toNat_inj.1 (xor_zero h2)
   ·intro h;exact ⟨fun j hj=>h j (by omega),by unfold bt;rw [h k (by omega)];simp⟩
theorem jdM {xs ys:List UInt8}(h:xs.length=ys.length):(xs=ys↔∀ j,j < xs.length->xs.getD j 0=ys.getD j 0):=by
 constructor
 ·rintro rfl _ _;rfl
 ·intro hh;refine jp8 h fun j h1 h2=> ?_
  have:=hh j h1
  simpa [jpr,h1,h2] using this
theorem jgS (xs ys:List UInt8) (k:Nat):bits .or .u8 (Yh xs ys k:Int) (bits .xor .u8 (bt xs k:Int) (bt ys k:Int))=(Yh xs ys (k+1):Int):=by
 have h:=jbu xs ys k;have h1:bt xs k < 2 ^ 8:=vL xs k;have h2:bt ys k < 2 ^ 8:=vL ys k;rw [u8_xor_nat _ _ h1 h2,u8_or_nat _ _ h (Nat.xor_lt_two_pow (n:=8) h1 h2)]
 rfl
def cellsOf (xs:List UInt8):List Value:=(jp1 xs.length).map fun j=>jpA .u8 (bt xs j:Int)
theorem ja (xs:List UInt8):(cellsOf xs).length=xs.length:=by simp [cellsOf]
theorem jZ {xs:List UInt8}{j:Nat}(h:j < xs.length):(cellsOf xs)[j]? =some (.int .u8 (bt xs j:Int)):=by simp [cellsOf,h]
theorem ji (xs:List UInt8):(cellsOf xs).toArray.all (·.oneCell')=true:=by
 rw [jpV];intro v hv;obtain ⟨j,_,rfl⟩:=jpN.1 (List.mem_toArray.1 hv)
 rfl
theorem jiW {W:World}{g off dLen dCap:Nat}{cur:List Value}{t dT sT ty:jpC}{A:Option Addr}{n c:Nat}{xs:List UInt8}(hu:Tryz.prog.underlying dT=some (.slice 5)) (hg:W.heap[g]? =some (.cells cur.toArray t (0,0))) (h:Bs W A n c xs) (hd:n<=dLen) (hfit:off+n<=cur.length):
 ∃ W',(Builtin.copy_ #[dT,sT] ty #[.slice (some ⟨g,off,none⟩) dLen dCap, .slice A n c]).run jpx W= .ok (goInt n) W'/\W'.heap[g]? =some (.cells (jp9 cur off (cellsOf xs)).toArray t (0,0))/\(∀ B,B<=g->Below B W W'):=by
 have hl:=h.len;have hsz:(Tryz.prog.info? 5).map (·.size)=some 1:=rfl;by_cases h0:n=0
 ·subst h0;obtain rfl:xs= []:=jpw hl;refine ⟨W,?_,by simpa [jp9,cellsOf] using hg,fun B _=>jpm _ _⟩;have:=run_copy_none (P:=jpx) W dT sT ty _ (some ⟨g,off,none⟩) A dLen dCap 0 c hu hsz (by simp)
  simpa using this
 ·obtain ⟨b,o,rfl,hb,hc⟩:=h.pos (by omega);have hr:=run_copy_row jpx W dT sT ty _ g off dLen dCap ⟨b,o,none⟩ n c cur.toArray t (cellsOf xs) hu hsz hg (by rw [ja,hl];exact (Nat.min_eq_left hd).symm) (fun j v hv=>by
   have hj:j < xs.length:=by
    rcases jpu j xs.length with q | q
    ·exact q
    ·rw [jqa (by rw [ja];exact q)] at hv;cases hv
   rw [jZ hj] at hv
   injection hv with hv
   subst hv;have:(⟨b,o,none⟩:Addr).add j=⟨b,o+j,none⟩:=by unfold Addr.add;split <;> simp_all
   rw [this];exact hc j (by omega)) (by rw [ja];simp;omega) (fun v hv=>by
   obtain ⟨j,_,rfl⟩:=jpN.1 hv
   rfl)
  rw [ja,hl] at hr;refine ⟨_,hr,?_,fun B hB=>jqb (jpm _ _) hB _⟩;have:=jqc W g _ ((cur.take off++cellsOf xs++cur.drop (off+n)).toArray) t _ hg
  simpa [jp9,ja,hl,jqd] using this
theorem JZ {o:Oper}{a:Act}{K:Act->World->Prop}{Q:Exit->Act->World->Prop}{W:World}{g off dLen dCap:Nat}{cur:List Value}{t dT sT ty:jpC}{A:Option Addr}{n c:Nat}{xs:List UInt8}(hu:Tryz.prog.underlying dT=some (.slice 5)) (hg:W.heap[g]? =some (.cells cur.toArray t (0,0))) (h:Bs W A n c xs) (hd:n<=dLen) (hfit:off+n<=cur.length)
 (H:∀ W',Hid (W'.heap[g]? =some (.cells (jp9 cur off (cellsOf xs)).toArray t (0,0)))->Hid (∀ B,B<=g->Below B W W')->Oper.upon jpx o a K Q (.ok (Next.value (goInt n)) W')):
 Oper.upon jpx o a K Q (((Builtin.copy_ #[dT,sT] ty #[.slice (some ⟨g,off,none⟩) dLen dCap, .slice A n c]).run jpx W).andThen fun a w'=> .ok (Next.value a) w'):=by
 obtain ⟨W',h1,h2,h3⟩:=jiW (W:=W) (dT:=dT) (sT:=sT) (ty:=ty) (dCap:=dCap) hu hg h hd hfit;rw [h1];exact H W' h2 h3
theorem jK (w:World) (o1 o2:Obj):((w.alloc o1).alloc o2).heap[w.heap.size+1]? =some o2:=by
 simp only [World.alloc,Array.getElem?_push,Array.size_push,if_true]
theorem jQ (w:World) (o1 o2:Obj):((w.alloc o1).alloc o2).heap[w.heap.size]? =some o1:=by
 simp only [World.alloc,Array.getElem?_push,Array.size_push,if_true];rw [if_neg (by omega)]
theorem jh {w:World}{g:Nat}{o:Obj}(h:w.heap[g]? =some o):g < w.heap.size:=by
 rcases jpu g w.heap.size with h1 | h1
 ·exact h1
 ·rw [jpv h1] at h;cases h
def jb (vs:List Nat):List Value:=vs.map fun x:Nat=>jpA .u32 (x:Int)
def Wr (w:World) (g:Nat) (t:jpC) (vs:List Nat):Prop:=w.heap[g]? =some (.cells (jb vs).toArray t (0,0))
section
variable {w w':World}{g:Nat}{t:jpC}{vs:List Nat}
theorem Wr.lt (h:Wr w g t vs):g < w.heap.size:=by
 rcases jpu g w.heap.size with h1 | h1
 ·exact h1
 ·unfold Wr at h;rw [jpv h1] at h;cases h
theorem Wr.cell (h:Wr w g t vs){i:Nat}(hi:i < vs.length):w.cell? ⟨g,i,none⟩=some (.int .u32 (wd vs i:Int)):=by
 rw [jqe w g i _ t (0,0) h];simp [jb,wd,jpr,hi]
theorem Wr.frozen (h:Wr w g t vs) (i:Nat):w.frozen? ⟨g,i,none⟩=false:=by
 unfold Wr at h;simp [World.frozen?,h]
theorem Wr.set (h:Wr w g t vs){k x:Nat}:Wr (w.setCell ⟨g,k,none⟩ (.int .u32 (x:Int))) g t (vs.set k x):=by
 have h1:=setCell_eq_setRow w g k _ t (0,0) (.int .u32 (x:Int)) h;unfold Wr;rw [h1,jqc w g _ _ t _ h];simp [jb,List.map_set]
theorem Wr.arr (h:Wr w g t vs) (hb:∀ i,i < vs.length->wd vs i < 4294967296):Arr w g vs:=⟨h.lt,fun i hi=>⟨h.cell hi,h.frozen i,hb i hi⟩⟩
theorem Wr.kept {B:Nat}(h:Wr w g t vs) (he:Below B w w') (hB:g < B):Wr w' g t vs:=(he.block g hB).trans h
end
theorem Bs.part {w:World}{g:Nat}{t:jpC}{fr:Nat×Nat}{xs:List UInt8}(h:w.heap[g]? =some (.cells (cellsOf xs).toArray t fr)){o n c:Nat}(ho:o+n<=xs.length) (hn:n<=c) (hc:c<=1000000):Bs w (some ⟨g,o,none⟩) n c ((xs.drop o).take n):=by
 have hlt:g < w.heap.size:=by
  rcases jpu g w.heap.size with h1 | h1
  ·exact h1
  ·rw [jpv h1] at h;cases h
 refine ⟨by simp;omega,hn,jp0 hc (by decide),fun _=>⟨g,o,rfl,hlt,fun j hj=> ?_⟩⟩;rw [jqe w g (o+j) _ t fr h];have hb:bt ((xs.drop o).take n) j=bt xs (o+j):=by
  unfold bt;simp [jpr,jqf,hj]
 rw [hb];have:=jZ (xs:=xs) (j:=o+j) (by omega)
 simpa using this
theorem je (w:World) (o:Obj):(w.alloc o).heap.size=w.heap.size+1:=by
 simp only [World.alloc,Array.size_push]
theorem jF (w:World) (o1 o2 o3:Obj):(((w.alloc o1).alloc o2).alloc o3).heap[w.heap.size]? =some o1:=by
 rw [jqg _ _ _ (by rw [je,je];omega)];exact jQ w o1 o2
theorem jH (w:World) (o1 o2 o3:Obj):(((w.alloc o1).alloc o2).alloc o3).heap[w.heap.size+1]? =some o2:=by
 rw [jqg _ _ _ (by rw [je,je];omega)];exact jK w o1 o2
theorem jB (w:World) (o1 o2 o3:Obj):(((w.alloc o1).alloc o2).alloc o3).heap[w.heap.size+1+1]? =some o3:=by
 have:=jK (w.alloc o1) o2 o3
 rwa [je] at this
theorem j4 {vs:List Nat}{n:Nat}(h:vs.length=n):(jb vs).length=n:=by simp [jb,h]
theorem jf {vs:List Nat}{n:Nat}(h:vs.length=n):(jb vs).toArray.size=n:=by simp [jb,h]
theorem jo (vs:List Nat):(jb vs).toArray.all (·.oneCell')=true:=by
 rw [jpV];intro v hv;obtain ⟨j,_,rfl⟩:=jpN.1 (List.mem_toArray.1 hv)
 rfl
theorem qp (xs:List UInt8):cellsOf xs=xs.map fun x=>jpA .u8 (x.toNat:Int):=by
 apply List.ext_getElem?
 intro j;by_cases q:j < xs.length
 ·rw [jZ q];simp [bt,jpr,q]
 ·rw [jqa (by rw [ja];omega),jqa (by simp;omega)]
theorem Yf (xs ys:List UInt8) (o:Nat):jp9 (cellsOf xs) o (cellsOf ys)=cellsOf (jp9 xs o ys):=by
 simp [qp,jp9]
theorem jaR {xs ys:List UInt8}{o:Nat}(h:o+ys.length<=xs.length):(jp9 xs o ys).length=xs.length:=by
 simp [jp9];omega
theorem jbs {xs ys:List UInt8}{o j:Nat}(h:o+ys.length<=xs.length) (hj:j < o+ys.length):bt (jp9 xs o ys) j=if j < o then bt xs j else bt ys (j - o):=by
 unfold bt jp9;simp only [jpr,List.getElem?_append,jps];by_cases q:j < o
 ·rw [if_pos q,if_pos (by omega)];simp [jqf,q]
 ·rw [if_neg q,if_neg (by omega),if_pos (by omega),Nat.min_eq_left (by omega)]
theorem Y0 {xs ys:List UInt8}(h:xs.length=ys.length) (hb:∀ j,j < xs.length->bt xs j=bt ys j):xs=ys:=(jdM h).2 fun j hj=>UInt8.toNat_inj.1 (hb j hj)
theorem jex {vs:List Nat}{w:World}{k n:Nat}{t:jpC}(ht:Tryz.prog.underlying t=some (.array n 133)) (hl:vs.length=n) (hk:k < n):
 (jqh t (.agg (jb vs).toArray) (.int .i64 (k:Int))).run jpx w= .ok (.int .u32 (wd vs k:Int)) w:=by
 have h1:(0:Int)<=(k:Int)/\(k:Int) < (n:Int):=by omega
 have hs:(sizeOf 133).run jpx w= .ok 1 w:=rfl;have hg:(jb vs).toArray[k]? =some (.int .u32 (wd vs k:Int)):=by
  simp [jb,wd,jpr,show k < vs.length by omega]
 unfold jqh;simp only [jqi,asIntOf,jqj,jqk,jql ht];rw [if_pos h1];simp only [jqi,hs,jqk];have ha:(isAgg 133).run jpx w= .ok false w:=rfl;unfold part;simp only [jqi,ha,jqk,Int.toNat_natCast,Nat.mul_one,Bool.false_eq_true,if_false,hg,jqj]
theorem Bs.key {w:World}{g:Nat}{t:jpC}{xs:List UInt8}(h:w.heap[g]? =some (.cells (cellsOf xs).toArray t (0,0))) (hl:xs.length=32):Bs w (some ⟨g,0,none⟩) 32 32 xs:=by
 have:=Bs.part h (o:=0) (n:=32) (c:=32) (by omega) (by omega) (by omega);rw [List.drop_zero,jqm (by omega)] at this;exact this
def qX (vs:List Nat):List UInt8:=(jp1 (4*vs.length)).map fun i=>jpt (wd vs (i / 4) / 256 ^ (i % 4))
theorem ya (vs:List Nat):(qX vs).length=4*vs.length:=by simp [qX]
theorem JK {vs:List Nat}{j:Nat}(hj:j < 4*vs.length):bt (qX vs) j=wd vs (j / 4) / 256 ^ (j % 4) % 256:=by
 unfold bt qX;simp [jpr,hj]
theorem je3 {w:World}{g k n:Nat}{t:jpC}(ht:Tryz.prog.underlying t=some (.array (Tryz.prog.arrayLen t) (Tryz.prog.elem t))) (hs:∀ w,(sizeOf (Tryz.prog.elem t)).run jpx w= .ok 1 w) (hn:Tryz.prog.arrayLen t=n) (hk:4*k < n):
 (Instr.sliceAt t (.pointer (some ⟨g,0,none⟩)) (some (.int .i64 (4*(k:Int)))) none none).run jpx w= .ok (.slice (some ⟨g,4*k,none⟩) (n - 4*k) (n - 4*k)) w:=by
 rw [run_sliceAt_array_l w t _ ht .i64 _ (by omega) (by rw [hn];omega)];rw [hs];have h1:(4*(k:Int)).toNat=4*k:=by omega
 have h3:(⟨g,0,none⟩:Addr).add (4*k*1)=⟨g,4*k,none⟩:=by unfold Addr.add;split <;> simp_all
 show Result.ok (slicedAt _ _ _ _ _) w=_
 rw [hn,h1];unfold slicedAt;rw [if_neg (by omega),h3]
theorem jjC {W:World}{t:jpC}{A B C:Option Addr}{n m l c d f:Nat}{xs ys zs:List UInt8}(h1:Bs W A n c xs) (h2:Bs W B m d ys) (h3:Bs W C l f zs):Rw (W.alloc (.cells #[.slice A n c, .slice B m d, .slice C l f] t)) (some ⟨W.heap.size,0,none⟩) 3 3 [xs,ys,zs]:=by
 have e:Ext W (W.alloc (.cells #[.slice A n c, .slice B m d, .slice C l f] t)):=(jnQ W).alloc _;refine ⟨rfl,jpo _,by unfold maxLen;omega,fun _=>⟨_,0,rfl,by rw [je];omega,fun j hj=> ?_⟩⟩;rw [jqe _ _ _ _ _ (0,0) (jqq _ _)]
 match j with
 | 0=>exact ⟨A,n,c,rfl,h1.ext e⟩
 | 1=>exact ⟨B,m,d,rfl,h2.ext e⟩
 | 2=>exact ⟨C,l,f,rfl,h3.ext e⟩
 | j+3=>omega
theorem Yq (vs:List Nat):(jb vs).length=vs.length:=by simp [jb]
theorem jfj {vs:List Nat}{j:Nat}(h:j < vs.length):(jb vs)[j]? =some (.int .u32 (wd vs j:Int)):=by simp [jb,wd,jpr,h]
theorem jbo (xs ys:List Nat) (o:Nat):jp9 (jb xs) o (jb ys)=jb (jp9 xs o ys):=by simp [jb,jp9]
theorem jfh {o:Oper}{a:Act}{K:Act->World->Prop}{Q:Exit->Act->World->Prop}{W:World}{b g off dLen dCap:Nat}{us vs:List Nat}{t t' dT sT ty:jpC}{n c:Nat}(hu:Tryz.prog.underlying dT=some (.slice 133)) (hg:Wr W g t us) (hb:Wr W b t' vs) (hn:vs.length=n) (hd:n<=dLen) (hfit:off+n<=us.length)
 (H:∀ W',Hid (Wr W' g t (jp9 us off vs))->Hid (∀ B,B<=g->Below B W W')->Oper.upon jpx o a K Q (.ok (Next.value (goInt n)) W')):
 Oper.upon jpx o a K Q (((Builtin.copy_ #[dT,sT] ty #[.slice (some ⟨g,off,none⟩) dLen dCap, .slice (some ⟨b,0,none⟩) n c]).run jpx W).andThen fun a w'=> .ok (Next.value a) w'):=by
 have hsz:(Tryz.prog.info? 133).map (·.size)=some 1:=rfl;have hr:=run_copy_row jpx W dT sT ty _ g off dLen dCap ⟨b,0,none⟩ n c (jb us).toArray t (jb vs) hu hsz hg (by rw [Yq,hn];exact (Nat.min_eq_left hd).symm) (fun j v hv=>by
  have hj:j < vs.length:=by
   rcases jpu j vs.length with q | q
   ·exact q
   ·rw [jqa (by rw [Yq];exact q)] at hv;cases hv
  rw [jfj hj] at hv
  injection hv with hv
  subst hv;have:(⟨b,0,none⟩:Addr).add j=⟨b,j,none⟩:=by unfold Addr.add;split <;> simp_all
  rw [this];exact hb.cell hj) (by rw [Yq];simp [jb];omega) (fun v hv=>by
  obtain ⟨j,_,rfl⟩:=jpN.1 hv
  rfl)
 rw [Yq,hn] at hr;rw [hr];refine H _ ?_ (fun B hB=>jqb (jpm _ _) hB _);have:=jqc W g _ (((jb us).take off++jb vs++(jb us).drop (off+n)).toArray) t _ hg
 show _=_
 rw [<-jbo]
 simpa [jp9,Yq,hn,jqd] using this
def J3 (n m:Nat):List UInt8:=(jp1 m).map fun i=>jpt (n / 256 ^ i)
theorem vM (n m:Nat):(J3 n m).length=m:=by simp [J3]
theorem jb1 {n m k:Nat}(hk:k < m):bt (J3 n m) k=n / 256 ^ k % 256:=by
 unfold bt J3;simp [jpr,hk]
def Jd (n k:Nat):Nat:=n / 256 ^ k
theorem jez (n k:Nat):Jd n k / 256=Jd n (k+1):=by unfold Jd;rw [jqQ,jqN]
theorem jhN (n k:Nat):Jd n k<=n:=Nat.div_le_self _ _
theorem jgp (n k:Nat):(Jd n k:Int) / 256=(Jd n (k+1):Int):=by rw [<-jez];omega
theorem jey (n k:Nat):(Jd n k:Int) % 256=((n / 256 ^ k % 256:Nat):Int):=by
 show (Jd n k:Int) % 256=((Jd n k % 256:Nat):Int)
 omega
theorem Zh {n m:Nat}{many:Int}{w:World}(hn:n < 18446744073709551616) (h1:0<=many) (h2:many<=9223372036854775807) (hm8:m<=8) (hM:(if (8:Int) < many then 8 else many)=(m:Int)):
 Calls jpx 147 #[.int .u64 (n:Int), .int .i64 many] w (Qw (J3 n m) w):=by
 have hmk:=jhQ m (by omega);have hz:Jd n 0=n:=by simp [Jd]
 go_enter Tryz.func147,Tryz.ntmps147
 go_wp2
 clear hmk hM;go_loopw [0,13] (fun x i wr=>∃ k:Nat,k<=m/\i= .int .i64 k/\x= .int .u64 (Jd n k:Int)/\Fill w wr m k (fun j=>n / 256 ^ j % 256)) (fun _ i _=>m - (intOf i).toNat)
 case atStart=>exact ⟨0,jpp _,rfl,by rw [hz],Fill.start _ _ _⟩
 case round=>
  obtain ⟨k,hk,rfl,rfl,hf⟩:=hrel;clear hz;by_cases hlt:k < m
  ·have g3:=hf.cell hlt;have g4:=hf.frozen k;have hle:=jp4 (jhN n k) hn;go_wp2
   go_roundw
   case rel=>
    exact ⟨k+1,by omega,by go_num,congrArg (jpA .u64) (jgp n k),hf.step (jey n k)⟩
   case measure=>simp [intOf];omega
  ·obtain rfl:k=m:=by omega
   go_wp2
   go_ret;exact ⟨_,_,_,rfl,hf.done (vM n k) (by omega) (fun j hj=>(jb1 hj).symm),hf.1⟩
def vF:List UInt8->Nat
 | []=>0
 | x::xs=>x.toNat+256*vF xs
theorem Yd:∀ xs:List UInt8,vF xs < 256 ^ xs.length
 | []=>by simp [vF]
 | x::xs=>by
   have h:=Yd xs;have hx:x.toNat < 256:=x.toNat_lt;simp only [vF,List.length_cons,jqN];omega
theorem Qf:∀ (xs:List UInt8) (y:UInt8),vF (xs++ [y])=vF xs+256 ^ xs.length*y.toNat
 | [],y=>by simp [vF]
 | x::xs,y=>by
   rw [List.cons_append,vF,Qf xs y,vF,List.length_cons,jqN,Nat.mul_add,jqI (256 ^ xs.length) 256,jqJ,Nat.add_assoc]
def Yv (xs:List UInt8) (k:Nat):Nat:=vF (xs.take k)
theorem jcp {xs:List UInt8}{k:Nat}(h:k < xs.length):Yv xs (k+1)=Yv xs k+256 ^ k*bt xs k:=by
 unfold Yv;rw [jq6 h,Qf,jps,Nat.min_eq_left (by omega)];simp [bt,jpr,h]
theorem jeG {xs:List UInt8}{k:Nat}(h:k<=xs.length):Yv xs k < 256 ^ k:=by
 have:=Yd (xs.take k)
 rwa [jps,Nat.min_eq_left h] at this
theorem jeH {xs:List UInt8}{k:Nat}(h:k < xs.length) (hk:k < 8):
 bits .or .u64 (Yv xs k:Int) (IntKind.u64.wrap ((bt xs k:Int)*2 ^ (8*k)))=(Yv xs (k+1):Int):=by
 have h1:=jeG (xs:=xs) (k:=k) (by omega);have hb:=vL xs k;have hp:(256:Nat) ^ k=2 ^ (8*k):=by rw [Nat.pow_mul]
 have hpk:(2:Nat) ^ (8*k)<=2 ^ 56:=Nat.pow_le_pow_right (by omega) (by omega);have hlt:bt xs k*2 ^ (8*k) < 18446744073709551616:=by
  have:bt xs k*2 ^ (8*k)<=255*2 ^ 56:=Nat.mul_le_mul (by omega) hpk;omega
 have hc:((bt xs k:Int)*2 ^ (8*k))=((bt xs k*2 ^ (8*k):Nat):Int):=by push_cast;rfl
 rw [hc,IntWalk.u64_in _ (by omega),jcp h,hp];rw [hp] at h1;generalize Yv xs k=y at *;have hy:y < 18446744073709551616:=by omega
 rw [u64_or_nat _ _ hy hlt,Nat.or_comm,nat_join (8*k) _ _ (Nat.mul_mod_left _ _) h1,jqI,Nat.add_comm]
theorem ZF {A:Option Addr}{n c:Nat}{m:Nat}{xs:List UInt8}{w:World}(h:Bs w A n c xs) (hm8:m<=8) (hmn:m<=n) (hM:(if (8:Int) < (n:Int) then 8 else (n:Int))=(m:Int)):
 Calls jpx 170 #[.slice A n c] w fun e w'=>e= .returned (.int .u64 (vF (xs.take m):Int))/\w'=w:=by
 have h1:=h.le;have h2:=h.cap;go_enter Tryz.func170,Tryz.ntmps170
 go_wp2
 clear hM;go_loop [3,8] (fun x i=>∃ k:Nat,k<=m/\i= .int .i64 k/\x= .int .u64 (Yv xs k:Int)) (fun _ i=>m - (intOf i).toNat)
 case atStart=>exact ⟨0,jpp _,rfl,rfl⟩
 case round=>
  obtain ⟨k,hk,rfl,rfl⟩:=hrel;by_cases hlt:k < m
  ·obtain ⟨b,off,rfl,hb,hc⟩:=h.pos (by omega);have g1:=hc k (by omega);have hbt:=vL xs k;clear hc;go_wp2
   go_round
   case rel=>
    exact ⟨k+1,by omega,by go_num,congrArg (jpA .u64) (jeH (by rw [h.len];omega) (by omega))⟩
   case measure=>simp [intOf];omega
  ·obtain rfl:k=m:=by omega
   go_wp2
   go_ret;exact ⟨rfl,rfl⟩
theorem jdG {n x:Nat}(hn:n<=32) (hx:x < 4294967296):bits .or .u32 ((x:Int)*2 ^ (32 - n) % 4294967296) ((x:Int) / 2 ^ n)=(QK n x:Int):=by
 have h1:(x:Int)*2 ^ (32 - n) % 4294967296=((x*2 ^ (32 - n) % 4294967296:Nat):Int):=by simp
 have h2:(x:Int) / 2 ^ n=((x / 2 ^ n:Nat):Int):=by simp
 rw [h1,h2,u32_or_nat _ _ (jp3 _ (by omega)) (jp4 (Nat.div_le_self _ _) hx)]
 rfl
theorem yW {n x:Nat}{k:Int}{w:World}(hx:x < 4294967296) (hk:bits .and .u64 (IntKind.u64.wrap k) 31=((32 - n:Nat):Int)) (h1:1<=n) (h2:n<=31):
 Calls jpx 171 #[.int .u32 (x:Int), .int .i64 k] w fun e w'=>e= .returned (.int .u32 (QK n x:Int))/\w'=w:=by
 have hs:∃ s:Nat,32 - n=s/\s<=31/\n=32 - s:=⟨32 - n,rfl,by omega,by omega⟩;obtain ⟨s,e1,e2,e3⟩:=hs;have hf:=Hj (jdG (n:=n) (by omega) hx);rw [e1] at hk hf;have hd:IntKind.u64.wrap (32 - (s:Int))=(n:Int):=by rw [IntWalk.u64_in _ (by omega)];omega
 go_enter Tryz.func171,Tryz.ntmps171
 go_wp2_with fail;go_ret;refine ⟨congrArg (fun v=>Ending.returned (jpA .u32 v)) (Eq.trans ?_ hf.out),rfl⟩;rw [e3]
theorem jk7 {x:Nat}{w:World}(hx:x < 4294967296):
 Calls jpx 171 #[.int .u32 (x:Int), .int .i64 (-16)] w fun e w'=>e= .returned (.int .u32 (QK 16 x:Int))/\w'=w:=yW hx (by decide) (by omega) (by omega)
theorem jk6 {x:Nat}{w:World}(hx:x < 4294967296):
 Calls jpx 171 #[.int .u32 (x:Int), .int .i64 (-12)] w fun e w'=>e= .returned (.int .u32 (QK 12 x:Int))/\w'=w:=yW hx (by decide) (by omega) (by omega)
theorem jmh {x:Nat}{w:World}(hx:x < 4294967296):
 Calls jpx 171 #[.int .u32 (x:Int), .int .i64 (-8)] w fun e w'=>e= .returned (.int .u32 (QK 8 x:Int))/\w'=w:=yW hx (by decide) (by omega) (by omega)
theorem jmg {x:Nat}{w:World}(hx:x < 4294967296):
 Calls jpx 171 #[.int .u32 (x:Int), .int .i64 (-7)] w fun e w'=>e= .returned (.int .u32 (QK 7 x:Int))/\w'=w:=yW hx (by decide) (by omega) (by omega)
theorem jkD {x:Nat}{w:World}(hx:x < 4294967296):
 Calls jpx 171 #[.int .u32 (x:Int), .int .i64 16] w fun e w'=>e= .returned (.int .u32 (QK 16 x:Int))/\w'=w:=yW hx (by decide) (by omega) (by omega)
theorem jkC {x:Nat}{w:World}(hx:x < 4294967296):
 Calls jpx 171 #[.int .u32 (x:Int), .int .i64 12] w fun e w'=>e= .returned (.int .u32 (QK 20 x:Int))/\w'=w:=yW hx (by decide) (by omega) (by omega)
theorem jk9 {x:Nat}{w:World}(hx:x < 4294967296):
 Calls jpx 171 #[.int .u32 (x:Int), .int .i64 8] w fun e w'=>e= .returned (.int .u32 (QK 24 x:Int))/\w'=w:=yW hx (by decide) (by omega) (by omega)
theorem jk8 {x:Nat}{w:World}(hx:x < 4294967296):
 Calls jpx 171 #[.int .u32 (x:Int), .int .i64 7] w fun e w'=>e= .returned (.int .u32 (QK 25 x:Int))/\w'=w:=yW hx (by decide) (by omega) (by omega)
def vX (vs:List Nat) (a b x:Nat):List Nat:=vs.set a (qF (wd vs a) (qF (wd vs b) x))
def q9 (vs:List Nat) (a b c d x y:Nat):List Nat:=
 qa 7 (qu (qa 8 (vX (qa 12 (qu (qa 16 (vX vs a b x) d a) c d) b c) a b y) d a) c d) b c
theorem jnB (vs:List Nat) (a b x:Nat):(vX vs a b x).length=vs.length:=by simp [vX]
theorem vD (vs:List Nat) (a b c d x y:Nat):(q9 vs a b c d x y).length=vs.length:=by simp [q9,vX,qa,qu]
set_option maxRecDepth 100000 in
theorem yT {g a b c d x y:Nat}{vs:List Nat}{w:World}(h:Arr w g vs) (hl:vs.length=16) (ha:a < 16) (hb:b < 16) (hc:c < 16) (hd:d < 16) (hx:x < 4294967296) (hy:y < 4294967296):
 Calls jpx 154 #[.pointer (some ⟨g,0,none⟩), .int .i64 (a:Int), .int .i64 (b:Int), .int .i64 (c:Int), .int .i64 (d:Int), .int .u32 (x:Int), .int .u32 (y:Int)] w
  fun e w'=>e= .returned (.tuple #[])/\Arr w' g (q9 vs a b c d x y)/\w.grownBy w' (some g):=by
 have ha':(a:Int) < 16:=by omega
 have hb':(b:Int) < 16:=by omega
 have hc':(c:Int) < 16:=by omega
 have hd':(d:Int) < 16:=by omega
 go_enter Tryz.func154,Tryz.ntmps154
 go_wp2_with fail;refine jg (fun w1=>Arr w1 g vs/\w.grownBy w1 (some g)) ⟨h,jV (jnQ _) _⟩ ?_;rintro w0 ⟨A0,G0⟩;have L0:=hl;clear h;obtain ⟨cp,fp,lp⟩:=A0.fct (i:=a) (by omega);obtain ⟨cq,fq,lq⟩:=A0.fct (i:=b) (by omega);have KEEP:Hid (∀ w',Ext w0 w'->w'.cell? ⟨g,a,none⟩=some (.int .u32 (wd vs a:Int))/\w'.cell? ⟨g,b,none⟩=some (.int .u32 (wd vs b:Int))):=fun w' e=>⟨((A0.ext e).fct (by omega)).1,((A0.ext e).fct (by omega)).1⟩
 have u1:IntKind.u32.wrap ((wd vs b:Int)+(x:Int))=(qF (wd vs b) x:Int):=vP;have u2:IntKind.u32.wrap ((wd vs a:Int)+(qF (wd vs b) x:Int))=(qF (wd vs a) (qF (wd vs b) x):Int):=vP;refine ym 15 [0,1,2,3,4,5,6,7,8,9,10,11,12,13,14,15] [15] ?_;repeat (refine qzR _ (fun w' e=>KEEP.out w' ((jnQ _).drew.trans e)) ?_;go_frame)
 refine qzD fun K1 hK1=> ?_
 go_simp;refine hK1.out _ _ (.inl rfl) ?_;clear hK1 K1;refine jN ?_;go_wp2_with fail;refine jg (fun w1=>Arr w1 g (vX vs a b x)/\w.grownBy w1 (some g)) ⟨(A0.set (by omega) (ve _ _)).ext (jnQ _).drew,qt G0⟩ ?_;rintro w1 ⟨A1,G1⟩;have L1:(vX vs a b x).length=16:=(jnB ..).trans L0;clear A0 G0 L0 cp fp lp cq fq lq KEEP u1 u2;generalize HV0:vX vs a b x=v1 at A1 L1;replace HV0:=Hj HV0;obtain ⟨cp,fp,lp⟩:=A1.fct (i:=d) (by omega);obtain ⟨cq,fq,lq⟩:=A1.fct (i:=a) (by omega);have KEEP:Hid (∀ w',Ext w1 w'->w'.cell? ⟨g,d,none⟩=some (.int .u32 (wd v1 d:Int))/\w'.cell? ⟨g,a,none⟩=some (.int .u32 (wd v1 a:Int))):=fun w' e=>⟨((A1.ext e).fct (by omega)).1,((A1.ext e).fct (by omega)).1⟩
 have u1:bits .xor .u32 (wd v1 d:Int) (wd v1 a:Int)=((wd v1 d^^^wd v1 a:Nat):Int):=jq7 _ _ lp lq;have HR:=Hj (fun w0:World=> @jk7 (wd v1 d^^^wd v1 a) w0 (jL lp lq));refine ym 16 [0,1,2,3,4,5,6,7,8,9,10,11,12,14,13,15,16] [13,16] ?_;repeat (refine qzR _ (fun w' e=>KEEP.out w' ((jnQ _).drew.trans e)) ?_;go_frame)
 refine qzD fun K1 hK1=> ?_
 go_simp;refine (HR.out _).mono ?_;rintro e w1 ⟨rfl,rfl⟩;refine hK1.out _ _ (.inr (jnQ _)) ?_;clear hK1 K1;try go_frame
 repeat (refine qzR _ (fun w' e=>KEEP.out w' ((jnQ _).drew.trans e)) ?_;go_frame)
 refine qzD fun K1 hK1=> ?_
 go_simp;refine hK1.out _ _ (.inl rfl) ?_;clear hK1 K1;refine jN ?_;go_wp2_with fail;refine jg (fun w1=>Arr w1 g (qa 16 v1 d a)/\w.grownBy w1 (some g)) ⟨(A1.set (by omega) (yB (jL lp lq))).ext (jnQ _).drew,qt G1⟩ ?_;rintro w2 ⟨A2,G2⟩;have L2:(qa 16 v1 d a).length=16:=(yd ..).trans L1;clear A1 G1 L1 cp fp lp cq fq lq KEEP u1 HR;generalize HV1:qa 16 v1 d a=v2 at A2 L2;replace HV1:=Hj HV1;obtain ⟨cp,fp,lp⟩:=A2.fct (i:=c) (by omega);obtain ⟨cq,fq,lq⟩:=A2.fct (i:=d) (by omega);have KEEP:Hid (∀ w',Ext w2 w'->w'.cell? ⟨g,c,none⟩=some (.int .u32 (wd v2 c:Int))/\w'.cell? ⟨g,d,none⟩=some (.int .u32 (wd v2 d:Int))):=fun w' e=>⟨((A2.ext e).fct (by omega)).1,((A2.ext e).fct (by omega)).1⟩
 have u1:IntKind.u32.wrap ((wd v2 c:Int)+(wd v2 d:Int))=(qF (wd v2 c) (wd v2 d):Int):=vP;refine ym 13 [0,1,2,3,4,5,6,7,8,9,10,11,12,13] [13] ?_;repeat (refine qzR _ (fun w' e=>KEEP.out w' ((jnQ _).drew.trans e)) ?_;go_frame)
 refine qzD fun K1 hK1=> ?_
 go_simp;refine hK1.out _ _ (.inl rfl) ?_;clear hK1 K1;refine jN ?_;go_wp2_with fail;refine jg (fun w1=>Arr w1 g (qu v2 c d)/\w.grownBy w1 (some g)) ⟨(A2.set (by omega) (ve _ _)).ext (jnQ _).drew,qt G2⟩ ?_;rintro w3 ⟨A3,G3⟩;have L3:(qu v2 c d).length=16:=(yq ..).trans L2;clear A2 G2 L2 cp fp lp cq fq lq KEEP u1;generalize HV2:qu v2 c d=v3 at A3 L3;replace HV2:=Hj HV2;obtain ⟨cp,fp,lp⟩:=A3.fct (i:=b) (by omega);obtain ⟨cq,fq,lq⟩:=A3.fct (i:=c) (by omega);have KEEP:Hid (∀ w',Ext w3 w'->w'.cell? ⟨g,b,none⟩=some (.int .u32 (wd v3 b:Int))/\w'.cell? ⟨g,c,none⟩=some (.int .u32 (wd v3 c:Int))):=fun w' e=>⟨((A3.ext e).fct (by omega)).1,((A3.ext e).fct (by omega)).1⟩
 have u1:bits .xor .u32 (wd v3 b:Int) (wd v3 c:Int)=((wd v3 b^^^wd v3 c:Nat):Int):=jq7 _ _ lp lq;have HR:=Hj (fun w0:World=> @jk6 (wd v3 b^^^wd v3 c) w0 (jL lp lq));refine ym 16 [0,1,2,3,4,5,6,7,8,9,10,11,12,14,13,15,16] [13,16] ?_;repeat (refine qzR _ (fun w' e=>KEEP.out w' ((jnQ _).drew.trans e)) ?_;go_frame)
 refine qzD fun K1 hK1=> ?_
 go_simp;refine (HR.out _).mono ?_;rintro e w1 ⟨rfl,rfl⟩;refine hK1.out _ _ (.inr (jnQ _)) ?_;clear hK1 K1;try go_frame
 repeat (refine qzR _ (fun w' e=>KEEP.out w' ((jnQ _).drew.trans e)) ?_;go_frame)
 refine qzD fun K1 hK1=> ?_
 go_simp;refine hK1.out _ _ (.inl rfl) ?_;clear hK1 K1;refine jN ?_;go_wp2_with fail;refine jg (fun w1=>Arr w1 g (qa 12 v3 b c)/\w.grownBy w1 (some g)) ⟨(A3.set (by omega) (yB (jL lp lq))).ext (jnQ _).drew,qt G3⟩ ?_;rintro w4 ⟨A4,G4⟩;have L4:(qa 12 v3 b c).length=16:=(yd ..).trans L3;clear A3 G3 L3 cp fp lp cq fq lq KEEP u1 HR;generalize HV3:qa 12 v3 b c=v4 at A4 L4;replace HV3:=Hj HV3;obtain ⟨cp,fp,lp⟩:=A4.fct (i:=a) (by omega);obtain ⟨cq,fq,lq⟩:=A4.fct (i:=b) (by omega);have KEEP:Hid (∀ w',Ext w4 w'->w'.cell? ⟨g,a,none⟩=some (.int .u32 (wd v4 a:Int))/\w'.cell? ⟨g,b,none⟩=some (.int .u32 (wd v4 b:Int))):=fun w' e=>⟨((A4.ext e).fct (by omega)).1,((A4.ext e).fct (by omega)).1⟩
 have u1:IntKind.u32.wrap ((wd v4 b:Int)+(y:Int))=(qF (wd v4 b) y:Int):=vP;have u2:IntKind.u32.wrap ((wd v4 a:Int)+(qF (wd v4 b) y:Int))=(qF (wd v4 a) (qF (wd v4 b) y):Int):=vP;refine ym 15 [0,1,2,3,4,5,6,7,8,9,10,11,12,13,14,15] [15] ?_;repeat (refine qzR _ (fun w' e=>KEEP.out w' ((jnQ _).drew.trans e)) ?_;go_frame)
 refine qzD fun K1 hK1=> ?_
 go_simp;refine hK1.out _ _ (.inl rfl) ?_;clear hK1 K1;refine jN ?_;go_wp2_with fail;refine jg (fun w1=>Arr w1 g (vX v4 a b y)/\w.grownBy w1 (some g)) ⟨(A4.set (by omega) (ve _ _)).ext (jnQ _).drew,qt G4⟩ ?_;rintro w5 ⟨A5,G5⟩;have L5:(vX v4 a b y).length=16:=(jnB ..).trans L4;clear A4 G4 L4 cp fp lp cq fq lq KEEP u1 u2;generalize HV4:vX v4 a b y=v5 at A5 L5;replace HV4:=Hj HV4;obtain ⟨cp,fp,lp⟩:=A5.fct (i:=d) (by omega);obtain ⟨cq,fq,lq⟩:=A5.fct (i:=a) (by omega);have KEEP:Hid (∀ w',Ext w5 w'->w'.cell? ⟨g,d,none⟩=some (.int .u32 (wd v5 d:Int))/\w'.cell? ⟨g,a,none⟩=some (.int .u32 (wd v5 a:Int))):=fun w' e=>⟨((A5.ext e).fct (by omega)).1,((A5.ext e).fct (by omega)).1⟩
 have u1:bits .xor .u32 (wd v5 d:Int) (wd v5 a:Int)=((wd v5 d^^^wd v5 a:Nat):Int):=jq7 _ _ lp lq;have HR:=Hj (fun w0:World=> @jmh (wd v5 d^^^wd v5 a) w0 (jL lp lq));refine ym 16 [0,1,2,3,4,5,6,7,8,9,10,11,12,14,13,15,16] [13,16] ?_;repeat (refine qzR _ (fun w' e=>KEEP.out w' ((jnQ _).drew.trans e)) ?_;go_frame)
 refine qzD fun K1 hK1=> ?_
 go_simp;refine (HR.out _).mono ?_;rintro e w1 ⟨rfl,rfl⟩;refine hK1.out _ _ (.inr (jnQ _)) ?_;clear hK1 K1;try go_frame
 repeat (refine qzR _ (fun w' e=>KEEP.out w' ((jnQ _).drew.trans e)) ?_;go_frame)
 refine qzD fun K1 hK1=> ?_
 go_simp;refine hK1.out _ _ (.inl rfl) ?_;clear hK1 K1;refine jN ?_;go_wp2_with fail;refine jg (fun w1=>Arr w1 g (qa 8 v5 d a)/\w.grownBy w1 (some g)) ⟨(A5.set (by omega) (yB (jL lp lq))).ext (jnQ _).drew,qt G5⟩ ?_;rintro w6 ⟨A6,G6⟩;have L6:(qa 8 v5 d a).length=16:=(yd ..).trans L5;clear A5 G5 L5 cp fp lp cq fq lq KEEP u1 HR;generalize HV5:qa 8 v5 d a=v6 at A6 L6;replace HV5:=Hj HV5;obtain ⟨cp,fp,lp⟩:=A6.fct (i:=c) (by omega);obtain ⟨cq,fq,lq⟩:=A6.fct (i:=d) (by omega);have KEEP:Hid (∀ w',Ext w6 w'->w'.cell? ⟨g,c,none⟩=some (.int .u32 (wd v6 c:Int))/\w'.cell? ⟨g,d,none⟩=some (.int .u32 (wd v6 d:Int))):=fun w' e=>⟨((A6.ext e).fct (by omega)).1,((A6.ext e).fct (by omega)).1⟩
 have u1:IntKind.u32.wrap ((wd v6 c:Int)+(wd v6 d:Int))=(qF (wd v6 c) (wd v6 d):Int):=vP;refine ym 13 [0,1,2,3,4,5,6,7,8,9,10,11,12,13] [13] ?_;repeat (refine qzR _ (fun w' e=>KEEP.out w' ((jnQ _).drew.trans e)) ?_;go_frame)
 refine qzD fun K1 hK1=> ?_
 go_simp;refine hK1.out _ _ (.inl rfl) ?_;clear hK1 K1;refine jN ?_;go_wp2_with fail;refine jg (fun w1=>Arr w1 g (qu v6 c d)/\w.grownBy w1 (some g)) ⟨(A6.set (by omega) (ve _ _)).ext (jnQ _).drew,qt G6⟩ ?_;rintro w7 ⟨A7,G7⟩;have L7:(qu v6 c d).length=16:=(yq ..).trans L6;clear A6 G6 L6 cp fp lp cq fq lq KEEP u1;generalize HV6:qu v6 c d=v7 at A7 L7;replace HV6:=Hj HV6;obtain ⟨cp,fp,lp⟩:=A7.fct (i:=b) (by omega);obtain ⟨cq,fq,lq⟩:=A7.fct (i:=c) (by omega);have KEEP:Hid (∀ w',Ext w7 w'->w'.cell? ⟨g,b,none⟩=some (.int .u32 (wd v7 b:Int))/\w'.cell? ⟨g,c,none⟩=some (.int .u32 (wd v7 c:Int))):=fun w' e=>⟨((A7.ext e).fct (by omega)).1,((A7.ext e).fct (by omega)).1⟩
 have u1:bits .xor .u32 (wd v7 b:Int) (wd v7 c:Int)=((wd v7 b^^^wd v7 c:Nat):Int):=jq7 _ _ lp lq;have HR:=Hj (fun w0:World=> @jmg (wd v7 b^^^wd v7 c) w0 (jL lp lq));refine ym 16 [0,1,2,3,4,5,6,7,8,9,10,11,12,14,13,15,16] [13,16] ?_;repeat (refine qzR _ (fun w' e=>KEEP.out w' ((jnQ _).drew.trans e)) ?_;go_frame)
 refine qzD fun K1 hK1=> ?_
 go_simp;refine (HR.out _).mono ?_;rintro e w1 ⟨rfl,rfl⟩;refine hK1.out _ _ (.inr (jnQ _)) ?_;clear hK1 K1;try go_frame
 repeat (refine qzR _ (fun w' e=>KEEP.out w' ((jnQ _).drew.trans e)) ?_;go_frame)
 refine qzD fun K1 hK1=> ?_
 go_simp;refine hK1.out _ _ (.inl rfl) ?_;clear hK1 K1;refine jN ?_;go_wp2_with fail;have HM:q9 vs a b c d x y=qa 7 v7 b c:=by
  unfold q9;rw [HV0.out,HV1.out,HV2.out,HV3.out,HV4.out,HV5.out,HV6.out]
 rw [HM];go_end0
 exact ⟨rfl,(A7.set (by omega) (yB (jL lp lq))).ext (jnQ _).drew,qt G7⟩
def qQ (xs:List UInt8):List UInt8:=xs++jqn (64 - xs.length) 0
theorem Yk {xs:List UInt8}(h:xs.length<=64):(qQ xs).length=64:=by simp [qQ];omega
theorem je5 {xs:List UInt8}:jp9 (jqn 64 (jpA .u8 0)) 0 (cellsOf xs)=cellsOf (qQ xs):=by
 have hb:∀ j,(if j < xs.length then jpA .u8 (bt xs j:Int) else .int .u8 0)= .int .u8 (bt (qQ xs) j:Int):=fun j=>by
  by_cases q:j < xs.length
  ·simp [q,bt,qQ,jpr,List.getElem?_append]
  ·rw [if_neg q];unfold bt qQ;simp only [jpr,List.getElem?_append,if_neg q,jq5]
   split <;> rfl
 unfold jp9;simp only [List.take_zero,jq8,jpz,List.drop_replicate,ja]
 apply List.ext_getElem?
 intro j;rw [List.getElem?_append,ja];by_cases q:j < xs.length
 ·rw [if_pos q,jZ q,jZ (by simp [qQ];omega)];have:=hb j;rw [if_pos q] at this;rw [this]
 ·rw [if_neg q,jq5];by_cases q2:j - xs.length < 64 - xs.length
  ·have:=hb j;rw [if_neg q] at this;rw [if_pos q2,jZ (by simp [qQ];omega),this]
  ·rw [if_neg q2,jqa (by rw [ja];simp [qQ];omega)]
set_option maxRecDepth 100000 in
theorem Ya {A:Option Addr}{n c:Nat}{xs:List UInt8}{w:World}(h:Bs w A n c xs) (hn:n<=64):
 Calls jpx 125 #[.slice A n c] w fun e w'=>e= .returned (.agg (cellsOf (qQ xs)).toArray)/\Ext w w':=by
 go_enter Tryz.func125,Tryz.ntmps125
 go_wp2_with fail;refine JZ (cur:=jqn 64 (jpA .u8 0)) rfl (jK _ _ _) (h.ext (((jnQ _).alloc _).alloc _)) hn (by simp;omega) ?_;intro W' h1 h2;have hE:Hid (Ext w W'):=jpn (((jnQ _).alloc _).alloc _) (h2.out w.heap.size (by omega));have h0:Hid (W'.heap[w.heap.size]? =some (.cells (jqn 64 (jpA .u8 0)).toArray 221 (0,0))):=((h2.out (w.heap.size+1) (jpo _)).block w.heap.size (by omega)).trans (jQ _ _ _);clear h2;rw [je5] at h1;have hlen:(cellsOf (qQ xs)).toArray.size=64:=by simp [ja,Yk (xs:=xs) (by rw [h.len];exact hn)]
 have hone:(cellsOf (qQ xs)).toArray.all (·.oneCell')=true:=ji _;generalize hC:(cellsOf (qQ xs)).toArray=C at h1 hlen hone;replace hC:=Hj hC;go_wp2_with (first
  | refine wl_ rfl 221 rfl (w.heap.size+1) rfl h1.out rfl rfl (by rw [hlen];rfl) ?_
  | refine ws_ rfl 221 rfl w.heap.size C rfl rfl h0.out (by rw [hlen];rfl) (by rw [hlen];rfl) hone ?_)
 (try simp only [jqV,Exit.then]);refine jqW (jqX rfl _ _ w.heap.size 221 C (0,0) _ rfl (jqc W' _ _ _ _ _ h0.out) rfl rfl (by rw [hlen];rfl)) rfl ?_;exact ⟨by rw [hC.out],jqb hE.out (jpo _) _⟩
def zA (xs:List UInt8) (i:Nat):Nat:=vF ((xs.drop (4*i)).take 4)
theorem J0 (xs:List UInt8) (i:Nat):zA xs i < 4294967296:=by
 have h:=Yd ((xs.drop (4*i)).take 4);have hl:((xs.drop (4*i)).take 4).length<=4:=by simp;omega
 exact jpq h (jp0 (Nat.pow_le_pow_right (by omega) hl) (by decide))
def qZ (xs:List UInt8) (n:Nat):List Nat:=(jp1 n).map (zA xs)
theorem jkG {w:World}{g k:Nat}(hk:k < 16):(Instr.sliceAt 221 (.pointer (some ⟨g,0,none⟩)) (some (.int .i64 (4*(k:Int)))) (some (.int .i64 (4*(k:Int)+4))) none).run jpx w= .ok (.slice (some ⟨g,4*k,none⟩) 4 (64 - 4*k)) w:=by
 have hn:Tryz.prog.arrayLen 221=64:=rfl;rw [run_sliceAt_array_lh w 221 _ rfl .i64 .i64 _ _ (by omega) (by omega) (by rw [hn];omega)];have hs:(sizeOf (Tryz.prog.elem 221)).run jpx w= .ok 1 w:=rfl;rw [hs];have h1:(4*(k:Int)).toNat=4*k:=by omega
 have h2:(4*(k:Int)+4).toNat=4*k+4:=by omega
 have h3:(⟨g,0,none⟩:Addr).add (4*k*1)=⟨g,4*k,none⟩:=by unfold Addr.add;split <;> simp_all
 show Result.ok (slicedAt _ _ _ _ _) w=_
 rw [hn,h1,h2];unfold slicedAt;rw [if_neg (by omega),h3,show 4*k+4 - 4*k=4 by omega]
theorem jgT {vs:List Nat}{xs:List UInt8}{n:Nat}(hl:vs.length=n) (h:∀ j,j < n->wd vs j=zA xs j):qZ xs n=vs:=by
 refine jp8 (by simp [qZ,hl]) fun j h1 h2=> ?_
 have:=h j (by omega);unfold wd at this;simp only [qZ,List.getElem_map,List.getElem_range];rw [<-this];simp [jpr,h2]
set_option maxRecDepth 100000 in
theorem jbp {xs:List UInt8}{w:World}(h:xs.length=64):
 Calls jpx 152 #[.agg (cellsOf xs).toArray] w fun e w'=>e= .returned (.agg (jb (qZ xs 16)).toArray)/\Ext w w':=by
 go_enter Tryz.func152,Tryz.ntmps152
 go_wp2_with fail;go_loopw [5] (fun i wr=>∃ (k:Nat) (vs:List Nat),k<=16/\i= .int .i64 k/\vs.length=16/\(∀ j,j < k->wd vs j=zA xs j)/\Ext w wr/\wr.heap[w.heap.size]? =some (.cells (cellsOf xs).toArray 221 (0,0))/\Wr wr (w.heap.size+1) 246 (jqn 16 0)/\Wr wr (w.heap.size+1+1) 246 vs) (fun i _=>16 - (intOf i).toNat)
 case atStart=>
  exact ⟨0,jqn 16 0,jpp _,rfl,rfl,fun j hj=>absurd hj (by omega),(((jnQ _).alloc _).alloc _).alloc _,jF _ _ _ _,jH _ _ _ _,jB _ _ _ _⟩
 case round=>
  obtain ⟨k,vs,hk,rfl,hl,hv,he,h0,h1,h2⟩:=hrel;by_cases hlt:k < 16
  ·have g3:=h2.cell (i:=k) (by omega);have g4:=h2.frozen k;have hsl:(Instr.sliceAt 221 (.pointer (some ⟨w.heap.size,0,none⟩)) (some (.int .i64 (4*(k:Int)))) (some (.int .i64 (4*(k:Int)+4))) none).run jpx wr= .ok (.slice (some ⟨w.heap.size,4*k,none⟩) 4 (64 - 4*k)) wr:=jkG hlt;have HC:=Hj (ZF (m:=4) (Bs.part h0 (o:=4*k) (n:=4) (c:=64 - 4*k) (by omega) (by omega) (by omega)) (by omega) (by omega) (by decide));have hcv:IntKind.u32.wrap (vF (((xs.drop (4*k)).take 4).take 4):Int)=(zA xs k:Int):=by
    rw [List.take_take,jp6];have:=J0 xs k
    show (zA xs k:Int) % 4294967296=_
    omega
   go_wp2_with fail;refine HC.out.mono ?_;rintro e w1 ⟨rfl,rfl⟩;go_wp2_with fail;refine ⟨⟨k+1,vs.set k (zA xs k),by omega,by go_num,by rw [jp5];exact hl,fun j hj=> ?_,he.setCell (by show w.heap.size<=w.heap.size+1+1;omega) _,?_,?_,h2.set⟩,by simp [intOf];omega⟩
   ·rw [j8 (by omega)];by_cases q:j=k
    ·rw [if_pos q,q]
    ·rw [if_neg q];exact hv j (by omega)
   ·exact (jp7 _ _ _ _ (by show w.heap.size≠w.heap.size+1+1;omega)).trans h0
   ·exact (jp7 _ _ _ _ (by show w.heap.size+1≠w.heap.size+1+1;omega)).trans h1
  ·obtain rfl:k=16:=by omega
   have hvs:=Hj (jgT hl hv);have HL:=jf hl;have hone:=jo vs;unfold Wr at h1 h2;generalize hC:(jb vs).toArray=C at h2 HL hone;replace h1:=Hj h1;replace h2:=Hj h2;go_wp2_with (first
    | refine wl_ rfl 246 rfl (w.heap.size+1+1) rfl h2.out rfl rfl (by rw [HL];rfl) ?_
    | refine ws_ rfl 246 rfl (w.heap.size+1) C rfl rfl h1.out (by rw [HL];rfl) (by rw [HL];rfl) hone ?_)
   (try simp only [jqV,Exit.then]);refine jqW (jqX rfl _ _ (w.heap.size+1) 246 C (0,0) _ rfl (jqc _ _ _ _ _ _ h1.out) rfl rfl (by rw [HL];rfl)) rfl ?_;exact ⟨by rw [hvs.out,hC],jqb he (by omega) _⟩
def jdv:List (List Nat):= [
 [0,1,2,3,4,5,6,7,8,9,10,11,12,13,14,15],
 [14,10,4,8,9,15,13,6,1,12,0,2,11,7,5,3],
 [11,8,12,0,5,2,15,13,10,14,3,6,7,1,9,4],
 [7,9,3,1,13,12,11,14,2,6,5,10,4,0,15,8],
 [9,0,5,7,2,4,10,15,14,1,11,12,6,8,3,13],
 [2,12,6,10,0,11,8,3,4,13,7,5,15,14,1,9],
 [12,5,1,15,14,13,4,10,0,7,6,3,9,2,8,11],
 [13,11,7,14,12,1,3,9,5,0,15,4,8,6,2,10],
 [6,15,14,9,11,3,0,8,12,2,13,7,1,4,10,5],
 [10,2,8,4,7,6,1,5,15,11,9,14,3,12,13,0]]
def zM:Array Value:=((jdv.flatten).map fun x:Nat=>jpA .u8 (x:Int)).toArray
set_option maxRecDepth 100000 in
theorem jeO {w:World}:
 Calls jpx 153 #[] w fun e w'=>e= .returned (.agg zM)/\Ext w w':=by
 have hz:∀ w,(jpI 249).run jpx w= .ok (.agg (jpW 160 (.int .u8 0))) w:=fun _=>by kernel_rfl
 have hg:=Hj (jqq w (jqY (jpW 160 (.int .u8 0)) 249));have he:Hid (Ext w (w.alloc (jqY (jpW 160 (.int .u8 0)) 249))):=(jnQ _).alloc _;have hZ:(jpW 160 (jpA .u8 0)).size=160:=by simp
 have hp:zM.size=160:=by kernel_rfl
 have hone:zM.all (·.oneCell')=true:=by kernel_rfl
 generalize jpW 160 (jpA .u8 0)=Z at hz hg he hZ;go_enter Tryz.func153,Tryz.ntmps153
 go_wp2_with (refine wpList_build rfl _ _ rfl (by kernel_rfl) ?_)
 rename_i hyp
 clear hyp;generalize hB:Option.getD (Program.built jpx 249 _) #[]=B;have hBp:B=zM:=hB.symm.trans (by kernel_rfl);clear hB;subst hBp;have hst:=run_storeCells_from (P:=jpx) w.heap.size 249 zM.toList 0 Z _ hg.out (by rw [Array.length_toList,hp,hZ]) (fun v hv=>(jpV.1 hone) v (by simpa using hv));rw [hst];simp only [List.take_zero,jq8,Array.toArray_toList];iterate 10 (generalize Option.getD (Program.built jpx 248 _) #[]=B)
 go_wp2_with fail;(try simp only [jqV,Exit.then]);refine jqW (jqX rfl _ _ w.heap.size 249 zM (0,0) _ rfl (jqc _ _ _ _ _ _ hg.out) rfl rfl (by rw [hp];rfl)) rfl ?_;exact ⟨rfl,jqb he.out (jpo _) _⟩
def qJ:List Nat:= [0x6a09e667,0xbb67ae85,0x3c6ef372,0xa54ff53a,0x510e527f,0x9b05688c,0x1f83d9ab,0x5be0cd19]
def Gl (w:World) (tg:jpC×Nat×Nat):Prop:=w.heap[0]? =some (.cells (jb qJ).toArray tg.1 tg.2)
section
variable {w w':World}{tg:jpC×Nat×Nat}
theorem Gl.lt (h:Gl w tg):0 < w.heap.size:=by
 rcases jpu 0 w.heap.size with h1 | h1
 ·exact h1
 ·unfold Gl at h;rw [jpv h1] at h;cases h
theorem Gl.cell (h:Gl w tg){i:Nat}(hi:i < qJ.length):w.cell? ⟨0,i,none⟩=some (.int .u32 (wd qJ i:Int)):=by
 rw [jqe w 0 i _ tg.1 tg.2 h];simp [jb,wd,jpr,hi]
theorem Gl.kept {B:Nat}(h:Gl w tg) (he:Below B w w') (hB:0 < B):Gl w' tg:=(he.block 0 hB).trans h
theorem Gl.ext (h:Gl w tg) (he:Ext w w'):Gl w' tg:=h.kept he h.lt
end
theorem jce (w:World) (o1 o2 o3 o4:Obj):((((w.alloc o1).alloc o2).alloc o3).alloc o4).heap[w.heap.size]? =some o1:=by
 rw [jqg _ _ _ (by rw [je,je,je];omega)];exact jF w o1 o2 o3
theorem jcf (w:World) (o1 o2 o3 o4:Obj):((((w.alloc o1).alloc o2).alloc o3).alloc o4).heap[w.heap.size+1+1]? =some o3:=by
 rw [jqg _ _ _ (by rw [je,je,je];omega)];exact jB w o1 o2 o3
theorem jcg (w:World) (o1 o2 o3 o4:Obj):((((w.alloc o1).alloc o2).alloc o3).alloc o4).heap[w.heap.size+1+1+1]? =some o4:=by
 have:=jB (w.alloc o1) o2 o3 o4
 rwa [je] at this
def Cw (w wr:World) (hs:List Nat) (xs:List UInt8) (vs:List Nat):Prop:=
 Ext w wr/\Wr wr w.heap.size 218 hs/\wr.heap[w.heap.size+1]? =some (.cells (cellsOf xs).toArray 221 (0,0))/\Wr wr (w.heap.size+1+1) 218 (jqn 8 0)/\Wr wr (w.heap.size+1+1+1) 246 vs
theorem Cw.blk {w wr:World}{hs:List Nat}{xs:List UInt8}{vs:List Nat}(h:Cw w wr hs xs vs):wr.heap[w.heap.size+1]? =some (.cells (cellsOf xs).toArray 221 (0,0)):=h.2.2.1
theorem Cw.setV {w wr:World}{hs:List Nat}{xs:List UInt8}{vs:List Nat}(h:Cw w wr hs xs vs) (k x:Nat):Cw w (wr.setCell ⟨w.heap.size+1+1+1,k,none⟩ (.int .u32 (x:Int))) hs xs (vs.set k x):=by
 obtain ⟨e,a,b,c,d⟩:=h;have hb:Below (w.heap.size+1+1+1) wr (wr.setCell ⟨w.heap.size+1+1+1,k,none⟩ (.int .u32 (x:Int))):=Below.setCell (p:=⟨w.heap.size+1+1+1,k,none⟩) (jpm (w.heap.size+1+1+1) wr) (jpo _) _;exact ⟨jpn e (hb.mono (by omega)),a.kept hb (by omega),(hb.block _ (by omega)).trans b,c.kept hb (by omega),d.set⟩
theorem Cw.ext {w wr wr':World}{hs:List Nat}{xs:List UInt8}{vs:List Nat}(h:Cw w wr hs xs vs) (e:Ext wr wr'):Cw w wr' hs xs vs:=by
 obtain ⟨e0,a,b,c,d⟩:=h;have hlt:w.heap.size+1 < wr.heap.size:=Nat.lt_trans (Nat.lt_succ_self _) c.lt;exact ⟨e0.trans e,a.kept e a.lt,(e.block _ hlt).trans b,c.kept e c.lt,d.kept e d.lt⟩
theorem jgU {hs is vs:List Nat}(h:vs.length=hs.length+is.length) (h1:∀ j,j < hs.length->wd vs j=wd hs j) (h2:∀ j,j < is.length->wd vs (hs.length+j)=wd is j):vs=hs++is:=by
 refine jp8 (by simp [h]) fun j p q=> ?_
 by_cases hj:j < hs.length
 ·have:=h1 j hj;simp only [wd,jpr,jq9 p,jq9 hj,Option.getD_some] at this;rw [List.getElem_append_left hj,this]
 ·have h3:j - hs.length < is.length:=by omega
  have:=h2 (j - hs.length) h3;rw [show hs.length+(j - hs.length)=j by omega] at this;simp only [wd,jpr,jq9 p,jq9 h3,Option.getD_some] at this;rw [List.getElem_append_right (by omega),this]
def vY (hs:List Nat) (t:Nat) (last:Bool):List Nat:=
 let v0:=hs++qJ
 let v1:=v0.set 12 (wd v0 12^^^t % 4294967296)
 let v2:=v1.set 13 (wd v0 13^^^t / 4294967296)
 bif last then v2.set 14 (4294967295^^^wd v0 14) else v2
def pm (k j:Nat):Nat:=(jdv.getD k []).getD j 0
def jbm (ms:List Nat) (vs:List Nat) (k:Nat):List Nat:=
 let x:=fun j=>wd ms (pm k j)
 q9 (q9 (q9 (q9 (q9 (q9 (q9 (q9 vs 0 4 8 12 (x 0) (x 1)) 1 5 9 13 (x 2) (x 3)) 2 6 10 14 (x 4) (x 5)) 3 7 11 15 (x 6) (x 7)) 0 5 10 15 (x 8) (x 9)) 1 6 11 12 (x 10) (x 11)) 2 7 8 13 (x 12) (x 13)) 3 4 9 14 (x 14) (x 15)
def vG (ms:List Nat) (vs:List Nat) (k:Nat):List Nat:=(jp1 k).foldl (jbm ms) vs
theorem Yc (ms vs:List Nat) (k:Nat):vG ms vs (k+1)=jbm ms (vG ms vs k) k:=by
 simp [vG,List.range_succ]
def ZW (hs vs:List Nat):List Nat:=(jp1 8).map fun j=>wd hs j^^^(wd vs j^^^wd vs (j+8))
theorem jhn {hs ys V:List Nat}(hl:ys.length=8) (h:∀ j,j < 8->wd ys j=wd hs j^^^(wd V j^^^wd V (j+8))):ZW hs V=ys:=by
 refine jp8 (by simp [ZW,hl]) fun j h1 h2=> ?_
 have:=h j (by omega);simp only [ZW,List.getElem_map,List.getElem_range];rw [<-this];simp [wd,jpr,h2]
def vp (hs:List Nat) (xs:List UInt8) (t:Nat) (last:Bool):List Nat:=ZW hs (vG (qZ xs 16) (vY hs t last) 10)
theorem yh (hs:List Nat) (xs:List UInt8) (t:Nat) (last:Bool):(vp hs xs t last).length=8:=by simp [vp,ZW]
theorem jaT {hs:List Nat}{t:Nat}{last:Bool}(h:hs.length=8):(vY hs t last).length=16:=by
 unfold vY;cases last <;> simp [h,qJ]
theorem jA (k j:Nat):pm k j < 16:=by
 by_cases hk:k < 10
 ·by_cases hj:j < 16
  ·have:∀ k,k < 10->∀ j,j < 16->pm k j < 16:=by decide
   exact this k hk j hj
  ·unfold pm;have:∀ k,k < 10->(jdv.getD k []).length=16:=by decide
   have h:=this k hk;rw [jra,jqa (by omega)];decide
 ·unfold pm;rw [show jdv.getD k []= [] by rw [jra,jqa (by simp [jdv];omega)];rfl];simp
theorem jit (ms vs:List Nat) (k:Nat):(jbm ms vs k).length=vs.length:=by simp [jbm,vD]
theorem jg2 {ms v0:List Nat}(h:v0.length=16):∀ k,(vG ms v0 k).length=16
 | 0=>h
 | k+1=>by rw [Yc,jit];exact jg2 h k
def Jz (k:Nat):Array Value:=((jp1 16).map fun j=>jpA .u8 (pm k j:Int)).toArray
theorem jgE (k:Nat):(Jz k).size=16:=by simp [Jz]
theorem jis (k:Nat):(Jz k).all (·.oneCell')=true:=by
 rw [jpV];intro v hv;obtain ⟨j,_,rfl⟩:=jpN.1 (List.mem_toArray.1 hv)
 rfl
theorem jjl (w:World):(jqh 249 (.agg zM) (.int .i64 ((0:Nat):Int))).run jpx w= .ok (.agg (Jz 0)) w:=by kernel_rfl
theorem jjm (w:World):(jqh 249 (.agg zM) (.int .i64 ((1:Nat):Int))).run jpx w= .ok (.agg (Jz 1)) w:=by kernel_rfl
theorem jjn (w:World):(jqh 249 (.agg zM) (.int .i64 ((2:Nat):Int))).run jpx w= .ok (.agg (Jz 2)) w:=by kernel_rfl
theorem jjo (w:World):(jqh 249 (.agg zM) (.int .i64 ((3:Nat):Int))).run jpx w= .ok (.agg (Jz 3)) w:=by kernel_rfl
theorem jjp (w:World):(jqh 249 (.agg zM) (.int .i64 ((4:Nat):Int))).run jpx w= .ok (.agg (Jz 4)) w:=by kernel_rfl
theorem jjq (w:World):(jqh 249 (.agg zM) (.int .i64 ((5:Nat):Int))).run jpx w= .ok (.agg (Jz 5)) w:=by kernel_rfl
theorem jjr (w:World):(jqh 249 (.agg zM) (.int .i64 ((6:Nat):Int))).run jpx w= .ok (.agg (Jz 6)) w:=by kernel_rfl
theorem jjs (w:World):(jqh 249 (.agg zM) (.int .i64 ((7:Nat):Int))).run jpx w= .ok (.agg (Jz 7)) w:=by kernel_rfl
theorem jjt (w:World):(jqh 249 (.agg zM) (.int .i64 ((8:Nat):Int))).run jpx w= .ok (.agg (Jz 8)) w:=by kernel_rfl
theorem jju (w:World):(jqh 249 (.agg zM) (.int .i64 ((9:Nat):Int))).run jpx w= .ok (.agg (Jz 9)) w:=by kernel_rfl
theorem jeP {k:Nat}(hk:k < 10) (w:World):(jqh 249 (.agg zM) (.int .i64 (k:Int))).run jpx w= .ok (.agg (Jz k)) w:=by
 have h:k=0\/k=1\/k=2\/k=3\/k=4\/k=5\/k=6\/k=7\/k=8\/k=9:=by omega
 rcases h with rfl | rfl | rfl | rfl | rfl | rfl | rfl | rfl | rfl | rfl
 ·exact jjl w
 ·exact jjm w
 ·exact jjn w
 ·exact jjo w
 ·exact jjp w
 ·exact jjq w
 ·exact jjr w
 ·exact jjs w
 ·exact jjt w
 ·exact jju w
def Sr (w:World) (gs k:Nat):Prop:=w.heap[gs]? =some (.cells (Jz k) 248 (0,0))
theorem Sr.cell {w:World}{gs k j:Nat}(h:Sr w gs k) (hj:j < 16):w.cell? ⟨gs,j,none⟩=some (.int .u8 (pm k j:Int)):=by
 rw [jqe w gs j _ 248 (0,0) h];simp [Jz,hj]
theorem Sr.grow {w w':World}{gs k g:Nat}(h:Sr w gs k) (e:w.grownBy w' (some g)) (hg:gs≠g):Sr w' gs k:=
 (e.block gs (jh h) (fun q=>by injection q with q;exact hg q)).trans h
def Rv (w wr:World) (hs:List Nat) (gm:Nat) (ms vs:List Nat):Prop:=
 Ext w wr/\Wr wr w.heap.size 218 hs/\Wr wr (w.heap.size+1+1) 218 (jqn 8 0)/\Arr wr (w.heap.size+1+1+1) vs/\Wr wr gm 246 ms/\w.heap.size+1+1+1 < gm
section
variable {w wr wr':World}{hs ms vs vs':List Nat}{gm:Nat}
theorem Rv.arr (h:Rv w wr hs gm ms vs):Arr wr (w.heap.size+1+1+1) vs:=h.2.2.2.1
theorem Rv.ext (h:Rv w wr hs gm ms vs) (e:Ext wr wr'):Rv w wr' hs gm ms vs:=by
 obtain ⟨e0,h1,h2,h3,h4,h5⟩:=h;exact ⟨e0.trans e,h1.kept e h1.lt,h2.kept e h2.lt,h3.ext e,h4.kept e h4.lt,h5⟩
theorem Rv.setH (h:Rv w wr hs gm ms vs) (k x:Nat):Rv w (wr.setCell ⟨w.heap.size,k,none⟩ (.int .u32 (x:Int))) (hs.set k x) gm ms vs:=by
 obtain ⟨e0,h1,h2,h3,h4,h5⟩:=h;have bl:∀ i,i≠w.heap.size->(wr.setCell ⟨w.heap.size,k,none⟩ (.int .u32 (x:Int))).heap[i]? =wr.heap[i]? :=fun i hi=>jp7 _ _ _ _ hi
 refine ⟨e0.setCell (jpo _) _,h1.set,(bl _ (by omega)).trans h2,⟨by simpa [World.setCell] using h3.1,fun i hi=> ?_⟩,(bl _ (by omega)).trans h4,h5⟩;obtain ⟨a,b,c⟩:=h3.2 i hi;refine ⟨?_,?_,c⟩
 ·rw [World.cell?_setCell_other _ _ _ _ (fun q=>by injection q with q1 _ _;omega)];exact a
 ·rw [Jo];exact b
theorem Rv.mcell (h:Rv w wr hs gm ms vs){i:Nat}(hi:i < 16) (hm:ms.length=16):wr.cell? ⟨gm,i,none⟩=some (.int .u32 (wd ms i:Int)):=h.2.2.2.2.1.cell (by omega)
theorem Rv.mgrow (h:Rv w wr hs gm ms vs) (e:wr.grownBy wr' (some (w.heap.size+1+1+1))):Wr wr' gm 246 ms:=(e.block gm h.2.2.2.2.1.lt (fun q=>by injection q with q;have:=h.2.2.2.2.2;omega)).trans h.2.2.2.2.1
theorem Rv.grow (h:Rv w wr hs gm ms vs) (e:wr.grownBy wr' (some (w.heap.size+1+1+1))) (a:Arr wr' (w.heap.size+1+1+1) vs'):Rv w wr' hs gm ms vs':=by
 obtain ⟨e0,h1,h2,h3,h4,h5⟩:=h;have bl:∀ i o,wr.heap[i]? =some o->i≠w.heap.size+1+1+1->wr'.heap[i]? =some o:=fun i o hi hne=>(e.block i (jh hi) (fun q=>by injection q with q;exact hne q)).trans hi
 refine ⟨jpn e0 ⟨e.os,e.tape,e.output,e.size,fun i hi=>e.block i (jpq hi e0.size) (fun q=>by injection q with q;omega)⟩,bl _ _ h1 (by omega),bl _ _ h2 (by omega),a,bl _ _ h4 (by omega),h5⟩
end
set_option maxRecDepth 100000 in
theorem Qm {hs:List Nat}{xs:List UInt8}{t:Nat}{last:Bool}{w:World}(hl:hs.length=8) (hx:xs.length=64) (ht:t < 18446744073709551616) (hb:∀ j,j < 8->wd hs j < 4294967296){tg:jpC×Nat×Nat}(hG:Gl w tg):
 Calls jpx 124 #[.agg (jb hs).toArray, .agg (cellsOf xs).toArray, .int .u64 (t:Int), .bool last] w fun e w'=>e= .returned (.agg (jb (vp hs xs t last)).toArray)/\Ext w w':=by
 go_enter Tryz.func124,Tryz.ntmps124
 go_wp2_with fail;refine jg (fun wr=>Cw w wr hs xs (jqn 16 0)) ⟨((((jnQ _).alloc _).alloc _).alloc _).alloc _,jce _ _ _ _ _,(jqg _ _ _ (by rw [je,je,je];omega)).trans (jH _ _ _ _),jcf _ _ _ _ _,jcg _ _ _ _ _⟩ ?_;rintro w0 ⟨e0,a0,b0,c0,d0⟩;have HG:=Hj (fun (wr:World) (e:Ext w wr)=>hG.kept e hG.lt);clear hG;obtain ⟨B,hB⟩:=ex_ (w.heap.size+1+1+1);have HD:=Hj d0;have HA:=Hj a0;clear d0 a0;refine qgB B [0,1,2] [2] ?_;repeat ((first | refine qR0 ?_ | refine qS ?_);go_frame)
 refine qD fun K hK=> ?_
 go_simp;refine jfh (us:=jqn 16 0) (vs:=hs) rfl (HD.out.kept (jpm _ _).drew (Nat.lt_succ_self _)) (HA.out.kept (jpm _ _).drew (Nat.lt_succ_self _)) hl (by omega) (by simp) ?_;intro W1 h3 h4;go_simp;refine hK.out _ _ (h4.out B (by omega)) ?_;clear hK K;refine jp ?_;have e2:Below B w0 W1:=jpn ((jpm B w0).drew) (h4.out B (by omega));clear h4;go_wp2_with fail;go_loopw [18] (fun i wr=>∃ (k:Nat) (vs:List Nat),k<=8/\i= .int .i64 k/\vs.length=16/\(∀ j,j < 8->wd vs j=wd hs j)/\(∀ j,j < k->wd vs (8+j)=wd qJ j)/\Cw w wr hs xs vs) (fun i _=>8 - (intOf i).toNat)
 case atStart=>
  refine ⟨0,jp9 (jqn 16 0) 0 hs,jpp _,rfl,by simp [jp9];omega,fun j hj=> ?_,fun j hj=>absurd hj (by omega),jpn e0 (e2.mono (by omega)),HA.out.kept e2 (by omega),(e2.block _ (by omega)).trans b0,c0.kept e2 (by omega),h3.out⟩;simp [wd,jp9,jpr,List.getElem?_append,show j < hs.length by omega]
 case round=>
  obtain ⟨k,vs,hk,rfl,hvl,hv1,hv2,e3,a3,b3,c3,d3⟩:=hrel;clear HD HA h3 e2 b0 c0 e0;by_cases hlt:k < 8
  ·have gg:=(HG.out _ e3).cell (i:=k) hlt;have gv:=d3.cell (i:=8+k) (by omega);have gf:=d3.frozen (8+k);have ik:(k:Int) < 8:=by omega
   have jk:(8:Int)+(k:Int) < 16:=by omega
   go_wp2_with fail;refine ⟨⟨k+1,vs.set (8+k) (wd qJ k),by omega,by go_num,by rw [jp5];exact hvl,fun j hj=> ?_,fun j hj=> ?_,Cw.setV ⟨e3,a3,b3,c3,d3⟩ _ _⟩,by simp [intOf];omega⟩
   ·rw [j8 (by omega),if_neg (by omega)];exact hv1 j hj
   ·rw [j8 (by omega)];by_cases q:j=k
    ·rw [if_pos (by omega),q]
    ·rw [if_neg (by omega)];exact hv2 j (by omega)
  ·obtain rfl:k=8:=by omega
   rw [show ((8:Nat):Int)=8 from rfl];have hvs:=Hj (jgU (hs:=hs) (is:=qJ) (vs:=vs) (by rw [hvl,hl];rfl) (fun j hj=>hv1 j (by omega)) (fun j hj=>by rw [hl];exact hv2 j hj));have l12:wd vs 12 < 4294967296:=by rw [hv2 4 (by omega)];decide
   have l13:wd vs 13 < 4294967296:=by rw [hv2 5 (by omega)];decide
   have l14:wd vs 14 < 4294967296:=by rw [hv2 6 (by omega)];decide
   have x12:bits .xor .u32 (wd vs 12:Int) ((t:Int) % 4294967296)=((wd vs 12^^^t % 4294967296:Nat):Int):=by
    rw [show (t:Int) % 4294967296=((t % 4294967296:Nat):Int) by omega];exact jq7 _ _ l12 (jp3 _ (by decide))
   have x13:bits .xor .u32 (wd vs 13:Int) ((t:Int) / 4294967296)=((wd vs 13^^^t / 4294967296:Nat):Int):=by
    rw [show (t:Int) / 4294967296=((t / 4294967296:Nat):Int) by omega];exact jq7 _ _ l13 (by omega)
   have x14:bits .xor .u32 IntKind.u32.max (wd vs 14:Int)=((4294967295^^^wd vs 14:Nat):Int):=jq7 4294967295 _ (by decide) l14;have CW:Cw w wr hs xs vs:=⟨e3,a3,b3,c3,d3⟩;have hvb:Hid (∀ j,j < 16->wd vs j < 4294967296):=fun j hj=>by
    by_cases q:j < 8
    ·rw [hv1 j q];exact hb j q
    ·have h9:=hv2 (j - 8) (by omega);rw [show 8+(j - 8)=j by omega] at h9;rw [h9];have:∀ j,j < 8->wd qJ j < 4294967296:=by decide
     exact this _ (by omega)
   clear hv1 hv2;have c12:=d3.cell (i:=12) (by omega);have c13:=d3.cell (i:=13) (by omega);have c14:=d3.cell (i:=14) (by omega);have f12:=d3.frozen 12;have f13:=d3.frozen 13;have f14:=d3.frozen 14;go_upto_if 41 with (fail)
   go_cut [41] (fun _ wx=>∃ v0:List Nat,Cw w wx hs xs v0/\v0=vY hs t last/\∀ j,j < 16->wd v0 j < 4294967296)
   case first=>
    have hS:∀ last,vY hs t last=bif last then ((vs.set 12 (wd vs 12^^^t % 4294967296)).set 13 (wd vs 13^^^t / 4294967296)).set 14 (4294967295^^^wd vs 14) else (vs.set 12 (wd vs 12^^^t % 4294967296)).set 13 (wd vs 13^^^t / 4294967296):=fun last=>by rw [hvs.out];rfl
    replace hS:=Hj hS;have hbd:Hid (∀ last,∀ j,j < 16->wd (vY hs t last) j < 4294967296):=fun last j hj=>by
     have b12:wd vs 12^^^t % 4294967296 < 4294967296:=jL l12 (jp3 _ (by decide));have b13:wd vs 13^^^t / 4294967296 < 4294967296:=jL l13 (by omega);have b14:4294967295^^^wd vs 14 < 4294967296:=jL (by decide) l14;have bj:=hvb.out j hj;rw [hS.out]
     cases last
     ·simp only [cond_false];rw [j8 (by simp;omega),j8 (by omega)]
      split
      ·exact b13
      ·split <;> assumption
     ·simp only [cond_true];rw [j8 (by simp;omega),j8 (by simp;omega),j8 (by omega)]
      split
      ·exact b14
      ·split
       ·exact b13
       ·split <;> assumption
    cases last
    ·go_wp2_with fail;go_meet
     exact ⟨_,(CW.setV 12 _).setV 13 _,(hS.out false).symm,by have:=hbd.out false;rw [hS.out false] at this;exact this⟩
    ·go_wp2_with fail;go_meet
     exact ⟨_,((CW.setV 12 _).setV 13 _).setV 14 _,(hS.out true).symm,by have:=hbd.out true;rw [hS.out true] at this;exact this⟩
   case rest=>
    obtain ⟨v0,CW0,hv0,hv0b⟩:=hcut;replace hv0:=Hj hv0;have HS:(cellsOf xs).toArray.size=64:=by simp [ja,hx]
    have v0l:v0.length=16:=by rw [hv0.out];exact jaT hl
    clear c12 c13 c14 f12 f13 f14 x12 x13 x14 CW l12 l13 l14 hvb hvs e3 a3 b3 c3 d3 hvl;go_wp2_with (refine wl_ rfl 221 rfl (w.heap.size+1) rfl (by with_reducible exact CW0.blk) rfl rfl (by rw [HS];rfl) ?_)
    refine (jbp hx).mono ?_;rintro e w1 ⟨rfl,e1⟩;have CW1:=CW0.ext e1;have HM:(qZ xs 16).length=16:=by simp [qZ]
    have HMb:Hid (∀ j,j < 16->wd (qZ xs 16) j < 4294967296):=fun j hj=>by
     have:wd (qZ xs 16) j=zA xs j:=by simp [wd,qZ,jpr,hj]
     rw [this];exact J0 _ _
    generalize hM:qZ xs 16=ms at HM HMb ⊢;replace hM:=Hj hM;have HMs:=jf HM;replace HM:=Hj HM;go_wp2_with (refine ws_ rfl 246 rfl w1.heap.size (jb ms).toArray rfl rfl (by with_reducible exact jqq _ _) (by rw [HMs];rfl) (by rw [HMs];rfl) (jo ms) ?_)
    refine jeO.mono ?_;rintro e w2 ⟨rfl,e2⟩;have CW2:=CW1.ext (Ext.trans (jqb ((jnQ w1).alloc _) (jpo w1.heap.size) (jb ms).toArray) e2);have WM:Wr w2 w1.heap.size 246 ms:=Wr.kept (jqc _ _ _ _ _ _ (jqq _ _)) e2 (by simp [World.setRow,je]);have RV0:Rv w w2 hs w1.heap.size ms v0:=⟨CW2.1,CW2.2.1,CW2.2.2.2.1,CW2.2.2.2.2.arr (fun i hi=>hv0b i (by omega)),WM,CW1.2.2.2.2.lt⟩;clear e2 e1 CW2 WM CW1 CW0 HS;replace hv0b:=Hj hv0b;replace RV0:=Hj RV0;obtain ⟨gm,hgm⟩:=ex_ w1.heap.size;rw [<-hgm] at RV0;replace hgm:=Hj hgm;go_wp2_with fail;rw [<-hgm.out];go_loopw [49] (fun i wr=>∃ k:Nat,k<=10/\i= .int .i64 k/\Rv w wr hs gm ms (vG ms v0 k)) (fun i _=>10 - (intOf i).toNat)
    case atStart=>exact ⟨0,jpp _,rfl,RV0.out⟩
    case round=>
     obtain ⟨k,hk,rfl,RV⟩:=hrel;have VL:(vG ms v0 k).length=16:=jg2 v0l k;by_cases hlt:k < 10
     ·have hix:=jeP hlt;have HR:=jgE k;have HRo:=jis k;have HSUC:=Hj (Yc ms v0 k);generalize hvk:vG ms v0 k=vk at RV VL HSUC;clear hvk;replace RV:=Hj RV;generalize hRC:Jz k=C at hix HR HRo;replace hRC:=Hj hRC;go_wp2_with (refine ws_ rfl 248 rfl wr.heap.size C rfl rfl (by with_reducible exact jqq _ _) (by rw [HR];rfl) (by rw [HR];rfl) HRo ?_)
      obtain ⟨gs,hgs0⟩:=ex_ wr.heap.size;have hgs:gs≠w.heap.size+1+1+1:=by
       have:=RV.out.2.2.2.2.1.lt;have:=RV.out.2.2.2.2.2;omega
      rw [<-hgs0];refine jg (fun W'=>Rv w W' hs gm ms vk/\Sr W' gs k) ⟨RV.out.ext (jqb ((jnQ wr).alloc _) (by omega) C),?_⟩ ?_
      ·have h9:=jqc (wr.alloc (jqY (jpW 16 (jpA .u8 0)) 248)) wr.heap.size _ C 248 _ (jqq _ _);rw [<-hgs0,<-hRC.out] at h9;rw [<-hRC.out];exact h9
      clear RV hRC hgs0 hix HR HRo;rintro W ⟨RV,SR⟩;replace hgs:=Hj hgs;have CP:=SR.cell (j:=0) (by omega);have CQ:=SR.cell (j:=1) (by omega);have CM:=RV.mcell (jA k 0) HM.out;have CN:=RV.mcell (jA k 1) HM.out;have lp:(pm k 0:Int) < 16:=by have:=jA k 0;omega
      have lq:(pm k 1:Int) < 16:=by have:=jA k 1;omega
      have KEEP:Hid (∀ w',W.grownBy w' (some (w.heap.size+1+1+1))->w'.cell? ⟨gs,0,none⟩=some (.int .u8 (pm k 0:Int))/\w'.cell? ⟨gs,1,none⟩=some (.int .u8 (pm k 1:Int))/\w'.cell? ⟨gm,pm k 0,none⟩=some (.int .u32 (wd ms (pm k 0):Int))/\w'.cell? ⟨gm,pm k 1,none⟩=some (.int .u32 (wd ms (pm k 1):Int))):=fun w' e=>⟨(SR.grow e hgs.out).cell (by omega),(SR.grow e hgs.out).cell (by omega),(RV.mgrow e).cell (by rw [HM.out];exact jA _ _),(RV.mgrow e).cell (by rw [HM.out];exact jA _ _)⟩
      clear CP CQ CM CN;refine qgW ((w.heap.size+1+1+1)) [0,1,2,3,4,5,6,7,8] [8] ?_;repeat ((first | refine qR _ (fun w' e=>KEEP.out w' (jj (jV (jnQ _).drew _) e)) ?_ | refine qS ?_);go_frame)
      refine qD fun K hK=> ?_
      go_simp;refine (yT (RV.arr.ext (jnQ _).drew) VL (a:=0) (b:=4) (c:=8) (d:=12) (by omega) (by omega) (by omega) (by omega) (HMb.out _ (jA _ _)) (HMb.out _ (jA _ _))).mono ?_;rintro e w2 ⟨rfl,A2,G2⟩;refine hK.out _ _ G2 ?_;clear hK K;try go_frame
      refine jp ?_;go_wp2_with fail;refine jg (fun W'=>Rv w W' hs gm ms (q9 vk 0 4 8 12 (wd ms (pm k 0)) (wd ms (pm k 1)))/\Sr W' gs k) ⟨RV.grow (jj (jV (jnQ _).drew _) G2) A2,SR.grow (jj (jV (jnQ _).drew _) G2) hgs.out⟩ ?_;clear A2 G2 KEEP RV SR;clear W;rintro W ⟨RV,SR⟩;have VL':=(vD vk 0 4 8 12 (wd ms (pm k 0)) (wd ms (pm k 1))).trans VL;clear VL;generalize HV0:q9 vk 0 4 8 12 (wd ms (pm k 0)) (wd ms (pm k 1))=u0 at RV VL';replace HV0:=Hj HV0;have VL:=VL';clear VL' lp lq;have CP:=SR.cell (j:=2) (by omega);have CQ:=SR.cell (j:=3) (by omega);have CM:=RV.mcell (jA k 2) HM.out;have CN:=RV.mcell (jA k 3) HM.out;have lp:(pm k 2:Int) < 16:=by have:=jA k 2;omega
      have lq:(pm k 3:Int) < 16:=by have:=jA k 3;omega
      have KEEP:Hid (∀ w',W.grownBy w' (some (w.heap.size+1+1+1))->w'.cell? ⟨gs,2,none⟩=some (.int .u8 (pm k 2:Int))/\w'.cell? ⟨gs,3,none⟩=some (.int .u8 (pm k 3:Int))/\w'.cell? ⟨gm,pm k 2,none⟩=some (.int .u32 (wd ms (pm k 2):Int))/\w'.cell? ⟨gm,pm k 3,none⟩=some (.int .u32 (wd ms (pm k 3):Int))):=fun w' e=>⟨(SR.grow e hgs.out).cell (by omega),(SR.grow e hgs.out).cell (by omega),(RV.mgrow e).cell (by rw [HM.out];exact jA _ _),(RV.mgrow e).cell (by rw [HM.out];exact jA _ _)⟩
      clear CP CQ CM CN;refine qgW ((w.heap.size+1+1+1)) [0,1,2,3,4,5,6,7,8] [8] ?_;repeat ((first | refine qR _ (fun w' e=>KEEP.out w' (jj (jV (jnQ _).drew _) e)) ?_ | refine qS ?_);go_frame)
      refine qD fun K hK=> ?_
      go_simp;refine (yT (RV.arr.ext (jnQ _).drew) VL (a:=1) (b:=5) (c:=9) (d:=13) (by omega) (by omega) (by omega) (by omega) (HMb.out _ (jA _ _)) (HMb.out _ (jA _ _))).mono ?_;rintro e w2 ⟨rfl,A2,G2⟩;refine hK.out _ _ G2 ?_;clear hK K;try go_frame
      refine jp ?_;go_wp2_with fail;refine jg (fun W'=>Rv w W' hs gm ms (q9 u0 1 5 9 13 (wd ms (pm k 2)) (wd ms (pm k 3)))/\Sr W' gs k) ⟨RV.grow (jj (jV (jnQ _).drew _) G2) A2,SR.grow (jj (jV (jnQ _).drew _) G2) hgs.out⟩ ?_;clear A2 G2 KEEP RV SR;clear W;rintro W ⟨RV,SR⟩;have VL':=(vD u0 1 5 9 13 (wd ms (pm k 2)) (wd ms (pm k 3))).trans VL;clear VL;generalize HV1:q9 u0 1 5 9 13 (wd ms (pm k 2)) (wd ms (pm k 3))=u1 at RV VL';replace HV1:=Hj HV1;have VL:=VL';clear VL' lp lq;have CP:=SR.cell (j:=4) (by omega);have CQ:=SR.cell (j:=5) (by omega);have CM:=RV.mcell (jA k 4) HM.out;have CN:=RV.mcell (jA k 5) HM.out;have lp:(pm k 4:Int) < 16:=by have:=jA k 4;omega
      have lq:(pm k 5:Int) < 16:=by have:=jA k 5;omega
      have KEEP:Hid (∀ w',W.grownBy w' (some (w.heap.size+1+1+1))->w'.cell? ⟨gs,4,none⟩=some (.int .u8 (pm k 4:Int))/\w'.cell? ⟨gs,5,none⟩=some (.int .u8 (pm k 5:Int))/\w'.cell? ⟨gm,pm k 4,none⟩=some (.int .u32 (wd ms (pm k 4):Int))/\w'.cell? ⟨gm,pm k 5,none⟩=some (.int .u32 (wd ms (pm k 5):Int))):=fun w' e=>⟨(SR.grow e hgs.out).cell (by omega),(SR.grow e hgs.out).cell (by omega),(RV.mgrow e).cell (by rw [HM.out];exact jA _ _),(RV.mgrow e).cell (by rw [HM.out];exact jA _ _)⟩
      clear CP CQ CM CN;refine qgW ((w.heap.size+1+1+1)) [0,1,2,3,4,5,6,7,8] [8] ?_;repeat ((first | refine qR _ (fun w' e=>KEEP.out w' (jj (jV (jnQ _).drew _) e)) ?_ | refine qS ?_);go_frame)
      refine qD fun K hK=> ?_
      go_simp;refine (yT (RV.arr.ext (jnQ _).drew) VL (a:=2) (b:=6) (c:=10) (d:=14) (by omega) (by omega) (by omega) (by omega) (HMb.out _ (jA _ _)) (HMb.out _ (jA _ _))).mono ?_;rintro e w2 ⟨rfl,A2,G2⟩;refine hK.out _ _ G2 ?_;clear hK K;try go_frame
      refine jp ?_;go_wp2_with fail;refine jg (fun W'=>Rv w W' hs gm ms (q9 u1 2 6 10 14 (wd ms (pm k 4)) (wd ms (pm k 5)))/\Sr W' gs k) ⟨RV.grow (jj (jV (jnQ _).drew _) G2) A2,SR.grow (jj (jV (jnQ _).drew _) G2) hgs.out⟩ ?_;clear A2 G2 KEEP RV SR;clear W;rintro W ⟨RV,SR⟩;have VL':=(vD u1 2 6 10 14 (wd ms (pm k 4)) (wd ms (pm k 5))).trans VL;clear VL;generalize HV2:q9 u1 2 6 10 14 (wd ms (pm k 4)) (wd ms (pm k 5))=u2 at RV VL';replace HV2:=Hj HV2;have VL:=VL';clear VL' lp lq;have CP:=SR.cell (j:=6) (by omega);have CQ:=SR.cell (j:=7) (by omega);have CM:=RV.mcell (jA k 6) HM.out;have CN:=RV.mcell (jA k 7) HM.out;have lp:(pm k 6:Int) < 16:=by have:=jA k 6;omega
      have lq:(pm k 7:Int) < 16:=by have:=jA k 7;omega
      have KEEP:Hid (∀ w',W.grownBy w' (some (w.heap.size+1+1+1))->w'.cell? ⟨gs,6,none⟩=some (.int .u8 (pm k 6:Int))/\w'.cell? ⟨gs,7,none⟩=some (.int .u8 (pm k 7:Int))/\w'.cell? ⟨gm,pm k 6,none⟩=some (.int .u32 (wd ms (pm k 6):Int))/\w'.cell? ⟨gm,pm k 7,none⟩=some (.int .u32 (wd ms (pm k 7):Int))):=fun w' e=>⟨(SR.grow e hgs.out).cell (by omega),(SR.grow e hgs.out).cell (by omega),(RV.mgrow e).cell (by rw [HM.out];exact jA _ _),(RV.mgrow e).cell (by rw [HM.out];exact jA _ _)⟩
      clear CP CQ CM CN;refine qgW ((w.heap.size+1+1+1)) [0,1,2,3,4,5,6,7,8] [8] ?_;repeat ((first | refine qR _ (fun w' e=>KEEP.out w' (jj (jV (jnQ _).drew _) e)) ?_ | refine qS ?_);go_frame)
      refine qD fun K hK=> ?_
      go_simp;refine (yT (RV.arr.ext (jnQ _).drew) VL (a:=3) (b:=7) (c:=11) (d:=15) (by omega) (by omega) (by omega) (by omega) (HMb.out _ (jA _ _)) (HMb.out _ (jA _ _))).mono ?_;rintro e w2 ⟨rfl,A2,G2⟩;refine hK.out _ _ G2 ?_;clear hK K;try go_frame
      refine jp ?_;go_wp2_with fail;refine jg (fun W'=>Rv w W' hs gm ms (q9 u2 3 7 11 15 (wd ms (pm k 6)) (wd ms (pm k 7)))/\Sr W' gs k) ⟨RV.grow (jj (jV (jnQ _).drew _) G2) A2,SR.grow (jj (jV (jnQ _).drew _) G2) hgs.out⟩ ?_;clear A2 G2 KEEP RV SR;clear W;rintro W ⟨RV,SR⟩;have VL':=(vD u2 3 7 11 15 (wd ms (pm k 6)) (wd ms (pm k 7))).trans VL;clear VL;generalize HV3:q9 u2 3 7 11 15 (wd ms (pm k 6)) (wd ms (pm k 7))=u3 at RV VL';replace HV3:=Hj HV3;have VL:=VL';clear VL' lp lq;have CP:=SR.cell (j:=8) (by omega);have CQ:=SR.cell (j:=9) (by omega);have CM:=RV.mcell (jA k 8) HM.out;have CN:=RV.mcell (jA k 9) HM.out;have lp:(pm k 8:Int) < 16:=by have:=jA k 8;omega
      have lq:(pm k 9:Int) < 16:=by have:=jA k 9;omega
      have KEEP:Hid (∀ w',W.grownBy w' (some (w.heap.size+1+1+1))->w'.cell? ⟨gs,8,none⟩=some (.int .u8 (pm k 8:Int))/\w'.cell? ⟨gs,9,none⟩=some (.int .u8 (pm k 9:Int))/\w'.cell? ⟨gm,pm k 8,none⟩=some (.int .u32 (wd ms (pm k 8):Int))/\w'.cell? ⟨gm,pm k 9,none⟩=some (.int .u32 (wd ms (pm k 9):Int))):=fun w' e=>⟨(SR.grow e hgs.out).cell (by omega),(SR.grow e hgs.out).cell (by omega),(RV.mgrow e).cell (by rw [HM.out];exact jA _ _),(RV.mgrow e).cell (by rw [HM.out];exact jA _ _)⟩
      clear CP CQ CM CN;refine qgW ((w.heap.size+1+1+1)) [0,1,2,3,4,5,6,7,8] [8] ?_;repeat ((first | refine qR _ (fun w' e=>KEEP.out w' (jj (jV (jnQ _).drew _) e)) ?_ | refine qS ?_);go_frame)
      refine qD fun K hK=> ?_
      go_simp;refine (yT (RV.arr.ext (jnQ _).drew) VL (a:=0) (b:=5) (c:=10) (d:=15) (by omega) (by omega) (by omega) (by omega) (HMb.out _ (jA _ _)) (HMb.out _ (jA _ _))).mono ?_;rintro e w2 ⟨rfl,A2,G2⟩;refine hK.out _ _ G2 ?_;clear hK K;try go_frame
      refine jp ?_;go_wp2_with fail;refine jg (fun W'=>Rv w W' hs gm ms (q9 u3 0 5 10 15 (wd ms (pm k 8)) (wd ms (pm k 9)))/\Sr W' gs k) ⟨RV.grow (jj (jV (jnQ _).drew _) G2) A2,SR.grow (jj (jV (jnQ _).drew _) G2) hgs.out⟩ ?_;clear A2 G2 KEEP RV SR;clear W;rintro W ⟨RV,SR⟩;have VL':=(vD u3 0 5 10 15 (wd ms (pm k 8)) (wd ms (pm k 9))).trans VL;clear VL;generalize HV4:q9 u3 0 5 10 15 (wd ms (pm k 8)) (wd ms (pm k 9))=u4 at RV VL';replace HV4:=Hj HV4;have VL:=VL';clear VL' lp lq;have CP:=SR.cell (j:=10) (by omega);have CQ:=SR.cell (j:=11) (by omega);have CM:=RV.mcell (jA k 10) HM.out;have CN:=RV.mcell (jA k 11) HM.out;have lp:(pm k 10:Int) < 16:=by have:=jA k 10;omega
      have lq:(pm k 11:Int) < 16:=by have:=jA k 11;omega
      have KEEP:Hid (∀ w',W.grownBy w' (some (w.heap.size+1+1+1))->w'.cell? ⟨gs,10,none⟩=some (.int .u8 (pm k 10:Int))/\w'.cell? ⟨gs,11,none⟩=some (.int .u8 (pm k 11:Int))/\w'.cell? ⟨gm,pm k 10,none⟩=some (.int .u32 (wd ms (pm k 10):Int))/\w'.cell? ⟨gm,pm k 11,none⟩=some (.int .u32 (wd ms (pm k 11):Int))):=fun w' e=>⟨(SR.grow e hgs.out).cell (by omega),(SR.grow e hgs.out).cell (by omega),(RV.mgrow e).cell (by rw [HM.out];exact jA _ _),(RV.mgrow e).cell (by rw [HM.out];exact jA _ _)⟩
      clear CP CQ CM CN;refine qgW ((w.heap.size+1+1+1)) [0,1,2,3,4,5,6,7,8] [8] ?_;repeat ((first | refine qR _ (fun w' e=>KEEP.out w' (jj (jV (jnQ _).drew _) e)) ?_ | refine qS ?_);go_frame)
      refine qD fun K hK=> ?_
      go_simp;refine (yT (RV.arr.ext (jnQ _).drew) VL (a:=1) (b:=6) (c:=11) (d:=12) (by omega) (by omega) (by omega) (by omega) (HMb.out _ (jA _ _)) (HMb.out _ (jA _ _))).mono ?_;rintro e w2 ⟨rfl,A2,G2⟩;refine hK.out _ _ G2 ?_;clear hK K;try go_frame
      refine jp ?_;go_wp2_with fail;refine jg (fun W'=>Rv w W' hs gm ms (q9 u4 1 6 11 12 (wd ms (pm k 10)) (wd ms (pm k 11)))/\Sr W' gs k) ⟨RV.grow (jj (jV (jnQ _).drew _) G2) A2,SR.grow (jj (jV (jnQ _).drew _) G2) hgs.out⟩ ?_;clear A2 G2 KEEP RV SR;clear W;rintro W ⟨RV,SR⟩;have VL':=(vD u4 1 6 11 12 (wd ms (pm k 10)) (wd ms (pm k 11))).trans VL;clear VL;generalize HV5:q9 u4 1 6 11 12 (wd ms (pm k 10)) (wd ms (pm k 11))=u5 at RV VL';replace HV5:=Hj HV5;have VL:=VL';clear VL' lp lq;have CP:=SR.cell (j:=12) (by omega);have CQ:=SR.cell (j:=13) (by omega);have CM:=RV.mcell (jA k 12) HM.out;have CN:=RV.mcell (jA k 13) HM.out;have lp:(pm k 12:Int) < 16:=by have:=jA k 12;omega
      have lq:(pm k 13:Int) < 16:=by have:=jA k 13;omega
      have KEEP:Hid (∀ w',W.grownBy w' (some (w.heap.size+1+1+1))->w'.cell? ⟨gs,12,none⟩=some (.int .u8 (pm k 12:Int))/\w'.cell? ⟨gs,13,none⟩=some (.int .u8 (pm k 13:Int))/\w'.cell? ⟨gm,pm k 12,none⟩=some (.int .u32 (wd ms (pm k 12):Int))/\w'.cell? ⟨gm,pm k 13,none⟩=some (.int .u32 (wd ms (pm k 13):Int))):=fun w' e=>⟨(SR.grow e hgs.out).cell (by omega),(SR.grow e hgs.out).cell (by omega),(RV.mgrow e).cell (by rw [HM.out];exact jA _ _),(RV.mgrow e).cell (by rw [HM.out];exact jA _ _)⟩
      clear CP CQ CM CN;refine qgW ((w.heap.size+1+1+1)) [0,1,2,3,4,5,6,7,8] [8] ?_;repeat ((first | refine qR _ (fun w' e=>KEEP.out w' (jj (jV (jnQ _).drew _) e)) ?_ | refine qS ?_);go_frame)
      refine qD fun K hK=> ?_
      go_simp;refine (yT (RV.arr.ext (jnQ _).drew) VL (a:=2) (b:=7) (c:=8) (d:=13) (by omega) (by omega) (by omega) (by omega) (HMb.out _ (jA _ _)) (HMb.out _ (jA _ _))).mono ?_;rintro e w2 ⟨rfl,A2,G2⟩;refine hK.out _ _ G2 ?_;clear hK K;try go_frame
      refine jp ?_;go_wp2_with fail;refine jg (fun W'=>Rv w W' hs gm ms (q9 u5 2 7 8 13 (wd ms (pm k 12)) (wd ms (pm k 13)))/\Sr W' gs k) ⟨RV.grow (jj (jV (jnQ _).drew _) G2) A2,SR.grow (jj (jV (jnQ _).drew _) G2) hgs.out⟩ ?_;clear A2 G2 KEEP RV SR;clear W;rintro W ⟨RV,SR⟩;have VL':=(vD u5 2 7 8 13 (wd ms (pm k 12)) (wd ms (pm k 13))).trans VL;clear VL;generalize HV6:q9 u5 2 7 8 13 (wd ms (pm k 12)) (wd ms (pm k 13))=u6 at RV VL';replace HV6:=Hj HV6;have VL:=VL';clear VL' lp lq;have CP:=SR.cell (j:=14) (by omega);have CQ:=SR.cell (j:=15) (by omega);have CM:=RV.mcell (jA k 14) HM.out;have CN:=RV.mcell (jA k 15) HM.out;have lp:(pm k 14:Int) < 16:=by have:=jA k 14;omega
      have lq:(pm k 15:Int) < 16:=by have:=jA k 15;omega
      have KEEP:Hid (∀ w',W.grownBy w' (some (w.heap.size+1+1+1))->w'.cell? ⟨gs,14,none⟩=some (.int .u8 (pm k 14:Int))/\w'.cell? ⟨gs,15,none⟩=some (.int .u8 (pm k 15:Int))/\w'.cell? ⟨gm,pm k 14,none⟩=some (.int .u32 (wd ms (pm k 14):Int))/\w'.cell? ⟨gm,pm k 15,none⟩=some (.int .u32 (wd ms (pm k 15):Int))):=fun w' e=>⟨(SR.grow e hgs.out).cell (by omega),(SR.grow e hgs.out).cell (by omega),(RV.mgrow e).cell (by rw [HM.out];exact jA _ _),(RV.mgrow e).cell (by rw [HM.out];exact jA _ _)⟩
      clear CP CQ CM CN;refine qgW ((w.heap.size+1+1+1)) [0,1,2,3,4,5,6,7,8] [8] ?_;repeat ((first | refine qR _ (fun w' e=>KEEP.out w' (jj (jV (jnQ _).drew _) e)) ?_ | refine qS ?_);go_frame)
      refine qD fun K hK=> ?_
      go_simp;refine (yT (RV.arr.ext (jnQ _).drew) VL (a:=3) (b:=4) (c:=9) (d:=14) (by omega) (by omega) (by omega) (by omega) (HMb.out _ (jA _ _)) (HMb.out _ (jA _ _))).mono ?_;rintro e w2 ⟨rfl,A2,G2⟩;refine hK.out _ _ G2 ?_;clear hK K;try go_frame
      refine jp ?_;go_wp2_with fail;refine ⟨⟨k+1,by omega,by go_num,?_⟩,by simp [intOf];omega⟩;have h9:jbm ms vk k=q9 u6 3 4 9 14 (wd ms (pm k 14)) (wd ms (pm k 15)):=by
       unfold jbm;simp only [];rw [HV0.out,HV1.out,HV2.out,HV3.out,HV4.out,HV5.out,HV6.out]
      rw [HSUC.out,h9];exact RV.grow (jj (jV (jnQ _).drew _) G2) A2
     ·obtain rfl:k=10:=by omega
      rw [show ((10:Nat):Int)=10 from rfl];generalize hV:vG ms v0 10=V at RV VL;replace hV:=Hj hV;have vb:Hid (∀ j,j < 16->wd V j < 4294967296):=fun j hj=>(RV.arr.2 j (by omega)).2.2
      go_wp2_with fail;go_loopw [125] (fun i wx=>∃ (k:Nat) (ys:List Nat),k<=8/\i= .int .i64 k/\ys.length=8/\(∀ j,j < k->wd ys j=wd hs j^^^(wd V j^^^wd V (j+8)))/\(∀ j,k<=j->j < 8->wd ys j=wd hs j)/\Rv w wx ys gm ms V) (fun i _=>8 - (intOf i).toNat)
      case atStart=>exact ⟨0,hs,jpp _,rfl,hl,fun j hj=>absurd hj (by omega),fun j _ _=>rfl,RV⟩
      case round=>
       obtain ⟨k,ys,hk,rfl,yl,hy1,hy2,RY⟩:=hrel;clear RV;by_cases hlt:k < 8
       ·have q0:=hy2 k (jpo _) hlt;have b0:=hb k hlt;have b1:=vb.out k (by omega);have b2:=vb.out (k+8) (by omega);have cy:=RY.2.1.cell (i:=k) (by omega);rw [q0] at cy;have fy:=RY.2.1.frozen k;obtain ⟨c1,f1,_⟩:=RY.arr.fct (i:=k) (by omega);obtain ⟨c2,f2,_⟩:=RY.arr.fct (i:=k+8) (by omega);have u1:bits .xor .u32 (wd V k:Int) (wd V (k+8):Int)=((wd V k^^^wd V (k+8):Nat):Int):=jq7 _ _ b1 b2;have u2:bits .xor .u32 (wd hs k:Int) ((wd V k^^^wd V (k+8):Nat):Int)=((wd hs k^^^(wd V k^^^wd V (k+8)):Nat):Int):=jq7 _ _ b0 (jL b1 b2);have KEEP:Hid (∀ w',Ext wr w'->w'.cell? ⟨w.heap.size,k,none⟩=some (.int .u32 (wd hs k:Int))/\w'.cell? ⟨w.heap.size+1+1+1,k,none⟩=some (.int .u32 (wd V k:Int))/\w'.cell? ⟨w.heap.size+1+1+1,k+8,none⟩=some (.int .u32 (wd V (k+8):Int))):=fun w' e=>⟨by rw [<-q0];exact (RY.2.1.kept e RY.2.1.lt).cell (by omega),((RY.arr.ext e).fct (by omega)).1,((RY.arr.ext e).fct (by omega)).1⟩
        have i1:(k:Int) < 8:=by omega
        have i2:(k:Int) < 16:=by omega
        have i3:(k:Int)+8 < 16:=by omega
        have i4:IntKind.i64.wrap ((k:Int)+8)=(k:Int)+8:=jq0 _ (by omega);have i5:((k:Int)+8).toNat=k+8:=by omega
        have i6:(0:Int)<=(k:Int)+8:=by omega
        clear q0;replace hy1:=Hj hy1;replace hy2:=Hj hy2;go_wp2_with fail;refine ym 13 [0,1,2,3,4,5,6,7,8,9,10,11,12,13] [13] ?_;repeat (refine qzR _ (fun w' e=>KEEP.out w' ((jnQ _).drew.trans e)) ?_;go_frame)
        refine qzD fun K1 hK1=> ?_
        go_simp;refine hK1.out _ _ (.inl rfl) ?_;clear hK1 K1;refine jN ?_;clear u1 u2 i1 i2 i3 i4 i5 i6 cy fy c1 f1 c2 f2 KEEP;go_wp2_with fail;refine ⟨⟨k+1,ys.set k (wd hs k^^^(wd V k^^^wd V (k+8))),by omega,by go_num,by rw [jp5];exact yl,fun j hj=> ?_,fun j h1 h2=> ?_,(RY.setH k _).ext (jnQ _).drew⟩,by simp [intOf];omega⟩
        ·rw [j8 (by omega)];by_cases q:j=k
         ·rw [if_pos q,q]
         ·rw [if_neg q];exact hy1.out j (by omega)
        ·rw [j8 (by omega),if_neg (by omega)];exact hy2.out j (by omega) h2
       ·obtain rfl:k=8:=by omega
        have hfin:=Hj (jhn yl hy1);have HL:=jf yl;have hone:=jo ys;have h1:=RY.2.1;have h2:=RY.2.2.1;have he:=RY.1;unfold Wr at h1 h2;generalize hC:(jb ys).toArray=C at h1 HL hone;clear hy1 hy2 RY vb;replace hC:=Hj hC;replace h1:=Hj h1;replace h2:=Hj h2;go_wp2_with (first
         | refine wl_ rfl 218 rfl w.heap.size rfl h1.out rfl rfl (by rw [HL];rfl) ?_
         | refine ws_ rfl 218 rfl (w.heap.size+1+1) C rfl rfl h2.out (by rw [HL];rfl) (by rw [HL];rfl) hone ?_)
        (try simp only [jqV,Exit.then]);refine jqW (jqX rfl _ _ (w.heap.size+1+1) 218 C (0,0) _ rfl (jqc _ _ _ _ _ _ h2.out) rfl rfl (by rw [HL];rfl)) rfl ?_;exact ⟨by rw [vp,hM.out,<-hv0.out,hV.out,hfin.out,hC.out],jqb he (by omega) _⟩
theorem Bs.cut {w:World}{A:Option Addr}{n c k:Nat}{xs:List UInt8}(h:Bs w A n c xs) (hk:k<=n):Bs w (if c=k then A else A.map (·.add k)) (n - k) (c - k) (xs.drop k):=by
 have h1:=h.le;have h2:=h.2.2.1;refine ⟨by rw [List.length_drop,h.len],by omega,by omega,fun h0=> ?_⟩;obtain ⟨b,off,rfl,hb,hc⟩:=h.pos (by omega);rw [if_neg (by omega)];refine ⟨b,off+k,?_,hb,fun j hj=> ?_⟩
 ·by_cases hk0:k=0
  ·subst hk0;simp [Addr.add]
  ·simp [Addr.add,hk0]
 ·rw [jfu,Nat.add_assoc];exact hc (k+j) (by omega)
theorem Bs.recap {w:World}{A:Option Addr}{n c c2:Nat}{xs:List UInt8}(h:Bs w A n c xs) (h2:n<=c2) (hm:c2<=9223372036854775807:=by omega):Bs w A n c2 xs:=⟨h.1,h2,hm,h.2.2.2⟩
theorem Bs.cutAt {w:World}{b off n c k:Nat}{xs:List UInt8}(h:Bs w (some ⟨b,off,none⟩) n c xs) (hk:k < n):Bs w (some ⟨b,off+k,none⟩) (n - k) (c - k) (xs.drop k):=by
 have h1:=h.cut (jqU hk);have h2:=h.le;rw [if_neg (by omega)] at h1;have:(some (⟨b,off,none⟩:Addr)).map (·.add k)=some ⟨b,off+k,none⟩:=by
  by_cases hk0:k=0
  ·subst hk0;simp [Addr.add]
  ·simp [Addr.add,hk0]
 rwa [this] at h1
theorem jfV:(Tryz.prog.info? 5).map (·.size)=some 1:=by kernel_rfl
theorem ja7 {w:World}{ops:Array Oper}{rest:List Oper}{o:Oper}{a:Act}{Q:Exit->Act->World->Prop}(hgd:o.guard=none){x lo:Operand}{A:Option Addr}{n c k:Nat}{kd:IntKind}{z:Int}
 (ho:o.op= .slice 33 x (some lo) none none) (hx:a.eval x= .slice A n c) (hl:a.eval lo= .int kd z) (hz:z=(k:Int)) (hk:k<=n) (hnc:n<=c)
 (hK:∀ A',(∀ w0 xs,Bs w0 A n c xs->Bs w0 A' (n - k) (c - k) (xs.drop k))->wpList jpx ops Q rest (a.put o.dst (.slice A' (n - k) (c - k))) w):wpList jpx ops Q (o::rest) a w:=by
 subst hz;refine wpList_plain hgd fun K hK'=> ?_
 have hr:(Instr.slice 33 (.slice A n c) (some (.int kd (k:Int))) none none).run jpx w= .ok (.slice (if c=k then A else A.map (·.add k)) (n - k) (c - k)) w:=by
  obtain ⟨i,hi,hsz⟩:=Option.map_eq_some_iff.1 jfV;simp [Instr.slice,jql jpy,Instr.sliceBounds,Instr.sliceBound,asIntOf,sizeOf,typeInfo,hi,hsz]
  intro hlt;omega
 have hop:(jpY a.eval o).run jpx w= .ok (.value (.slice (if c=k then A else A.map (·.add k)) (n - k) (c - k))) w:=by
  obtain ⟨dst,op,ty,pos,af,gd⟩:=o;simp only at ho;subst ho;simp only [jpY,hx,hl,Option.map,Instr.sliceAt];go_simp
  cases A <;> rfl
 unfold Oper.wp;rw [hop];exact hK' _ _ (hK _ (fun w0 xs h=>h.cut hk))
theorem ZR {w:World}{ops:Array Oper}{rest:List Oper}{o:Oper}{a:Act}{Q:Exit->Act->World->Prop}(hgd:o.guard=none){x lo hi:Operand}{A:Option Addr}{n c k h:Nat}{kd kd':IntKind}{z:Int}
 (ho:o.op= .slice 33 x (some lo) (some hi) none) (hx:a.eval x= .slice A n c) (hl:a.eval lo= .int kd (k:Int)) (hh:a.eval hi= .int kd' z) (hz:z=(h:Int)) (hk:k<=h) (hhn:h<=n) (hnc:n<=c)
 (hK:∀ A',(∀ w0 xs,Bs w0 A n c xs->Bs w0 A' (h - k) (c - k) ((xs.take h).drop k))->wpList jpx ops Q rest (a.put o.dst (.slice A' (h - k) (c - k))) w):wpList jpx ops Q (o::rest) a w:=by
 refine wpList_plain hgd fun K hK'=> ?_
 have hop:(jpY a.eval o).run jpx w= .ok (.value (.slice (if c=k then A else A.map (·.add k)) (h - k) (c - k))) w:=by
  obtain ⟨dst,op,ty,pos,af,gd⟩:=o;simp only at ho;subst ho hz;obtain ⟨i,hi',hsz⟩:=Option.map_eq_some_iff.1 jfV;have q1:(k:Int)<=(h:Int):=by omega
  have q2:(h:Int)<=(c:Int):=by omega
  simp only [jpY,hx,hl,hh,Option.map,Instr.sliceAt];go_simp
  cases A <;> rfl
 unfold Oper.wp;rw [hop];exact hK' _ _ (hK _ (fun w0 xs hb=>(hb.take hhn).cut hk))
theorem jd {P:jpB}{o:Oper}{a:Act}{w:World}{ty:jpC}{x:Operand}{g:Nat}{t:jpC}{cs:Array Value}{fr:Nat×Nat}{d:TypeDesc}(ho:o.op= .load ty x) (hx:a.eval x= .pointer (some ⟨g,0,none⟩)) (hg:w.heap[g]? =some (.cells cs t fr))
 (hu:P.underlying ty=some d) (hd:(match d with | .struct _ | .array _ _=>true | _=>false)=true) (hi:(P.info? ty).map (·.size)=some cs.size):(jpY a.eval o).run P w= .ok (.value (.agg cs)) w:=by
 unfold jpY;simp only [ho,hx,Instr.loadAt,Instr.sureAddr,jqi,jqj,jqk,run_loadVar_row w g t ty cs fr d hg hu hd hi]
theorem qj {P:jpB}{fn:Func}{p u:Tmp}{ty:jpC}(h:fn.results= #[.cell p ty, .tmp u]) (tmps:Array Value) (w:World) (g:Nat) (t:jpC) (cs:Array Value) (fr:Nat×Nat) (d:TypeDesc) (v:Value)
 (hp:tmps.getD p undef= .pointer (some ⟨g,0,none⟩)) (hv:tmps.getD u undef=v) (hg:w.heap[g]? =some (.cells cs t fr))
 (hu:P.underlying ty=some d) (hd:(match d with | .struct _ | .array _ _=>true | _=>false)=true) (hi:(P.info? ty).map (·.size)=some cs.size):
 (results fn tmps).run P w= .ok (.tuple #[.agg cs,v]) w:=by
 rw [results_cell_tmp h,hp,hv];simp only [asAddr,jqj,jqk,run_loadVar_row w g t ty cs fr d hg hu hd hi]
theorem yf {F:Exit->Act->World->Prop}{x:Exit}{a:Act}{W:World}(ψ:World->Prop) (h1:ψ W) (h2:∀ w1,ψ w1->F x a w1):F x a W:=h2 W h1
theorem jm {P:jpB}{ops:Array Oper}{rest:List Oper}{o:Oper}{a:Act}{w:World}{Q:Exit->Act->World->Prop}(hg:o.guard=none) (t:jpC) (parts:Array (Nat×Operand)) (ho:o.op= .build t parts) (cells:Array Value)
 (hf:P.built t (parts.map fun (i,x)=>(i,a.eval x)).toList=some cells) (h:wpList P ops Q rest (a.put o.dst (.agg cells)) w):wpList P ops Q (o::rest) a w:=
 wpList_build hg t parts ho (by rw [hf];rfl) (by rw [hf];exact h)
def jr:Array Value:=(jqn 32 (jpA .u8 0)).toArray
theorem j7:jr.size=32:=by simp [jr]
theorem JI:jr.all (·.oneCell')=true:=by kernel_rfl
theorem zJ:Tryz.prog.built 23 []=some jr:=by kernel_rfl
theorem jU:(cellsOf (jqn 32 0)).toArray=jr:=by kernel_rfl
def Lt32 (vs:List Nat):Prop:=∀ j,wd vs j < 4294967296
theorem Lt32.set {vs:List Nat}(h:Lt32 vs){k x:Nat}(hx:x < 4294967296):Lt32 (vs.set k x):=fun j=>by
 by_cases hk:k < vs.length
 ·rw [j8 hk]
  split
  ·exact hx
  ·exact h j
 ·rw [List.set_eq_of_length_le (by omega)];exact h j
theorem Lt32.mix {vs:List Nat}(h:Lt32 vs) (a b c d x y:Nat):Lt32 (q9 vs a b c d x y):=by
 have ha:∀ {vs:List Nat} {a b x:Nat},Lt32 vs->Lt32 (vX vs a b x):=fun h=>h.set (ve _ _)
 have hr:∀ {n:Nat} {vs:List Nat} {a b:Nat},Lt32 vs->Lt32 (qa n vs a b):=fun h=>h.set (yB (jL (h _) (h _)))
 have hs:∀ {vs:List Nat} {a b:Nat},Lt32 vs->Lt32 (qu vs a b):=fun h=>h.set (ve _ _)
 unfold q9;exact hr (hs (hr (ha (hr (hs (hr (ha h)))))))
theorem Lt32.row {ms vs:List Nat}(h:Lt32 vs) (k:Nat):Lt32 (jbm ms vs k):=by
 unfold jbm;iterate 8 refine Lt32.mix ?_ _ _ _ _ _ _
 exact h
theorem Lt32.rounds {ms vs:List Nat}(h:Lt32 vs):∀ k,Lt32 (vG ms vs k)
 | 0=>h
 | k+1=>by rw [Yc];exact (Lt32.rounds h k).row k
theorem Lt32.append {hs is:List Nat}(h:Lt32 hs) (h':Lt32 is):Lt32 (hs++is):=fun j=>by
 unfold wd;rw [jra,List.getElem?_append]
 split
 ·rw [<-jra];exact h j
 ·rw [<-jra];exact h' _
theorem zZ:Lt32 qJ:=fun j=>by
 by_cases hj:j < 8
 ·have:∀ j,j < 8->wd qJ j < 4294967296:=by decide
  exact this j hj
 ·unfold wd;rw [jra,jqa (by simp [qJ];omega)];decide
theorem Lt32.start {hs:List Nat}(h:Lt32 hs){t:Nat}(ht:t < 18446744073709551616) (last:Bool):Lt32 (vY hs t last):=by
 have h0:=h.append zZ;have h1:=h0.set (k:=12) (jL (h0 12) (jp3 t (by decide)));have h2:=h1.set (k:=13) (jL (h0 13) (show t / 4294967296 < 4294967296 by omega));unfold vY
 cases last
 ·exact h2
 ·exact h2.set (jL (by decide) (h0 14))
theorem Lt32.fin {hs vs:List Nat}(h:Lt32 hs) (h':Lt32 vs):Lt32 (ZW hs vs):=fun j=>by
 by_cases hj:j < 8
 ·have:wd (ZW hs vs) j=wd hs j^^^(wd vs j^^^wd vs (j+8)):=by simp [wd,ZW,jpr,hj]
  rw [this];exact jL (h j) (jL (h' j) (h' _))
 ·unfold wd;rw [jra,jqa (by simp [ZW];omega)];decide
theorem Lt32.comp {hs:List Nat}(h:Lt32 hs){xs:List UInt8}{t:Nat}(ht:t < 18446744073709551616) (last:Bool):Lt32 (vp hs xs t last):=h.fin ((h.start ht last).rounds 10)
def h0L (k:Nat):List Nat:=qJ.set 0 (wd qJ 0^^^(16842784^^^k*256))
def hAt (hs:List Nat) (t:Nat) (bs:List UInt8):Nat->List Nat
 | 0=>hs
 | i+1=>vp (hAt hs t bs i) (qQ ((bs.drop (64*i)).take 64)) (t+64*(i+1)) false
def vJ (m:Nat):Nat:=(m - 1) / 64
def Yt (hs:List Nat) (t:Nat) (bs:List UInt8):List UInt8:=
 qX (vp (hAt hs t bs (vJ bs.length)) (qQ (bs.drop (64*vJ bs.length))) (t+bs.length) true)
def jC (ks bs:List UInt8):List UInt8:=
 if ks.length=0 then Yt (h0L 0) 0 bs
 else if bs.length=0 then qX (vp (h0L ks.length) (qQ ks) 64 true)
 else Yt (vp (h0L ks.length) (qQ ks) 64 false) 64 bs
theorem jc7 {k:Nat}(h:k<=32):Lt32 (h0L k):=zZ.set (jL (zZ 0) (jL (by decide) (by omega)))
theorem Zc (k:Nat):(h0L k).length=8:=by simp [h0L,qJ]
theorem jfF {hs:List Nat}{t:Nat}{bs:List UInt8}(h:hs.length=8):∀ i,(hAt hs t bs i).length=8
 | 0=>h
 | i+1=>yh _ _ _ _
theorem jhx {hs:List Nat}{t:Nat}{bs:List UInt8}(h:Lt32 hs):∀ i,t+64*i < 18446744073709551616->Lt32 (hAt hs t bs i)
 | 0,_=>h
 | i+1,hi=>(jhx h i (by omega)).comp (by omega) _
theorem jo8 (hs:List Nat) (t:Nat) (bs:List UInt8):(Yt hs t bs).length=32:=by
 unfold Yt;rw [ya,yh]
theorem qr (ks bs:List UInt8):(jC ks bs).length=32:=by
 unfold jC
 split
 ·exact jo8 _ _ _
 ·split
  ·rw [ya,yh]
  ·exact jo8 _ _ _
theorem jkH {w:World}{g k:Nat}(hk:k < 8):(Instr.sliceAt 23 (.pointer (some ⟨g,0,none⟩)) (some (.int .i64 (4*(k:Int)))) none none).run jpx w= .ok (.slice (some ⟨g,4*k,none⟩) (32 - 4*k) (32 - 4*k)) w:=by
 have hn:Tryz.prog.arrayLen 23=32:=rfl;rw [run_sliceAt_array_l w 23 _ rfl .i64 _ (by omega) (by rw [hn];omega)];have hs:(sizeOf (Tryz.prog.elem 23)).run jpx w= .ok 1 w:=rfl;rw [hs];have h1:(4*(k:Int)).toNat=4*k:=by omega
 have h3:(⟨g,0,none⟩:Addr).add (4*k*1)=⟨g,4*k,none⟩:=by unfold Addr.add;split <;> simp_all
 show Result.ok (slicedAt _ _ _ _ _) w=_
 rw [hn,h1];unfold slicedAt;rw [if_neg (by omega),h3]
set_option maxRecDepth 100000 in
theorem J8 {vs:List Nat}{w:World}(h:vs.length=8) (hb:∀ i,i < 8->wd vs i < 4294967296):
 Calls jpx 126 #[.agg (jb vs).toArray] w fun e w'=>e= .returned (.agg (cellsOf (qX vs)).toArray)/\Ext w w':=by
 have HIX:=Hj (fun (w:World) (k:Nat) (hk:k < 8)=>jex (w:=w) (t:=218) rfl h hk);have HL:=jf h;have g0:∀ o2 o3,(((w.alloc (jqY (jb vs).toArray 218)).alloc o2).alloc o3).heap[w.heap.size]? =some (.cells (jb vs).toArray 218 (0,0)):=fun o2 o3=>jF _ _ _ _
 have g1:∀ o1 o3,(((w.alloc o1).alloc (jqY (jqn 32 (jpA .u8 0)).toArray 23)).alloc o3).heap[w.heap.size+1]? =some (.cells (jqn 32 (jpA .u8 0)).toArray 23 (0,0)):=fun o1 o3=>jH _ _ _ _
 have g2:∀ o1 o2,(((w.alloc o1).alloc o2).alloc (jqY (jqn 32 (jpA .u8 0)).toArray 23)).heap[w.heap.size+1+1]? =some (.cells (jqn 32 (jpA .u8 0)).toArray 23 (0,0)):=fun o1 o2=>jB _ _ _ _
 replace g1:=Hj g1;replace g2:=Hj g2;replace g0:=Hj g0;generalize hC:(jb vs).toArray=C at g0 HL HIX;replace hC:=Hj hC;go_enter Tryz.func126,Tryz.ntmps126
 go_wp2_with (refine wl_ rfl 218 rfl w.heap.size rfl (g0.out _ _) rfl rfl (by rw [HL];rfl) ?_)
 obtain ⟨B,hB⟩:=ex_ (w.heap.size+1+1);go_loopw [7] (fun i wr=>∃ (k:Nat) (xs:List UInt8),k<=8/\i= .int .i64 k/\xs.length=32/\(∀ j,j < 4*k->bt xs j=bt (qX vs) j)/\Ext w wr/\wr.heap[w.heap.size+1]? =some (.cells (jqn 32 (jpA .u8 0)).toArray 23 (0,0))/\wr.heap[w.heap.size+1+1]? =some (.cells (cellsOf xs).toArray 23 (0,0))) (fun i _=>8 - (intOf i).toNat)
 case atStart=>
  exact ⟨0,jqn 32 0,jpp _,rfl,rfl,fun j hj=>absurd hj (by omega),(((jnQ _).alloc _).alloc _).alloc _,g1.out _ _,g2.out _ _⟩
 case round=>
  obtain ⟨k,xs,hk,rfl,hl,hv,he,h1,h2⟩:=hrel;by_cases hlt:k < 8
  ·have hix:=fun w=>HIX.out w k hlt
   have hsl:=fun w':World=>jkH (w:=w') (g:=w.heap.size+1+1) hlt
   have hwk:=hb k hlt;have m1:IntKind.i64.wrap (4*(k:Int))=4*(k:Int):=jq0 _ (by omega);have m2:IntKind.u64.wrap (wd vs k:Int)=(wd vs k:Int):=IntWalk.u64_in _ (by omega);have LOW:=Hj (fun w0:World=>Zh (n:=wd vs k) (m:=4) (many:=4) (w:=w0) (by omega) (by omega) (by omega) (by omega) (by decide));replace h1:=Hj h1;replace h2:=Hj h2;replace hv:=Hj hv;go_wp2_with fail;refine qgB B [0,1,2,3,4,5,6] [5,6] ?_;repeat ((first | refine qR0 ?_ | refine qS ?_);go_frame)
   refine qD fun K hK=> ?_
   go_simp;refine (LOW.out _).mono ?_;rintro e w1 ⟨A1,n1,c1,rfl,b1,e1⟩;have hsz:B<=wr.heap.size:=by
    rcases jpu (w.heap.size+1+1) wr.heap.size with q | q
    ·omega
    ·have:=h2.out;rw [jpv q] at this;cases this
   have hsz':w.heap.size+1+1 < wr.heap.size:=by
    rcases jpu (w.heap.size+1+1) wr.heap.size with q | q
    ·exact q
    ·have:=h2.out;rw [jpv q] at this;cases this
   refine hK.out _ _ (e1.mono hsz) ?_;clear hK K;try go_frame
   repeat ((first | refine qR0 ?_ | refine qS ?_);go_frame)
   refine qD fun K hK=> ?_
   go_simp;have hn1:n1=4:=by have:=b1.len;rw [vM] at this;omega
   subst hn1;refine JZ (cur:=cellsOf xs) rfl ((e1.block (w.heap.size+1+1) hsz').trans h2.out) b1 (by omega) (by rw [ja];omega) ?_;intro W' h3 h4;rw [Yf] at h3;go_simp;refine hK.out _ _ (h4.out B (by omega)) ?_;clear hK K;refine jp ?_;have e2:Below B wr W':=jpn ((jpm B wr).drew) (jpn (e1.mono hsz) (h4.out B (by omega)));clear h4;go_wp2_with fail;refine ⟨⟨k+1,jp9 xs (4*k) (J3 (wd vs k) 4),by omega,by go_num,(jaR (by rw [vM];omega)).trans hl,fun j hj=> ?_,jpn he (e2.mono (by omega)),(e2.block _ (by omega)).trans h1.out,h3.out⟩,by simp [intOf];omega⟩;rw [jbs (by rw [vM];omega) (by rw [vM];omega)];by_cases q:j < 4*k
   ·rw [if_pos q];exact hv.out j q
   ·rw [if_neg q,jb1 (by omega),JK (by omega),show j / 4=k by omega,show j % 4=j - 4*k by omega]
  ·obtain rfl:k=8:=by omega
   have hvs:=Hj (Y0 (xs:=xs) (ys:=qX vs) (by rw [ya];omega) (fun j hj=>hv j (by omega)));have HS:(cellsOf xs).toArray.size=32:=by simp [ja,hl]
   have hone:=ji xs;generalize hD:(cellsOf xs).toArray=D at h2 HS hone;replace hD:=Hj hD;replace h1:=Hj h1;replace h2:=Hj h2;clear hv;go_wp2_with (first
    | refine wl_ rfl 23 rfl (w.heap.size+1+1) rfl h2.out rfl rfl (by rw [HS];rfl) ?_
    | refine ws_ rfl 23 rfl (w.heap.size+1) D rfl rfl h1.out (by rw [HS];rfl) (by rw [HS];rfl) hone ?_)
   (try simp only [jqV,Exit.then]);refine jqW (jqX rfl _ _ (w.heap.size+1) 23 D (0,0) _ rfl (jqc _ _ _ _ _ _ h1.out) rfl rfl (by rw [HS];rfl)) rfl ?_;exact ⟨by rw [<-hvs.out,hD.out],jqb he (by omega) _⟩
theorem jet (w:World) (g:Nat) (C:Array Value):w.grownBy (w.setRow g C) (some g):=
 ⟨rfl,rfl,rfl,by simp,fun i _ hne=>jqy _ _ _ _ (fun q=>hne (by rw [q]))⟩
def jla:Value->Nat
 | .slice _ n _=>n
 | _=>0
def Mw (w wr:World) (hs:List Nat):Prop:=
 Ext w wr/\wr.heap[w.heap.size]? =some (.cells (jqn 32 (jpA .u8 0)).toArray 23 (0,0))/\Wr wr (w.heap.size+1) 218 hs
theorem Mw.ext {w wr wr':World}{hs:List Nat}(h:Mw w wr hs) (e:Ext wr wr'):Mw w wr' hs:=
 ⟨h.1.trans e,(e.block _ (jh h.2.1)).trans h.2.1,h.2.2.kept e h.2.2.lt⟩
theorem Mw.set {w wr:World}{hs:List Nat}(h:Mw w wr hs) (k x:Nat):Mw w (wr.setCell ⟨w.heap.size+1,k,none⟩ (.int .u32 (x:Int))) (hs.set k x):=
 ⟨h.1.setCell (show w.heap.size<=w.heap.size+1 by omega) _,(jp7 _ _ _ _ (show w.heap.size≠w.heap.size+1 by omega)).trans h.2.1,h.2.2.set⟩
theorem Mw.put {w wr:World}{hs hs':List Nat}(h:Mw w wr hs):Mw w (wr.setRow (w.heap.size+1) (jb hs').toArray) hs':=
 ⟨jqb h.1 (by omega) _,(jqy _ _ _ _ (by omega)).trans h.2.1,jqc _ _ _ _ _ _ h.2.2⟩
set_option maxRecDepth 100000 in
theorem Zi {A A':Option Addr}{n c m d:Nat}{ks bs:List UInt8}{w:World}(h:Bs w A n c ks) (h':Bs w A' m d bs) (hk:n<=32){tg:jpC×Nat×Nat}(hG:Gl w tg):
 Calls jpx 95 #[.slice A n c, .slice A' m d] w fun e w'=>e= .returned (.tuple #[.agg (cellsOf (jC ks bs)).toArray, .int .i64 0])/\Ext w w':=by
 have h1:=h.le;have h2:=h.cap;have h3:=h'.le;have h4:=h'.cap;have hk':decide ((32:Int) < (n:Int))=false:=by simp;omega
 have HG:Hid (∀ wr:World,Ext w wr->Gl wr tg):=fun wr e=>hG.kept e hG.lt
 have HGL:=jf (show qJ.length=8 from rfl);have hone:=jo qJ;have hG0:Hid (∀ o,(w.alloc o).heap[0]? =some (.cells (jb qJ).toArray tg.1 tg.2)):=fun o=>hG.kept ((jnQ w).alloc o) hG.lt
 clear hG;generalize hI:(jb qJ).toArray=I at HGL hone hG0;replace hI:=Hj hI;have hal:∀ w,(jpI 23).run jpx w= .ok (.agg jr) w:=fun _=>by kernel_rfl
 have MW0:Hid (∀ cs,Mw w (((w.alloc (jqY jr 23)).alloc (jqY cs 218)).setRow (w.heap.size+1) (jb qJ).toArray) qJ):=fun cs=>
  ⟨jqb (((jnQ w).alloc _).alloc _) (by omega) _,(jqy _ _ _ _ (by omega)).trans (jQ _ _ _),jqc _ _ _ _ _ _ (jK _ _ _)⟩
 rw [hI.out] at MW0;generalize jr=Z at hal MW0;go_enter Tryz.func95,Tryz.ntmps95
 go_upto_region 4 with (first
  | refine wpList_load_row rfl 218 _ rfl 0 rfl tg.1 I tg.2 _ (hG0.out _) rfl rfl (by rw [HGL];rfl) ?_
  | refine ws_ rfl 218 rfl (w.heap.size+1) I rfl rfl (by with_reducible exact jK _ _ _) (by rw [HGL];rfl) (by rw [HGL];rfl) hone ?_)
 refine jg (fun wr=>Mw w wr qJ) (MW0.out _) ?_;clear MW0 hal hone HGL hG0 hI;clear Z;rintro w0 M0;have x1:bits .xor .u32 16842784 ((n:Int)*256)=((16842784^^^n*256:Nat):Int):=by
  rw [show (n:Int)*256=((n*256:Nat):Int) by omega];exact jq7 16842784 (n*256) (by decide) (by omega)
 have x2:bits .xor .u32 (wd qJ 0:Int) ((16842784^^^n*256:Nat):Int)=((wd qJ 0^^^(16842784^^^n*256):Nat):Int):=jq7 _ _ (zZ 0) (jL (by decide) (by omega));have c0:=M0.2.2.cell (i:=0) (by decide);have f0:=M0.2.2.frozen 0;go_upto_if 24 with (fail)
 refine jg (fun wr=>Mw w wr (h0L n)) (M0.set 0 _) ?_;clear x1 x2 c0 f0 M0 w0;rintro w0 M0;replace HG:=Hj (HG.out);go_cut [7] (fun s7 wx=>∃ (t0:Nat) (hs:List Nat),s7= .int .u64 (t0:Int)/\hs.length=8/\Lt32 hs/\t0<=64/\Mw w wx hs/\jC ks bs=Yt hs t0 bs)
 case first=>
  by_cases hn:n=0
  ·subst hn;go_wp2_with fail;go_meet
   exact ⟨0,h0L 0,rfl,Zc 0,jc7 (by omega),by omega,M0,by unfold jC;rw [if_pos h.len]⟩
  ·have hn':decide (0 < n)=true:=by simp;omega
   have WS:=jf (Zc n);have M0':=Hj M0;have hK:ks.length≠0:=by rw [h.len];exact hn
   have PL:(qQ ks).length=64:=Yk (by rw [h.len];omega);have LT:=jc7 hk;have CALL:Hid (∀ (W:World) (last:Bool),Ext w W->Calls jpx 124 #[.agg (jb (h0L n)).toArray, .agg (cellsOf (qQ ks)).toArray, .int .u64 64, .bool last] W fun e w'=>e= .returned (.agg (jb (vp (h0L n) (qQ ks) 64 last)).toArray)/\Ext W w'):=fun W last e=>Qm (t:=64) (Zc n) PL (by decide) (fun j _=>LT j) (HG.out W e)
   clear M0 LT PL;by_cases hm0:m=0
   ·have hmac:Hid (jC ks bs=qX (vp (h0L n) (qQ ks) 64 true)):=by unfold jC;rw [if_neg hK,if_pos (by rw [h'.len];exact hm0),h.len];rfl
    have HL:=yh (h0L n) (qQ ks) 64 true;have HB:Hid (Lt32 (vp (h0L n) (qQ ks) 64 true)):=(jc7 hk).comp (by decide) true;subst hm0;go_wp2_with fail;refine ym 8 [0,1,3,4,5,6,2,7,8] [2,7,8] ?_;refine qzV rfl (fun w'=>w'.heap[(w.heap.size+1)]? =some (.cells (jb (h0L n)).toArray 218 (0,0))) (fun w' e=>(M0'.out.ext ((jnQ _).drew.trans e)).2.2) (.agg (jb (h0L n)).toArray) (fun w' hF=>jd rfl rfl hF rfl rfl (by rw [WS];rfl)) ?_;go_frame
    repeat (refine jio ?_;go_frame)
    refine qzD fun K1 hK1=> ?_
    go_simp;refine (Ya (h.ext M0'.out.1.drew) (by omega)).mono ?_;rintro e w1 ⟨rfl,e1⟩;refine hK1.out _ _ (.inr e1) ?_;clear hK1 K1;try go_frame
    refine qzD fun K1 hK1=> ?_
    go_simp;refine (CALL.out _ _ (M0'.out.1.drew.trans e1)).mono ?_;rintro e w2 ⟨rfl,e2⟩;refine hK1.out _ _ (.inr e2) ?_;clear hK1 K1;try go_frame
    have M2:=M0'.out.ext ((jnQ _).drew.trans (e1.trans e2));clear CALL e1 e2 M0' WS;generalize vp (h0L n) (qQ ks) 64 true=C at *;have WS:=jf HL;have W1:=jo C;refine qzD fun K1 hK1=> ?_
    refine jrf _ _ _ rfl (w.heap.size+1) (jb C).toArray rfl rfl 218 _ M2.2.2 (by rw [WS];rfl) (by rw [WS];exact jf (Zc n)) W1 ?_;refine hK1.out _ _ (.inl rfl) ?_;clear hK1 K1;refine jN ?_;refine yf (fun wr=>Mw w wr C) M2.put ?_;clear M2;rintro w3 M3;obtain ⟨e3,r3,h3'⟩:=M3;replace r3:=Hj r3;replace h3':=Hj h3';go_wp2_with (refine wl_ rfl 218 rfl (w.heap.size+1) rfl h3'.out rfl rfl (by rw [WS];rfl) ?_)
    refine (J8 HL (fun j _=>HB.out j)).mono ?_;rintro e w4 ⟨rfl,e4⟩;have BS:(cellsOf (qX C)).toArray.size=32:=by simp [ja,ya,HL]
    have B1:=ji (qX C);replace r3:=Hj ((e4.block _ (jh r3.out)).trans r3.out);generalize hD:(cellsOf (qX C)).toArray=D at *;replace hD:=Hj hD;go_wp2_with (refine ws_ rfl 23 rfl w.heap.size D rfl rfl r3.out (by rw [BS];rfl) (by rw [BS];rfl) B1 ?_)
    (try simp only [jqV,Exit.then]);refine jqW (v:= .tuple #[.agg D, .int .i64 0]) ?_ rfl ?_
    ·exact qj rfl _ _ w.heap.size 23 D (0,0) _ _ rfl rfl (jqc _ _ _ _ _ _ r3.out) rfl rfl (by rw [BS];rfl)
    ·exact ⟨by rw [hmac.out,hD.out],jqb (e3.trans e4) (jpo _) _⟩
   ·have hmac:Hid (jC ks bs=Yt (vp (h0L n) (qQ ks) 64 false) 64 bs):=by unfold jC;rw [if_neg hK,if_neg (by rw [h'.len];exact hm0),h.len];rfl
    have HL:=yh (h0L n) (qQ ks) 64 false;have HB:Hid (Lt32 (vp (h0L n) (qQ ks) 64 false)):=(jc7 hk).comp (by decide) false;have hmb:((m:Int)==0)=false:=by simp;exact hm0
    go_wp2_with fail;refine ym 8 [0,1,3,4,5,6,2,7,8] [2,7,8] ?_;refine qzV rfl (fun w'=>w'.heap[(w.heap.size+1)]? =some (.cells (jb (h0L n)).toArray 218 (0,0))) (fun w' e=>(M0'.out.ext ((jnQ _).drew.trans e)).2.2) (.agg (jb (h0L n)).toArray) (fun w' hF=>jd rfl rfl hF rfl rfl (by rw [WS];rfl)) ?_;go_frame
    repeat (refine jio ?_;go_frame)
    refine qzD fun K1 hK1=> ?_
    go_simp;refine (Ya (h.ext M0'.out.1.drew) (by omega)).mono ?_;rintro e w1 ⟨rfl,e1⟩;refine hK1.out _ _ (.inr e1) ?_;clear hK1 K1;try go_frame
    refine qzD fun K1 hK1=> ?_
    go_simp;refine (CALL.out _ _ (M0'.out.1.drew.trans e1)).mono ?_;rintro e w2 ⟨rfl,e2⟩;refine hK1.out _ _ (.inr e2) ?_;clear hK1 K1;try go_frame
    have M2:=M0'.out.ext ((jnQ _).drew.trans (e1.trans e2));clear CALL e1 e2 M0' WS;generalize vp (h0L n) (qQ ks) 64 false=C at *;have WS:=jf HL;have W1:=jo C;refine qzD fun K1 hK1=> ?_
    refine jrf _ _ _ rfl (w.heap.size+1) (jb C).toArray rfl rfl 218 _ M2.2.2 (by rw [WS];rfl) (by rw [WS];exact jf (Zc n)) W1 ?_;refine hK1.out _ _ (.inl rfl) ?_;clear hK1 K1;refine jN ?_;refine yf (fun wr=>Mw w wr C) M2.put ?_;clear M2;rintro w3 M3;go_wp2_with fail;go_meet
    exact ⟨64,C,rfl,HL,HB.out,by omega,M3,hmac.out⟩
 case rest=>
  obtain ⟨t0,hs,rfl,hl,hlt,ht0,M1,hmac⟩:=hcut;replace hmac:=Hj hmac;clear M0;have hb':Hid (∀ W,Ext w W->Bs W A' m d bs):=fun W e=>h'.ext e
  have hbl:=h'.len;replace h':=Hj h';replace hlt:=Hj hlt;go_wp2_with fail;go_loopw [1,7] (fun x t wx=>∃ (i:Nat) (B:Option Addr) (q c' T:Nat),i<=vJ m/\x= .slice B q c'/\t= .int .u64 (T:Int)/\T=t0+64*i/\q=m - 64*i/\Bs w B q c' (bs.drop (64*i))/\Mw w wx (hAt hs t0 bs i)) (fun x _ _=>jla x)
  case atStart=>exact ⟨0,A',m,d,t0,jpp _,rfl,rfl,by omega,by omega,h'.out,M1⟩
  case round=>
   obtain ⟨i,B,q,c',T,hi,rfl,rfl,hT,hq,hB,MI⟩:=hrel;have q1:=hB.le;have q2:=hB.cap;have LT:=Hj (jhx (t:=t0) (bs:=bs) hlt.out i (by unfold vJ at hi;omega));have LN:=jfF (t:=t0) (bs:=bs) hl i;have WS:=jf LN;have TB:T+64+q < 18446744073709551616:=by unfold vJ at hi;omega
   by_cases hq64:64 < q
   ·have hi1:i+1<=vJ m:=by unfold vJ at hi ⊢;omega
    have HTK:=Hj (hB.take (k:=64) (by omega));have MI':=Hj MI;have PL:(qQ ((bs.drop (64*i)).take 64)).length=64:=Yk (by simp;omega);have CALL:Hid (∀ (W:World),Ext w W->Calls jpx 124 #[.agg (jb (hAt hs t0 bs i)).toArray, .agg (cellsOf (qQ ((bs.drop (64*i)).take 64))).toArray, .int .u64 ((T:Int)+64), .bool false] W fun e w'=>e= .returned (.agg (jb (hAt hs t0 bs (i+1))).toArray)/\Ext W w'):=fun W e=>by
     have h9:=Qm (t:=T+64) (last:=false) LN PL (by omega) (fun j _=>LT.out j) (HG.out W e);rw [hAt,show t0+64*(i+1)=T+64 by omega];exact h9
    have LN1:=jfF (t:=t0) (bs:=bs) hl (i+1);have hB':=Hj hB;obtain ⟨b,off,rfl,hbl',hbc⟩:=hB.pos (by omega);clear hbc MI PL LT hB;replace hT:=Hj hT;replace hq:=Hj hq;generalize hHI:hAt hs t0 bs i=HI at *;replace hHI:=Hj hHI;have c64: ¬ c'=64:=by omega
    have c0: ¬ c'=0:=by omega
    have i64c:(64:Int)<=(c':Int):=by omega
    go_wp2_with fail;refine ym 6 [0,1,2,4,3,5,6] [3,5,6] ?_;refine qzV rfl (fun w'=>w'.heap[(w.heap.size+1)]? =some (.cells (jb HI).toArray 218 (0,0))) (fun w' e=>(MI'.out.ext ((jnQ _).drew.trans e)).2.2) (.agg (jb HI).toArray) (fun w' hF=>jd rfl rfl hF rfl rfl (by rw [WS];rfl)) ?_;go_frame
    repeat (refine jio ?_;go_frame)
    refine qzD fun K1 hK1=> ?_
    go_simp;refine (Ya (HTK.out.ext MI'.out.1.drew) (by omega)).mono ?_;rintro e w1 ⟨rfl,e1⟩;refine hK1.out _ _ (.inr e1) ?_;clear hK1 K1;try go_frame
    refine qzD fun K1 hK1=> ?_
    go_simp;refine (CALL.out _ (MI'.out.1.drew.trans e1)).mono ?_;rintro e w2 ⟨rfl,e2⟩;refine hK1.out _ _ (.inr e2) ?_;clear hK1 K1;try go_frame
    have e3:Ext wr w2:=((jnQ _).drew.trans (e1.trans e2));have M2:=MI'.out.ext e3;clear CALL e1 e2 e3 MI';generalize hHJ:hAt hs t0 bs (i+1)=HJ at *;replace hHJ:=Hj hHJ;have WS1:=jf LN1;have W1:=jo HJ;refine qzD fun K1 hK1=> ?_
    refine jrf _ _ _ rfl (w.heap.size+1) (jb HJ).toArray rfl rfl 218 _ M2.2.2 (by rw [WS1];rfl) (by rw [WS1];exact WS) W1 ?_;refine hK1.out _ _ (.inl rfl) ?_;clear hK1 K1;refine jN ?_;refine yf (fun wr=>Mw w wr HJ) M2.put ?_;clear M2 HTK;rintro w3 M3;replace M3:=Hj M3;have i64q:(64:Int)<=(q:Int):=by omega
    go_wp2_with fail;refine ⟨⟨i+1,_,_,_,T+64,hi1,rfl,by go_num,by have:=hT.out;omega,by have:=hq.out;omega,?_,by rw [hHJ.out];exact M3.out⟩,by simp only [jla];omega⟩;have h9:=hB'.out.cutAt hq64;rw [List.drop_drop] at h9;exact h9
   ·have hif:i=vJ m:=by unfold vJ at hi ⊢;omega
    have MI':=Hj MI;have PL:(qQ (bs.drop (64*i))).length=64:=Yk (by simp;omega);have hTm:T+q=t0+m:=by unfold vJ at hif;omega
    have HMT:Hid (jC ks bs=qX (vp (hAt hs t0 bs i) (qQ (bs.drop (64*i))) (T+q) true)):=by
     rw [hmac.out,Yt,hbl,<-hif,hTm];rfl
    have CALL:Hid (∀ (W:World),Ext w W->Calls jpx 124 #[.agg (jb (hAt hs t0 bs i)).toArray, .agg (cellsOf (qQ (bs.drop (64*i)))).toArray, .int .u64 ((T:Int)+(q:Int)), .bool true] W fun e w'=>e= .returned (.agg (jb (vp (hAt hs t0 bs i) (qQ (bs.drop (64*i))) (T+q) true)).toArray)/\Ext W w'):=fun W e=>Qm (t:=T+q) (last:=true) LN PL (by omega) (fun j _=>LT.out j) (HG.out W e)
    have LN1:=yh (hAt hs t0 bs i) (qQ (bs.drop (64*i))) (T+q) true;have LT1:Hid (Lt32 (vp (hAt hs t0 bs i) (qQ (bs.drop (64*i))) (T+q) true)):=LT.out.comp (by omega) true;have hB':=Hj hB;clear MI PL LT hB hif hTm;replace hT:=Hj hT;replace hq:=Hj hq;generalize hHI:hAt hs t0 bs i=HI at *;generalize vp HI (qQ (bs.drop (64*i))) (T+q) true=HJ at *;have BS:(cellsOf (qX HJ)).toArray.size=32:=by simp [ja,ya,LN1]
    have B1:=ji (qX HJ);have KEEP:Hid (∀ w':World,wr.grownBy w' (some w.heap.size)->Wr w' (w.heap.size+1) 218 HI):=fun w' e=>(e.block (w.heap.size+1) (MI'.out.2.2.lt) (fun q=>by injection q with q;omega)).trans MI'.out.2.2
    replace hHI:=Hj hHI;go_wp2_with fail;refine qgW (w.heap.size) [0,1,3,2,4,5,6,7] [2,4,5,6] ?_;refine qV rfl (fun w'=>w'.heap[(w.heap.size+1)]? =some (.cells (jb HI).toArray 218 (0,0))) (fun w' e=>KEEP.out w' (jj (jV (jnQ _).drew _) e)) (.agg (jb HI).toArray) (fun w' hF=>jd rfl rfl hF rfl rfl (by rw [WS];rfl)) ?_;go_frame
    repeat ((first | refine qR0 ?_ | refine qS ?_);go_frame)
    refine qD fun K1 hK1=> ?_
    go_simp;refine (Ya (hB'.out.ext MI'.out.1.drew) (by omega)).mono ?_;rintro e w1 ⟨rfl,e1⟩;refine hK1.out _ _ (jV e1 _) ?_;clear hK1 K1;try go_frame
    refine qD fun K1 hK1=> ?_
    go_simp;refine (CALL.out _ (MI'.out.1.drew.trans e1)).mono ?_;rintro e w2 ⟨rfl,e2⟩;refine hK1.out _ _ (jV e2 _) ?_;clear hK1 K1;try go_frame
    refine qD fun K1 hK1=> ?_
    go_simp;refine (J8 LN1 (fun j _=>LT1.out j)).mono ?_;rintro e w3 ⟨rfl,e3⟩;refine hK1.out _ _ (jV e3 _) ?_;clear hK1 K1;try go_frame
    have e4:Ext wr w3:=((jnQ _).drew.trans (e1.trans (e2.trans e3)));have M4:=Hj (MI'.out.ext e4);generalize hD:(cellsOf (qX HJ)).toArray=D at *;replace hD:=Hj hD;clear CALL e1 e2 e3 e4 MI' KEEP;refine qD fun K1 hK1=> ?_
    refine jrf _ _ _ rfl w.heap.size D rfl rfl 23 _ M4.out.2.1 (by rw [BS];rfl) (by rw [BS];rfl) B1 ?_;refine hK1.out _ _ (jet _ _ _) ?_;clear hK1 K1;try go_frame
    repeat ((first | refine qR0 ?_ | refine qS ?_);go_frame)
    refine jp ?_;go_wp2_with fail;(try simp only [jqV,Exit.then]);refine jqW (v:= .tuple #[.agg D, .int .i64 0]) ?_ rfl ?_
    ·exact qj rfl _ _ w.heap.size 23 D (0,0) _ _ rfl rfl (jqc _ _ _ _ _ _ M4.out.2.1) rfl rfl (by rw [BS];rfl)
    ·exact ⟨by rw [HMT.out,hD.out],jqb M4.out.1 (jpo _) _⟩
theorem jgn:Tryz.prog.eqGuardType Tryz.prog.depth 23=false:=by kernel_rfl
theorem zS (xs:List UInt8):cellsOf xs=xs.map Extern.Stop.cell:=by rw [qp];rfl
theorem jgm {xs ys:List UInt8}(hx:xs.length=32) (hy:ys.length=32) (w:World):
 (Op.equalIn 10000 23 (.agg (cellsOf xs).toArray) (.agg (cellsOf ys).toArray)).run jpx w= .ok (decide (xs=ys)) w:=by
 rw [zS,zS,run_equalIn_bytes w 9998 23 5 32 rfl rfl (fun _=>rfl) xs ys hx hy]
 congr 1
 rw [Bool.eq_iff_iff];simp
theorem joh {o:Oper}{a:Act}{w:World}{x y:Operand}{t':jpC}{xs ys:List UInt8}(ho:o.op= .binOp .eql 23 x y t') (hx:a.eval x= .agg (cellsOf xs).toArray) (hy:a.eval y= .agg (cellsOf ys).toArray) (lx:xs.length=32) (ly:ys.length=32):
 (jpY a.eval o).run jpx w= .ok (.value (.bool (decide (xs=ys)))) w:=by
 unfold jpY;simp only [ho,hx,hy,jqi,run_eqGuard_agg _ _ _ _ _ _ _ jgn,jqk,run_eql_struct,jgm lx ly,jqj]
theorem jca {o:Oper}{a:Act}{w:World}{x y:Operand}{t':jpC}{xs ys:List UInt8}(ho:o.op= .binOp .neq 23 x y t') (hx:a.eval x= .agg (cellsOf xs).toArray) (hy:a.eval y= .agg (cellsOf ys).toArray) (lx:xs.length=32) (ly:ys.length=32):
 (jpY a.eval o).run jpx w= .ok (.value (.bool (!decide (xs=ys)))) w:=by
 unfold jpY;simp only [ho,hx,hy,jqi,run_eqGuard_agg _ _ _ _ _ _ _ jgn,jqk,run_neq_struct,jgm lx ly,jqj]
section
variable {ops:Array Oper}{rest:List Oper}{o:Oper}{a:Act}{w:World}{Q:Exit->Act->World->Prop}
theorem vQ {P:jpB}{v:Value}(hw:jpX o (yielded ops a.tmps)=true) (hr:(jpY a.eval o).run P w= .ok (.value v) w) (h:wpList P ops Q rest (a.put o.dst v) w):wpList P ops Q (o::rest) a w:=
 BigFrame.wpList_want hw fun K hK=>by
  unfold Oper.wp;rw [hr];exact hK _ _ h
theorem qe {P:jpB}{t:jpC}{parts:Array (Nat×Operand)}{cells:Array Value}(ho:o.op= .build t parts) (hf:P.built t (parts.map fun (i,x)=>(i,a.eval x)).toList=some cells):(jpY a.eval o).run P w= .ok (.value (.agg cells)) w:=by
 unfold jpY;simp only [ho,jqi,run_build w t _ cells hf,jqk,jqj]
theorem jn4 (hw:jpX o (yielded ops a.tmps)=true) (x y:Operand) (t':jpC) (ho:o.op= .binOp .eql 23 x y t') (xs ys:List UInt8) (b:Bool) (hb:decide (xs=ys)=b) (hx:a.eval x= .agg (cellsOf xs).toArray) (hy:a.eval y= .agg (cellsOf ys).toArray) (lx:xs.length=32) (ly:ys.length=32)
 (h:wpList jpx ops Q rest (a.put o.dst (.bool b)) w):wpList jpx ops Q (o::rest) a w:=vQ hw (hb ▸ joh ho hx hy lx ly) h
theorem js {P:jpB}(hw:jpX o (yielded ops a.tmps)=true) (ty:jpC) (x:Operand) (ho:o.op= .load ty x)
 (g:Nat) (hx:a.eval x= .pointer (some ⟨g,0,none⟩)) (t:jpC) (cs:Array Value) (fr:Nat×Nat) (d:TypeDesc) (hg:w.heap[g]? =some (.cells cs t fr))
 (hu:P.underlying ty=some d) (hd:(match d with | .struct _ | .array _ _=>true | _=>false)=true) (hi:(P.info? ty).map (·.size)=some cs.size)
 (h:wpList P ops Q rest (a.put o.dst (.agg cs)) w):wpList P ops Q (o::rest) a w:=vQ hw (jd ho hx hg hu hd hi) h
end
theorem Bs.of_list {w:World}{g n:Nat}{t:jpC}{fr:Nat×Nat}{cs:Array Value}{xs:List UInt8}(hc:cs=(cellsOf xs).toArray) (h:w.heap[g]? =some (.cells cs t fr)) (hn:xs.length=n/\n<=1000000):Bs w (some ⟨g,0,none⟩) n n xs:=by
 subst hc;have:=Bs.part h (o:=0) (n:=n) (c:=n) (by omega) (by omega) (by omega);rw [List.drop_zero,jqm (by omega)] at this;exact this
def Ky (w:World) (g:Nat) (xs:List UInt8):Prop:=w.heap[g]? =some (.cells (cellsOf xs).toArray 23 (0,0))/\xs.length=32
theorem Ky.ext {w w':World}{g:Nat}{xs:List UInt8}(h:Ky w g xs) (e:Ext w w'):Ky w' g xs:=⟨(e.block g (jh h.1)).trans h.1,h.2⟩
theorem Ky.cell {w:World}{g:Nat}{xs:List UInt8}(h:Ky w g xs){j:Nat}(hj:j < 32):w.cell? ⟨g,j,none⟩=some (.int .u8 (bt xs j:Int)):=by
 rw [jqe w g j _ _ (0,0) h.1];have:=jZ (xs:=xs) (j:=j) (by rw [h.2];exact hj)
 simpa using this
theorem Ky.frozen {w:World}{g:Nat}{xs:List UInt8}(h:Ky w g xs) (j:Nat):w.frozen? ⟨g,j,none⟩=false:=frozen_of_row w g j _ _ h.1
theorem Ky.bs {w:World}{g:Nat}{xs:List UInt8}(h:Ky w g xs):Bs w (some ⟨g,0,none⟩) 32 32 xs:=Bs.key h.1 h.2
theorem Ky.put {w:World}{g:Nat}{old xs:List UInt8}(h:Ky w g old) (hx:xs.length=32):Ky (w.setRow g (cellsOf xs).toArray) g xs:=⟨jqc _ _ _ _ _ _ h.1,hx⟩
theorem Ky.new {w:World}{xs:List UInt8}(o:Array Value) (hx:xs.length=32):Ky ((w.alloc (.cells o 23)).setRow w.heap.size (cellsOf xs).toArray) w.heap.size xs:=⟨jqc _ _ _ _ _ _ (jqq _ _),hx⟩
theorem Ky.boxed (w:World){xs:List UInt8}(hx:xs.length=32):Ky (w.alloc (.cells (cellsOf xs).toArray 23)) w.heap.size xs:=⟨jqq _ _,hx⟩
theorem Ext.newRow (w:World) (o:Obj) (C:Array Value):Ext w ((w.alloc o).setRow w.heap.size C):=jqb ((jnQ w).alloc _) (jpo _) _
theorem Qn (w:World) (C:Array Value) (n c:Nat):(convert 33 33 (.slice (some ⟨w.heap.size,0,none⟩) n c)).run jpx (w.alloc (.cells C 5))= .ok (.slice (some ⟨w.heap.size,0,none⟩) n c) (w.alloc (.cells C 5 (C.size,C.size+1))):=
 Lib.run_convert_bytes_const (P:=jpx) w 33 5 C n c jpy Tryz.underlying5
theorem j2 (w:World):(jpI 23).run jpx w= .ok (.agg jr) w:=by kernel_rfl
set_option maxRecDepth 100000 in
theorem Qp {A:Option Addr}{m d:Nat}{ks bs:List UInt8}{w:World}(hk:ks.length=32) (h:Bs w A m d bs){tg:jpC×Nat×Nat}(hG:Gl w tg):
 Calls jpx 114 #[.agg (cellsOf ks).toArray, .slice A m d] w fun e w'=>e= .returned (.agg (cellsOf (jC ks bs)).toArray)/\Ext w w':=by
 have hal:∀ w,(jpI 23).run jpx w= .ok (.agg jr) w:=fun _=>by kernel_rfl
 have HL:(cellsOf (jC ks bs)).toArray.size=32:=by simp [ja,qr]
 have H1:=ji (jC ks bs);have KB:Hid (∀ o,Bs ((w.alloc (jqY (cellsOf ks).toArray 23)).alloc o) (some ⟨w.heap.size,0,none⟩) 32 32 ks):=fun o=>(Ky.bs (Ky.boxed w hk)).ext ((jnQ _).alloc _)
 have CALL:Hid (∀ W,Ext w W->Bs W (some ⟨w.heap.size,0,none⟩) 32 32 ks->Calls jpx 95 #[.slice (some ⟨w.heap.size,0,none⟩) 32 32, .slice A m d] W fun e w'=>e= .returned (.tuple #[.agg (cellsOf (jC ks bs)).toArray, .int .i64 0])/\Ext W w'):=
  fun W e b=>Zi b (h.ext e) (by omega) (hG.kept e hG.lt)
 clear hG;have hz0:=j7;generalize jr=Z at *;generalize (cellsOf (jC ks bs)).toArray=D at *;generalize (cellsOf ks).toArray=KS at *;go_enter Tryz.func114,Tryz.ntmps114
 go_wp2_with fail;refine (CALL.out _ (((jnQ w).alloc _).alloc _) (KB.out _)).mono ?_;rintro e w1 ⟨rfl,e1⟩;have r0:=Hj ((e1.block (w.heap.size+1) (by rw [je,je];omega)).trans (jK w (jqY KS 23) (jqY Z 23)));have r1:Hid (((w1.alloc (jqY Z 23)).setRow w1.heap.size D).heap[w.heap.size+1]? =some (jqY Z 23)):=(jqy _ _ _ _ (Nat.ne_of_lt (jh r0.out))).trans (((jnQ w1).alloc _ |>.block _ (jh r0.out)).trans r0.out);clear CALL KB;go_wp2_with (first
  | refine ws_ rfl 23 rfl w1.heap.size D rfl rfl (by with_reducible exact jqq _ _) (by rw [HL];rfl) (by rw [HL];exact hz0) H1 ?_
  | refine wl_ rfl 23 rfl w1.heap.size rfl (by with_reducible exact jqc _ _ _ _ _ _ (jqq _ _)) rfl rfl (by rw [HL];rfl) ?_
  | refine ws_ rfl 23 rfl (w.heap.size+1) D rfl rfl (by with_reducible exact r1.out) (by rw [HL];rfl) (by rw [HL];exact hz0) H1 ?_)
 (try simp only [jqV,Exit.then]);refine jqW (jqX rfl _ _ (w.heap.size+1) 23 D (0,0) _ rfl (jqc _ _ _ _ _ _ r1.out) rfl rfl (by rw [HL];rfl)) rfl ?_;exact ⟨rfl,jqb (jqb (((((jnQ w).alloc _).alloc _).trans e1).alloc _) (jp0 (Nat.le_succ _) (jqU (jh r0.out))) _) (Nat.le_succ _) _⟩
theorem jhZ {w':World}{B k:Nat}{v':Value}{xs:List UInt8}(ho:w'.ownsRow B 5 1 v' k (xs.map u8v)):∃ A'' c'',v'= .slice A'' k c''/\Own B w' A'' k c'' xs:=by
 rcases ho.2 with ⟨hv,hn⟩ | ⟨g,cap,cur,hv,_⟩
 ·refine ⟨none,0,by rw [hv,hn],?_⟩;rw [hv] at ho;unfold Own;rw [show (Value.slice none k 0)= .slice none 0 0 by rw [hn]];exact ho
 ·refine ⟨_,_,hv,?_⟩;rw [hv] at ho;exact ho
theorem jed {w:World}{B:Nat}{A:Option Addr}{n c:Nat}{xs ys:List UInt8}(ty:jpC) (h:Own B w A n c xs) (hm:n+ys.length<=140737488355328) (hB:B<=w.heap.size):
 ∃ A'' c'' w',(jrd #[33,9] ty #[.slice A n c, .string (vR ys)]).run jpx w= .ok (.slice A'' (n+ys.length) c'') w'/\Own B w' A'' (n+ys.length) c'' (xs++ys)/\w.grownBy w' (jrb (.slice A n c)):=by
 obtain ⟨i,hi,hz0,hz1,hz2⟩:=info_parts jdb;obtain ⟨v',w',hr,ho,hg,_⟩:=Lib.run_append_own_string (P:=jpx) w B 33 9 ty 5 i jpy Tryz.underlying9 hi hz0 hz1 hz2 (.slice A n c) n (xs.map u8v) h (vR ys) (by rw [Zq];unfold maxLen;omega) (by rw [Zq];exact hm) hB;rw [Zq] at ho;have e:xs.map u8v++Lib.strCells (vR ys)=(xs++ys).map u8v:=by
  rw [jqw]
  congr 1
 rw [e] at ho;obtain ⟨A'',c'',rfl,ho'⟩:=jhZ ho;exact ⟨A'',c'',w',hr,ho',hg⟩
theorem jbq {w:World}{o:Oper}{a:Act}{K:Act->World->Prop}{Q:Exit->Act->World->Prop}{B:Nat}{A:Option Addr}{n c:Nat}{xs ys:List UInt8}{s x:Operand}
 (ho:o.op= .call {callee:= .builtin .append,args:= #[s,x],argTypes:= #[33,9]}) (hs:a.eval s= .slice A n c) (hx:a.eval x= .string (vR ys))
 (h:Own B w A n c xs) (hm:n+ys.length<=140737488355328) (hB:B<=w.heap.size)
 (hK:∀ A'' c'' w',Own B w' A'' (n+ys.length) c'' (xs++ys)->w.grownBy w' (jrb (.slice A n c))->Below B w w'->K (a.put o.dst (.slice A'' (n+ys.length) c'')) w'):o.wp jpx a w K Q:=by
 obtain ⟨A'',c'',w',hrun,h2,h3⟩:=jed o.type h hm hB;unfold Oper.wp jpY;simp only [ho,resolve,invoke,builtin,jqi,jqj,jqk,jqE,jqA,jqF,hs,hx,hrun];exact hK A'' c'' w' h2 h3 ((jpm B w).grown h3 hB h.ge)
theorem QP {w:World}{ops:Array Oper}{rest:List Oper}{o:Oper}{a:Act}{Q:Exit->Act->World->Prop}(hgd:o.guard=none){B:Nat}{A:Option Addr}{n c:Nat}{xs ys:List UInt8}{s x:Operand}
 (ho:o.op= .call {callee:= .builtin .append,args:= #[s,x],argTypes:= #[33,9]}) (hs:a.eval s= .slice A n c) (hx:a.eval x= .string (vR ys))
 (h:Own B w A n c xs) (hm:n+ys.length<=140737488355328) (hB:B<=w.heap.size)
 (hK:∀ A'' c'' w',Own B w' A'' (n+ys.length) c'' (xs++ys)->w.grownBy w' (jrb (.slice A n c))->Below B w w'->wpList jpx ops Q rest (a.put o.dst (.slice A'' (n+ys.length) c'')) w'):wpList jpx ops Q (o::rest) a w:=
 wpList_plain hgd fun _ hK'=>jbq ho hs hx h hm hB fun A'' c'' w' h2 h3 h4=>hK' _ _ (hK A'' c'' w' h2 h3 h4)
theorem Bs.one (w:World) (t:jpC) (fr:Nat×Nat) (x:UInt8):Bs (w.alloc (.cells #[.int .u8 (x.toNat:Int)] t fr)) (some ⟨w.heap.size,0,none⟩) 1 1 [x]:=
 Bs.of_list rfl (jqq _ _) ⟨rfl,by omega⟩
end
section
def jbZ (ks ps:List UInt8):Nat->List UInt8
 | 0=> []
 | i+1=>jC ks (jbZ ks ps i++ps++ [jpt (i+1)])
def jbj (ks ps:List UInt8):Nat->List UInt8
 | 0=> []
 | i+1=>jbj ks ps i++jbZ ks ps (i+1)
theorem jg8 (ks ps:List UInt8) (i:Nat):(jbZ ks ps (i+1)).length=32:=by rw [jbZ,qr]
theorem jax (ks ps:List UInt8):∀ i,(jbj ks ps i).length=32*i
 | 0=>rfl
 | i+1=>by rw [jbj,jpG,jax ks ps i,jg8];omega
def QL (ks ps:List UInt8) (m:Nat):List UInt8:=(jbj ks ps ((m+31) / 32)).take m
theorem je9 (ks ps:List UInt8):QL ks ps 32=jC ks (ps++ [1]):=by
 unfold QL;rw [show (32+31) / 32=0+1 from rfl,jbj,jbj,jbZ,jbZ];simp only [jq8,jpz];rw [jqm (by rw [qr];omega)]
 rfl
def jM (ks ps:List UInt8):List UInt8:=jC ks (ps++ [1])
theorem jR (ks ps:List UInt8):(jM ks ps).length=32:=qr _ _
end
section
open Go.ChangeShapes Go.WideShapes Go.ChangeAt Go.RowKit Go.Deep
def Sp (w wr:World) (ks ps:List UInt8) (O:Option Addr) (on oc:Nat) (os:List UInt8) (L:Option Addr) (ln lc:Nat) (ls:List UInt8):Prop:=
 Ext w wr/\wr.heap[w.heap.size]? =some (.cells (cellsOf ks).toArray 23 (0,0))/\wr.heap[w.heap.size+1]? =some (.cells #[.string (vR ps)] 9 (0,0))/\
 wr.heap[w.heap.size+1+1]? =some (.cells #[.slice O on oc] 33 (0,0))/\wr.heap[w.heap.size+1+1+1]? =some (.cells #[.slice L ln lc] 33 (0,0))/\Own (w.heap.size+1+1+1+1) wr O on oc os/\Bs wr L ln lc ls
theorem Sp.size {w wr:World}{ks ps os ls:List UInt8}{O L:Option Addr}{on oc ln lc:Nat}(h:Sp w wr ks ps O on oc os L ln lc ls):w.heap.size+1+1+1 < wr.heap.size:=jh h.2.2.2.2.1
theorem Sp.ext {w wr wr':World}{ks ps os ls:List UInt8}{O L:Option Addr}{on oc ln lc:Nat}(h:Sp w wr ks ps O on oc os L ln lc ls) (e:Ext wr wr'):Sp w wr' ks ps O on oc os L ln lc ls:=by
 obtain ⟨a,b,c,d,f,g,i⟩:=h;exact ⟨a.trans e,(e.block _ (jh b)).trans b,(e.block _ (jh c)).trans c,(e.block _ (jh d)).trans d,(e.block _ (jh f)).trans f,g.ext e,i.ext e⟩
def jkT (w:World) (ks ps os ls:List UInt8) (e:Ending) (w':World):Prop:=
 e= .returned (.tuple #[])/\∃ O n c L lc,Sp w w' ks ps O n c os L 32 lc ls
set_option maxRecDepth 100000 in
theorem je8 {w wr:World}{ks ps os ls:List UInt8}{O L:Option Addr}{on oc ln lc:Nat}{x:UInt8}(hk:ks.length=32) (h:Sp w wr ks ps O on oc os L ln lc ls) (h1:ps.length<=1000000) (h2:ln<=32) (h3:on<=1000000){tg:jpC×Nat×Nat}(hG:Gl w tg):
 Calls jpx 166 #[.int .u8 (x.toNat:Int), .pointer (some ⟨w.heap.size+1+1+1,0,none⟩), .pointer (some ⟨w.heap.size+1,0,none⟩), .pointer (some ⟨w.heap.size,0,none⟩), .pointer (some ⟨w.heap.size+1+1,0,none⟩)] wr (jkT w ks ps (os++jC ks (ls++ps++ [x])) (jC ks (ls++ps++ [x]))):=by
 have LT:=h.size;have KEEP:Hid (∀ w',Ext wr w'->w'.cell? ⟨w.heap.size+1,0,none⟩=some (.string (vR ps))/\w'.cell? ⟨w.heap.size+1+1,0,none⟩=some (.slice O on oc)/\w'.cell? ⟨w.heap.size+1+1+1,0,none⟩=some (.slice L ln lc)):=fun w' e=>⟨cell_of_one (h.ext e).2.2.1,cell_of_one (h.ext e).2.2.2.1,cell_of_one (h.ext e).2.2.2.2.1⟩
 have HS:=Hj h;have HG:=Hj (fun W e=>Gl.kept hG (w':=W) e hG.lt);clear hG;have cL:=(KEEP.out _ (jnQ wr)).2.2;have i:=Hj h.2.2.2.2.2.2;have ML:=qr ks (ls++ps++ [x]);generalize hm:jC ks (ls++ps++ [x])=m at *;replace hm:=Hj hm;have KS:(cellsOf ks).toArray.size=32:=by simp [ja,hk]
 have MS:(cellsOf m).toArray.size=32:=by simp [ja,ML]
 have M1:=ji m;have hal:∀ w,(jpI 23).run jpx w= .ok (.agg jr) w:=fun _=>by kernel_rfl
 have hz0:=j7;generalize jr=Z at *;clear h;go_enter Tryz.func166,Tryz.ntmps166
 go_wp2_with (first
  | (at_builtin;(with_reducible refine jJ rfl (B:=wr.heap.size) (s:= .tmp 8) (x:= .tmp 9) rfl rfl rfl (Own.nil _ wr) i.out (by omega) (jpo _) ?_);intro A1 c1 w1 o1 g1 b1;clear g1;simp only [jpz,jq8] at o1 ⊢;replace o1:=Hj o1;have k1:=(KEEP.out _ b1).1;replace b1:=Hj b1;go_frame)
  | (at_builtin;(with_reducible refine QP rfl (ys:=ps) (B:=wr.heap.size) (s:= .tmp 11) (x:= .tmp 12) rfl rfl rfl o1.out (by omega) b1.out.size ?_);intro A2 c2 w2 o2 g2 b2;clear g2;replace o2:=Hj o2;replace b2:=Hj (jpn b1.out b2);clear k1;go_frame)
  | (at_builtin;(with_reducible refine jJ rfl (B:=wr.heap.size) (s:= .tmp 14) (x:= .tmp 16) rfl rfl rfl (o2.out.ext ((jnQ _).alloc _)) (Bs.one _ _ _ _) (by omega) (jp0 b2.out.size (by simp)) ?_);intro A3 c3 w3 o3 g3 b3;clear g3;replace o3:=Hj o3.bs;replace b3:=Hj (jpn (Below.alloc b2.out b2.out.size _) b3);go_frame)
  | (refine wl_ rfl 23 rfl w.heap.size rfl (HS.out.ext b3.out).2.1 rfl rfl (by rw [KS];rfl) ?_;go_frame))
 have dc:=Qp hk o3.out (HG.out _ (HS.out.1.trans b3.out));rw [hm.out] at dc;refine dc.mono ?_;clear dc;rintro e w4 ⟨rfl,e4⟩;go_upto_region 5 with (refine ws_ rfl 23 rfl w4.heap.size (cellsOf m).toArray rfl rfl (by with_reducible exact jqq _ _) (by rw [MS];rfl) (by rw [MS];exact hz0) M1 ?_;go_frame)
 have E4:Ext wr w4:=Ext.trans (show Ext wr w3 from b3.out) e4;have gE:wr.heap.size<=w4.heap.size:=E4.size;refine jg (fun W=>Ext wr W/\Ky W w4.heap.size m) ⟨E4.trans (Ext.newRow _ _ _),Ky.new _ ML⟩ ?_;rintro w5 ⟨e5,ky5⟩;generalize w4.heap.size=gb at *;clear E4 e4 o3 b3 o1 b1 o2 b2;have S5:=HS.out.ext e5;have c5:=cell_of_one S5.2.2.2.2.1;have f5:=free_of_one S5.2.2.2.2.1;replace S5:=Hj S5;replace e5:=Hj e5;replace ky5:=Hj ky5;go_upto_region 6 with fail;have OB:∀ g,jrb (.slice O on oc)=some g->w.heap.size+1+1+1+1<=g/\g < wr.heap.size:=fun g hg=>jrc HS.out.2.2.2.2.2.1 g hg
 refine jg (fun W=>Sp w W ks ps O on oc os (some ⟨gb,0,none⟩) 32 32 m/\Ky W gb m) ?_ ?_
 ·obtain ⟨a,b,c,d,f,g,i⟩:=S5.out;have bl:∀ j o,w5.heap[j]? =some o->j≠w.heap.size+1+1+1->(w5.setCell ⟨w.heap.size+1+1+1,0,none⟩ (.slice (some ⟨gb,0,none⟩) 32 32)).heap[j]? =some o:=fun j o hj hne=>(jp7 _ _ _ _ hne).trans hj
  have ky6:Ky (w5.setCell ⟨w.heap.size+1+1+1,0,none⟩ (.slice (some ⟨gb,0,none⟩) 32 32)) gb m:=⟨bl _ _ ky5.out.1 (by omega),ky5.out.2⟩;refine ⟨⟨a.setCell (show w.heap.size<=w.heap.size+1+1+1 by omega) _,bl _ _ b (by omega),bl _ _ c (by omega),bl _ _ d (by omega),one_setCell f,?_,ky6.bs⟩,ky6⟩;refine Own.kept g (Qr (jV (jnQ w5) _) 0 _) (.inr fun hq=> ?_);have:=(OB _ hq).1;omega
 rintro w6 ⟨S6,ky6⟩;have c6:=cell_of_one S6.2.2.2.1;have l6:=cell_of_one S6.2.2.2.2.1;have o6:=Hj S6.2.2.2.2.2.1;have d6:=Hj S6.2.2.2.1;have kb6:=Hj ky6.bs;replace S6:=Hj S6;replace ky6:=Hj ky6;have z6:w.heap.size+1+1+1+1<=w6.heap.size:=S6.out.size;clear c5 f5 S5 e5 ky5 KEEP cL i;go_wp2_with (at_builtin;((with_reducible refine jJ rfl (B:=w.heap.size+1+1+1+1) (s:= .tmp 22) (x:= .tmp 23) rfl rfl rfl o6.out kb6.out (by omega) z6 ?_);intro A7 c7 w7 o7 g7 b7;have h7:=(b7.block (w.heap.size+1+1) (by omega)).trans d6.out;have d7:=cell_of_one h7;have f7:=free_of_one h7;replace h7:=Hj h7;replace o7:=Hj o7;replace b7:=Hj b7;replace g7:=Hj g7;go_frame))
 go_end0
 refine ⟨rfl,A7,on+32,c7,some ⟨gb,0,none⟩,32,?_⟩;obtain ⟨a,b,c,d,f,g,i⟩:=S6.out;have bl:∀ j o,w6.heap[j]? =some o->j < w.heap.size+1+1+1+1->j≠w.heap.size+1+1->(w7.setCell ⟨w.heap.size+1+1,0,none⟩ (.slice A7 (on+32) c7)).heap[j]? =some o:=fun j o hj hlt hne=>(jp7 _ _ _ _ hne).trans ((b7.out.block j hlt).trans hj)
 have kb:Ky (w7.setCell ⟨w.heap.size+1+1,0,none⟩ (.slice A7 (on+32) c7)) gb m:=by
  refine ⟨(jp7 _ _ _ _ (show gb≠w.heap.size+1+1 by omega)).trans ((g7.out.block gb (jh ky6.out.1) (fun q=> ?_)).trans ky6.out.1),ky6.out.2⟩;have:=(OB gb q.symm).2;omega
 refine ⟨Ext.setCell (jpn a (b7.out.mono (by omega))) (show w.heap.size<=w.heap.size+1+1 by omega) _,bl _ _ b (by omega) (by omega),bl _ _ c (by omega) (by omega),one_setCell h7.out,bl _ _ f (by omega) (by omega),?_,kb.bs⟩;refine Own.kept o7.out (Qr (jV (jnQ w7) _) 0 _) (.inr fun hq=> ?_);have:=o7.out.ge _ hq;omega
theorem jcT (w:World) (o1 o2 o3 o4:Obj):((((w.alloc o1).alloc o2).alloc o3).alloc o4).heap[w.heap.size]? =some o1:=by
 rw [jqg _ _ _ (by rw [je,je,je];omega)];exact jF w o1 o2 o3
theorem jcU (w:World) (o1 o2 o3 o4:Obj):((((w.alloc o1).alloc o2).alloc o3).alloc o4).heap[w.heap.size+1]? =some o2:=by
 rw [jqg _ _ _ (by rw [je,je,je];omega)];exact jH w o1 o2 o3
theorem jcV (w:World) (o1 o2 o3 o4:Obj):((((w.alloc o1).alloc o2).alloc o3).alloc o4).heap[w.heap.size+1+1]? =some o3:=by
 rw [jqg _ _ _ (by rw [je,je,je];omega)];exact jB w o1 o2 o3
theorem jcW (w:World) (o1 o2 o3 o4:Obj):((((w.alloc o1).alloc o2).alloc o3).alloc o4).heap[w.heap.size+1+1+1]? =some o4:=by
 have:=jB (w.alloc o1) o2 o3 o4
 rwa [je] at this
set_option maxRecDepth 100000 in
theorem jcG {ks ps:List UInt8}{m:Nat}{w:World}(hk:ks.length=32) (h1:ps.length<=1000000) (hm:m<=2000){tg:jpC×Nat×Nat}(hG:Gl w tg):
 Calls jpx 144 #[.agg (cellsOf ks).toArray, .string (vR ps), .int .i64 (m:Int)] w (YP (QL ks ps m) 0 w):=by
 have q1':decide ((m:Int) < 0)=false:=decide_eq_false (by omega);have q2':decide ((2000:Int) < (m:Int))=false:=decide_eq_false (by omega);have HG:=Hj hG;clear hG;have SP0:Hid (Sp w ((((w.alloc (jqY (cellsOf ks).toArray 23)).alloc (jqY #[.string (vR ps)] 9)).alloc (jqY #[.slice none 0 0] 33)).alloc (jqY #[.slice none 0 0] 33)) ks ps none 0 0 [] none 0 0 []):=
  ⟨((((jnQ w).alloc _).alloc _).alloc _).alloc _,jcT _ _ _ _ _,jcU _ _ _ _ _,jcV _ _ _ _ _,jcW _ _ _ _ _,Own.nil _ _,Bs.nil _⟩
 go_enter Tryz.func144,Tryz.ntmps144
 go_wp2_with fail;go_loopw [11] (fun v wr=>∃ (i j n:Nat) (O:Option Addr) (oc:Nat) (L:Option Addr) (ln lc:Nat),v= .int .u8 (j:Int)/\j=i+1/\n=32*i/\n < m+32/\ln<=32/\Sp w wr ks ps O n oc (jbj ks ps i) L ln lc (jbZ ks ps i)) (fun v _=>64 - (intOf v).toNat)
 case atStart=>exact ⟨0,1,0,none,0,none,0,0,rfl,rfl,rfl,by omega,by omega,SP0.out⟩
 case round=>
  obtain ⟨i,j,n,O,oc,L,ln,lc,rfl,hj,hn,hi,hln,sp⟩:=hrel;clear SP0;have cO:=cell_of_one sp.2.2.2.1;have zz:=sp.size;have hE:=sp.1;by_cases hlt:n < m
  ·have CALL:Calls jpx 166 #[.int .u8 (j:Int), .pointer (some ⟨w.heap.size+1+1+1,0,none⟩), .pointer (some ⟨w.heap.size+1,0,none⟩), .pointer (some ⟨w.heap.size,0,none⟩), .pointer (some ⟨w.heap.size+1+1,0,none⟩)] wr (jkT w ks ps (jbj ks ps (i+1)) (jbZ ks ps (i+1))):=by
    have h9:=je8 (x:=jpt j) hk sp h1 hln (by omega) HG.out;have hx:(jpt j).toNat=j:=by simp;omega
    rw [hx] at h9;rw [jbj,jbZ,<-hj];exact h9
   replace CALL:=Hj CALL;clear sp;replace hj:=Hj hj;replace hn:=Hj hn;have j64:(j:Int)<=64:=by have:=hj.out;have:=hn.out;omega
   go_wp2_with (go_at_call 166;refine CALL.out.mono ?_;rintro e w1 ⟨rfl,O1,n1,c1,L1,lc1,sp1⟩;replace sp1:=Hj sp1;go_frame)
   refine ⟨⟨i+1,j+1,n1,O1,c1,L1,32,lc1,by go_num,by have:=hj.out;omega,?_,?_,by omega,sp1.out⟩,by have:=hj.out;have:=hn.out;simp [intOf];omega⟩
   ·have:=sp1.out.2.2.2.2.2.1.len;rw [jax] at this;omega
   ·have:=sp1.out.2.2.2.2.2.1.len;rw [jax] at this;have:=hn.out;omega
  ·have hS:QL ks ps m=(jbj ks ps i).take m:=by
    unfold QL;rw [show (m+31) / 32=i by omega]
   replace hS:=Hj hS;have own:=sp.2.2.2.2.2.1;have B:=own.bs;have BT:=Hj (B.take (k:=m) (by omega));have n1:=B.le;have n2:=B.cap;rcases own.2 with ⟨hv,hn0⟩ | ⟨g,cap,cur,hv,_⟩
   ·injection hv with p1 p2 p3
    subst p1 p3;obtain rfl:n=0:=hn0;obtain rfl:m=0:=by omega
    clear own sp B;replace hn:=Hj hn;replace hj:=Hj hj;go_wp2_with fail;go_ret2;exact ⟨_,_,_,rfl,by rw [hS.out];exact BT.out,hE⟩
   ·injection hv with p1 p2 p3
    subst p1 p3;clear own sp B;replace hn:=Hj hn;replace hj:=Hj hj;go_wp2_with fail;go_ret2;exact ⟨_,_,_,rfl,by rw [hS.out];exact BT.out.recap (jpo _),hE⟩
theorem jfG:(Tryz.prog.info? 23).map (fun i=>(i.zero,i.size,i.bytes))=some (some (.agg jr),32,32):=by kernel_rfl
def Ss (w:World) (A:Option Addr) (n:Nat) (l:List (List UInt8)):Prop:=
 l.length=n/\(0 < n->∃ b off,A=some ⟨b,off,none⟩/\b < w.heap.size/\∀ j,j < n->w.cell? ⟨b,off+j,none⟩=some (.string (vR (l.getD j []))))
theorem Ss.ext {w w':World}{A:Option Addr}{n:Nat}{l:List (List UInt8)}(h:Ss w A n l) (e:Ext w w'):Ss w' A n l:=⟨h.1,fun h0=>by
 obtain ⟨b,off,q,hb,hc⟩:=h.2 h0;exact ⟨b,off,q,jpq hb e.size,fun j hj=>(e.cell hb).trans (hc j hj)⟩⟩
def Kr (w:World) (g:Nat) (l:List (List UInt8)):Prop:=w.heap[g]? =some (.cells (cellsOf l.flatten).toArray 23 (0,0))/\∀ x∈l,x.length=32
def jfp (l:List (List UInt8)) (w:World) (e:Ending) (w':World):Prop:=∃ g,e= .returned (.slice (some ⟨g,0,none⟩) l.length l.length)/\w.heap.size<=g/\Kr w' g l/\Ext w w'
theorem Kr.ext {w w':World}{g:Nat}{l:List (List UInt8)}(h:Kr w g l) (e:Ext w w'):Kr w' g l:=⟨(e.block g (jh h.1)).trans h.1,h.2⟩
theorem jai {l:List (List UInt8)}(h:∀ x∈l,x.length=32):l.flatten.length=32*l.length:=by
 induction l with
 | nil=>rfl
 | cons a l ih=>
   rw [List.flatten_cons,jpG,ih (fun x hx=>h x (jqC _ hx)),h a (jqB ..),List.length_cons];omega
theorem jfD {l:List (List UInt8)}(h:∀ x∈l,x.length=32){j i:Nat}(hj:j < l.length) (hi:i < 32):bt l.flatten (32*j+i)=bt (l.getD j []) i:=by
 induction l generalizing j with
 | nil=>simp at hj
 | cons a l ih=>
   have ha:=h a (jqB ..);have hl:∀ x∈l,x.length=32:=fun x hx=>h x (jqC _ hx)
   cases j with
   | zero=>
     unfold bt;simp only [List.flatten_cons,jpr,Nat.mul_zero,jpz,jpO,Option.getD_some];rw [jqs (by omega)]
   | succ j=>
     have:=ih hl (j:=j) (by simpa using hj);unfold bt at this ⊢;simp only [List.flatten_cons,jpr,List.getElem?_cons_succ] at this ⊢;rw [jqr (by omega),ha,show 32*(j+1)+i - 32=32*j+i by omega];exact this
theorem Kr.cell {w:World}{g:Nat}{l:List (List UInt8)}(h:Kr w g l){j i:Nat}(hj:j < l.length) (hi:i < 32):w.cell? ⟨g,32*j+i,none⟩=some (.int .u8 (bt (l.getD j []) i:Int)):=by
 rw [jqe w g _ _ _ _ h.1,<-jfD h.2 hj hi];have hl:=jai h.2;have:=jZ (xs:=l.flatten) (j:=32*j+i) (by omega)
 simpa using this
theorem Kr.row {w:World}{g:Nat}{l:List (List UInt8)}(h:Kr w g l){j:Nat}(hj:j < l.length):∀ i v,(cellsOf (l.getD j []))[i]? =some v->w.cell? ⟨g,32*j+i,none⟩=some v:=fun i v hv=>by
 have hx:(l.getD j []).length=32:=h.2 _ (by simp [jpr,hj]);have hi:i < 32:=by
  have:=(jqx.1 hv).1;rw [ja] at this;omega
 rw [jZ (by omega)] at hv;rw [h.cell hj hi,hv]
theorem jbh (n:Nat):madeCells jr (n*32)=(cellsOf (jqn (32*n) 0)).toArray:=by
 have hz:∀ j,j < 32->jr[j]! = .int .u8 0:=fun j hj=>by
  have h1:jr[j]? =some (.int .u8 0):=by
   unfold jr;rw [jqt,jq5,if_pos hj]
  rw [getElem!_def,h1]
 have hs:=j7
 apply Array.ext
 ·simp [madeCells,ja];omega
 ·intro i h1 h2;have hi:i < n*32:=by simpa [madeCells] using h1
  have hb:bt (jqn (32*n) (0:UInt8)) i=0:=by
   unfold bt;simp [jpr,jq5,show i < 32*n by omega]
  have hr:=jZ (xs:=jqn (32*n) (0:UInt8)) (j:=i) (by simp;omega);rw [hb] at hr;have hr2:(cellsOf (jqn (32*n) (0:UInt8))).toArray[i]= .int .u8 0:=by
   have h3:=jqx.1 hr
   simpa using h3.2
  rw [hr2];simp only [madeCells,Array.getElem_map,Array.getElem_range,hs];exact hz _ (jp3 _ (by decide))
theorem jkZ (n:Nat) (hn:n<=1000000) (w:World):
 (Instr.makeSlice 209 (.int .i64 (n:Int)) (.int .i64 (n:Int))).run jpx w= .ok (.slice (some ⟨w.heap.size,0,none⟩) n n) (w.alloc (.cells (cellsOf (jqn (32*n) 0)).toArray 23)):=by
 obtain ⟨i,hi,h0,h1,h2⟩:=info_parts jfG;have:=run_make (P:=jpx) w 209 23 i (.agg jr) Tryz.underlying209 hi h0 .i64 .i64 (n:Int) (n:Int) (by omega) (by omega) (by rw [h2];omega) (by omega);rw [this,h1];simp only [Int.toNat_natCast];rw [show (jqp jr).cells=jr from rfl,jbh]
def kfl (ks:List UInt8) (l:List (List UInt8)) (k:Nat):List UInt8:=((l.take k).map (jM ks)).flatten
theorem jfI {ks:List UInt8}{l:List (List UInt8)}{k:Nat}(h:k<=l.length):(kfl ks l k).length=32*k:=by
 unfold kfl;rw [jai (fun x hx=>by obtain ⟨y,_,rfl⟩:=jpN.1 hx;exact jR _ _)];simp [Nat.min_eq_left h]
theorem jhI {ks:List UInt8}{l:List (List UInt8)}{k:Nat}(h:k < l.length):kfl ks l (k+1)=kfl ks l k++jM ks (l.getD k []):=by
 unfold kfl;rw [jq6 h,jqw,List.flatten_append];simp only [jqA,jqF,List.flatten_cons,List.flatten_nil,List.append_nil,jpr,jq9 h,Option.getD_some]
theorem ji9 {ks:List UInt8}{l:List (List UInt8)}:kfl ks l l.length=(l.map (jM ks)).flatten:=by
 unfold kfl;rw [List.take_length]
theorem jja {ks:List UInt8}{l:List (List UInt8)}{k:Nat}(h:k < l.length):jp9 (kfl ks l k++jqn (32*(l.length - k)) 0) (32*k) (jM ks (l.getD k []))=kfl ks l (k+1)++jqn (32*(l.length - (k+1))) 0:=by
 have h1:=jfI (ks:=ks) (jqU h);have h2:=jR ks (l.getD k []);unfold jp9;rw [jqv h1,jhI h,List.drop_append,h2,h1,jrg (by omega),jq8,List.drop_replicate,jqd]
 congr 3
 omega
def Kw (w wr:World) (ks X:List UInt8):Prop:=Ext w wr/\Ky wr w.heap.size ks/\wr.heap[w.heap.size+1]? =some (.cells (cellsOf X).toArray 23 (0,0))
set_option maxRecDepth 100000 in
theorem Qt {A:Option Addr}{n c:Nat}{ks:List UInt8}{l:List (List UInt8)}{w:World}(hk:ks.length=32) (h:Ss w A n l) (hn:n<=1000) (hp:∀ j,(l.getD j []).length<=1000000){tg:jpC×Nat×Nat}(hG:Gl w tg):
 Calls jpx 113 #[.agg (cellsOf ks).toArray, .slice A n c] w (jfp (l.map (jM ks)) w):=by
 have hmk:=jkZ n (by omega);have HG:=Hj (fun W e=>Gl.kept hG (w':=W) e hG.lt);clear hG;have hln:=h.1;have H:=Hj h;clear h;have KW0:Hid (Kw w ((w.alloc (jqY (cellsOf ks).toArray 23)).alloc (jqY (cellsOf (jqn (32*n) 0)).toArray 23)) ks (kfl ks l 0++jqn (32*(n - 0)) 0)):=
  ⟨((jnQ w).alloc _).alloc _,⟨jQ _ _ _,hk⟩,by
    rw [show kfl ks l 0= [] from by unfold kfl;simp,jq8,Nat.sub_zero];exact jK _ _ _⟩
 have KS:(cellsOf ks).toArray.size=32:=by simp [ja,hk]
 replace hp:=Hj hp;replace hln:=Hj hln;go_enter Tryz.func113,Tryz.ntmps113
 go_wp2_with fail;go_loopw [15] (fun v wr=>∃ k:Nat,v= .int .i64 (k:Int)/\k<=n/\Kw w wr ks (kfl ks l k++jqn (32*(n - k)) 0)) (fun v _=>n - (intOf v).toNat)
 case atStart=>exact ⟨0,rfl,jpp _,KW0.out⟩
 case round=>
  obtain ⟨k,rfl,hkn,kw⟩:=hrel;clear KW0 hmk;have hE:=Hj kw.1;have hKy:=Hj kw.2.1;have hR:=Hj kw.2.2;by_cases hlt:k < n
  ·obtain ⟨b,off,rfl,hb,hc⟩:=(H.out.ext hE.out).2 (by omega);have ck:=hc k hlt;clear hc;have P1:=hp.out k;obtain ⟨s,hs⟩:=ex_ (l.getD k []);rw [<-hs] at ck P1;replace hs:=Hj hs;have SPREAD:Hid (Calls jpx 144 #[.agg (cellsOf ks).toArray, .string (vR s), .int .i64 32] wr (YP (jM ks s) 0 wr)):=by
    have h9:=jcG (m:=32) hk P1 (by omega) (HG.out _ hE.out);rw [je9] at h9;exact h9
   clear kw;go_wp2_with (refine wl_ rfl 23 rfl w.heap.size rfl hKy.out.1 rfl rfl (by rw [KS];rfl) ?_;go_frame)
   refine SPREAD.out.mono ?_;rintro e w1 ⟨A1,n1,c1,rfl,b1,e1⟩;have n32:n1=32:=by rw [<-b1.len,jR]
   subst n32;have hR1:w1.heap[w.heap.size+1]? =_:=(e1.block _ (jh hR.out)).trans hR.out;replace hR1:=Hj hR1;replace b1:=Hj b1;have hE1:=Hj (hE.out.trans e1);have hKy1:=Hj (hKy.out.ext e1);clear SPREAD hR hE hKy e1;go_wp2_with fail;have XL:(kfl ks l k++jqn (32*(n - k)) 0).length=32*n:=by rw [jpG,jfI (by have:=hln.out;omega),jrh];omega
   refine JZ (cur:=cellsOf (kfl ks l k++jqn (32*(n - k)) 0)) rfl hR1.out b1.out (jpo _) (by rw [ja,XL];omega) ?_;intro W' h1 h2;have hE2:Hid (Ext w W'):=jpn hE1.out (h2.out w.heap.size (by omega));have hK2:Hid (Ky W' w.heap.size ks):=⟨((h2.out (w.heap.size+1) (jpo _)).block w.heap.size (by omega)).trans hKy1.out.1,hk⟩;rw [Yf,hs.out,show k*32=32*k by omega] at h1;have hpt:=jja (ks:=ks) (l:=l) (k:=k) (by have:=hln.out;omega);rw [hln.out] at hpt;rw [hpt] at h1;clear hpt h2 XL hR1 b1 hE1 hKy1;go_wp2_with fail;exact ⟨⟨k+1,by go_num,by omega,hE2.out,hK2.out,h1.out⟩,by simp [intOf];omega⟩
  ·obtain rfl:k=n:=by omega
   clear kw;go_wp2_with fail;go_ret;refine ⟨w.heap.size+1,?_,by omega,⟨?_,fun x hx=>by obtain ⟨y,_,rfl⟩:=jpN.1 hx;exact jR _ _⟩,hE.out⟩
   ·rw [jqH,hln.out];rfl
   ·have:=hR.out;rw [Nat.sub_self,Nat.mul_zero,List.replicate_zero,List.append_nil] at this;rw [<-ji9,hln.out];exact this
theorem jcH {W:World}{t:jpC}{l:List (List UInt8)}{n:Nat}(hn:l.length=n):Ss (W.alloc (.cells (l.map fun x=>Value.string (vR x)).toArray t)) (some ⟨W.heap.size,0,none⟩) n l:=by
 refine ⟨hn,fun _=>⟨_,0,rfl,by rw [je];omega,fun j hj=> ?_⟩⟩;rw [jqe _ _ _ _ _ (0,0) (jqq _ _)];simp [jpr,show j < l.length by omega]
theorem jo5 (off:Nat) (v:Array Value) (cs:Array Value):v.zipIdx.foldl (fun cs (c,j)=>cs.setIfInBounds (off+j) c) cs=(v.toList.zipIdx 0).foldl (fun cs (x:Value×Nat)=>cs.setIfInBounds (off+x.2) x.1) cs:=by
 rw [<-Array.foldl_toList,Array.toList_zipIdx]
theorem jag {p q:Nat}{K L Z:Array Value}(pl:Nat->Option (Nat×Nat)) (h0:pl 0=some (0,p)) (h1:pl 1=some (p,q)) (hK:K.size=p) (hL:L.size=q) (hZ:Z.size=p+q):jqo pl Z [(0, .agg K),(1, .agg L)]=some (K++L):=by
 have c0:(jqp K).cells=K:=rfl;have c1:(jqp L).cells=L:=rfl;obtain ⟨g1,g2⟩:=Great.foldl_set 0 K.toList 0 Z;obtain ⟨g3,g4⟩:=Great.foldl_set p L.toList 0 ((K.toList.zipIdx 0).foldl (fun cs (x:Value×Nat)=>cs.setIfInBounds (0+x.2) x.1) Z);unfold jqo;simp only [h0,c0,hK];rw [if_neg (by simp;omega)];unfold jqo;simp only [h1,c1,hL];rw [if_neg (by rw [jo5,g1];simp;omega)];unfold jqo;rw [jo5,jo5]
 congr 1
 apply Array.ext_getElem?
 intro k;rw [g4 k,g2 k,g1];simp only [jpP,jpz,jpp,true_and,Array.length_toList,hK,hL,hZ,Nat.sub_zero];by_cases a:k < p
 ·rw [if_neg (by omega),if_pos ⟨a,by omega⟩,Array.getElem?_append_left (by omega)];simp
 ·by_cases b:k < p+q
  ·rw [if_pos ⟨by omega,b,b⟩,Array.getElem?_append_right (by omega),hK];simp
  ·rw [if_neg (by omega),if_neg (by omega),jpv (by omega),jpv (by rw [Array.size_append];omega)]
theorem jy {P:jpB}{o:Oper}{a:Act}{w:World}{ty:jpC}{x:Operand}{g off:Nat}{ys:List Value}{d:TypeDesc}(ho:o.op= .load ty x) (hx:a.eval x= .pointer (some ⟨g,off,none⟩)) (hc:∀ j v,ys[j]? =some v->w.cell? ⟨g,off+j,none⟩=some v)
 (hu:P.underlying ty=some d) (hd:(match d with | .struct _ | .array _ _=>true | _=>false)=true) (hi:(P.info? ty).map (·.size)=some ys.length):(jpY a.eval o).run P w= .ok (.value (.agg ys.toArray)) w:=by
 have hl:(loadCells ⟨g,off,none⟩ ys.length).run P w= .ok ys.toArray w:=run_loadCells_list (P:=P) w ⟨g,off,none⟩ ys (fun j v hv=>by
  have hadd:(⟨g,off,none⟩:Addr).add j=⟨g,off+j,none⟩:=by unfold Addr.add;split <;> simp_all
  rw [hadd];exact hc j v hv)
 have hv:(loadVar ty ⟨g,off,none⟩).run P w= .ok (.agg ys.toArray) w:=by
  cases hq:P.info? ty with
  | none=>simp [hq] at hi
  | some i=>
    have hs:i.size=ys.length:=by simpa [hq] using hi
    have hagg:(isAgg ty).run P w= .ok true w:=by
     unfold isAgg;rw [jqi,jql hu w]
     cases d <;> simp_all
    simp [loadVar,jqi,hagg,sizeOf,typeInfo,hq,hs,hl]
 unfold jpY;simp only [ho,hx,Instr.loadAt,Instr.sureAddr,jqi,jqj,jqk,hv]
theorem jI {P:jpB}{ops:Array Oper}{rest:List Oper}{o:Oper}{a:Act}{w:World}{Q:Exit->Act->World->Prop}(hw:jpX o (yielded ops a.tmps)=true){ty:jpC}{x:Operand}{g off:Nat}{ys:List Value}{d:TypeDesc}(ho:o.op= .load ty x) (hx:a.eval x= .pointer (some ⟨g,off,none⟩)) (hc:∀ j v,ys[j]? =some v->w.cell? ⟨g,off+j,none⟩=some v)
 (hu:P.underlying ty=some d) (hd:(match d with | .struct _ | .array _ _=>true | _=>false)=true) (hi:(P.info? ty).map (·.size)=some ys.length) (h:wpList P ops Q rest (a.put o.dst (.agg ys.toArray)) w):wpList P ops Q (o::rest) a w:=
 vQ hw (jy ho hx hc hu hd hi) h
theorem J9 {o:Oper}{a:Act}{w:World}{x y:Operand}{t':jpC}{xs ys:List UInt8}{b:Bool}(hb:(!decide (xs=ys))=b) (lx:xs.length=32) (ly:ys.length=32) (ho:o.op= .binOp .neq 23 x y t') (hx:a.eval x= .agg (cellsOf xs).toArray) (hy:a.eval y= .agg (cellsOf ys).toArray):
 (jpY a.eval o).run jpx w= .ok (.value (.bool b)) w:=hb ▸ jca ho hx hy lx ly
end
end Go.Proofs.YtakpgbaijkhpmaaGreatDoor
