import Derived.Test.YtakpgbaijkhpmaaGreatDoorRows
import Derived.WalkKit
import Derived.ProofKit
import Derived.OpenShut
import Derived.ShutString
import Derived.ChangeOld
import Derived.Below
import Derived.Lib.Hide
import Derived.Deep.OwnRows
import Derived.Deep.Draws
import Derived.Deep.QuietTactic
import Derived.BigQuiet
import Derived.IntWalk
import Derived.Laws.BytesArg
import Derived.Deep.Light
import Derived.Laws.BitsAllLaws
import Derived.Laws.BitsLemmas
import Derived.Maps.RangeWalk
import Derived.Maps.Ext
import Derived.Deep.RegionHeld3
import Derived.Laws.CopyOwn
import Derived.Laws.ResultCell
import Derived.Great.FillDense
import Derived.Stop.BytesEq
import Derived.Lib.SlBytesConst
import Derived.Deep.MidRow
import Derived.Deep.Upon
import Derived.DeepKeys4
import Derived.Laws.StructEq
import Derived.Laws.Rows
import Derived.Laws.Tables
open Array renaming all_eq_true_iff_forall_mem→joX,getElem?_eq_none→jox,getElem?_toList→joW,replicate→joY
open Bool renaming and_eq_true→joM,not_eq_true'→joN
open Classical renaming byContradiction→joO
open Go renaming Program→joD,TypeId→joE,below_setRow→jpd,cell_of_row→jpg,execOp→jo0,heap_alloc_new→jps,run_underlying→jpn,setRow_heap→jpe,setRow_other→jpA,splice→jpb,zeroValue→joK
open Go.Act renaming put→joT
open Go.Instr renaming fill→jpq,index→jpj
open Go.IntKind renaming wrap_u32→jo8
open Go.Proofs.Tryz renaming prog→joz,underlying182→jpI,underlying23→jpF,underlying33→joA
open Go.Region renaming noSelect→joS,ready→joU,wanted→joZ
open Go.Result renaming andThen_ok→jpm
open Go.RowKit.Below renaming heap_alloc→jpi,heap_setCell→jo9,refl→joo,trans→jop
open Go.Sem renaming run_bind→jpk,run_pure→jpl
open Go.Value renaming agg→jpr,int→joC
open Go.World.grownBy renaming refl→jo1
open List renaming all_eq_true→jo4,append_assoc→jpf,eq_nil_of_length_eq_zero→joy,ext_getElem→jpa,getD→jot,getElem?_append_left→jpu,getElem?_append_right→jpt,getElem?_cons_zero→joQ,getElem?_eq_none→jpc,getElem?_eq_some_iff→jpz,getElem?_map→joV,getElem?_take→jph,getElem?_toArray→jpv,length_append→joI,length_map→jpJ,length_set→jo7,length_take→jou,map_append→jpy,map_cons→jpC,map_nil→jpH,map_toArray→jpG,mem_append→joJ,mem_cons→joG,mem_cons_of_mem→jpE,mem_cons_self→jpD,mem_map→joP,mem_singleton→joH,not_mem_nil→jpB,range→jo3,replicate→jpp,size_toArray→jpw,take_left'→jpx,take_of_length_le→jpo
open List.Nodup renaming length_le_of_subset→joL
open Nat renaming add_zero→joR,le_refl→joq,le_trans→jo2,lt_of_le_of_lt→jo6,lt_of_lt_of_le→jos,lt_or_ge→jow,mod_lt→jo5,zero_add→joB,zero_le→jor
open Option.some renaming inj→joF
open UInt8 renaming ofNat→jov
namespace Go.Proofs.YtakpgbaijkhpmaaGreatDoor
set_option maxHeartbeats 64000000
set_option linter.unusedSimpArgs false
set_option linter.unusedVariables false
set_option maxRecDepth 100000
theorem Hj{p:Prop}(h:p):Go.RowKit.Hid p:=h
theorem ex_{a:Type}(b:a):∃ x,x=b:=⟨b,rfl⟩
theorem wl_{P:Go.Program}{ops:Array Go.Oper}{rest:List Go.Oper}{o:Go.Oper}{a:Go.Act}{w:Go.World}{Q:Go.Exit→Go.Act→Go.World→Prop}(hgd:o.guard=none) (ty:Go.TypeId){x:Go.Operand}(ho:o.op=.load ty x) (g:Nat) (hx:a.eval x=.pointer (some ⟨g,0,none⟩)){cs:Array Go.Value}{d:Go.TypeDesc}(hg:w.heap[g]? =some (.cells cs ty (0,0))) (hu:P.underlying ty=some d) (hd:(match d with | .struct _ | .array _ _=>true | _=>false)=true) (hi:(P.info? ty).map (·.size)=some cs.size) (h:Go.wpList P ops Q rest (a.put o.dst (.agg cs)) w):Go.wpList P ops Q (o::rest) a w:=Go.wpList_load_row hgd ty x ho g hx ty cs (0,0) d hg hu hd hi h
theorem ws_{P:Go.Program}{ops:Array Go.Oper}{rest:List Go.Oper}{o:Go.Oper}{a:Go.Act}{w:Go.World}{Q:Go.Exit→Go.Act→Go.World→Prop}(hgd:o.guard=none) (ty:Go.TypeId){x y:Go.Operand}(ho:o.op=.store ty x y) (g:Nat) (cells:Array Go.Value) (hx:a.eval x=.pointer (some ⟨g,0,none⟩)) (hy:a.eval y=.agg cells){old:Array Go.Value}(hg:w.heap[g]? =some (.cells old ty (0,0))) (hi:(P.info? ty).map (·.size)=some cells.size) (hold:old.size=cells.size) (h1:cells.all (·.oneCell')=true) (h:Go.wpList P ops Q rest (a.put o.dst Go.undef) (w.setRow g cells)):Go.wpList P ops Q (o::rest) a w:=Go.wpList_store_row hgd ty x y ho g cells hx hy ty old hg hi hold h1 h
section
open Go.ChangeShapes Go.WideShapes Go.ChangeAt Go.RowKit Go.Deep
def Ext (w w':World):Prop:=Below w.heap.size w w'
theorem jnQ (w:World):Ext w w:=joo _ _
theorem Ext.size {w w':World}(h:Ext w w'):w.heap.size≤w'.heap.size:=Below.size h
theorem Ext.trans {a b c:World}(h:Ext a b) (k:Ext b c):Ext a c:=jop h (Below.mono k h.size)
theorem Ext.trans' {a b c:World}(h:Ext a b) (k:Below a.heap.size b c):Ext a c:=jop h k
theorem Ext.drew {a w:World}(h:Ext a w):Ext a w.drew:=Below.drew h
theorem Ext.drewN {a w:World}(h:Ext a w) (n:Nat):Ext a (w.drewN n):=⟨h.os,h.tape,h.output,h.size,h.block⟩
theorem Ext.alloc {a w:World}(h:Ext a w) (o:Obj):Ext a (w.alloc o):=Below.alloc h h.size o
theorem Ext.setCell {a w:World}(h:Ext a w){p:Addr}(hp:a.heap.size≤p.block) (u:Value):Ext a (w.setCell p u):=Below.setCell h hp u
theorem Ext.cell {w w':World}(h:Ext w w'){p:Addr}(hp:p.block < w.heap.size):w'.cell? p=w.cell? p:=Below.cell h hp
theorem jir {a b:Bool}(h:a=b):Ending.returned (.bool a)= .returned (.bool b):=by rw [h]
theorem jjz {k:IntKind}{a b:Int}(h:a=b):Ending.returned (.int k a)= .returned (.int k b):=by rw [h]
def bt (xs:List UInt8) (k:Nat):Nat:=(xs.getD k 0).toNat
theorem vL (xs:List UInt8) (k:Nat):bt xs k < 256:=(xs.getD k 0).toNat_lt
def Bs (w:World) (A:Option Addr) (n c:Nat) (xs:List UInt8):Prop:=
 xs.length=n∧n≤c∧c≤maxLen∧(0 < n→∃ b off,A=some ⟨b,off,none⟩∧b < w.heap.size∧∀ j,j < n→w.cell? ⟨b,off+j,none⟩=some (.int .u8 (bt xs j:Int)))
section
variable {w w':World}{A:Option Addr}{n c:Nat}{xs:List UInt8}
theorem Bs.len (h:Bs w A n c xs):xs.length=n:=h.1
theorem Bs.le (h:Bs w A n c xs):n≤c:=h.2.1
theorem Bs.cap (h:Bs w A n c xs):c≤9223372036854775807:=h.2.2.1
theorem Bs.nil (w:World):Bs w none 0 0 []:=⟨rfl,joq _,jor _,fun h=>absurd h (by omega)⟩
theorem Bs.pos (h:Bs w A n c xs) (hn:0 < n):∃ b off,A=some ⟨b,off,none⟩∧b < w.heap.size∧∀ j,j < n→w.cell? ⟨b,off+j,none⟩=some (.int .u8 (bt xs j:Int)):=h.2.2.2 hn
theorem Bs.ext (h:Bs w A n c xs) (he:Ext w w'):Bs w' A n c xs:=
 ⟨h.1,h.2.1,h.2.2.1,fun hn=>by
   obtain ⟨b,off,e,hb,hc⟩:=h.2.2.2 hn
   exact ⟨b,off,e,jos hb he.size,fun j hj=>(he.cell hb).trans (hc j hj)⟩⟩
theorem YU {xs:List UInt8}{k j:Nat}(h:j < k):bt (xs.take k) j=bt xs j:=by unfold bt;simp [jot,h]
theorem jfu {xs:List UInt8}{k j:Nat}:bt (xs.drop k) j=bt xs (k+j):=by unfold bt;simp [jot]
theorem Bs.take (h:Bs w A n c xs){k:Nat}(hk:k≤n):Bs w A k c (xs.take k):=
 ⟨by rw [jou,h.1];omega,by have:=h.2.1;omega,h.2.2.1,fun h0=>by
   obtain ⟨b,off,e,hb,hc⟩:=h.2.2.2 (by omega)
   exact ⟨b,off,e,hb,fun j hj=>by rw [hc j (by omega),YU hj]⟩⟩
theorem Bs.zero (h:Bs w A 0 c xs):xs= []:=joy h.1
end
theorem jdb:(Tryz.prog.info? 5).map (fun i=>(i.zero,i.size,i.bytes))=some (some (.int .u8 0),1,1):=by kernel_rfl
theorem jhQ (n:Nat) (hn:n≤281474976710656) (w:World):
 (Instr.makeSlice 33 (.int .i64 (n:Int)) (.int .i64 (n:Int))).run joz w= .ok (.slice (some ⟨w.heap.size,0,none⟩) n n) (w.alloc (.cells (madeCells #[.int .u8 0] n) 5)):=
 run_make_row' _ _ _ 1 joA jdb rfl .i64 .i64 n (by omega) (by omega) w
def Fill (w wr:World) (n k:Nat) (f:Nat→Nat):Prop:=Ext w wr∧wr.rowIs w.heap.size 5 n (fun i=>if i < k then .int .u8 (f i:Int) else .int .u8 0)
section
variable {w wr:World}{n k:Nat}{f:Nat→Nat}
theorem Fill.start (w:World) (n:Nat) (f:Nat→Nat):Fill w (w.alloc (.cells (madeCells #[.int .u8 0] n) 5)) n 0 f:=
 ⟨(jnQ w).alloc _,(World.rowIs_made w _ n _).congr fun i _=>by simp⟩
theorem Fill.cell (h:Fill w wr n k f) (hk:k < n):wr.cell? ⟨w.heap.size,k,none⟩=some (.int .u8 0):=by
 rw [h.2.cell hk];simp
theorem Fill.frozen (h:Fill w wr n k f) (j:Nat):wr.frozen? ⟨w.heap.size,j,none⟩=false:=h.2.frozen j
theorem Fill.step (h:Fill w wr n k f){u:Int}(hu:u=(f k:Int)):Fill w (wr.setCell ⟨w.heap.size,k,none⟩ (.int .u8 u)) n (k+1) f:=by
 subst hu
 refine ⟨h.1.setCell (joq _) _,(h.2.set k _).congr fun i _=> ?_⟩
 by_cases e:i=k
 ·subst e;simp
 ·simp only [if_neg e]
  by_cases hi:i < k
  ·rw [if_pos hi,if_pos (by omega)]
  ·rw [if_neg hi,if_neg (by omega)]
theorem Fill.drew (h:Fill w wr n k f):Fill w wr.drew n k f:=⟨h.1.drew,h.2.drew⟩
theorem Fill.done (h:Fill w wr n n f){xs:List UInt8}(hl:xs.length=n) (hn:n≤281474976710656) (hf:∀ j,j < n→f j=bt xs j):Bs wr (some ⟨w.heap.size,0,none⟩) n n xs:=
 ⟨hl,joq _,by unfold maxLen;omega,fun _=>⟨w.heap.size,0,rfl,h.2.lt,fun j hj=>by
   rw [joB,h.2.cell hj,if_pos hj,hf j hj]⟩⟩
end
def vR (xs:List UInt8):ByteArray:=⟨xs.toArray⟩
theorem Zq (xs:List UInt8):(vR xs).size=xs.length:=by simp [vR,ByteArray.size]
theorem jfz {w:World}{A:Option Addr}{n c:Nat}{xs:List UInt8}(h:Bs w A n c xs):
 (convert 33 9 (.slice A n c)).run joz w= .ok (.string (vR xs)) w:=by
 rw [run_convert_bytes_string w _ _ 5 _ _ _ joA Tryz.underlying5 Tryz.underlying9]
 rcases A with _ | a
 ·have hn:n=0:=by
   rcases Nat.eq_zero_or_pos n with h0 | h0
   ·exact h0
   ·obtain ⟨b,off,e,_⟩:=h.pos h0
    cases e
  subst hn
  rw [h.zero]
  rfl
 ·have hl:(loadCells a n).run joz w= .ok ((xs.map fun x=>(x.toNat:Int)).map (joC .u8)).toArray w:=by
   have hr:=run_loadCells_list (P:=joz) w a ((xs.map fun x=>(x.toNat:Int)).map (joC .u8)) (fun j v hj=>by
    have hjl:j < xs.length:=by
     rcases jow j xs.length with h | h
     ·exact h
     ·simp [h] at hj
    obtain ⟨b,off,e,hb,hc⟩:=h.pos (by have:=h.len;omega)
    injection e with e
    subst e
    have hplain:(⟨b,off,none⟩:Addr).add j=⟨b,off+j,none⟩:=by unfold Addr.add;split <;> simp_all
    rw [hplain,hc j (by rw [←h.len];exact hjl)]
    simp [hjl] at hj
    subst hj
    simp [bt,jot,hjl])
   simpa [h.len] using hr
  rw [run_bytesToString w _ _ _ _ hl,foldl_push_bytes]
  simp [vR,ByteArray.empty,ByteArray.emptyWithCapacity]
  have e:((fun n:Int=>jov n.toNat) ∘ fun x:UInt8=>(x.toNat:Int))=id:=by funext x;simp
  rw [e]
  simp
  rfl
def Qw (xs:List UInt8) (w:World) (e:Ending) (w':World):Prop:=∃ A n c,e= .returned (.slice A n c)∧Bs w' A n c xs∧Ext w w'
def YP (xs:List UInt8) (er:Int) (w:World) (e:Ending) (w':World):Prop:=∃ A n c,e= .returned (.tuple #[.slice A n c, .int .i64 er])∧Bs w' A n c xs∧Ext w w'
end
section
open Go.ChangeShapes Go.WideShapes Go.ChangeAt Go.RowKit Go.Deep Go.Maps
open Go.WideElems (Fit rd rg pl rd_key rd_val rg_of)
def jgB (v:Value):Option (DataW Value×List MemPlace):=some (.held v,[])
structure Vw (P:joD) (k:joE) (D:DataW Value) (E:List (Value×Value)):Prop where
 apart:E.Pairwise (fun p q=>p.1≠q.1)
 size:Maps.size D=E.length
 into:∀ p∈E,∃ kl,keyOf P k p.1=some kl∧Maps.has D kl=true∧∀ z,D.atKey kl z= .held p.2
 back:∀ kl,Maps.has D kl=true→∃ p∈E,keyOf P k p.1=some kl
section
variable {P:joD}{k t e:joE}{w w':World}{b:Nat}{E:List (Value×Value)}{D:DataW Value}
theorem Vw.hit (h:Vw P k D E) (K:Keyed P k){key:Value}{kl:Lit}(hk:keyOf P k key=some kl) (hh:Maps.has D kl=true):∃ v,(key,v)∈E∧∀ z,D.atKey kl z= .held v:=by
 obtain ⟨p,hp,q⟩:=h.back kl hh
 obtain ⟨kl',h1,_,h3⟩:=h.into p hp
 obtain rfl:kl'=kl:=by rw [q] at h1;exact (joF h1).symm
 obtain rfl:p.1=key:=K.inj q hk
 exact ⟨p.2,hp,h3⟩
theorem Vw.miss (h:Vw P k D E){key:Value}{kl:Lit}(hk:keyOf P k key=some kl) (hh:Maps.has D kl=false):∀ p∈E,p.1≠key:=fun p hp e=>by
 obtain ⟨kl',h1,h2,_⟩:=h.into p hp
 rw [e,hk] at h1
 obtain rfl:=joF h1
 rw [hh] at h2;cases h2
theorem Vw.has_false (h:Vw P k D E) (K:Keyed P k){key:Value}{kl:Lit}(hk:keyOf P k key=some kl) (hm:∀ p∈E,p.1≠key):Maps.has D kl=false:=by
 cases hh:Maps.has D kl
 ·rfl
 ·obtain ⟨p,hp,q⟩:=h.back kl hh
  exact absurd (K.inj q hk) (hm p hp)
theorem jf5 {E:List (Value×Value)}(h:E.Pairwise (fun p q=>p.1≠q.1)){key v v':Value}(h1:(key,v)∈E) (h2:(key,v')∈E):v=v':=by
 induction E with
 | nil=>cases h1
 | cons x r ih=>
   obtain ⟨a,b⟩:=List.pairwise_cons.1 h
   rcases joG.1 h1 with q1 | q1 <;> rcases joG.1 h2 with q2 | q2
   ·rw [←q1] at q2;exact (congrArg Prod.snd q2).symm
   ·exact ((a _ q2) (by rw [←q1])).elim
   ·exact ((a _ q1) (by rw [←q2])).elim
   ·exact ih b q1 q2
theorem Vw.nil (P:joD) (k:joE):Vw P k (.map []) []:=⟨List.Pairwise.nil,rfl,(fun p hp=>by cases hp),(fun kl h=>by cases h)⟩
theorem Vw.add (h:Vw P k D E) (K:Keyed P k) (T:Tidy D){key v:Value}{kl:Lit}(hk:keyOf P k key=some kl) (hm:∀ p∈E,p.1≠key):Vw P k (D.put kl (.held v)) (E++ [(key,v)]):=by
 have hf:=h.has_false K hk hm
 have IK:=K.key hk
 refine ⟨?_,?_,fun p hp=> ?_,fun kl' hh=> ?_⟩
 ·rw [List.pairwise_append]
  exact ⟨h.apart,List.pairwise_singleton _ _,fun a ha b hb=>by rw [joH.1 hb];exact hm a ha⟩
 ·rw [size_put T,hf,h.size,joI];rfl
 ·rcases joJ.1 hp with q | q
  ·obtain ⟨kl',h1,h2,h3⟩:=h.into p q
   have hne:kl'≠kl:=fun e=>by rw [e,hf] at h2;cases h2
   exact ⟨kl',h1,by rw [has_put_other hne];exact h2,fun z=>by rw [atKey_put_other hne];exact h3 z⟩
  ·rw [joH.1 q]
   exact ⟨kl,hk,has_put_same T.isMap IK _,fun z=>atKey_put_same T.isMap IK _ z⟩
 ·by_cases e:kl'=kl
  ·subst e
   exact ⟨(key,v),by simp,hk⟩
  ·rw [has_put_other e] at hh
   obtain ⟨p,hp,q⟩:=h.back kl' hh
   exact ⟨p,List.mem_append_left _ hp,q⟩
theorem Vw.del (h:Vw P k D E) (K:Keyed P k) (T:Tidy D){E':List (Value×Value)}{key:Value}{kl:Lit}(hk:keyOf P k key=some kl) (hs:E'.Sublist E) (hm:∀ p∈E,p∈E'↔p.1≠key) (hl:E'.length+(if Maps.has D kl then 1 else 0)=E.length):Vw P k (D.del kl) E':=by
 refine ⟨h.apart.sublist hs,?_,fun p hp=> ?_,fun kl' hh=> ?_⟩
 ·have:=size_del (k:=kl) T
  rw [h.size] at this
  omega
 ·have hp':=hs.subset hp
  obtain ⟨kl',h1,h2,h3⟩:=h.into p hp'
  have hne:kl'≠kl:=fun e=>(hm p hp').1 hp (K.inj (e ▸ h1) hk)
  exact ⟨kl',h1,by rw [has_del_other hne];exact h2,fun z=>by rw [atKey_del_other hne];exact h3 z⟩
 ·by_cases e:kl'=kl
  ·subst e
   rw [has_del_same] at hh;cases hh
  ·rw [has_del_other e] at hh
   obtain ⟨p,hp,q⟩:=h.back kl' hh
   refine ⟨p,(hm p hp).2 fun r=>e ?_,q⟩
   rw [r,hk] at q
   exact (joF q).symm
def Mp (P:joD) (k:joE) (w:World) (b:Nat) (E:List (Value×Value)):Prop:=∃ D,w.ownsMap P k jgB b E.length D∧Vw P k D E
theorem jgx {n:Nat}(h:w.ownsMap P k jgB b n D):w.ownsMap P k jgB b (Maps.size D) D:=by
 obtain ⟨es,clock,hb,F,hs,rfl⟩:=h
 exact ⟨es,clock,hb,F,by simp [Maps.size,length_sorted],rfl⟩
theorem Mp.of {n:Nat}(h:w.ownsMap P k jgB b n D) (v:Vw P k D E):Mp P k w b E:=⟨D,by have:=jgx h;rwa [v.size] at this,v⟩
theorem Mp.lt (h:Mp P k w b E):b < w.heap.size:=by obtain ⟨D,h,_⟩:=h;exact h.lt
theorem Mp.stay (h:Mp P k w b E) (hb:w'.heap[b]? =w.heap[b]?):Mp P k w' b E:=by
 obtain ⟨D,⟨es,clock,h1,h2⟩,v⟩:=h
 exact ⟨D,⟨es,clock,hb.trans h1,h2⟩,v⟩
theorem Mp.ext (h:Mp P k w b E) (x:Ext w w'):Mp P k w' b E:=h.stay (x.block _ h.lt)
theorem Mp.obj (h:Mp P k w b E):∃ es c,w.heap[b]? =some (.map es c):=by
 obtain ⟨D,⟨es,clock,h1,_⟩,v⟩:=h
 exact ⟨es,clock,h1⟩
theorem Mp.apart (h:Mp P k w b E):E.Pairwise (fun p q=>p.1≠q.1):=by obtain ⟨D,_,v⟩:=h;exact v.apart
theorem Mp.made (w:World) (P:joD) (k:joE):Mp P k (w.alloc (.map #[] 0)) w.heap.size []:=⟨_,World.ownsMap_made w P k jgB,Vw.nil P k⟩
theorem Mp.look (h:Mp P k w b E) (K:Keyed P k) (ht:P.underlying t=some (.map k e)){z:Value}(hz:(joK e).run P w= .ok z w){key:Value}{kl:Lit}(hkey:keyOf P k key=some kl):
 (∃ v,(key,v)∈E∧(Instr.lookup t (.map (some b)) key true).run P w= .ok (.tuple #[v, .bool true]) w∧(Instr.lookup t (.map (some b)) key false).run P w= .ok v w)∨
 ((∀ p∈E,p.1≠key)∧(Instr.lookup t (.map (some b)) key true).run P w= .ok (.tuple #[z, .bool false]) w∧(Instr.lookup t (.map (some b)) key false).run P w= .ok z w):=by
 obtain ⟨D,h,v⟩:=h
 obtain ⟨x,ps,r1,r2⟩:=h.look_ok K ht hz (zd:= .held z) (zp:= []) rfl hkey
 obtain ⟨x',ps',r1',r2'⟩:=h.lookup K ht hz (zd:= .held z) (zp:= []) rfl hkey
 injection r2 with r2
 injection r2' with r2'
 have e1:=congrArg Prod.fst r2
 have e2:=congrArg Prod.fst r2'
 cases hh:Maps.has D kl
 ·right
  rw [atKey_of_not_has hh] at e1 e2
  injection e1 with e1
  injection e2 with e2
  subst e1
  subst e2
  rw [hh] at r1
  exact ⟨v.miss hkey hh,r1,r1'⟩
 ·left
  obtain ⟨y,h1,h2⟩:=v.hit K hkey hh
  rw [h2] at e1 e2
  injection e1 with e1
  injection e2 with e2
  subst e1
  subst e2
  rw [hh] at r1
  exact ⟨_,h1,r1,r1'⟩
theorem Mp.add (h:Mp P k w b E) (K:Keyed P k) (ht:P.underlying t=some (.map k e)) (hn:E.length < maxLen){key:Value}{kl:Lit}(hkey:keyOf P k key=some kl) (hm:∀ p∈E,p.1≠key) (v:Value):
 ∃ w',(Instr.mapUpdate t (.map (some b)) key v).run P w= .ok () w'∧Mp P k w' b (E++ [(key,v)])∧w.grownBy w' (some b)∧∃ es c,w'.heap[b]? =some (.map es c):=by
 obtain ⟨D,h,vw⟩:=h
 obtain ⟨w1,r1,r2,r3⟩:=h.update K ht hn hkey (d:= .held v) (ps:= []) rfl
 have m:Mp P k w1 b (E++ [(key,v)]):=Mp.of r2 (vw.add K (h.tidy K) hkey hm)
 exact ⟨w1,r1,m,r3,m.obj⟩
theorem Mp.drop (h:Mp P k w b E) (K:Keyed P k) (ht:P.underlying t=some (.map k e)){key:Value}{kl:Lit}(hkey:keyOf P k key=some kl){E':List (Value×Value)}(hs:E'.Sublist E) (hm:∀ p∈E,p∈E'↔p.1≠key) (hl:(∀ p∈E,p.1≠key)∨E'.length+1=E.length) (ty:joE):
 ∃ w',(Builtin.delete_ #[t,k] ty #[.map (some b),key]).run P w= .ok (.tuple #[]) w'∧Mp P k w' b E'∧w.mapTurned w' b:=by
 obtain ⟨D,h,vw⟩:=h
 obtain ⟨w1,r1,r2,r3⟩:=h.drop K ht hkey ty
 refine ⟨w1,r1,Mp.of r2 (vw.del K (h.tidy K) hkey hs hm ?_),r3⟩
 rcases hl with hl | hl
 ·rw [vw.has_false K hkey hl]
  have:E'=E:=hs.eq_of_length_le (joL (vw.apart.imp fun h e=>h (congrArg Prod.fst e)) fun p hp=>(hm p hp).2 (hl p hp))
  rw [this];rfl
 ·rcases hh:Maps.has D kl with _ | _
  ·exfalso
   have hmiss:=vw.miss hkey hh
   have:E.length≤E'.length:=joL (vw.apart.imp fun h e=>h (congrArg Prod.fst e)) fun p hp=>(hm p hp).2 (hmiss p hp)
   omega
  ·simpa using hl
theorem Mp.len (h:Mp P k w b E) (ht:P.underlying t=some (.map k e)) (ty:joE):(Builtin.len_ #[t] ty #[.map (some b)]).run P w= .ok (.int .i64 (E.length:Int)) w:=by
 obtain ⟨D,h,vw⟩:=h
 rw [h.len ht ty,vw.size]
def Mr (P:joD) (k:joE) (w:World) (b r:Nat) (E:List (Value×Value)) (lf:Value→Prop) (cnt:Nat):Prop:=
 ∃ D left,w.ranges P k jgB b r E.length D left cnt∧Vw P k D E∧∀ p∈E,(lf p.1↔∃ kl,keyOf P k p.1=some kl∧left kl=true)
theorem Mr.kept {r cnt:Nat}{lf:Value→Prop}{row:Option Nat}(h:Mr P k w b r E lf cnt) (hg:w.grownBy w' row) (hb:some b≠row) (hr:some r≠row):Mr P k w' b r E lf cnt:=by
 obtain ⟨D,left,h,v⟩:=h
 exact ⟨D,left,h.kept hg hb hr,v⟩
theorem Mr.ext {r cnt:Nat}{lf:Value→Prop}(h:Mr P k w b r E lf cnt) (x:Ext w w'):Mr P k w' b r E lf cnt:=h.kept (row:=none) ⟨x.os,x.tape,x.output,x.size,fun i hi _=>x.block i hi⟩ (by simp) (by simp)
theorem Mr.lt {r cnt:Nat}{lf:Value→Prop}(h:Mr P k w b r E lf cnt):r < w.heap.size:=by obtain ⟨D,left,h,_⟩:=h;exact h.lt
theorem Mr.left_eq {r cnt:Nat}{lf:Value→Prop}(h:Mr P k w b r E lf cnt):w.rangeLeft b r=cnt:=by obtain ⟨D,left,h,_⟩:=h;exact h.left_eq
theorem Mp.range (h:Mp P k w b E) (K:Keyed P k) (ht:P.underlying t=some (.map k e)):
 ∃ w',(Instr.range t (.map (some b))).run P w= .ok (.pointer (some ⟨w.heap.size,0,none⟩)) w'∧Mr P k w' b w.heap.size E (fun _=>True) E.length∧Ext w w':=by
 obtain ⟨D,h,vw⟩:=h
 obtain ⟨w1,r1,r2,r3,r4⟩:=h.range K ht
 rw [vw.size] at r2
 exact ⟨w1,r1,⟨D,_,r2,vw,fun p hp=>⟨fun _=>by obtain ⟨kl,h1,h2,_⟩:=vw.into p hp;exact ⟨kl,h1,h2⟩,fun _=>trivial⟩⟩,⟨r3.os,r3.tape,r3.output,r3.size,fun i hi=>r3.block i hi (by simp)⟩⟩
theorem Mr.next {r cnt:Nat}{lf:Value→Prop}(h:Mr P k w b r E lf cnt) (K:Keyed P k) (ty:joE):
 ((∀ p∈E, ¬ lf p.1)∧(Instr.next (.pointer (some ⟨r,0,none⟩)) false ty).run P w= .ok (.tuple #[.bool false]) w)∨
 ∃ p∈E,lf p.1∧∃ w' cnt',(Instr.next (.pointer (some ⟨r,0,none⟩)) false ty).run P w= .ok (.tuple #[.bool true,p.1,p.2]) w'∧Mr P k w' b r E (fun key=>lf key∧key≠p.1) cnt'∧cnt' < cnt∧
   w.grownBy w' (some r)∧w'.heap.size=w.heap.size∧(Instr.entry (.pointer (some ⟨r,0,none⟩))).run P w'= .ok (.tuple #[p.1,p.2]) w':=by
 obtain ⟨D,left,h,vw,hl⟩:=h
 rcases h.next K ty with ⟨h0,hn,hrun⟩ | ⟨key,v,kl,y,w1,cnt',hkey,hlk,hv,hat,hrun,hrg,hlt,hgr,hsz,hen⟩
 ·refine .inl ⟨fun p hp q=> ?_,hrun⟩
  obtain ⟨kl,_,h2⟩:=(hl p hp).1 q
  rw [hn kl] at h2;cases h2
 ·right
  have hh:Maps.has D kl=true:=has_true_of_atKey hat
  obtain ⟨v',h1,h2⟩:=vw.hit K hkey hh
  have:v=v':=by
   have q:=(hat (.held v)).symm.trans (h2 (.held v))
   injection hv with hv
   rw [←hv] at q
   injection q
  subst this
  refine ⟨(key,v),h1,(hl _ h1).2 ⟨kl,hkey,hlk⟩,w1,cnt',hrun,⟨D,_,hrg,vw,fun p hp=> ?_⟩,hlt,hgr,hsz,hen⟩
  show (lf p.1∧p.1≠key)↔_
  rw [hl p hp]
  constructor
  ·rintro ⟨⟨kl',q1,q2⟩,q3⟩
   refine ⟨kl',q1,?_⟩
   show (left kl'&& !kl'.sameKey kl)=true
   rw [q2,sameKey_ne (fun e=>q3 (K.inj (q1.trans (congrArg some e)) hkey))]
   rfl
  ·rintro ⟨kl',q1,q2⟩
   have q2:(left kl'&& !kl'.sameKey kl)=true:=q2
   simp only [joM,joN] at q2
   refine ⟨⟨kl',q1,q2.1⟩,fun e=> ?_⟩
   rw [show p.1=key from e,hkey] at q1
   obtain rfl:=joF q1
   rw [WideAt.sameKey_self (K.key hkey)] at q2
   cases q2.2
end
end
section
def Y1:List Nat→Nat
 | []=>0
 | d::r=>Y1 r|||(1 <<< d)
theorem Yp:∀ (l:List Nat) (k:Nat),(Y1 l).testBit k=l.contains k
 | [],k=>by simp [Y1]
 | d::r,k=>by
   rw [Y1,Nat.testBit_or,Yp r k,List.contains_cons,Nat.one_shiftLeft,Nat.testBit_two_pow]
   by_cases h:d=k
   ·subst h;simp
   ·have h': ¬ k=d:=fun e=>h e.symm
    simp [h,h']
theorem QN {a b:Nat}(h:a&&&b=a){k:Nat}(hk:a.testBit k=true):b.testBit k=true:=by
 have:=congrArg (·.testBit k) h
 simp only [Nat.testBit_and,hk,Bool.true_and] at this
 exact this
theorem Y3 {a b:Nat}(h:a&&&b≠a):∃ k,a.testBit k=true∧b.testBit k=false:=by
 refine joO fun hn=>h ?_
 apply Nat.eq_of_testBit_eq
 intro k
 rw [Nat.testBit_and]
 cases ha:a.testBit k with
 | false=>rfl
 | true=>
   cases hb:b.testBit k with
   | true=>rfl
   | false=>exact absurd ⟨k,ha,hb⟩ hn
section
variable {P:joD}{ops:Array Oper}{Q:Exit→Act→World→Prop}{md:Region.Mode}
def jb5 (o:Oper):List Nat:=(o.after.toList.filter fun e=>Region.binds .any e).map (·.on)
def QC (o:Oper):Nat:=match o.dst with | some d=>d+1 | none=>0
def vA (ops:Array Oper) (o:Oper):Nat×Nat×Nat:=(Y1 (jb5 o),QC o,Y1 ((o.looksAt ops).map (· +1)))
theorem yc (o:Oper) (k:Nat):(Y1 (jb5 o)).testBit k=true↔∃ e∈o.after,Region.binds .any e=true∧e.on=k:=by
 rw [Yp,List.contains_iff_mem,jb5,joP]
 constructor
 ·rintro ⟨e,he,rfl⟩
  rw [List.mem_filter] at he
  exact ⟨e,by simpa using he.1,he.2,rfl⟩
 ·rintro ⟨e,he,hb,rfl⟩
  exact ⟨e,List.mem_filter.2 ⟨by simpa using he,hb⟩,rfl⟩
theorem jdk (o:Oper) (d:Nat):(Y1 ((o.looksAt ops).map (· +1))).testBit (d+1)=(o.looksAt ops).contains d:=by
 rw [Yp,Bool.eq_iff_iff,List.contains_iff_mem,List.contains_iff_mem,joP]
 constructor
 ·rintro ⟨a,ha,he⟩
  obtain rfl:a=d:=by omega
  exact ha
 ·intro h
  exact ⟨d,h,rfl⟩
def jbY (x y:Nat×Nat×Nat):Bool:=(x.2.1==0||(!y.2.2.testBit x.2.1&& !(y.2.1==x.2.1)))&&(y.2.1==0|| !x.2.2.testBit y.2.1)
theorem jaa {x y:Oper}(h:jbY (vA ops x) (vA ops y)=true):x.apart ops y=true:=by
 unfold jbY vA QC at h
 unfold Oper.apart
 cases hx:x.dst <;> cases hy:y.dst <;> simp only [hx,hy] at h ⊢ <;> simp [jdk] at h ⊢ <;> first | exact h | trivial
def YF (i done:Nat) (x:Nat×Nat×Nat):List (Nat×Nat×Nat)→Nat→Bool
 | [],_=>true
 | y::r,j=>(j==i||done.testBit j||y.1.testBit i||jbY x y)&&YF i done x r (j+1)
theorem zD {i done:Nat}{x:Nat×Nat×Nat}:∀ {D:List (Nat×Nat×Nat)}{k:Nat},YF i done x D k=true→∀ j y,D[j]? =some y→k+j≠i→done.testBit (k+j)=false→y.1.testBit i=false→jbY x y=true
 | [],_,_,j,y,hy=>by simp at hy
 | z::r,k,h,0,y,hy=>by
   rw [YF,joM] at h
   simp only [joQ,Option.some.injEq] at hy
   subst hy
   intro h1 h2 h3
   rw [joR] at h1 h2
   simpa [h1,h2,h3] using h.1
 | z::r,k,h,j+1,y,hy=>by
   rw [YF,joM] at h
   intro h1 h2 h3
   exact zD h.2 j y (by simpa using hy) (by omega) (by rw [show k+1+j=k+(j+1) by omega];exact h2) h3
def Qy (i done:Nat):List (Nat×Nat×Nat)→Nat→Bool
 | [],_=>true
 | y::r,j=>(j==i||done.testBit j|| !(y.1&&&done==y.1))&&Qy i done r (j+1)
theorem YR {i done:Nat}:∀ {D:List (Nat×Nat×Nat)}{k:Nat},Qy i done D k=true→∀ j y,D[j]? =some y→k+j≠i→done.testBit (k+j)=false→y.1&&&done≠y.1
 | [],_,_,j,y,hy=>by simp at hy
 | z::r,k,h,0,y,hy=>by
   rw [Qy,joM] at h
   simp only [joQ,Option.some.injEq] at hy
   subst hy
   intro h1 h2
   rw [joR] at h1 h2
   simpa [h1,h2] using h.1
 | z::r,k,h,j+1,y,hy=>by
   rw [Qy,joM] at h
   intro h1 h2
   exact YR h.2 j y (by simpa using hy) (by omega) (by rw [show k+1+j=k+(j+1) by omega];exact h2)
def jat:List (Nat×Nat×Nat)→Nat→Option (Nat×Nat×Nat)
 | [],_=>none
 | o::_,0=>some o
 | _::r,n+1=>jat r n
theorem Yu:∀ (l:List (Nat×Nat×Nat)) (n:Nat),jat l n=l[n]?
 | [],_=>by simp [jat]
 | _::_,0=>by simp [jat]
 | _::r,n+1=>by simp [jat,Yu r n]
def ze (D:List (Nat×Nat×Nat)) (cs:List Nat):List Nat→Nat→Bool
 | [],done=>done+1==1 <<< D.length
 | i::rest,done=>
   (match jat D i with
    | none=>false
    | some x=> !done.testBit i&&x.1&&&done==x.1&&if cs.contains i=true then Qy i done D 0 else YF i done x D 0)&&
     ze D cs rest (done|||(1 <<< i))
def Listed (n done:Nat) (listed:Array Bool):Prop:=listed.size=n∧∀ j,j < n→listed.getD j true=done.testBit j
theorem Listed.set {n done i:Nat}{listed:Array Bool}(h:Listed n done listed) (hi:i < n):Listed n (done|||(1 <<< i)) (listed.setIfInBounds i true):=by
 refine ⟨by simpa using h.1,fun j hj=> ?_⟩
 rw [Nat.testBit_or,Nat.one_shiftLeft,Nat.testBit_two_pow]
 have hl:=h.1
 by_cases e:i=j
 ·subst e
  simp [show i < listed.size by omega]
 ·rw [getD_set_ne true e,h.2 j hj]
  simp [e]
theorem Listed.on {n done:Nat}{listed:Array Bool}(h:Listed n done listed){j:Nat}(hj:done.testBit j=true) (hn:j < n):listed.getD j false=true:=by
 have h1:=h.2 j hn
 have hl:=h.1
 rw [hj] at h1
 simpa [Array.getD,show j < listed.size by omega] using h1
theorem Listed.off {n done:Nat}{listed:Array Bool}(h:Listed n done listed){j:Nat}(hj:listed.getD j false=true):done.testBit j=true:=by
 have hl:=h.1
 rcases jow j n with hn | hn
 ·rw [←h.2 j hn]
  simpa [Array.getD,show j < listed.size by omega] using hj
 ·simp [Array.getD,show ¬ j < listed.size by omega] at hj
theorem Listed.lt {n done:Nat}{listed:Array Bool}(h:Listed n done listed){j:Nat}(hj:listed.getD j true=false):j < n:=by
 have hl:=h.1
 rcases jow j n with hn | hn
 ·exact hn
 ·simp [Array.getD,show ¬ j < listed.size by omega] at hj
theorem Js {S S':World→Prop}(h:∀ w,S' w→S w):∀ (fuel:Nat) (listed:Array Bool) (a:Act) (w:World),wpAnyH P md ops Q S' fuel listed a w→wpAnyH P md ops Q S fuel listed a w
 | 0,_,_,_,hh=>hh
 | fuel+1,_,_,_,hh=>⟨hh.1,fun i hi=>wpOp_mono (fun a' w' h'=>⟨h w' h'.1,Js h fuel _ a' w' h'.2⟩) (hh.2 i hi)⟩
def zQ (P:joD) (ops:Array Oper) (Q:Exit→Act→World→Prop) (R:World→World→Prop) (cs:List Nat):List Nat→Act→World→Prop
 | [],a,w=>Q .normal a w
 | i::rest,a,w=>∃ o,ops[i]? =some o∧
    if cs.contains i=true then wpOp P ops Q i (fun a' w'=>R w w'∧zQ P ops Q R cs rest a' w') a w
    else ∃ v,YieldsIf P ops (R w) o v a∧zQ P ops Q R cs rest (a.put o.dst v) w
theorem Jr {R:World→World→Prop}(hrf:∀ w,R w w) (htr:∀ a b c,R a b→R b c→R a c){D:List (Nat×Nat×Nat)}(hs:joS ops=true) (hQ:∀ c a d v w,Q (.panic c) (joT a d v) w→Q (.panic c) a w) (cs:List Nat) (hD:ops.toList.map (vA ops)=D)
 (hsub:∀ (j:Nat) o,ops[j]? =some o→∀ e∈o.after,e.on < ops.size):
 ∀ (σ:List Nat) (listed:Array Bool) (done:Nat) (a:Act) (w:World),Listed ops.size done listed→ze D cs σ done=true→zQ P ops Q R cs σ a w→wpAnyH P .any ops Q (R w) σ.length listed a w
 | [],listed,done,a,w,hL,hp,h=>by
   refine ⟨?_,h⟩
   have hlen:D.length=ops.size:=by rw [←hD];simp
   have hd:done+1=2 ^ ops.size:=by
    have:done+1=1 <<< D.length:=by simpa [ze] using hp
    rw [this,hlen,Nat.one_shiftLeft]
   cases hr:joU .any ops listed with
   | nil=>rfl
   | cons j r=>
     have hj:j∈joU .any ops listed:=by rw [hr];simp
     obtain ⟨h0,_⟩:=mem_ready.1 hj
     have hlt:=hL.lt h0
     rw [hL.2 j hlt] at h0
     have:done=2 ^ ops.size - 1:=by omega
     rw [this,Nat.testBit_two_pow_sub_one] at h0
     simp [hlt] at h0
 | i::rest,listed,done,a,w,hL,hp,h=>by
   obtain ⟨o,ho,h⟩:=h
   have hi:i < ops.size:=(Array.getElem?_eq_some_iff.1 ho).1
   rw [ze,joM] at hp
   obtain ⟨hp1,hp2⟩:=hp
   have hDi:∀ (j:Nat) oj,ops[j]? =some oj→D[j]? =some (vA ops oj):=fun j oj hj=>by
    rw [←hD,joV,joW,hj];rfl
   rw [Yu,hDi i o ho] at hp1
   simp only [joM,joN,beq_iff_eq] at hp1
   obtain ⟨⟨hnd,hdep⟩,hp1⟩:=hp1
   have hri:i∈joU .any ops listed:=mem_ready.2 ⟨(hL.2 i hi).trans hnd,o,ho,fun e he hb=>
    hL.on (QN hdep ((yc o e.on).2 ⟨e,he,hb,rfl⟩)) (hsub i o ho e he)⟩
   have hL':=hL.set hi
   by_cases hc:cs.contains i=true
   ·rw [if_pos hc] at h hp1
    refine ⟨fun h0=>(by rw [h0] at hri;cases hri),fun j hj=> ?_⟩
    obtain ⟨h0,oj,hoj,hall⟩:=mem_ready.1 hj
    have hjl:=hL.lt h0
    rw [hL.2 j hjl] at h0
    by_cases hji:j=i
    ·subst hji
     exact wpOp_mono (fun a' w' ⟨he,hh⟩=>⟨he,Js (fun _ e=>htr _ _ _ he e) _ _ _ _ (Jr hrf htr hs hQ cs hD hsub rest _ _ a' w' hL' hp2 hh)⟩) h
    ·have hw:=YR hp1 j _ (hDi j oj hoj) (by omega) (by rw [joB];exact h0)
     obtain ⟨k,hk1,hk2⟩:=Y3 hw
     obtain ⟨e,he,hb,rfl⟩:=(yc oj k).1 hk1
     rw [hL.off (hall e he hb)] at hk2
     cases hk2
   ·rw [if_neg hc] at h hp1
    obtain ⟨v,hy,hh⟩:=h
    refine wpAnyH_first ho (Region.noSelect_spec hs) (fun c a w=>hQ c a _ _ w) _ listed a w (fun j oj hoj hji hun hno=> ?_) hri hy (hrf w) (Jr hrf htr hs hQ cs hD hsub rest _ _ _ w hL' hp2 hh)
    have hjl:=hL.lt hun
    rw [hL.2 j hjl] at hun
    refine jaa (zD hp1 j _ (hDi j oj hoj) (by omega) (by rw [joB];exact hun) ?_)
    cases hb:(vA ops oj).1.testBit i with
    | false=>rfl
    | true=>
      obtain ⟨e,he,hb',he'⟩:=(yc oj i).1 hb
      exact absurd he' (hno e he hb')
def y9 (ops:Array Oper):Bool:=ops.all fun o=>o.after.all fun e=>decide (e.on < ops.size)
theorem zI {R:World→World→Prop}(hrf:∀ w,R w w) (htr:∀ a b c,R a b→R b c→R a c){id:Nat}{a:Act}{w:World}(σ cs:List Nat) (D:List (Nat×Nat×Nat)) (hm:P.follows .mixedOrders=true) (hs:joS ops=true) (hin:y9 ops=true) (hl:σ.length=ops.size)
 (hD:ops.toList.map (vA ops)=D) (hp:ze D cs σ 0=true)
 (hQ:∀ c a d v w,Q (.panic c) (joT a d v) w→Q (.panic c) a w) (h:zQ P ops Q R cs σ a w.drew):(Code.region id ops true).wp P Q a w:=by
 refine wp_region_held (S:=R w.drew) hm ?_
 have:=Jr hrf htr hs hQ cs hD (fun j o ho e he=>by
  have h1:=joX.1 hin o (Array.mem_of_getElem? ho)
  simpa using joX.1 h1 e he) σ (joY ops.size false) 0 a w.drew ⟨by simp,fun j hj=>by simp [Array.getD,hj]⟩ hp h
 rw [hl] at this
 exact this
def yO:List Oper→Nat→Option Oper
 | [],_=>none
 | o::_,0=>some o
 | _::r,n+1=>yO r n
theorem jfL:∀ (l:List Oper) (n:Nat),yO l n=l[n]?
 | [],_=>by simp [yO]
 | _::_,0=>by simp [yO]
 | _::r,n+1=>by simp [yO,jfL r n]
theorem vV {i:Nat}{o:Oper}(h:yO ops.toList i=some o):ops[i]? =some o:=by rw [jfL] at h;simpa using h
theorem jp {R:World→World→Prop}{cs:List Nat}{a:Act}{w:World}(h:Q .normal a w):zQ P ops Q R cs [] a w:=h
theorem JB {R:World→World→Prop}{cs:List Nat}{i:Nat}{rest:List Nat}{a:Act}{w:World}(F:World→Prop) (hF:∀ w',R w w'→F w') (o:Oper){v:Value}(ho':yO ops.toList i=some o) (hc:cs.contains i=false)
 (hw:joZ o (yielded ops a.tmps)=true) (hrun:∀ w',F w'→(jo0 a.eval o).run P w'= .ok (.value v) w') (h:zQ P ops Q R cs rest (a.put o.dst v) w):zQ P ops Q R cs (i::rest) a w:=
 ⟨o,vV ho',by rw [if_neg (by rw [hc];exact Bool.false_ne_true)];exact ⟨v, .inl ⟨hw,fun w' e=>hrun w' (hF w' e)⟩,h⟩⟩
theorem jiA {R:World→World→Prop}{cs:List Nat}{i:Nat}{rest:List Nat}{a:Act}{w:World}(o:Oper) (ho':yO ops.toList i=some o) (hc:cs.contains i=false)
 (hw:joZ o (yielded ops a.tmps)=false) (h:zQ P ops Q R cs rest (a.put o.dst undef) w):zQ P ops Q R cs (i::rest) a w:=
 ⟨o,vV ho',by rw [if_neg (by rw [hc];exact Bool.false_ne_true)];exact ⟨_, .inr ⟨hw,rfl⟩,h⟩⟩
theorem jkF {R:World→World→Prop}{cs:List Nat}{i:Nat}{rest:List Nat}{a:Act}{w:World}(o:Oper) (ho':yO ops.toList i=some o) (hc:cs.contains i=true) (hw:joZ o (yielded ops a.tmps)=true)
 (h:∀ K':Act→World→Prop,Shut (∀ a' w',R w w'→zQ P ops Q R cs rest a' w'→K' a' w')→Oper.wp P o a w K' Q):zQ P ops Q R cs (i::rest) a w:=
 ⟨o,vV ho',by
   rw [if_pos hc]
   refine wpOp_step (vV ho') fun K' hK=> ?_
   rw [if_pos hw]
   exact h K' fun a' w' he hh=>hK a' w' ⟨he,hh⟩⟩
end
section
open Go.ChangeShapes Go.WideShapes Go.ChangeAt Go.RowKit Go.Deep
variable {P:joD}{ops:Array Oper}{Q:Exit→Act→World→Prop}{R:World→World→Prop}{id i:Nat}{rest cs:List Nat}{a:Act}{w:World}
theorem qgR (hrf:∀ w,R w w) (htr:∀ a b c,R a b→R b c→R a c) (σ cs:List Nat) (h:zQ P ops Q R cs σ a w.drew) (hm:P.follows .mixedOrders=true:=by kernel_rfl) (hs:joS ops=true:=by kernel_rfl) (hin:y9 ops=true:=by kernel_rfl) (hl:σ.length=ops.size:=by exact rfl)
 (hp:ze (ops.toList.map (vA ops)) cs σ 0=true:=by kernel_rfl) (hQ:∀ c a d v w,Q (.panic c) (joT a d v) w→Q (.panic c) a w:=by exact fun _ _ d _ _ h=>by cases d <;> exact h):(Code.region id ops true).wp P Q a w:=
 zI hrf htr σ cs _ hm hs hin hl rfl hp hQ h
theorem qgE (σ cs:List Nat) (h:zQ P ops Q Ext cs σ a w.drew) (hm:P.follows .mixedOrders=true:=by kernel_rfl) (hs:joS ops=true:=by kernel_rfl) (hin:y9 ops=true:=by kernel_rfl) (hl:σ.length=ops.size:=by exact rfl)
 (hp:ze (ops.toList.map (vA ops)) cs σ 0=true:=by kernel_rfl) (hQ:∀ c a d v w,Q (.panic c) (joT a d v) w→Q (.panic c) a w:=by exact fun _ _ d _ _ h=>by cases d <;> exact h):(Code.region id ops true).wp P Q a w:=
 zI jnQ (fun _ _ _=>Ext.trans) σ cs _ hm hs hin hl rfl hp hQ h
theorem qgB (B:Nat) (σ cs:List Nat) (h:zQ P ops Q (Below B) cs σ a w.drew) (hm:P.follows .mixedOrders=true:=by kernel_rfl) (hs:joS ops=true:=by kernel_rfl) (hin:y9 ops=true:=by kernel_rfl) (hl:σ.length=ops.size:=by exact rfl)
 (hp:ze (ops.toList.map (vA ops)) cs σ 0=true:=by kernel_rfl) (hQ:∀ c a d v w,Q (.panic c) (joT a d v) w→Q (.panic c) a w:=by exact fun _ _ d _ _ h=>by cases d <;> exact h):(Code.region id ops true).wp P Q a w:=
 zI (joo _) (fun _ _ _=>jop) σ cs _ hm hs hin hl rfl hp hQ h
theorem qgW (g:Nat) (σ cs:List Nat) (h:zQ P ops Q (fun a b=>a.grownBy b (some g)) cs σ a w.drew) (hm:P.follows .mixedOrders=true:=by kernel_rfl) (hs:joS ops=true:=by kernel_rfl) (hin:y9 ops=true:=by kernel_rfl) (hl:σ.length=ops.size:=by exact rfl)
 (hp:ze (ops.toList.map (vA ops)) cs σ 0=true:=by kernel_rfl) (hQ:∀ c a d v w,Q (.panic c) (joT a d v) w→Q (.panic c) a w:=by exact fun _ _ d _ _ h=>by cases d <;> exact h):(Code.region id ops true).wp P Q a w:=
 zI (R:=fun a b=>a.grownBy b (some g)) (fun w=>jo1 w _) (fun _ _ _ h k=>⟨k.os.trans h.os,k.tape.trans h.tape,k.output.trans h.output,jo2 h.size k.size,fun i hi hr=>(k.block i (jos hi h.size) hr).trans (h.block i hi hr)⟩) σ cs _ hm hs hin hl rfl hp hQ h
theorem qR (F:World→Prop) (h:∀ w',R w w'→F w'){o:Oper}{v:Value}(hn:zQ P ops Q R cs rest (a.put o.dst v) w) (ho':yO ops.toList i=some o:=by exact rfl) (hc:cs.contains i=false:=by exact rfl)
 (hw:joZ o (yielded ops a.tmps)=true:=by rfl) (hrun:∀ w',F w'→(jo0 a.eval o).run P w'= .ok (.value v) w':=by intro w' hF;go_simp;(try with_reducible rfl)):zQ P ops Q R cs (i::rest) a w:=
 JB F h o ho' hc hw hrun hn
theorem qR0 {o:Oper}{v:Value}(hn:zQ P ops Q R cs rest (a.put o.dst v) w) (ho':yO ops.toList i=some o:=by exact rfl) (hc:cs.contains i=false:=by exact rfl)
 (hw:joZ o (yielded ops a.tmps)=true:=by rfl) (hrun:∀ w',(jo0 a.eval o).run P w'= .ok (.value v) w':=by intro w';go_simp;(try with_reducible rfl)):zQ P ops Q R cs (i::rest) a w:=
 JB (fun _=>True) (fun _ _=>trivial) o ho' hc hw (fun w' _=>hrun w') hn
theorem qV {o:Oper}(ho':yO ops.toList i=some o) (F:World→Prop) (h:∀ w',R w w'→F w') (v:Value) (hrun:∀ w',F w'→(jo0 a.eval o).run P w'= .ok (.value v) w') (hn:zQ P ops Q R cs rest (a.put o.dst v) w) (hc:cs.contains i=false:=by exact rfl)
 (hw:joZ o (yielded ops a.tmps)=true:=by rfl):zQ P ops Q R cs (i::rest) a w:=
 JB F h o ho' hc hw hrun hn
theorem qS {o:Oper}(hn:zQ P ops Q R cs rest (a.put o.dst undef) w) (ho':yO ops.toList i=some o:=by exact rfl) (hc:cs.contains i=false:=by exact rfl) (hw:joZ o (yielded ops a.tmps)=false:=by rfl):zQ P ops Q R cs (i::rest) a w:=
 jiA o ho' hc hw hn
theorem qD {o:Oper}(h:∀ K':Act→World→Prop,Shut (∀ a' w',R w w'→zQ P ops Q R cs rest a' w'→K' a' w')→Oper.wp P o a w K' Q) (ho':yO ops.toList i=some o:=by exact rfl) (hc:cs.contains i=true:=by exact rfl) (hw:joZ o (yielded ops a.tmps)=true:=by rfl):zQ P ops Q R cs (i::rest) a w:=
 jkF o ho' hc hw h
end
end
section
open Go.ChangeShapes Go.WideShapes Go.ChangeAt Go.RowKit Go.Deep
section
variable {P:joD}{ops:Array Oper}{Q:Exit→Act→World→Prop}
def ja5 (P:joD) (ops:Array Oper) (Q:Exit→Act→World→Prop) (R:World→World→Prop) (z:Nat):Nat→Array Bool→Act→World→Prop
 | 0,listed,a,w=>joU .any ops listed= []∧Q .normal a w
 | fuel+1,listed,a,w=>
   (joU .any ops listed= []→Q .normal a w)∧
   ∀ i∈joU .any ops listed,wpOp P ops Q i (fun a' w'=>(i=z∨R w w')∧ja5 P ops Q R z fuel (listed.setIfInBounds i true) a' w') a w
theorem ja6 {R:World→World→Prop}{z:Nat}:∀ (fuel:Nat) (listed:Array Bool) (a:Act) (w:World),ja5 P ops Q R z fuel listed a w→wpAny P .any ops Q fuel listed a w
 | 0,_,_,_,h=>h
 | fuel+1,_,_,_,h=>⟨h.1,fun i hi=>wpOp_mono (fun a' w' h'=>ja6 fuel _ a' w' h'.2) (h.2 i hi)⟩
theorem jbr {S S':World→Prop}{o:Oper}{v:Value}{a:Act}(hs:∀ w,S' w→S w) (h:YieldsIf P ops S o v a):YieldsIf P ops S' o v a:=
 h.imp (fun ⟨hw,hv⟩=>⟨hw,fun w hS=>hv w (hs w hS)⟩) id
def Closed (ops:Array Oper) (listed:Array Bool):Prop:=∀ (k:Nat) (ok:Oper),ops[k]? =some ok→listed.getD k false=true→∀ e∈ok.after,Region.binds .any e=true→listed.getD e.on false=true
theorem Qb {listed:Array Bool}{i j:Nat}(h:listed.getD i false=true):(listed.setIfInBounds j true).getD i false=true:=by
 by_cases e:j=i
 ·subst e
  rcases jow j listed.size with h' | h'
  ·simp [h']
  ·simp [jox h'] at h
 ·rw [getD_set_ne false e];exact h
theorem Closed.set {listed:Array Bool}{j:Nat}(h:Closed ops listed) (hj:j∈joU .any ops listed):Closed ops (listed.setIfInBounds j true):=by
 intro k ok hk hl e he hb
 by_cases hkj:j=k
 ·subst hkj
  obtain ⟨_,o,ho,hall⟩:=mem_ready.1 hj
  rw [hk] at ho
  injection ho with ho
  subst ho
  exact Qb (hall e he hb)
 ·rw [getD_set_ne false hkj] at hl
  exact Qb (h k ok hk hl e he hb)
def jjS (ops:Array Oper) (oz:Oper) (i:Nat):Prop:=(∃ e∈oz.after,Region.binds .any e=true∧e.on=i)∨∃ (m:Nat) (om:Oper),ops[m]? =some om∧(∃ e∈oz.after,Region.binds .any e=true∧e.on=m)∧∃ e∈om.after,Region.binds .any e=true∧e.on=i
theorem jcN {R:World→World→Prop}(hrf:∀ w,R w w) (htr:∀ a b c,R a b→R b c→R a c){z i:Nat}{oi oz:Oper}{v:Value}(hi:ops[i]? =some oi) (hz:ops[z]? =some oz) (hiz:i≠z)
 (hwait:jjS ops oz i) (hsel:∀ (j:Nat) (o:Oper) cs b,ops[j]? =some o→o.op≠ .select cs b)
 (hQ:∀ c a w,Q (.panic c) (a.put oi.dst v) w→Q (.panic c) a w):
 ∀ (fuel:Nat) (listed:Array Bool) (a:Act) (w:World),Closed ops listed→
   (∀ j oj,ops[j]? =some oj→j≠i→listed.getD j true=false→(∀ e∈oj.after,Region.binds .any e=true→e.on≠i)→oi.apart ops oj=true)→
   i∈joU .any ops listed→YieldsIf P ops (R w) oi v a→
   ja5 P ops Q R z fuel (listed.setIfInBounds i true) (a.put oi.dst v) w→ja5 P ops Q R z (fuel+1) listed a w:=by
 intro fuel
 induction fuel with
 | zero=>
   intro listed a w _ _ hr hy H
   refine ⟨fun h=>(by rw [h] at hr;cases hr),fun j hj=> ?_⟩
   by_cases hji:j=i
   ·subst hji;exact hy.wpOp hi (hrf w) ⟨.inr (hrf w),H⟩
   ·have:=ready_mono hj hji
    rw [H.1] at this
    cases this
 | succ fuel ih=>
   intro listed a w hcl hfree hr hy H
   refine ⟨fun h=>(by rw [h] at hr;cases hr),fun j hj=> ?_⟩
   by_cases hji:j=i
   ·subst hji;exact hy.wpOp hi (hrf w) ⟨.inr (hrf w),H⟩
   ·have h1:=H.2 j (ready_mono hj hji)
    obtain ⟨hjun,oj,hoj,hall⟩:=mem_ready.1 hj
    have hnot:∀ e∈oj.after,Region.binds .any e=true→e.on≠i:=fun e he hb heq=>by
     have h1:=hall e he hb
     have h0:=(mem_ready.1 hr).1
     rw [heq] at h1
     rcases jow i listed.size with h' | h'
     ·simp [h'] at h0 h1;rw [h0] at h1;cases h1
     ·simp [jox h'] at h1
    have hjz:j≠z:=fun e=>by
     subst e
     rw [hz] at hoj
     injection hoj with hoj
     subst hoj
     rcases hwait with ⟨e,he,hb,heq⟩ | ⟨m,om,hom,⟨e,he,hb,heq⟩,e',he',hb',heq'⟩
     ·exact hnot e he hb heq
     ·have h1:=hall e he hb
      rw [heq] at h1
      have h2:=hcl m om hom h1 e' he' hb'
      rw [heq'] at h2
      have h0:=(mem_ready.1 hr).1
      rcases jow i listed.size with h' | h'
      ·simp [h'] at h0 h2;rw [h0] at h2;cases h2
      ·simp [jox h'] at h2
    have h2:=wpOp_putIf hoj (hfree j oj hoj hji hjun hnot) (fun cs b=>hsel i oi cs b hi) (fun cs b=>hsel j oj cs b hoj) hQ hy h1
    have hfree':∀ k ok,ops[k]? =some ok→k≠i→(listed.setIfInBounds j true).getD k true=false→
     (∀ e∈ok.after,Region.binds .any e=true→e.on≠i)→oi.apart ops ok=true:=fun k ok hk hki hun hno=>by
     refine hfree k ok hk hki ?_ hno
     by_cases hjk:j=k
     ·subst hjk;exact hjun
     ·rw [getD_set_ne true hjk] at hun;exact hun
    refine wpOp_mono (fun a' w' h3=> ?_) h2
    obtain ⟨hy',hR,hrest⟩:=h3
    have hR':R w w':=hR.resolve_left hjz
    refine ⟨.inr hR',ih (listed.setIfInBounds j true) a' w' (hcl.set hj) hfree' (ready_mono hr (Ne.symm hji)) (jbr (fun _ e=>htr _ _ _ hR' e) hy') ?_⟩
    rw [Array.setIfInBounds_comm _ _ hji]
    exact hrest
def Jj (P:joD) (ops:Array Oper) (Q:Exit→Act→World→Prop) (R:World→World→Prop) (z:Nat) (cs:List Nat):List Nat→Act→World→Prop
 | [],a,w=>Q .normal a w
 | i::rest,a,w=>∃ o,ops[i]? =some o∧
    if cs.contains i=true then wpOp P ops Q i (fun a' w'=>(i=z∨R w w')∧Jj P ops Q R z cs rest a' w') a w
    else ∃ v,YieldsIf P ops (R w) o v a∧Jj P ops Q R z cs rest (a.put o.dst v) w
def zOk (D:List (Nat×Nat×Nat)) (cs:List Nat) (z:Nat):Bool:=cs.contains z&&match jat D z with
 | some x=>(jo3 D.length).all fun i=>i==z||(x.1.testBit i||(jo3 D.length).any fun m=>x.1.testBit m&&match jat D m with | some y=>y.1.testBit i | none=>false)
 | none=>false
theorem Jm {R:World→World→Prop}(hrf:∀ w,R w w) (htr:∀ a b c,R a b→R b c→R a c){D:List (Nat×Nat×Nat)}{z:Nat}(hs:joS ops=true) (hQ:∀ c a d v w,Q (.panic c) (joT a d v) w→Q (.panic c) a w) (cs:List Nat) (hD:ops.toList.map (vA ops)=D)
 (hsub:∀ (j:Nat) o,ops[j]? =some o→∀ e∈o.after,e.on < ops.size) (hzok:zOk D cs z=true):
 ∀ (σ:List Nat) (listed:Array Bool) (done:Nat) (a:Act) (w:World),Listed ops.size done listed→Closed ops listed→ze D cs σ done=true→Jj P ops Q R z cs σ a w→ja5 P ops Q R z σ.length listed a w
 | [],listed,done,a,w,hL,_,hp,h=>by
   refine ⟨?_,h⟩
   have hlen:D.length=ops.size:=by rw [←hD];simp
   have hd:done+1=2 ^ ops.size:=by
    have:done+1=1 <<< D.length:=by simpa [ze] using hp
    rw [this,hlen,Nat.one_shiftLeft]
   cases hr:joU .any ops listed with
   | nil=>rfl
   | cons j r=>
     have hj:j∈joU .any ops listed:=by rw [hr];simp
     obtain ⟨h0,_⟩:=mem_ready.1 hj
     have hlt:=hL.lt h0
     rw [hL.2 j hlt] at h0
     have:done=2 ^ ops.size - 1:=by omega
     rw [this,Nat.testBit_two_pow_sub_one] at h0
     simp [hlt] at h0
 | i::rest,listed,done,a,w,hL,hcl,hp,h=>by
   obtain ⟨o,ho,h⟩:=h
   have hi:i < ops.size:=(Array.getElem?_eq_some_iff.1 ho).1
   rw [ze,joM] at hp
   obtain ⟨hp1,hp2⟩:=hp
   have hDi:∀ (j:Nat) oj,ops[j]? =some oj→D[j]? =some (vA ops oj):=fun j oj hj=>by
    rw [←hD,joV,joW,hj];rfl
   rw [Yu,hDi i o ho] at hp1
   simp only [joM,joN,beq_iff_eq] at hp1
   obtain ⟨⟨hnd,hdep⟩,hp1⟩:=hp1
   have hri:i∈joU .any ops listed:=mem_ready.2 ⟨(hL.2 i hi).trans hnd,o,ho,fun e he hb=>
    hL.on (QN hdep ((yc o e.on).2 ⟨e,he,hb,rfl⟩)) (hsub i o ho e he)⟩
   have hL':=hL.set hi
   by_cases hc:cs.contains i=true
   ·rw [if_pos hc] at h hp1
    refine ⟨fun h0=>(by rw [h0] at hri;cases hri),fun j hj=> ?_⟩
    obtain ⟨h0,oj,hoj,hall⟩:=mem_ready.1 hj
    have hjl:=hL.lt h0
    rw [hL.2 j hjl] at h0
    by_cases hji:j=i
    ·subst hji
     exact wpOp_mono (fun a' w' ⟨he,hh⟩=>⟨he,Jm hrf htr hs hQ cs hD hsub hzok rest _ _ a' w' hL' (hcl.set hri) hp2 hh⟩) h
    ·have hw:=YR hp1 j _ (hDi j oj hoj) (by omega) (by rw [joB];exact h0)
     obtain ⟨k,hk1,hk2⟩:=Y3 hw
     obtain ⟨e,he,hb,rfl⟩:=(yc oj k).1 hk1
     rw [hL.off (hall e he hb)] at hk2
     cases hk2
   ·have hc':=hc
    rw [if_neg hc] at h hp1
    obtain ⟨v,hy,hh⟩:=h
    have hzz:=hzok
    unfold zOk at hzz
    rw [joM] at hzz
    obtain ⟨hzc,hzz⟩:=hzz
    have hiz:i≠z:=fun e=>by subst e;exact hc' hzc
    have hlen:D.length=ops.size:=by rw [←hD];simp
    cases hnz:jat D z with
    | none=>rw [hnz] at hzz;cases hzz
    | some x=>
      rw [hnz] at hzz
      rw [Yu,←hD,joV,joW] at hnz
      cases hoz:ops[z]? with
      | none=>rw [hoz] at hnz;cases hnz
      | some oz=>
        rw [hoz] at hnz
        simp only [Option.map_some,Option.some.injEq] at hnz
        have hwt:jjS ops oz i:=by
         have hx1:x.1=Y1 (jb5 oz):=by rw [←hnz];rfl
         simp only [hx1] at hzz
         have h1:=jo4.1 hzz i (List.mem_range.2 (by omega))
         simp only [Bool.or_eq_true,beq_iff_eq] at h1
         rcases h1 with h1 | h1 | h1
         ·exact absurd h1 hiz
         ·exact .inl ((yc oz i).1 h1)
         ·obtain ⟨m,hm,h2⟩:=List.any_eq_true.1 h1
          rw [joM] at h2
          obtain ⟨h2,h3⟩:=h2
          cases hom:ops[m]? with
          | none=>rw [Yu,←hD,joV,joW,hom] at h3;cases h3
          | some om=>
            rw [Yu,hDi m om hom] at h3
            exact .inr ⟨m,om,hom,(yc oz m).1 h2,(yc om i).1 h3⟩
        refine jcN hrf htr ho hoz hiz hwt (Region.noSelect_spec hs) (fun c a w=>hQ c a _ _ w) _ listed a w hcl (fun j oj hoj hji hun hno=> ?_) hri hy (Jm hrf htr hs hQ cs hD hsub hzok rest _ _ _ w hL' (hcl.set hri) hp2 hh)
        have hjl:=hL.lt hun
        rw [hL.2 j hjl] at hun
        refine jaa (zD hp1 j _ (hDi j oj hoj) (by omega) (by rw [joB];exact hun) ?_)
        cases hb:(vA ops oj).1.testBit i with
        | false=>rfl
        | true=>
          obtain ⟨e,he,hb',he'⟩:=(yc oj i).1 hb
          exact absurd he' (hno e he hb')
theorem jba {R:World→World→Prop}(hrf:∀ w,R w w) (htr:∀ a b c,R a b→R b c→R a c){id:Nat}{a:Act}{w:World}(z:Nat) (σ cs:List Nat) (D:List (Nat×Nat×Nat)) (hm:P.follows .mixedOrders=true) (hs:joS ops=true) (hin:y9 ops=true) (hl:σ.length=ops.size)
 (hD:ops.toList.map (vA ops)=D) (hp:ze D cs σ 0=true) (hz:zOk D cs z=true)
 (hQ:∀ c a d v w,Q (.panic c) (joT a d v) w→Q (.panic c) a w) (h:Jj P ops Q R z cs σ a w.drew):(Code.region id ops true).wp P Q a w:=by
 refine wp_region_any hm (ja6 (R:=R) (z:=z) _ _ _ _ ?_)
 have:=Jm hrf htr hs hQ cs hD (fun j o ho e he=>by
  have h1:=joX.1 hin o (Array.mem_of_getElem? ho)
  simpa using joX.1 h1 e he) hz σ (joY ops.size false) 0 a w.drew ⟨by simp,fun j hj=>by simp [Array.getD,hj]⟩ (fun k ok _ hl=>by
   exfalso
   rcases jow k ops.size with h' | h'
   ·simp [Array.getD,h'] at hl
   ·simp [Array.getD,Nat.not_lt.2 h'] at hl) hp h
 rw [hl] at this
 exact this
theorem jN {R:World→World→Prop}{z:Nat}{cs:List Nat}{a:Act}{w:World}(h:Q .normal a w):Jj P ops Q R z cs [] a w:=h
theorem Zo {R:World→World→Prop}{z:Nat}{cs:List Nat}{i:Nat}{rest:List Nat}{a:Act}{w:World}(F:World→Prop) (hF:∀ w',R w w'→F w') (o:Oper){v:Value}(ho':yO ops.toList i=some o) (hc:cs.contains i=false)
 (hw:joZ o (yielded ops a.tmps)=true) (hrun:∀ w',F w'→(jo0 a.eval o).run P w'= .ok (.value v) w') (h:Jj P ops Q R z cs rest (a.put o.dst v) w):Jj P ops Q R z cs (i::rest) a w:=
 ⟨o,vV ho',by rw [if_neg (by rw [hc];exact Bool.false_ne_true)];exact ⟨v, .inl ⟨hw,fun w' e=>hrun w' (hF w' e)⟩,h⟩⟩
theorem jjD {R:World→World→Prop}{z:Nat}{cs:List Nat}{i:Nat}{rest:List Nat}{a:Act}{w:World}(o:Oper) (ho':yO ops.toList i=some o) (hc:cs.contains i=true) (hw:joZ o (yielded ops a.tmps)=true)
 (h:∀ K':Act→World→Prop,Shut (∀ a' w',(i=z∨R w w')→Jj P ops Q R z cs rest a' w'→K' a' w')→Oper.wp P o a w K' Q):Jj P ops Q R z cs (i::rest) a w:=
 ⟨o,vV ho',by
   rw [if_pos hc]
   refine wpOp_step (vV ho') fun K' hK=> ?_
   rw [if_pos hw]
   exact h K' fun a' w' he hh=>hK a' w' ⟨he,hh⟩⟩
end
section
variable {P:joD}{ops:Array Oper}{Q:Exit→Act→World→Prop}{R:World→World→Prop}{id i z:Nat}{rest cs:List Nat}{a:Act}{w:World}
theorem ym (z:Nat) (σ cs:List Nat) (h:Jj P ops Q Ext z cs σ a w.drew) (hm:P.follows .mixedOrders=true:=by kernel_rfl) (hs:joS ops=true:=by kernel_rfl) (hin:y9 ops=true:=by kernel_rfl) (hl:σ.length=ops.size:=by exact rfl)
 (hp:ze (ops.toList.map (vA ops)) cs σ 0=true:=by kernel_rfl) (hz:zOk (ops.toList.map (vA ops)) cs z=true:=by kernel_rfl) (hQ:∀ c a d v w,Q (.panic c) (joT a d v) w→Q (.panic c) a w:=by exact fun _ _ d _ _ h=>by cases d <;> exact h):(Code.region id ops true).wp P Q a w:=
 jba jnQ (fun _ _ _=>Ext.trans) z σ cs _ hm hs hin hl rfl hp hz hQ h
theorem qzR (F:World→Prop) (h:∀ w',R w w'→F w'){o:Oper}{v:Value}(hn:Jj P ops Q R z cs rest (a.put o.dst v) w) (ho':yO ops.toList i=some o:=by exact rfl) (hc:cs.contains i=false:=by exact rfl)
 (hw:joZ o (yielded ops a.tmps)=true:=by rfl) (hrun:∀ w',F w'→(jo0 a.eval o).run P w'= .ok (.value v) w':=by intro w' hF;go_simp;(try with_reducible rfl)):Jj P ops Q R z cs (i::rest) a w:=
 Zo F h o ho' hc hw hrun hn
theorem jio {o:Oper}{v:Value}(hn:Jj P ops Q R z cs rest (a.put o.dst v) w) (ho':yO ops.toList i=some o:=by exact rfl) (hc:cs.contains i=false:=by exact rfl)
 (hw:joZ o (yielded ops a.tmps)=true:=by rfl) (hrun:∀ w',(jo0 a.eval o).run P w'= .ok (.value v) w':=by intro w';go_simp;(try with_reducible rfl)):Jj P ops Q R z cs (i::rest) a w:=
 Zo (fun _=>True) (fun _ _=>trivial) o ho' hc hw (fun w' _=>hrun w') hn
theorem qzV {o:Oper}(ho':yO ops.toList i=some o) (F:World→Prop) (h:∀ w',R w w'→F w') (v:Value) (hrun:∀ w',F w'→(jo0 a.eval o).run P w'= .ok (.value v) w') (hn:Jj P ops Q R z cs rest (a.put o.dst v) w) (hc:cs.contains i=false:=by exact rfl)
 (hw:joZ o (yielded ops a.tmps)=true:=by rfl):Jj P ops Q R z cs (i::rest) a w:=
 Zo F h o ho' hc hw hrun hn
theorem qzD {o:Oper}(h:∀ K':Act→World→Prop,Shut (∀ a' w',(i=z∨R w w')→Jj P ops Q R z cs rest a' w'→K' a' w')→Oper.wp P o a w K' Q) (ho':yO ops.toList i=some o:=by exact rfl) (hc:cs.contains i=true:=by exact rfl) (hw:joZ o (yielded ops a.tmps)=true:=by rfl):Jj P ops Q R z cs (i::rest) a w:=
 jjD o ho' hc hw h
end
def wd (vs:List Nat) (k:Nat):Nat:=vs.getD k 0
def Arr (w:World) (g:Nat) (vs:List Nat):Prop:=
 g < w.heap.size∧∀ i,i < vs.length→w.cell? ⟨g,i,none⟩=some (.int .u32 (wd vs i:Int))∧w.frozen? ⟨g,i,none⟩=false∧wd vs i < 4294967296
def qF (a b:Nat):Nat:=(a+b) % 4294967296
def QK (n x:Nat):Nat:=(x*2 ^ (32 - n)) % 4294967296|||x / 2 ^ n
theorem ve (a b:Nat):qF a b < 4294967296:=jo5 _ (by omega)
theorem yB {n x:Nat}(h:x < 4294967296):QK n x < 4294967296:=by
 unfold QK
 exact Nat.or_lt_two_pow (n:=32) (jo5 _ (by omega)) (jo6 (Nat.div_le_self _ _) h)
theorem j8 {vs:List Nat}{k i x:Nat}(hk:k < vs.length):wd (vs.set k x) i=if i=k then x else wd vs i:=by
 unfold wd
 by_cases h:i=k
 ·subst h;simp [jot,hk]
 ·simp [jot,h,List.getElem?_set_ne (Ne.symm h)]
section
variable {w w':World}{g:Nat}{vs:List Nat}
theorem Arr.ext (h:Arr w g vs) (he:Ext w w'):Arr w' g vs:=
 ⟨jos h.1 he.size,fun i hi=>⟨(he.cell h.1).trans (h.2 i hi).1,(Below.frozen he (p:=⟨g,i,none⟩) h.1).trans (h.2 i hi).2.1,(h.2 i hi).2.2⟩⟩
theorem Jo (w:World) (p q:Addr) (u:Value):(w.setCell p u).frozen? q=w.frozen? q:=by
 simp only [World.frozen?,World.setCell,Array.getElem?_modify]
 by_cases h:p.block=q.block
 ·rw [if_pos h]
  cases w.heap[q.block]? with
  | none=>rfl
  | some o=>cases o <;> rfl
 ·rw [if_neg h]
theorem Arr.set {k x:Nat}(h:Arr w g vs) (hk:k < vs.length) (hx:x < 4294967296):Arr (w.setCell ⟨g,k,none⟩ (.int .u32 (x:Int))) g (vs.set k x):=by
 refine ⟨by simpa [World.setCell] using h.1,fun i hi=> ?_⟩
 rw [jo7] at hi
 obtain ⟨h1,h2,h3⟩:=h.2 i hi
 rw [j8 hk,Jo]
 by_cases e:i=k
 ·subst e
  simp only [if_true]
  exact ⟨World.cell?_setCell_same _ _ _ h1,h2,hx⟩
 ·simp only [if_neg e]
  refine ⟨?_,h2,h3⟩
  rw [World.cell?_setCell_other _ _ _ _ (fun q=>e (by injection q with _ q2 _;exact q2.symm))]
  exact h1
end
theorem jg {P:joD}{c:Code}{Q:Exit→Act→World→Prop}{a:Act}{W:World}(ψ:World→Prop) (h1:ψ W) (h2:∀ w1,ψ w1→Code.wp P c Q a w1):Code.wp P c Q a W:=h2 W h1
theorem vP {a b:Nat}:IntKind.u32.wrap ((a:Int)+(b:Int))=(qF a b:Int):=by
 rw [jo8]
 unfold qF
 omega
theorem jL {a b:Nat}(ha:a < 4294967296) (hb:b < 4294967296):a^^^b < 4294967296:=Nat.xor_lt_two_pow (n:=32) ha hb
theorem jj {a b c:World}{r:Option Nat}(h:a.grownBy b r) (k:b.grownBy c r):a.grownBy c r:=
 ⟨k.os.trans h.os,k.tape.trans h.tape,k.output.trans h.output,jo2 h.size k.size,fun i hi hr=>(k.block i (jos hi h.size) hr).trans (h.block i hi hr)⟩
theorem jV {a b:World}(h:Ext a b) (r:Option Nat):a.grownBy b r:=⟨h.os,h.tape,h.output,h.size,fun i hi _=>h.block i hi⟩
theorem Qr {a b:World}{g:Nat}(h:a.grownBy b (some g)) (i:Nat) (u:Value):a.grownBy (b.setCell ⟨g,i,none⟩ u) (some g):=
 ⟨h.os,h.tape,h.output,by simpa [World.setCell] using h.size,fun j hj hne=>(jo9 b ⟨g,i,none⟩ u j (fun e=>hne (by rw [e]))).trans (h.block j hj hne)⟩
def Fct (w:World) (g i x:Nat):Prop:=w.cell? ⟨g,i,none⟩=some (.int .u32 (x:Int))∧w.frozen? ⟨g,i,none⟩=false∧x < 4294967296
theorem Arr.fct {w:World}{g i:Nat}{vs:List Nat}(h:Arr w g vs) (hi:i < vs.length):Fct w g i (wd vs i):=h.2 i hi
theorem qt {w w':World}{g k:Nat}{v:Value}(h:w.grownBy w' (some g)):w.grownBy ((w'.setCell ⟨g,k,none⟩ v).drew) (some g):=jj (Qr h k v) (jV (jnQ _).drew _)
def qa (n:Nat) (vs:List Nat) (d a:Nat):List Nat:=vs.set d (QK n (wd vs d^^^wd vs a))
def qu (vs:List Nat) (c d:Nat):List Nat:=vs.set c (qF (wd vs c) (wd vs d))
theorem yd (n:Nat) (vs:List Nat) (a b:Nat):(qa n vs a b).length=vs.length:=by simp [qa]
theorem yq (vs:List Nat) (a b:Nat):(qu vs a b).length=vs.length:=by simp [qu]
def Yh (xs ys:List UInt8):Nat→Nat
 | 0=>0
 | k+1=>Yh xs ys k|||(bt xs k^^^bt ys k)
theorem jbu (xs ys:List UInt8):∀ k,Yh xs ys k < 256
 | 0=>by simp [Yh]
 | k+1=>by
   have h:=jbu xs ys k
   have h1:bt xs k < 2 ^ 8:=vL xs k
   have h2:bt ys k < 2 ^ 8:=vL ys k
   exact Nat.or_lt_two_pow (n:=8) h (Nat.xor_lt_two_pow h1 h2)
theorem xor_zero {a b:Nat}(h:a^^^b=0):a=b:=by
 have:a^^^b^^^b=0^^^b:=by rw [h]
 simpa [Nat.xor_assoc] using this
theorem Zy (xs ys:List UInt8):∀ k,(Yh xs ys k=0↔∀ j,j < k→xs.getD j 0=ys.getD j 0)
 | 0=>by simp [Yh]
 | k+1=>by
   have ih:=Zy xs ys k
   rw [Yh,Nat.or_eq_zero_iff,ih]
   constructor
   ·rintro ⟨h1,h2⟩ j hj
    rcases jow j k with h | h
    ·exact h1 j h
    ·obtain rfl:j=k:=by omega
     exact UInt8.toNat_inj.1 (xor_zero h2)
   ·intro h
    exact ⟨fun j hj=>h j (by omega),by unfold bt;rw [h k (by omega)];simp⟩
theorem jdM {xs ys:List UInt8}(h:xs.length=ys.length):(xs=ys↔∀ j,j < xs.length→xs.getD j 0=ys.getD j 0):=by
 constructor
 ·rintro rfl _ _;rfl
 ·intro hh
  refine jpa h fun j h1 h2=> ?_
  have:=hh j h1
  simpa [jot,h1,h2] using this
theorem jgS (xs ys:List UInt8) (k:Nat):bits .or .u8 (Yh xs ys k:Int) (bits .xor .u8 (bt xs k:Int) (bt ys k:Int))=(Yh xs ys (k+1):Int):=by
 have h:=jbu xs ys k
 have h1:bt xs k < 2 ^ 8:=vL xs k
 have h2:bt ys k < 2 ^ 8:=vL ys k
 rw [u8_xor_nat _ _ h1 h2,u8_or_nat _ _ h (Nat.xor_lt_two_pow (n:=8) h1 h2)]
 rfl
def cellsOf (xs:List UInt8):List Value:=(jo3 xs.length).map fun j=>joC .u8 (bt xs j:Int)
theorem ja (xs:List UInt8):(cellsOf xs).length=xs.length:=by simp [cellsOf]
theorem jZ {xs:List UInt8}{j:Nat}(h:j < xs.length):(cellsOf xs)[j]? =some (.int .u8 (bt xs j:Int)):=by simp [cellsOf,h]
theorem ji (xs:List UInt8):(cellsOf xs).toArray.all (·.oneCell')=true:=by
 rw [joX]
 intro v hv
 obtain ⟨j,_,rfl⟩:=joP.1 (List.mem_toArray.1 hv)
 rfl
theorem jiW {W:World}{g off dLen dCap:Nat}{cur:List Value}{t dT sT ty:joE}{A:Option Addr}{n c:Nat}{xs:List UInt8}(hu:Tryz.prog.underlying dT=some (.slice 5)) (hg:W.heap[g]? =some (.cells cur.toArray t (0,0))) (h:Bs W A n c xs) (hd:n≤dLen) (hfit:off+n≤cur.length):
 ∃ W',(Builtin.copy_ #[dT,sT] ty #[.slice (some ⟨g,off,none⟩) dLen dCap, .slice A n c]).run joz W= .ok (goInt n) W'∧W'.heap[g]? =some (.cells (jpb cur off (cellsOf xs)).toArray t (0,0))∧(∀ B,B≤g→Below B W W'):=by
 have hl:=h.len
 have hsz:(Tryz.prog.info? 5).map (·.size)=some 1:=rfl
 by_cases h0:n=0
 ·subst h0
  obtain rfl:xs= []:=joy hl
  refine ⟨W,?_,by simpa [jpb,cellsOf] using hg,fun B _=>joo _ _⟩
  have:=run_copy_none (P:=joz) W dT sT ty _ (some ⟨g,off,none⟩) A dLen dCap 0 c hu hsz (by simp)
  simpa using this
 ·obtain ⟨b,o,rfl,hb,hc⟩:=h.pos (by omega)
  have hr:=run_copy_row joz W dT sT ty _ g off dLen dCap ⟨b,o,none⟩ n c cur.toArray t (cellsOf xs) hu hsz hg (by rw [ja,hl];exact (Nat.min_eq_left hd).symm) (fun j v hv=>by
   have hj:j < xs.length:=by
    rcases jow j xs.length with q | q
    ·exact q
    ·rw [jpc (by rw [ja];exact q)] at hv;cases hv
   rw [jZ hj] at hv
   injection hv with hv
   subst hv
   have:(⟨b,o,none⟩:Addr).add j=⟨b,o+j,none⟩:=by unfold Addr.add;split <;> simp_all
   rw [this]
   exact hc j (by omega)) (by rw [ja];simp;omega) (fun v hv=>by
   obtain ⟨j,_,rfl⟩:=joP.1 hv
   rfl)
  rw [ja,hl] at hr
  refine ⟨_,hr,?_,fun B hB=>jpd (joo _ _) hB _⟩
  have:=jpe W g _ ((cur.take off++cellsOf xs++cur.drop (off+n)).toArray) t _ hg
  simpa [jpb,ja,hl,jpf] using this
theorem JZ {o:Oper}{a:Act}{K:Act→World→Prop}{Q:Exit→Act→World→Prop}{W:World}{g off dLen dCap:Nat}{cur:List Value}{t dT sT ty:joE}{A:Option Addr}{n c:Nat}{xs:List UInt8}(hu:Tryz.prog.underlying dT=some (.slice 5)) (hg:W.heap[g]? =some (.cells cur.toArray t (0,0))) (h:Bs W A n c xs) (hd:n≤dLen) (hfit:off+n≤cur.length)
 (H:∀ W',Hid (W'.heap[g]? =some (.cells (jpb cur off (cellsOf xs)).toArray t (0,0)))→Hid (∀ B,B≤g→Below B W W')→Oper.upon joz o a K Q (.ok (Next.value (goInt n)) W')):
 Oper.upon joz o a K Q (((Builtin.copy_ #[dT,sT] ty #[.slice (some ⟨g,off,none⟩) dLen dCap, .slice A n c]).run joz W).andThen fun a w'=> .ok (Next.value a) w'):=by
 obtain ⟨W',h1,h2,h3⟩:=jiW (W:=W) (dT:=dT) (sT:=sT) (ty:=ty) (dCap:=dCap) hu hg h hd hfit
 rw [h1]
 exact H W' h2 h3
theorem jK (w:World) (o1 o2:Obj):((w.alloc o1).alloc o2).heap[w.heap.size+1]? =some o2:=by
 simp only [World.alloc,Array.getElem?_push,Array.size_push,if_true]
theorem jQ (w:World) (o1 o2:Obj):((w.alloc o1).alloc o2).heap[w.heap.size]? =some o1:=by
 simp only [World.alloc,Array.getElem?_push,Array.size_push,if_true]
 rw [if_neg (by omega)]
theorem jh {w:World}{g:Nat}{o:Obj}(h:w.heap[g]? =some o):g < w.heap.size:=by
 rcases jow g w.heap.size with h1 | h1
 ·exact h1
 ·rw [jox h1] at h;cases h
def jb (vs:List Nat):List Value:=vs.map fun x:Nat=>joC .u32 (x:Int)
def Wr (w:World) (g:Nat) (t:joE) (vs:List Nat):Prop:=w.heap[g]? =some (.cells (jb vs).toArray t (0,0))
section
variable {w w':World}{g:Nat}{t:joE}{vs:List Nat}
theorem Wr.lt (h:Wr w g t vs):g < w.heap.size:=by
 rcases jow g w.heap.size with h1 | h1
 ·exact h1
 ·unfold Wr at h;rw [jox h1] at h;cases h
theorem Wr.cell (h:Wr w g t vs){i:Nat}(hi:i < vs.length):w.cell? ⟨g,i,none⟩=some (.int .u32 (wd vs i:Int)):=by
 rw [jpg w g i _ t (0,0) h]
 simp [jb,wd,jot,hi]
theorem Wr.frozen (h:Wr w g t vs) (i:Nat):w.frozen? ⟨g,i,none⟩=false:=by
 unfold Wr at h
 simp [World.frozen?,h]
theorem Wr.set (h:Wr w g t vs){k x:Nat}:Wr (w.setCell ⟨g,k,none⟩ (.int .u32 (x:Int))) g t (vs.set k x):=by
 have h1:=setCell_eq_setRow w g k _ t (0,0) (.int .u32 (x:Int)) h
 unfold Wr
 rw [h1,jpe w g _ _ t _ h]
 simp [jb,List.map_set]
theorem Wr.arr (h:Wr w g t vs) (hb:∀ i,i < vs.length→wd vs i < 4294967296):Arr w g vs:=⟨h.lt,fun i hi=>⟨h.cell hi,h.frozen i,hb i hi⟩⟩
theorem Wr.kept {B:Nat}(h:Wr w g t vs) (he:Below B w w') (hB:g < B):Wr w' g t vs:=(he.block g hB).trans h
end
theorem Bs.part {w:World}{g:Nat}{t:joE}{fr:Nat×Nat}{xs:List UInt8}(h:w.heap[g]? =some (.cells (cellsOf xs).toArray t fr)){o n c:Nat}(ho:o+n≤xs.length) (hn:n≤c) (hc:c≤1000000):Bs w (some ⟨g,o,none⟩) n c ((xs.drop o).take n):=by
 have hlt:g < w.heap.size:=by
  rcases jow g w.heap.size with h1 | h1
  ·exact h1
  ·rw [jox h1] at h;cases h
 refine ⟨by simp;omega,hn,jo2 hc (by decide),fun _=>⟨g,o,rfl,hlt,fun j hj=> ?_⟩⟩
 rw [jpg w g (o+j) _ t fr h]
 have hb:bt ((xs.drop o).take n) j=bt xs (o+j):=by
  unfold bt
  simp [jot,jph,hj]
 rw [hb]
 have:=jZ (xs:=xs) (j:=o+j) (by omega)
 simpa using this
theorem je (w:World) (o:Obj):(w.alloc o).heap.size=w.heap.size+1:=by
 simp only [World.alloc,Array.size_push]
theorem jF (w:World) (o1 o2 o3:Obj):(((w.alloc o1).alloc o2).alloc o3).heap[w.heap.size]? =some o1:=by
 rw [jpi _ _ _ (by rw [je,je];omega)]
 exact jQ w o1 o2
theorem jH (w:World) (o1 o2 o3:Obj):(((w.alloc o1).alloc o2).alloc o3).heap[w.heap.size+1]? =some o2:=by
 rw [jpi _ _ _ (by rw [je,je];omega)]
 exact jK w o1 o2
theorem jB (w:World) (o1 o2 o3:Obj):(((w.alloc o1).alloc o2).alloc o3).heap[w.heap.size+1+1]? =some o3:=by
 have:=jK (w.alloc o1) o2 o3
 rwa [je] at this
theorem j4 {vs:List Nat}{n:Nat}(h:vs.length=n):(jb vs).length=n:=by simp [jb,h]
theorem jf {vs:List Nat}{n:Nat}(h:vs.length=n):(jb vs).toArray.size=n:=by simp [jb,h]
theorem jo (vs:List Nat):(jb vs).toArray.all (·.oneCell')=true:=by
 rw [joX]
 intro v hv
 obtain ⟨j,_,rfl⟩:=joP.1 (List.mem_toArray.1 hv)
 rfl
theorem qp (xs:List UInt8):cellsOf xs=xs.map fun x=>joC .u8 (x.toNat:Int):=by
 apply List.ext_getElem?
 intro j
 by_cases q:j < xs.length
 ·rw [jZ q]
  simp [bt,jot,q]
 ·rw [jpc (by rw [ja];omega),jpc (by simp;omega)]
theorem Yf (xs ys:List UInt8) (o:Nat):jpb (cellsOf xs) o (cellsOf ys)=cellsOf (jpb xs o ys):=by
 simp [qp,jpb]
theorem jaR {xs ys:List UInt8}{o:Nat}(h:o+ys.length≤xs.length):(jpb xs o ys).length=xs.length:=by
 simp [jpb];omega
theorem jbs {xs ys:List UInt8}{o j:Nat}(h:o+ys.length≤xs.length) (hj:j < o+ys.length):bt (jpb xs o ys) j=if j < o then bt xs j else bt ys (j - o):=by
 unfold bt jpb
 simp only [jot,List.getElem?_append,jou]
 by_cases q:j < o
 ·rw [if_pos q,if_pos (by omega)]
  simp [jph,q]
 ·rw [if_neg q,if_neg (by omega),if_pos (by omega),Nat.min_eq_left (by omega)]
theorem Y0 {xs ys:List UInt8}(h:xs.length=ys.length) (hb:∀ j,j < xs.length→bt xs j=bt ys j):xs=ys:=(jdM h).2 fun j hj=>UInt8.toNat_inj.1 (hb j hj)
theorem jex {vs:List Nat}{w:World}{k n:Nat}{t:joE}(ht:Tryz.prog.underlying t=some (.array n 133)) (hl:vs.length=n) (hk:k < n):
 (jpj t (.agg (jb vs).toArray) (.int .i64 (k:Int))).run joz w= .ok (.int .u32 (wd vs k:Int)) w:=by
 have h1:(0:Int)≤(k:Int)∧(k:Int) < (n:Int):=by omega
 have hs:(sizeOf 133).run joz w= .ok 1 w:=rfl
 have hg:(jb vs).toArray[k]? =some (.int .u32 (wd vs k:Int)):=by
  simp [jb,wd,jot,show k < vs.length by omega]
 unfold jpj
 simp only [jpk,asIntOf,jpl,jpm,jpn ht]
 rw [if_pos h1]
 simp only [jpk,hs,jpm]
 have ha:(isAgg 133).run joz w= .ok false w:=rfl
 unfold part
 simp only [jpk,ha,jpm,Int.toNat_natCast,Nat.mul_one,Bool.false_eq_true,if_false,hg,jpl]
theorem Bs.key {w:World}{g:Nat}{t:joE}{xs:List UInt8}(h:w.heap[g]? =some (.cells (cellsOf xs).toArray t (0,0))) (hl:xs.length=32):Bs w (some ⟨g,0,none⟩) 32 32 xs:=by
 have:=Bs.part h (o:=0) (n:=32) (c:=32) (by omega) (by omega) (by omega)
 rw [List.drop_zero,jpo (by omega)] at this
 exact this
def qX (vs:List Nat):List UInt8:=(jo3 (4*vs.length)).map fun i=>jov (wd vs (i / 4) / 256 ^ (i % 4))
theorem ya (vs:List Nat):(qX vs).length=4*vs.length:=by simp [qX]
theorem JK {vs:List Nat}{j:Nat}(hj:j < 4*vs.length):bt (qX vs) j=wd vs (j / 4) / 256 ^ (j % 4) % 256:=by
 unfold bt qX
 simp [jot,hj]
theorem je3 {w:World}{g k n:Nat}{t:joE}(ht:Tryz.prog.underlying t=some (.array (Tryz.prog.arrayLen t) (Tryz.prog.elem t))) (hs:∀ w,(sizeOf (Tryz.prog.elem t)).run joz w= .ok 1 w) (hn:Tryz.prog.arrayLen t=n) (hk:4*k < n):
 (Instr.sliceAt t (.pointer (some ⟨g,0,none⟩)) (some (.int .i64 (4*(k:Int)))) none none).run joz w= .ok (.slice (some ⟨g,4*k,none⟩) (n - 4*k) (n - 4*k)) w:=by
 rw [run_sliceAt_array_l w t _ ht .i64 _ (by omega) (by rw [hn];omega)]
 rw [hs]
 have h1:(4*(k:Int)).toNat=4*k:=by omega
 have h3:(⟨g,0,none⟩:Addr).add (4*k*1)=⟨g,4*k,none⟩:=by unfold Addr.add;split <;> simp_all
 show Result.ok (slicedAt _ _ _ _ _) w=_
 rw [hn,h1]
 unfold slicedAt
 rw [if_neg (by omega),h3]
theorem jd {P:joD}{o:Oper}{a:Act}{w:World}{ty:joE}{x:Operand}{g:Nat}{t:joE}{cs:Array Value}{fr:Nat×Nat}{d:TypeDesc}(ho:o.op= .load ty x) (hx:a.eval x= .pointer (some ⟨g,0,none⟩)) (hg:w.heap[g]? =some (.cells cs t fr))
 (hu:P.underlying ty=some d) (hd:(match d with | .struct _ | .array _ _=>true | _=>false)=true) (hi:(P.info? ty).map (·.size)=some cs.size):(jo0 a.eval o).run P w= .ok (.value (.agg cs)) w:=by
 unfold jo0
 simp only [ho,hx,Instr.loadAt,Instr.sureAddr,jpk,jpl,jpm,run_loadVar_row w g t ty cs fr d hg hu hd hi]
theorem qj {P:joD}{fn:Func}{p u:Tmp}{ty:joE}(h:fn.results= #[.cell p ty, .tmp u]) (tmps:Array Value) (w:World) (g:Nat) (t:joE) (cs:Array Value) (fr:Nat×Nat) (d:TypeDesc) (v:Value)
 (hp:tmps.getD p undef= .pointer (some ⟨g,0,none⟩)) (hv:tmps.getD u undef=v) (hg:w.heap[g]? =some (.cells cs t fr))
 (hu:P.underlying ty=some d) (hd:(match d with | .struct _ | .array _ _=>true | _=>false)=true) (hi:(P.info? ty).map (·.size)=some cs.size):
 (results fn tmps).run P w= .ok (.tuple #[.agg cs,v]) w:=by
 rw [results_cell_tmp h,hp,hv]
 simp only [asAddr,jpl,jpm,run_loadVar_row w g t ty cs fr d hg hu hd hi]
theorem yf {F:Exit→Act→World→Prop}{x:Exit}{a:Act}{W:World}(ψ:World→Prop) (h1:ψ W) (h2:∀ w1,ψ w1→F x a w1):F x a W:=h2 W h1
theorem jm {P:joD}{ops:Array Oper}{rest:List Oper}{o:Oper}{a:Act}{w:World}{Q:Exit→Act→World→Prop}(hg:o.guard=none) (t:joE) (parts:Array (Nat×Operand)) (ho:o.op= .build t parts) (cells:Array Value)
 (hf:P.built t (parts.map fun (i,x)=>(i,a.eval x)).toList=some cells) (h:wpList P ops Q rest (a.put o.dst (.agg cells)) w):wpList P ops Q (o::rest) a w:=
 wpList_build hg t parts ho (by rw [hf];rfl) (by rw [hf];exact h)
def jr:Array Value:=(jpp 32 (joC .u8 0)).toArray
theorem j7:jr.size=32:=by simp [jr]
theorem JI:jr.all (·.oneCell')=true:=by kernel_rfl
theorem zJ:Tryz.prog.built 23 []=some jr:=by kernel_rfl
theorem jU:(cellsOf (jpp 32 0)).toArray=jr:=by kernel_rfl
theorem vC (off:Nat) (v:Array Value) (cs:Array Value):v.zipIdx.foldl (fun cs (c,j)=>cs.setIfInBounds (off+j) c) cs=(v.toList.zipIdx 0).foldl (fun cs (x:Value×Nat)=>cs.setIfInBounds (off+x.2) x.1) cs:=by
 rw [←Array.foldl_toList,Array.toList_zipIdx]
theorem jag {p q:Nat}{K L Z:Array Value}(pl:Nat→Option (Nat×Nat)) (h0:pl 0=some (0,p)) (h1:pl 1=some (p,q)) (hK:K.size=p) (hL:L.size=q) (hZ:Z.size=p+q):jpq pl Z [(0, .agg K),(1, .agg L)]=some (K++L):=by
 have c0:(jpr K).cells=K:=rfl
 have c1:(jpr L).cells=L:=rfl
 obtain ⟨g1,g2⟩:=Great.foldl_set 0 K.toList 0 Z
 obtain ⟨g3,g4⟩:=Great.foldl_set p L.toList 0 ((K.toList.zipIdx 0).foldl (fun cs (x:Value×Nat)=>cs.setIfInBounds (0+x.2) x.1) Z)
 unfold jpq
 simp only [h0,c0,hK]
 rw [if_neg (by simp;omega)]
 unfold jpq
 simp only [h1,c1,hL]
 rw [if_neg (by rw [vC,g1];simp;omega)]
 unfold jpq
 rw [vC,vC]
 congr 1
 apply Array.ext_getElem?
 intro k
 rw [g4 k,g2 k,g1]
 simp only [joR,joB,jor,true_and,Array.length_toList,hK,hL,hZ,Nat.sub_zero]
 by_cases a:k < p
 ·rw [if_neg (by omega),if_pos ⟨a,by omega⟩,Array.getElem?_append_left (by omega)]
  simp
 ·by_cases b:k < p+q
  ·rw [if_pos ⟨by omega,b,b⟩,Array.getElem?_append_right (by omega),hK]
   simp
  ·rw [if_neg (by omega),if_neg (by omega),jox (by omega),jox (by rw [Array.size_append];omega)]
theorem jgn:Tryz.prog.eqGuardType Tryz.prog.depth 23=false:=by kernel_rfl
theorem zS (xs:List UInt8):cellsOf xs=xs.map Extern.Stop.cell:=by rw [qp];rfl
theorem jgm {xs ys:List UInt8}(hx:xs.length=32) (hy:ys.length=32) (w:World):
 (Op.equalIn 10000 23 (.agg (cellsOf xs).toArray) (.agg (cellsOf ys).toArray)).run joz w= .ok (decide (xs=ys)) w:=by
 rw [zS,zS,run_equalIn_bytes w 9998 23 5 32 rfl rfl (fun _=>rfl) xs ys hx hy]
 congr 1
 rw [Bool.eq_iff_iff];simp
theorem jca {o:Oper}{a:Act}{w:World}{x y:Operand}{t':joE}{xs ys:List UInt8}(ho:o.op= .binOp .neq 23 x y t') (hx:a.eval x= .agg (cellsOf xs).toArray) (hy:a.eval y= .agg (cellsOf ys).toArray) (lx:xs.length=32) (ly:ys.length=32):
 (jo0 a.eval o).run joz w= .ok (.value (.bool (!decide (xs=ys)))) w:=by
 unfold jo0
 simp only [ho,hx,hy,jpk,run_eqGuard_agg _ _ _ _ _ _ _ jgn,jpm,run_neq_struct,jgm lx ly,jpl]
section
variable {ops:Array Oper}{rest:List Oper}{o:Oper}{a:Act}{w:World}{Q:Exit→Act→World→Prop}
theorem vQ {P:joD}{v:Value}(hw:joZ o (yielded ops a.tmps)=true) (hr:(jo0 a.eval o).run P w= .ok (.value v) w) (h:wpList P ops Q rest (a.put o.dst v) w):wpList P ops Q (o::rest) a w:=
 BigFrame.wpList_want hw fun K hK=>by
  unfold Oper.wp
  rw [hr]
  exact hK _ _ h
theorem qe {P:joD}{t:joE}{parts:Array (Nat×Operand)}{cells:Array Value}(ho:o.op= .build t parts) (hf:P.built t (parts.map fun (i,x)=>(i,a.eval x)).toList=some cells):(jo0 a.eval o).run P w= .ok (.value (.agg cells)) w:=by
 unfold jo0
 simp only [ho,jpk,run_build w t _ cells hf,jpm,jpl]
theorem js {P:joD}(hw:joZ o (yielded ops a.tmps)=true) (ty:joE) (x:Operand) (ho:o.op= .load ty x)
 (g:Nat) (hx:a.eval x= .pointer (some ⟨g,0,none⟩)) (t:joE) (cs:Array Value) (fr:Nat×Nat) (d:TypeDesc) (hg:w.heap[g]? =some (.cells cs t fr))
 (hu:P.underlying ty=some d) (hd:(match d with | .struct _ | .array _ _=>true | _=>false)=true) (hi:(P.info? ty).map (·.size)=some cs.size)
 (h:wpList P ops Q rest (a.put o.dst (.agg cs)) w):wpList P ops Q (o::rest) a w:=vQ hw (jd ho hx hg hu hd hi) h
end
theorem Bs.of_list {w:World}{g n:Nat}{t:joE}{fr:Nat×Nat}{cs:Array Value}{xs:List UInt8}(hc:cs=(cellsOf xs).toArray) (h:w.heap[g]? =some (.cells cs t fr)) (hn:xs.length=n∧n≤1000000):Bs w (some ⟨g,0,none⟩) n n xs:=by
 subst hc
 have:=Bs.part h (o:=0) (n:=n) (c:=n) (by omega) (by omega) (by omega)
 rw [List.drop_zero,jpo (by omega)] at this
 exact this
def Ky (w:World) (g:Nat) (xs:List UInt8):Prop:=w.heap[g]? =some (.cells (cellsOf xs).toArray 23 (0,0))∧xs.length=32
theorem Ky.ext {w w':World}{g:Nat}{xs:List UInt8}(h:Ky w g xs) (e:Ext w w'):Ky w' g xs:=⟨(e.block g (jh h.1)).trans h.1,h.2⟩
theorem Ky.cell {w:World}{g:Nat}{xs:List UInt8}(h:Ky w g xs){j:Nat}(hj:j < 32):w.cell? ⟨g,j,none⟩=some (.int .u8 (bt xs j:Int)):=by
 rw [jpg w g j _ _ (0,0) h.1]
 have:=jZ (xs:=xs) (j:=j) (by rw [h.2];exact hj)
 simpa using this
theorem Ky.frozen {w:World}{g:Nat}{xs:List UInt8}(h:Ky w g xs) (j:Nat):w.frozen? ⟨g,j,none⟩=false:=frozen_of_row w g j _ _ h.1
theorem Ky.bs {w:World}{g:Nat}{xs:List UInt8}(h:Ky w g xs):Bs w (some ⟨g,0,none⟩) 32 32 xs:=Bs.key h.1 h.2
theorem Ky.put {w:World}{g:Nat}{old xs:List UInt8}(h:Ky w g old) (hx:xs.length=32):Ky (w.setRow g (cellsOf xs).toArray) g xs:=⟨jpe _ _ _ _ _ _ h.1,hx⟩
theorem Ky.new {w:World}{xs:List UInt8}(o:Array Value) (hx:xs.length=32):Ky ((w.alloc (.cells o 23)).setRow w.heap.size (cellsOf xs).toArray) w.heap.size xs:=⟨jpe _ _ _ _ _ _ (jps _ _),hx⟩
theorem Ky.boxed (w:World){xs:List UInt8}(hx:xs.length=32):Ky (w.alloc (.cells (cellsOf xs).toArray 23)) w.heap.size xs:=⟨jps _ _,hx⟩
theorem Ext.newRow (w:World) (o:Obj) (C:Array Value):Ext w ((w.alloc o).setRow w.heap.size C):=jpd ((jnQ w).alloc _) (joq _) _
theorem Qn (w:World) (C:Array Value) (n c:Nat):(convert 33 33 (.slice (some ⟨w.heap.size,0,none⟩) n c)).run joz (w.alloc (.cells C 5))= .ok (.slice (some ⟨w.heap.size,0,none⟩) n c) (w.alloc (.cells C 5 (C.size,C.size+1))):=
 Lib.run_convert_bytes_const (P:=joz) w 33 5 C n c joA Tryz.underlying5
theorem j2 (w:World):(joK 23).run joz w= .ok (.agg jr) w:=by kernel_rfl
theorem jy {P:joD}{o:Oper}{a:Act}{w:World}{ty:joE}{x:Operand}{g off:Nat}{ys:List Value}{d:TypeDesc}(ho:o.op= .load ty x) (hx:a.eval x= .pointer (some ⟨g,off,none⟩)) (hc:∀ j v,ys[j]? =some v→w.cell? ⟨g,off+j,none⟩=some v)
 (hu:P.underlying ty=some d) (hd:(match d with | .struct _ | .array _ _=>true | _=>false)=true) (hi:(P.info? ty).map (·.size)=some ys.length):(jo0 a.eval o).run P w= .ok (.value (.agg ys.toArray)) w:=by
 have hl:(loadCells ⟨g,off,none⟩ ys.length).run P w= .ok ys.toArray w:=run_loadCells_list (P:=P) w ⟨g,off,none⟩ ys (fun j v hv=>by
  have hadd:(⟨g,off,none⟩:Addr).add j=⟨g,off+j,none⟩:=by unfold Addr.add;split <;> simp_all
  rw [hadd]
  exact hc j v hv)
 have hv:(loadVar ty ⟨g,off,none⟩).run P w= .ok (.agg ys.toArray) w:=by
  cases hq:P.info? ty with
  | none=>simp [hq] at hi
  | some i=>
    have hs:i.size=ys.length:=by simpa [hq] using hi
    have hagg:(isAgg ty).run P w= .ok true w:=by
     unfold isAgg
     rw [jpk,jpn hu w]
     cases d <;> simp_all
    simp [loadVar,jpk,hagg,sizeOf,typeInfo,hq,hs,hl]
 unfold jo0
 simp only [ho,hx,Instr.loadAt,Instr.sureAddr,jpk,jpl,jpm,hv]
theorem jI {P:joD}{ops:Array Oper}{rest:List Oper}{o:Oper}{a:Act}{w:World}{Q:Exit→Act→World→Prop}(hw:joZ o (yielded ops a.tmps)=true){ty:joE}{x:Operand}{g off:Nat}{ys:List Value}{d:TypeDesc}(ho:o.op= .load ty x) (hx:a.eval x= .pointer (some ⟨g,off,none⟩)) (hc:∀ j v,ys[j]? =some v→w.cell? ⟨g,off+j,none⟩=some v)
 (hu:P.underlying ty=some d) (hd:(match d with | .struct _ | .array _ _=>true | _=>false)=true) (hi:(P.info? ty).map (·.size)=some ys.length) (h:wpList P ops Q rest (a.put o.dst (.agg ys.toArray)) w):wpList P ops Q (o::rest) a w:=
 vQ hw (jy ho hx hc hu hd hi) h
theorem J9 {o:Oper}{a:Act}{w:World}{x y:Operand}{t':joE}{xs ys:List UInt8}{b:Bool}(hb:(!decide (xs=ys))=b) (lx:xs.length=32) (ly:ys.length=32) (ho:o.op= .binOp .neq 23 x y t') (hx:a.eval x= .agg (cellsOf xs).toArray) (hy:a.eval y= .agg (cellsOf ys).toArray):
 (jo0 a.eval o).run joz w= .ok (.value (.bool b)) w:=hb ▸ jca ho hx hy lx ly
theorem jdS {α:Type}(L:List α) (o:Nat) (v:α) (r:List α) (h:o < L.length):jpb (L.set o v) (o+1) r=jpb L o (v::r):=by
 unfold jpb
 rw [List.take_set,List.drop_set,if_pos (by omega)]
 have e:(L.take (o+1)).set o v=L.take o++ [v]:=by
  apply List.ext_getElem?
  intro i
  rw [List.getElem?_set]
  by_cases hi:o=i
  ·subst hi
   rw [if_pos rfl,if_pos (by simp;omega),jpt (by rw [jou];omega),jou]
   simp [show min o L.length=o by omega]
  ·rw [if_neg hi]
   by_cases h2:i < o
   ·rw [jpu (by simp;omega),jph,jph,if_pos (by omega),if_pos h2]
   ·rw [jph,if_neg (by omega),jpc (by simp;omega)]
 rw [e,jpf,show o+1+r.length=o+(v::r).length by simp;omega]
 rfl
theorem qI {g:Nat}{t:joE}{fr:Nat×Nat}:∀ (vs:List Value) (o:Nat) (w:World) (A:List Value),w.heap[g]? =some (.cells A.toArray t fr)→o+vs.length≤A.length→(w.setCells g o vs).heap[g]? =some (.cells (jpb A o vs).toArray t fr)
 | [],o,w,A,h,hl=>by
   have:jpb A o []=A:=by simp [jpb]
   rw [this];exact h
 | v::r,o,w,A,h,hl=>by
   have h1:(w.setCell ⟨g,o,none⟩ v).heap[g]? =some (.cells (A.set o v).toArray t fr):=by
    simp [World.setCell,Array.getElem?_modify,h]
   have:=qI r (o+1) _ (A.set o v) h1 (by simp at hl ⊢;omega)
   rw [jdS A o v r (by simp at hl;omega)] at this
   exact this
theorem Ja {w:World}{g o n:Nat}{A:List Value}{t:joE}(h:w.heap[g]? =some (.cells A.toArray t (0,0))) (hl:o+n≤A.length):w.there g o n:=fun j hj=>by
 refine ⟨?_,frozen_of_row w g _ _ _ h⟩
 rw [jpg w g _ _ _ _ h]
 simp
 omega
theorem ju {w:World}{g o:Nat}{vs:List Value}:w.grownBy (w.setCells g o vs) (some g):=by
 have hk:=World.keptBut_setCells g (may:=fun _=>True) vs o w (fun _ _=>trivial)
 refine ⟨hk.1,?_,hk.2.1,?_,fun i hi hne=>World.heap_setCells_other w g o vs hi (fun e=>hne (by rw [e]))⟩
 ·clear hk
  induction vs generalizing o w with
  | nil=>rfl
  | cons v r ih=>exact (ih (o:=o+1) (w:=w.setCell ⟨g,o,none⟩ v)).trans rfl
 ·clear hk
  induction vs generalizing o w with
  | nil=>exact joq _
  | cons v r ih=>exact jo2 (by simp [World.setCell]) (ih (o:=o+1) (w:=w.setCell ⟨g,o,none⟩ v))
theorem jt {a b c:World}{r:Option Nat}(h:a.grownBy b r) (k:b.grownBy c r):a.grownBy c r:=
 ⟨k.os.trans h.os,k.tape.trans h.tape,k.output.trans h.output,jo2 h.size k.size,fun i hi hne=>(k.block i (jos hi h.size) hne).trans (h.block i hi hne)⟩
theorem Zx {a b:World}{g:Nat}(hg:g < a.heap.size) (h:a.grownBy b (some g)):Below g a b:=
 ⟨h.os,h.tape,h.output,h.size,fun i hi=>h.block i (Nat.lt_trans hi hg) (fun q=>by cases q;exact Nat.lt_irrefl _ hi)⟩
theorem jgJ {α:Type}{L cs:List α}{off:Nat}(h:off+cs.length≤L.length) (k:Nat):(jpb L off cs)[k]? =if off≤k∧k < off+cs.length then cs[k - off]? else L[k]? :=by
 unfold jpb
 by_cases h1:k < off
 ·rw [jpu (by simp;omega),jph,if_pos h1,if_neg (by omega)]
 ·rw [jpt (by simp;omega),jou,Nat.min_eq_left (by omega)]
  by_cases h2:k < off+cs.length
  ·rw [jpu (by omega),if_pos (by omega)]
  ·rw [jpt (by omega),List.getElem?_drop,if_neg (by omega)]
   congr 1
   omega
theorem qK {pl:Nat→Option (Nat×Nat)}{i off n:Nat}{v:Value}{ps:List (Nat×Value)}{Z:List Value}(h:pl i=some (off,n)) (hv:v.cells.size=n) (hz:off+n≤Z.length):
 jpq pl Z.toArray ((i,v)::ps)=jpq pl (jpb Z off v.cells.toList).toArray ps:=by
 conv=>lhs;unfold jpq
 simp only [h,hv]
 rw [if_neg (by simp;omega),vC]
 congr 1
 obtain ⟨_,g2⟩:=Great.foldl_set off v.cells.toList 0 Z.toArray
 apply Array.ext_getElem?
 intro k
 rw [g2]
 simp only [jpv]
 rw [jgJ (by simp [hv];omega)]
 simp only [joR,Array.length_toList,hv,jpw,jpv,joW]
 by_cases hk:off≤k∧k < off+n
 ·rw [if_pos ⟨hk.1,hk.2,by omega⟩,if_pos hk]
 ·rw [if_neg (fun q=>hk ⟨q.1,q.2.1⟩),if_neg hk]
theorem qB {α:Type}{p y q z:List α}{off:Nat}(hp:p.length=off) (hl:y.length=z.length):jpb (p++(y++q)) off z=p++(z++q):=by
 unfold jpb
 rw [jpx hp]
 congr 2
 rw [←hl,←jpf,List.drop_left' (by rw [joI,hp])]
theorem jdV {α:Type}{y q z:List α}(hl:y.length=z.length):jpb (y++q) 0 z=z++q:=qB (p:= []) rfl hl
theorem qo (K:Array Value):(jpr K).cells=K:=rfl
theorem Yr (xs ys:List UInt8):cellsOf (xs++ys)=cellsOf xs++cellsOf ys:=by rw [qp,qp,qp,jpy]
def Cb (w:World) (g:Nat) (T:joE) (L:List Value):Prop:=w.heap[g]? =some (.cells L.toArray T (0,0))
section
variable {w w':World}{g:Nat}{T:joE}{L:List Value}
theorem Cb.lt (h:Cb w g T L):g < w.heap.size:=jh h
theorem Cb.ext (h:Cb w g T L) (e:Ext w w'):Cb w' g T L:=(e.block g (jh h)).trans h
theorem Cb.kept {B:Nat}(h:Cb w g T L) (e:Below B w w') (hB:g < B):Cb w' g T L:=(e.block g hB).trans h
theorem Cb.frozen (h:Cb w g T L) (j:Nat):w.frozen? ⟨g,j,none⟩=false:=frozen_of_row w g j _ _ h
theorem Cb.cell (h:Cb w g T L){j:Nat}{v:Value}(hv:L[j]? =some v):w.cell? ⟨g,j,none⟩=some v:=by rw [jpg w g _ _ _ _ h,jpv,hv]
theorem Cb.mid (h:Cb w g T L){p y q:List Value}{off:Nat}(hL:L=p++(y++q)) (hp:p.length=off):∀ j v,y[j]? =some v→w.cell? ⟨g,off+j,none⟩=some v:=fun j v hv=>h.cell (by
 rw [hL,jpt (by omega),hp,Nat.add_sub_cancel_left,jpu (jpz.1 hv).1,hv])
theorem Cb.put (h:Cb w g T L){p y q z:List Value}{off:Nat}(hL:L=p++(y++q)) (hp:p.length=off) (hl:y.length=z.length):Cb (w.setCells g off z) g T (p++(z++q)):=by
 have:=qI z off w L h (by rw [hL];simp;omega)
 rwa [hL,qB hp hl] at this
theorem Cb.there (h:Cb w g T L){o n:Nat}(hl:o+n≤L.length):w.there g o n:=Ja h hl
theorem Cb.row (h:Cb w g T L){r:Nat}{C:Array Value}(hne:g≠r):Cb (w.setRow r C) g T L:=(jpA _ _ _ _ hne).trans h
theorem Cb.new (w:World) (T:joE) (L:List Value):Cb (w.alloc (.cells L.toArray T)) w.heap.size T L:=jps _ _
theorem Cb.set {L':List Value}(h:Cb w g T L):Cb (w.setRow g L'.toArray) g T L':=jpe _ _ _ _ _ _ h
theorem Cb.setCell (h:Cb w g T L){o:Nat}{v:Value}:Cb (w.setCell ⟨g,o,none⟩ v) g T (L.set o v):=by
 unfold Cb at *
 simp [World.setCell,Array.getElem?_modify,h]
end
theorem qC {L:List Value}(h:∀ v∈L,v.oneCell'=true):L.toArray.all (·.oneCell')=true:=by
 simp only [List.all_toArray,jo4]
 exact h
theorem JT (xs:List UInt8):∀ v∈cellsOf xs,v.oneCell'=true:=fun v hv=>by
 simp only [cellsOf,joP] at hv
 obtain ⟨j,_,rfl⟩:=hv
 rfl
end
section
open Go.ChangeShapes Go.WideShapes Go.ChangeAt Go.RowKit Go.Deep Go.Maps
def knC (pk:List UInt8) (n:Int):List Value:=cellsOf pk++ [.int .i64 n]
theorem yA {pk:List UInt8}(h:pk.length=32) (n:Int):(knC pk n).length=33:=by simp [knC,ja,h]
theorem Y4 {pk:List UInt8}{n:Int}:∀ v∈knC pk n,v.oneCell'=true:=fun v hv=>by
 simp only [knC,joJ,joG,jpB,or_false] at hv
 rcases hv with h | rfl
 ·exact JT _ v h
 ·rfl
theorem jhJ {pk:List UInt8}(h:pk.length=32) (n:Int):(knC pk n)[32]? =some (.int .i64 n):=by
 unfold knC
 rw [jpt (by rw [ja,h];omega),ja,h]
 rfl
theorem jkm {pk:List UInt8}(n:Int) (j:Nat) (v:Value) (hv:(cellsOf pk)[j]? =some v):(knC pk n)[j]? =some v:=by
 unfold knC
 rw [jpu (jpz.1 hv).1,hv]
theorem jao:∀ {a b:List UInt8},(a.map fun x=>joC .u8 (x.toNat:Int))=(b.map fun x=>joC .u8 (x.toNat:Int))→a=b
 | [],[],_=>rfl
 | [],_::_,h=>by cases h
 | _::_,[],h=>by cases h
 | x::a,y::b,h=>by
   rw [jpC,jpC] at h
   injection h with h1 h2
   injection h1 with _ h1
   rw [UInt8.toNat_inj.1 (show x.toNat=y.toNat by omega),jao h2]
theorem jbC {α β:Type}{f:α→Option β}{g:α→β}:∀ {l:List α},(∀ i∈l,f i=some (g i))→l.mapM f=some (l.map g)
 | [],_=>rfl
 | x::r,h=>by
   rw [List.mapM_cons,h x (jpD ..),jbC fun i hi=>h i (jpE _ hi)]
   rfl
theorem jch {pk pk':List UInt8}{n n':Int}(h:pk.length=32) (h':pk'.length=32) (e:(jpr (knC pk n).toArray)= .agg (knC pk' n').toArray):pk=pk'∧n=n':=by
 injection e with e
 have e:=congrArg Array.toList e
 have e:cellsOf pk++ [joC .i64 n]=cellsOf pk'++ [joC .i64 n']:=e
 obtain ⟨e1,e2⟩:=List.append_inj e (by rw [ja,ja,h,h'])
 refine ⟨?_,by injection e2 with e2;injection e2⟩
 rw [qp,qp] at e1
 exact jao e1
theorem jjK {P:joD}{e:joE}(he:P.underlying e=some (.int .u8)) (d:Nat) (x:UInt8):P.keyLits (d+1) e [.int .u8 (x.toNat:Int)]=some [.int .u8 (x.toNat:Int)]:=by
 unfold Program.keyLits
 have:=x.toNat_lt
 simp [he,Lit.wf,IntKind.min,IntKind.max,IntKind.signed,IntKind.bits]
 omega
theorem jeh {P:joD}{t e:joE}(ht:P.underlying t=some (.array 32 e)) (he:P.underlying e=some (.int .u8)) (ce:P.cellsOf e=1) (ct:P.cellsOf t=32) (d:Nat){pk:List UInt8}(h:pk.length=32):∃ l,P.keyLits (d+2) t (cellsOf pk)=some l:=by
 unfold Program.keyLits
 simp only [ht]
 rw [if_pos (by rw [ja,h,ct])]
 have:((jo3 32).mapM fun i=>P.keyLits (d+1) e (((cellsOf pk).drop (i*P.cellsOf e)).take (P.cellsOf e)))=some ((jo3 32).map fun i=> [Lit.int .u8 ((pk.getD i 0).toNat:Int)]):=by
  refine jbC fun i hi=> ?_
  have hi:i < 32:=List.mem_range.1 hi
  have e1:((cellsOf pk).drop (i*P.cellsOf e)).take (P.cellsOf e)= [.int .u8 ((pk.getD i 0).toNat:Int)]:=by
   rw [ce,Nat.mul_one,qp,←List.map_drop,←List.map_take]
   rw [List.drop_eq_getElem_cons (by omega),List.take_succ_cons,List.take_zero]
   simp [jot,show i < pk.length by omega]
  rw [e1]
  exact jjK he d _
 rw [this]
 exact ⟨_,rfl⟩
end
section
open Go.ChangeShapes Go.WideShapes Go.ChangeAt Go.RowKit Go.Deep
theorem jaJ {P:joD}{fn:Func}{p q:Tmp}{ty:joE}(h:fn.results= #[.cell p ty, .cell q ty]) (tmps:Array Value) (w:World) (g g':Nat) (t t':joE) (cs cs':Array Value) (fr fr':Nat×Nat) (d:TypeDesc)
 (hp:tmps.getD p undef= .pointer (some ⟨g,0,none⟩)) (hq:tmps.getD q undef= .pointer (some ⟨g',0,none⟩)) (hg:w.heap[g]? =some (.cells cs t fr)) (hg':w.heap[g']? =some (.cells cs' t' fr'))
 (hu:P.underlying ty=some d) (hd:(match d with | .struct _ | .array _ _=>true | _=>false)=true) (hi:(P.info? ty).map (·.size)=some cs.size) (hi':(P.info? ty).map (·.size)=some cs'.size):
 (results fn tmps).run P w= .ok (.tuple #[.agg cs, .agg cs']) w:=by
 have hp':tmps[p]?.getD undef= .pointer (some ⟨g,0,none⟩):=by simpa using hp
 have hq':tmps[q]?.getD undef= .pointer (some ⟨g',0,none⟩):=by simpa using hq
 simp [results,h,hp',hq',asAddr,run_loadVar_row w g t ty cs fr d hg hu hd hi,run_loadVar_row w g' t' ty cs' fr' d hg' hu hd hi',jpk,Result.andThen]
theorem Yx {P:joD}{fn:Func}{u p v:Tmp}{ty:joE}(h:fn.results= #[.tmp u, .cell p ty, .tmp v]) (tmps:Array Value) (w:World) (g:Nat) (t:joE) (cs:Array Value) (fr:Nat×Nat) (d:TypeDesc) (x y:Value)
 (hx:tmps.getD u undef=x) (hp:tmps.getD p undef= .pointer (some ⟨g,0,none⟩)) (hy:tmps.getD v undef=y) (hg:w.heap[g]? =some (.cells cs t fr))
 (hu:P.underlying ty=some d) (hd:(match d with | .struct _ | .array _ _=>true | _=>false)=true) (hi:(P.info? ty).map (·.size)=some cs.size):
 (results fn tmps).run P w= .ok (.tuple #[x, .agg cs,y]) w:=by
 have hp':tmps[p]?.getD undef= .pointer (some ⟨g,0,none⟩):=by simpa using hp
 have hx':tmps[u]?.getD undef=x:=by simpa using hx
 have hy':tmps[v]?.getD undef=y:=by simpa using hy
 simp [results,h,hp',hx',hy',asAddr,run_loadVar_row w g t ty cs fr d hg hu hd hi,jpk,Result.andThen]
def Two (g g':Nat) (a b:World):Prop:=b.os=a.os∧b.tape=a.tape∧b.output=a.output∧a.heap.size≤b.heap.size∧∀ i,i < a.heap.size→i≠g→i≠g'→b.heap[i]? =a.heap[i]?
theorem Two.refl (g g':Nat) (w:World):Two g g' w w:=⟨rfl,rfl,rfl,joq _,fun _ _ _ _=>rfl⟩
theorem Two.trans {g g':Nat}{a b c:World}(h:Two g g' a b) (k:Two g g' b c):Two g g' a c:=
 ⟨k.1.trans h.1,k.2.1.trans h.2.1,k.2.2.1.trans h.2.2.1,jo2 h.2.2.2.1 k.2.2.2.1,fun i hi h1 h2=>(k.2.2.2.2 i (jos hi h.2.2.2.1) h1 h2).trans (h.2.2.2.2 i hi h1 h2)⟩
theorem Two.of_ext {g g':Nat}{a b:World}(h:Ext a b):Two g g' a b:=⟨h.os,h.tape,h.output,h.size,fun i hi _ _=>h.block i hi⟩
theorem Two.row {g g':Nat}(w:World) (C:Array Value):Two g g' w (w.setRow g C):=⟨rfl,rfl,rfl,by simp,fun i _ h1 _=>jpA _ _ _ _ h1⟩
theorem Two.row' {g g':Nat}(w:World) (C:Array Value):Two g g' w (w.setRow g' C):=⟨rfl,rfl,rfl,by simp,fun i _ _ h1=>jpA _ _ _ _ h1⟩
theorem Two.ext {g g':Nat}{w0 a b:World}(h:Ext w0 a) (k:Two g g' a b) (h1:w0.heap.size≤g) (h2:w0.heap.size≤g'):Ext w0 b:=
 jop h ⟨k.1,k.2.1,k.2.2.1,k.2.2.2.1,fun i hi=>k.2.2.2.2 i (jos hi h.size) (by omega) (by omega)⟩
theorem Two.block {g g' i:Nat}{a b:World}(k:Two g g' a b){o:Obj}(h:a.heap[i]? =some o) (h1:i≠g) (h2:i≠g'):b.heap[i]? =some o:=(k.2.2.2.2 i (jh h) h1 h2).trans h
end
section
open Go.ChangeShapes Go.WideShapes Go.ChangeAt Go.RowKit Go.Deep Go.Maps
theorem yV:Keyed joz 186:=Keyed.of_law (deep_law_laid (by kernel_rfl) (m:=3) (by omega) (of_decide_eq_true (by kernel_rfl)) (by kernel_rfl) (by kernel_rfl))
theorem JU {pk:List UInt8}(h:pk.length=32){n:Int}(hn: -9223372036854775808≤n∧n≤9223372036854775807):∃ kl,keyOf joz 186 (.agg (knC pk n).toArray)=some kl:=by
 have hk:Tryz.prog.keyType 186=true:=by kernel_rfl
 have hc:Tryz.prog.cellsOf 186=33:=by kernel_rfl
 have c0:Tryz.prog.cellsOf 23=32:=by kernel_rfl
 have ce:Tryz.prog.cellsOf 5=1:=by kernel_rfl
 have ci:Tryz.prog.cellsOf 3=1:=by kernel_rfl
 have h2:2≤Tryz.prog.types.size:=of_decide_eq_true (by kernel_rfl)
 obtain ⟨m,hm⟩:∃ m,Tryz.prog.types.size+1=m+3:=⟨Tryz.prog.types.size - 2,by omega⟩
 obtain ⟨l,hl⟩:=jeh jpF Tryz.underlying5 ce c0 m h
 have hi:Tryz.prog.keyLits (m+2) 3 [.int .i64 n]=some [.int .i64 n]:=by
  unfold Program.keyLits
  simp [Tryz.underlying3,Lit.wf,IntKind.min,IntKind.max,IntKind.signed,IntKind.bits]
  omega
 have t0:((knC pk n).drop 0).take 32=cellsOf pk:=by unfold knC;rw [List.drop_zero,jpx (by rw [ja,h])]
 have t1:((knC pk n).drop 32).take 1= [.int .i64 n]:=by unfold knC;rw [List.drop_left' (by rw [ja,h])];rfl
 have hL:Tryz.prog.keyLits (m+3) 186 (knC pk n)=some ([l,[.int .i64 n]].flatten):=by
  unfold Program.keyLits
  simp only [Tryz.underlying186]
  rw [if_pos ⟨by rw [yA h,hc],by kernel_rfl⟩]
  simp only [List.mapM_cons,List.mapM_nil,c0,ci,t0,t1,hl,hi]
  rfl
 have hf:(jpr (knC pk n).toArray).formed joz 186=true:=by
  unfold Value.formed
  simp [Tryz.underlying186,hc,yA h]
 unfold keyOf
 simp only [Tryz.underlying186,hk,hf,hm]
 rw [show (jpr (knC pk n).toArray).cells.toList=knC pk n from rfl,hL]
 exact ⟨_,rfl⟩
section
variable {P:joD}{ops:Array Oper}{rest:List Oper}{o:Oper}{a:Act}{w w':World}{K:Act→World→Prop}{Q:Exit→Act→World→Prop}{t k:joE}{m x y:Operand}{mv xv yv:Value}
theorem QU (ho:o.op= .mapUpdate t m x y) (hm:a.eval m=mv) (hx:a.eval x=xv) (hy:a.eval y=yv) (hr:(Instr.mapUpdate t mv xv yv).run P w= .ok () w') (h:K (a.put o.dst undef) w'):o.wp P a w K Q:=by
 subst hm
 subst hx
 subst hy
 unfold Oper.wp jo0
 simp only [ho,jpk,hr,jpm,jpl]
 exact h
theorem jbU (ho:o.op= .call {callee:= .builtin .delete,args:= #[m,x],argTypes:= #[t,k]}) (hm:a.eval m=mv) (hx:a.eval x=xv) (hr:(Builtin.delete_ #[t,k] 0 #[mv,xv]).run P w= .ok (.tuple #[]) w') (h:K (a.put o.dst (.tuple #[])) w'):o.wp P a w K Q:=by
 subst hm
 subst hx
 replace hr:(Builtin.delete_ #[t,k] o.type #[a.eval m,a.eval x]).run P w= .ok (.tuple #[]) w':=hr
 unfold Oper.wp jo0
 simp only [ho,resolve,invoke,builtin,jpk,jpl,jpm,jpG,jpC,jpH,hr]
 exact h
theorem JH (ho:o.op= .call {callee:= .builtin .len,args:= #[m],argTypes:= #[t]}){v:Value}(hm:a.eval m=mv) (hr:(Builtin.len_ #[t] o.type #[mv]).run P w= .ok v w') (h:K (a.put o.dst v) w'):o.wp P a w K Q:=by
 subst hm
 replace hr:(Builtin.len_ #[t] o.type #[a.eval m]).run P w= .ok v w':=hr
 unfold Oper.wp jo0
 simp only [ho,resolve,invoke,builtin,jpk,jpl,jpm,jpG,jpC,jpH,hr]
 exact h
theorem Jb (hg:o.guard=none) (h:∀ K:Act→World→Prop,(∀ a w,wpList P ops Q rest a w→K a w)→o.wp P a w K Q):wpList P ops Q (o::rest) a w:=wpList_plain hg fun K hK=>h K hK
theorem ZA {c:Bool}{v:Value}(ho:o.op= .lookup t m x c) (hm:a.eval m=mv) (hx:a.eval x=xv) (hr:(Instr.lookup t mv xv c).run P w= .ok v w):(jo0 a.eval o).run P w= .ok (.value v) w:=by
 subst hm
 subst hx
 unfold jo0
 simp only [ho,jpk,hr,jpm,jpl]
theorem Ji {e:joE}{b r:Nat}{E:List (Value×Value)}(hg:o.guard=none) (m:Operand) (hop:o.op=Op.range t m) (Kk:Keyed P k) (ht:P.underlying t=some (.map k e)) (hm:a.eval m= .map (some b)) (h:Mp P k w b E) (hr:w.heap.size=r)
 (hK:∀ w',Mr P k w' b r E (fun _=>True) E.length→Ext w w'→wpList P ops Q rest (a.put o.dst (.pointer (some ⟨r,0,none⟩))) w'):wpList P ops Q (o::rest) a w:=by
 subst hr
 refine wpList_plain hg fun K' hK'=> ?_
 obtain ⟨w1,r1,r2,r3⟩:=h.range Kk ht
 unfold Oper.wp
 simp [jo0,hop,hm,r1,Result.andThen]
 exact hK' _ _ (hK w1 r2 r3)
theorem JG {α:Type}{L:List α}(kv vv:α→Value){b r cnt:Nat}{lf:Value→Prop}(hg:o.guard=none) (it:Operand) (hop:o.op=Op.next it false) (Kk:Keyed P k) (hit:a.eval it= .pointer (some ⟨r,0,none⟩)) (h:Mr P k w b r (L.map fun x=>(kv x,vv x)) lf cnt)
 (hDone:(∀ x∈L, ¬ lf (kv x))→wpList P ops Q rest (a.put o.dst (.tuple #[.bool false])) w)
 (hMore:∀ x∈L,lf (kv x)→∀ w' cnt',Mr P k w' b r (L.map fun x=>(kv x,vv x)) (fun key=>lf key∧key≠kv x) cnt'→cnt' < cnt→w.grownBy w' (some r)→w'.heap.size=w.heap.size→
   (Instr.entry (.pointer (some ⟨r,0,none⟩))).run P w'= .ok (.tuple #[kv x,vv x]) w'→wpList P ops Q rest (a.put o.dst (.tuple #[.bool true,kv x,vv x])) w'):
 wpList P ops Q (o::rest) a w:=by
 refine wpList_plain hg fun K' hK'=> ?_
 unfold Oper.wp
 rcases h.next Kk o.type with ⟨h0,hrun⟩ | ⟨p,hp,hlf,w1,cnt1,hrun,hmr,hlt,hgr,hsz,hen⟩
 ·simp [jo0,hop,hit,hrun,Result.andThen]
  exact hK' _ _ (hDone fun x hx=>h0 _ (joP.2 ⟨x,hx,rfl⟩))
 ·obtain ⟨x,hx,rfl⟩:=joP.1 hp
  simp [jo0,hop,hit,hrun,Result.andThen]
  exact hK' _ _ (hMore x hx hlf w1 cnt1 hmr hlt hgr hsz hen)
end
structure Ke where
 pk:List UInt8
 n:Int
 k:List UInt8
 wh:Int
def Ke.ok (x:Ke):Prop:=x.pk.length=32∧x.k.length=32∧ -9223372036854775808≤x.n∧x.n≤9223372036854775807
def Ke.ent (x:Ke):Value×Value:=(.agg (knC x.pk x.n).toArray, .agg (knC x.k x.wh).toArray)
def Ke.at (pk:List UInt8) (n:Int) (x:Ke):Bool:=x.pk==pk&&x.n==n
theorem Ke.at_iff {pk:List UInt8}{n:Int}{x:Ke}:x.at pk n=true↔x.pk=pk∧x.n=n:=by simp [Ke.at]
def yZ (L:List Ke) (pk:List UInt8) (n:Int):Bool:=L.any (Ke.at pk n)
def ye (L:List Ke) (pk:List UInt8) (n:Int):Ke:=(L.find? (Ke.at pk n)).getD ⟨[],0,jpp 32 0,0⟩
def yN (L:List Ke) (pk:List UInt8) (n:Int):List Ke:=L.filter fun x=> !x.at pk n
def jeS (L:List Ke) (x:Ke):List Ke:=if L.length < 8 then L++ [x] else L.drop 1++ [x]
def Jt (L:List Ke) (pk:List UInt8) (n:Int):Int:=if n < 0 then 1 else if yZ L pk n then 9 else 0
def jcz (L:List Ke) (x:Ke):List Ke:=if Jt L x.pk x.n=0 then jeS L x else L
structure SK (w:World) (g b:Nat) (L:List Ke) (puts:Int):Prop where
 cb:Cb w g 184 [.map (some b), .int .i64 puts]
 mp:Mp joz 186 w b (L.map Ke.ent)
 ok:∀ x∈L,x.ok
 inc:L.Pairwise fun x y=>x.wh < y.wh
 lt:∀ x∈L,x.wh < puts
 low:0≤puts
section
variable {w w':World}{g b:Nat}{L:List Ke}{puts:Int}
theorem SK.stay (h:SK w g b L puts) (hg:w'.heap[g]? =w.heap[g]?) (hb:w'.heap[b]? =w.heap[b]?):SK w' g b L puts:=⟨hg.trans h.cb,h.mp.stay hb,h.ok,h.inc,h.lt,h.low⟩
theorem SK.ext (h:SK w g b L puts) (x:Ext w w'):SK w' g b L puts:=h.stay (x.block _ h.cb.lt) (x.block _ h.mp.lt)
theorem SK.ne (h:SK w g b L puts):g≠b:=fun e=>by
 obtain ⟨es,c,q⟩:=h.mp.obj
 have:=h.cb
 unfold Cb at this
 rw [e,q] at this
 cases this
theorem jho {x y:Ke}(hx:x.ok) (hy:y.pk.length=32) (h:x.at y.pk y.n=false):x.ent.1≠y.ent.1:=fun e=>by
 obtain ⟨h1,h2⟩:=jch hx.1 hy e
 rw [Ke.at_iff.2 ⟨h1,h2⟩] at h;cases h
theorem SK.apart (h:SK w g b L puts):L.Pairwise fun x y=> ¬(x.pk=y.pk∧x.n=y.n):=by
 have:=h.mp.apart
 rw [List.pairwise_map] at this
 exact this.imp fun h e=>h (by unfold Ke.ent;rw [e.1,e.2])
theorem ja0 {pk:List UInt8}{n:Int}(h:yZ L pk n=true):ye L pk n∈L∧(ye L pk n).pk=pk∧(ye L pk n).n=n:=by
 obtain ⟨x,hx,hat⟩:=List.any_eq_true.1 h
 unfold ye
 cases hf:L.find? (Ke.at pk n) with
 | none=>rw [List.find?_eq_none] at hf;exact absurd hat (hf x hx)
 | some y=>exact ⟨List.mem_of_find?_eq_some hf,Ke.at_iff.1 (List.find?_some hf)⟩
theorem Zs {pk:List UInt8}{n:Int}(h:yZ L pk n=false):ye L pk n=⟨[],0,jpp 32 0,0⟩:=by
 unfold ye
 rw [List.find?_eq_none.2 fun x hx q=>by rw [yZ,List.any_eq_false] at h;exact h x hx q]
 rfl
theorem jfe {pk:List UInt8}{n:Int}(hok:∀ x∈L,x.ok):(ye L pk n).k.length=32:=by
 cases h:yZ L pk n
 ·rw [Zs h];rfl
 ·exact (hok _ (ja0 h).1).2.1
theorem SK.look (h:SK w g b L puts){pk:List UInt8}(hp:pk.length=32){n:Int}(hn: -9223372036854775808≤n∧n≤9223372036854775807):
 (Instr.lookup 182 (.map (some b)) (.agg (knC pk n).toArray) true).run joz w= .ok (.tuple #[.agg (knC (ye L pk n).k (ye L pk n).wh).toArray, .bool (yZ L pk n)]) w:=by
 obtain ⟨kl,hkl⟩:=JU hp hn
 have hz:(joK 188).run joz w= .ok (.agg (knC (jpp 32 0) 0).toArray) w:=by kernel_rfl
 rcases h.mp.look yV jpI hz hkl with ⟨v,h1,h2,_⟩ | ⟨h1,h2,_⟩
 ·obtain ⟨x,hx,he⟩:=joP.1 h1
  obtain ⟨e1,e2⟩:=Prod.mk.injEq .. ▸ he
  obtain ⟨q1,q2⟩:=jch (h.ok x hx).1 hp e1
  have hh:yZ L pk n=true:=List.any_eq_true.2 ⟨x,hx,Ke.at_iff.2 ⟨q1,q2⟩⟩
  obtain ⟨t1,t2,t3⟩:=ja0 hh
  have:v= .agg (knC (ye L pk n).k (ye L pk n).wh).toArray:=jf5 h.mp.apart h1 (joP.2 ⟨_,t1,by unfold Ke.ent;rw [t2,t3]⟩)
  rw [h2,hh,this]
 ·have hh:yZ L pk n=false:=by
   cases q:yZ L pk n
   ·rfl
   ·obtain ⟨t1,t2,t3⟩:=ja0 q
    exact absurd (by unfold Ke.ent;rw [t2,t3]) (h1 _ (joP.2 ⟨_,t1,rfl⟩))
  rw [h2,hh,Zs hh]
theorem SK.drop (h:SK w g b L puts){pk:List UInt8}(hp:pk.length=32){n:Int}(hn: -9223372036854775808≤n∧n≤9223372036854775807) (ty:joE):
 ∃ w',(Builtin.delete_ #[182,186] ty #[.map (some b), .agg (knC pk n).toArray]).run joz w= .ok (.tuple #[]) w'∧SK w' g b (yN L pk n) puts∧w.grownBy w' (some b):=by
 obtain ⟨kl,hkl⟩:=JU hp hn
 have hmem:∀ p∈L.map Ke.ent,p∈(yN L pk n).map Ke.ent↔p.1≠ .agg (knC pk n).toArray:=fun p hq=>by
  obtain ⟨x,hx,rfl⟩:=joP.1 hq
  constructor
  ·intro hm
   obtain ⟨y,hy,he⟩:=joP.1 hm
   obtain ⟨hy1,hy2⟩:=List.mem_filter.1 hy
   rw [←he]
   exact jho (y:=⟨pk,n,[],0⟩) (h.ok y hy1) hp (by simpa using hy2)
  ·intro hne
   refine joP.2 ⟨x,List.mem_filter.2 ⟨hx,?_⟩,rfl⟩
   cases q:x.at pk n
   ·rfl
   ·obtain ⟨e1,e2⟩:=Ke.at_iff.1 q
    exact absurd (by unfold Ke.ent;rw [e1,e2]) hne
 have hl:(∀ p∈L.map Ke.ent,p.1≠ .agg (knC pk n).toArray)∨((yN L pk n).map Ke.ent).length+1=(L.map Ke.ent).length:=by
  rw [jpJ,jpJ]
  have ap:=h.apart
  have hok:=fun x hx=>(h.ok x hx).1
  clear hmem h
  induction L with
  | nil=>left;simp
  | cons x r ih=>
    obtain ⟨a1,a2⟩:=List.pairwise_cons.1 ap
    by_cases q:x.at pk n=true
    ·right
     obtain ⟨e1,e2⟩:=Ke.at_iff.1 q
     have:yN (x::r) pk n=r:=by
      unfold yN
      rw [List.filter_cons_of_neg (by simp [q]),List.filter_eq_self.2 fun y hy=> ?_]
      cases qy:y.at pk n
      ·rfl
      ·obtain ⟨f1,f2⟩:=Ke.at_iff.1 qy
       exact absurd ⟨e1.trans f1.symm,e2.trans f2.symm⟩ (a1 y hy)
     rw [this];rfl
    ·have qf:x.at pk n=false:=by simpa using q
     have e:yN (x::r) pk n=x::yN r pk n:=by unfold yN;rw [List.filter_cons_of_pos (by simp [qf])]
     rcases ih a2 (fun y hy=>hok y (jpE _ hy)) with hi | hi
     ·by_cases hx:x.ent.1= .agg (knC pk n).toArray
      ·exfalso
       exact q (Ke.at_iff.2 (jch (hok x (jpD ..)) hp hx))
      ·left
       intro p hp'
       rcases joG.1 hp' with rfl | hp'
       ·exact hx
       ·exact hi p hp'
     ·right;rw [e,List.length_cons,List.length_cons,hi]
 obtain ⟨w1,r1,r2,r3⟩:=h.mp.drop yV jpI hkl (List.Sublist.map _ (List.filter_sublist)) hmem hl ty
 have hgb:=h.ne
 exact ⟨w1,r1,⟨(r3.grown.block g h.cb.lt (fun q=>hgb (joF q))).trans h.cb,r2,fun x hx=>h.ok x (List.mem_filter.1 hx).1,h.inc.sublist (List.filter_sublist),fun x hx=>h.lt x (List.mem_filter.1 hx).1,h.low⟩,r3.grown⟩
end
end
section
open Go.ChangeShapes Go.WideShapes Go.ChangeAt Go.RowKit Go.Deep
theorem jfG:(Tryz.prog.info? 23).map (fun i=>(i.zero,i.size,i.bytes))=some (some (.agg jr),32,32):=by kernel_rfl
def jj6:Array Value:=(cellsOf (jpp 64 0)).toArray
theorem jf4:jj6.size=64:=by simp [jj6,ja]
theorem yS (w:World):(joK 31).run joz w= .ok (.agg (cellsOf (jpp 64 0)).toArray) w:=by kernel_rfl
theorem Zv {xs ys:List UInt8}(hx:xs.length=32) (hy:ys.length=32):Tryz.prog.built 31 [(0, .agg (cellsOf xs).toArray),(1, .agg (cellsOf ys).toArray)]=some (cellsOf (xs++ys)).toArray:=by
 have h:∃ pl:Nat→Option (Nat×Nat),pl 0=some (0,32)∧pl 1=some (32,32)∧∀ ps,Tryz.prog.built 31 ps=jpq pl jj6 ps:=⟨(#[(0,32),(32,32)][·]?),rfl,rfl,fun ps=>by kernel_rfl⟩
 obtain ⟨pl,h0,h1,h2⟩:=h
 rw [h2,jag pl h0 h1 (by simp [ja,hx]) (by simp [ja,hy]) jf4,Yr,List.append_toArray]
theorem jfX {xs:List UInt8}(h:xs.length=64):∃ a b,xs=a++b∧a.length=32∧b.length=32:=⟨xs.take 32,xs.drop 32,(List.take_append_drop 32 xs).symm,by simp [h],by simp [h]⟩
def Kp (w:World) (g:Nat) (xs:List UInt8):Prop:=w.heap[g]? =some (.cells (cellsOf xs).toArray 31 (0,0))∧xs.length=64
section
variable {w w':World}{g:Nat}{xs ys:List UInt8}
theorem Kp.lt (h:Kp w g xs):g < w.heap.size:=jh h.1
theorem Kp.ext (h:Kp w g xs) (e:Ext w w'):Kp w' g xs:=⟨(e.block g h.lt).trans h.1,h.2⟩
theorem Kp.at0 (h:Kp w g (xs++ys)):∀ j v,(cellsOf xs)[j]? =some v→w.cell? ⟨g,0+j,none⟩=some v:=fun j v hv=>by
 rw [jpg w g _ _ _ _ h.1,jpv,Yr,joB,jpu (jpz.1 hv).1,hv]
end
end
end Go.Proofs.YtakpgbaijkhpmaaGreatDoor
