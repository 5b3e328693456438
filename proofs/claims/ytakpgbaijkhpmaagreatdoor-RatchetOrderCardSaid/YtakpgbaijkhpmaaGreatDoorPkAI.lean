import Derived.Test.YtakpgbaijkhpmaaGreatDoorPkAH
import Derived.Test.YtakpgbaijkhpmaaGreatDoorPkAB
import Derived.Lib.ConvBytes
import Derived.Deep.AppendSrc
import Derived.Test.YtakpgbaijkhpmaaGreatDoorPkAA
import Derived.Great.BuildSlice
import Derived.WalkMore
import Derived.Test.YtakpgbaijkhpmaaGreatDoorPkAG
namespace Go.Proofs.YtakpgbaijkhpmaaGreatDoor
section
open Go.ChangeShapes Go.WideShapes Go.ChangeAt Go.RowKit Go.Deep
def Sp(w wr:World)(ks ps:List UInt8)(O:Option Addr)(on oc:Nat)(os:List UInt8)(L:Option Addr)(ln lc:Nat)(ls:List UInt8):Prop:=
 Ext w wr∧wr.heap[w.heap.size]? =some(.cells(cellsOf ks).toArray 23(0,0))∧wr.heap[w.heap.size+1]? =some(.cells #[.string(vQ ps)] 9(0,0))∧
 wr.heap[w.heap.size+1+1]? =some(.cells #[.slice O on oc] 33(0,0))∧wr.heap[w.heap.size+1+1+1]? =some(.cells #[.slice L ln lc] 33(0,0))∧Own(w.heap.size+1+1+1+1)wr O on oc os∧Bs wr L ln lc ls
theorem Sp.size{w wr:World}{ks ps os ls:List UInt8}{O L:Option Addr}{on oc ln lc:Nat}(h:Sp w wr ks ps O on oc os L ln lc ls):w.heap.size+1+1+1 < wr.heap.size:=jh h.2.2.2.2.1
theorem Sp.ext{w wr wr':World}{ks ps os ls:List UInt8}{O L:Option Addr}{on oc ln lc:Nat}(h:Sp w wr ks ps O on oc os L ln lc ls)(e:Ext wr wr'):Sp w wr' ks ps O on oc os L ln lc ls:=by
 obtain⟨a,b,c,d,f,g,i⟩ :=h
 exact⟨a.trans e,(e.block _(jh b)).trans b,(e.block _(jh c)).trans c,(e.block _(jh d)).trans d,(e.block _(jh f)).trans f,g.ext e,i.ext e⟩
def jkU(w:World)(ks ps os ls:List UInt8)(e:Ending)(w':World):Prop:=
 e= .returned(.tuple #[])∧∃O n c L lc,Sp w w' ks ps O n c os L 32 lc ls
set_option maxRecDepth 100000 in
set_option maxHeartbeats 2000000 in
theorem je9{w wr:World}{ks ps os ls:List UInt8}{O L:Option Addr}{on oc ln lc:Nat}{x:UInt8}(hk:ks.length=32)(h:Sp w wr ks ps O on oc os L ln lc ls)(h1:ps.length≤1000000)(h2:ln≤32)(h3:on≤1000000){tg:TypeId×Nat×Nat}(hG:Gl w tg):
  Calls Tryz.prog 166 #[.int .u8(x.toNat:Int), .pointer(some⟨w.heap.size+1+1+1,0,none⟩), .pointer(some⟨w.heap.size+1,0,none⟩), .pointer(some⟨w.heap.size,0,none⟩), .pointer(some⟨w.heap.size+1+1,0,none⟩)] wr(jkU w ks ps(os ++ jC ks(ls ++ ps ++ [x]))(jC ks(ls ++ ps ++ [x]))):=by
 have LT:=h.size
 have KEEP:Hid(∀w',Ext wr w'→w'.cell?⟨w.heap.size+1,0,none⟩=some(.string(vQ ps))∧w'.cell?⟨w.heap.size+1+1,0,none⟩=some(.slice O on oc)∧w'.cell?⟨w.heap.size+1+1+1,0,none⟩=some(.slice L ln lc)):=fun w' e=>⟨cell_of_one(h.ext e).2.2.1,cell_of_one(h.ext e).2.2.2.1,cell_of_one(h.ext e).2.2.2.2.1⟩
 have HS:=hd h
 have HG:=hd(fun W e=>Gl.kept hG(w':=W)e hG.lt)
 clear hG
 have cL:=(KEEP.out _(Ext.refl wr)).2.2
 have i:=hd h.2.2.2.2.2.2
 have ML:=qq ks(ls ++ ps ++ [x])
 generalize hm:jC ks(ls ++ ps ++ [x])=m at *
 replace hm:=hd hm
 have KS:(cellsOf ks).toArray.size=32:=by simp [ja,hk]
 have MS:(cellsOf m).toArray.size=32:=by simp [ja,ML]
 have M1:=ji m
 have hal:∀w,(zeroValue 23).run Tryz.prog w= .ok(.agg jr)w:=fun _=>by kernel_rfl
 have hz0:=j7
 generalize jr=Z at *
 clear h
 go_enter Tryz.func166,Tryz.ntmps166
 go_wp2_with(first
  |(at_builtin;(with_reducible refine jJ rfl(B:=wr.heap.size)(s:= .tmp 8)(x:= .tmp 9)rfl rfl rfl(Own.nil _ wr)i.out(by omega)(Nat.le_refl _)?_);intro A1 c1 w1 o1 g1 b1;clear g1;simp only [Nat.zero_add,List.nil_append] at o1 ⊢;replace o1:=hd o1;have k1:=(KEEP.out _ b1).1;replace b1:=hd b1;go_frame)
  |(at_builtin;(with_reducible refine QP rfl(ys:=ps)(B:=wr.heap.size)(s:= .tmp 11)(x:= .tmp 12)rfl rfl rfl o1.out(by omega)b1.out.size ?_);intro A2 c2 w2 o2 g2 b2;clear g2;replace o2:=hd o2;replace b2:=hd(Below.trans b1.out b2);clear k1;go_frame)
  |(at_builtin;(with_reducible refine jJ rfl(B:=wr.heap.size)(s:= .tmp 14)(x:= .tmp 16)rfl rfl rfl(o2.out.ext((Ext.refl _).alloc _))(Bs.one _ _ _ _)(by omega)(Nat.le_trans b2.out.size(by simp))?_);intro A3 c3 w3 o3 g3 b3;clear g3;replace o3:=hd o3.bs;replace b3:=hd(Below.trans(Below.alloc b2.out b2.out.size _)b3);go_frame)
  |(refine wpList_load_row rfl 23 _ rfl w.heap.size rfl 23(cellsOf ks).toArray(0,0)_(HS.out.ext b3.out).2.1 rfl rfl(by rw [KS];rfl)?_;go_frame))
 have dc:=Qp hk o3.out(HG.out _(HS.out.1.trans b3.out))
 rw [hm.out] at dc
 refine dc.mono ?_
 clear dc
 rintro e w4⟨rfl,e4⟩
 go_upto_region 5 with(refine wpList_store_row rfl 23 _ _ rfl w4.heap.size(cellsOf m).toArray rfl rfl 23 _(by with_reducible exact heap_alloc_new _ _)(by rw [MS];rfl)(by rw [MS];exact hz0)M1 ?_;go_frame)
 have E4:Ext wr w4:=Ext.trans(show Ext wr w3 from b3.out)e4
 have gE:wr.heap.size≤w4.heap.size:=E4.size
 refine jg(fun W=>Ext wr W∧Ky W w4.heap.size m)⟨E4.trans(Ext.newRow _ _ _),Ky.new _ ML⟩?_
 rintro w5⟨e5,ky5⟩
 generalize w4.heap.size=gb at *
 clear E4 e4 o3 b3 o1 b1 o2 b2
 have S5:=HS.out.ext e5
 have c5:=cell_of_one S5.2.2.2.2.1
 have f5:=free_of_one S5.2.2.2.2.1
 replace S5:=hd S5
 replace e5:=hd e5
 replace ky5:=hd ky5
 go_upto_region 6 with fail
 have OB:∀g,Value.ownBlock(.slice O on oc)=some g→w.heap.size+1+1+1+1≤g∧g < wr.heap.size:=fun g hg=>World.ownsRow.lt HS.out.2.2.2.2.2.1 g hg
 refine jg(fun W=>Sp w W ks ps O on oc os(some⟨gb,0,none⟩)32 32 m∧Ky W gb m)?_ ?_
 ·obtain⟨a,b,c,d,f,g,i⟩ :=S5.out
  have bl:∀j o,w5.heap[j]? =some o→j≠w.heap.size+1+1+1→(w5.setCell⟨w.heap.size+1+1+1,0,none⟩(.slice(some⟨gb,0,none⟩)32 32)).heap[j]? =some o:=fun j o hj hne=>(Below.heap_setCell _ _ _ _ hne).trans hj
  have ky6:Ky(w5.setCell⟨w.heap.size+1+1+1,0,none⟩(.slice(some⟨gb,0,none⟩)32 32))gb m:=⟨bl _ _ ky5.out.1(by omega),ky5.out.2⟩
  refine⟨⟨a.setCell(show w.heap.size≤w.heap.size+1+1+1 by omega)_,bl _ _ b(by omega),bl _ _ c(by omega),bl _ _ d(by omega),one_setCell f,?_,ky6.bs⟩,ky6⟩
  refine Own.kept g(Qr(jV(Ext.refl w5)_)0 _)(.inr fun hq=> ?_)
  have:=(OB _ hq).1
  omega
 rintro w6⟨S6,ky6⟩
 have c6:=cell_of_one S6.2.2.2.1
 have l6:=cell_of_one S6.2.2.2.2.1
 have o6:=hd S6.2.2.2.2.2.1
 have d6:=hd S6.2.2.2.1
 have kb6:=hd ky6.bs
 replace S6:=hd S6
 replace ky6:=hd ky6
 have z6:w.heap.size+1+1+1+1≤w6.heap.size:=S6.out.size
 clear c5 f5 S5 e5 ky5 KEEP cL i
 go_wp2_with(at_builtin;((with_reducible refine jJ rfl(B:=w.heap.size+1+1+1+1)(s:= .tmp 22)(x:= .tmp 23)rfl rfl rfl o6.out kb6.out(by omega)z6 ?_);intro A7 c7 w7 o7 g7 b7;have h7:=(b7.block(w.heap.size+1+1)(by omega)).trans d6.out;have d7:=cell_of_one h7;have f7:=free_of_one h7;replace h7:=hd h7;replace o7:=hd o7;replace b7:=hd b7;replace g7:=hd g7;go_frame))
 go_end0
 refine⟨rfl,A7,on+32,c7,some⟨gb,0,none⟩,32,?_⟩
 obtain⟨a,b,c,d,f,g,i⟩ :=S6.out
 have bl:∀j o,w6.heap[j]? =some o→j < w.heap.size+1+1+1+1→j≠w.heap.size+1+1→(w7.setCell⟨w.heap.size+1+1,0,none⟩(.slice A7(on+32)c7)).heap[j]? =some o:=fun j o hj hlt hne=>(Below.heap_setCell _ _ _ _ hne).trans((b7.out.block j hlt).trans hj)
 have kb:Ky(w7.setCell⟨w.heap.size+1+1,0,none⟩(.slice A7(on+32)c7))gb m:=by
  refine⟨(Below.heap_setCell _ _ _ _(show gb≠w.heap.size+1+1 by omega)).trans((g7.out.block gb(jh ky6.out.1)(fun q=> ?_)).trans ky6.out.1),ky6.out.2⟩
  have:=(OB gb q.symm).2
  omega
 refine⟨Ext.setCell(Below.trans a(b7.out.mono(by omega)))(show w.heap.size≤w.heap.size+1+1 by omega)_,bl _ _ b(by omega)(by omega),bl _ _ c(by omega)(by omega),one_setCell h7.out,bl _ _ f(by omega)(by omega),?_,kb.bs⟩
 refine Own.kept o7.out(Qr(jV(Ext.refl w7)_)0 _)(.inr fun hq=> ?_)
 have:=o7.out.ge _ hq
 omega
theorem jcU(w:World)(o1 o2 o3 o4:Obj):((((w.alloc o1).alloc o2).alloc o3).alloc o4).heap[w.heap.size]? =some o1:=by
 rw [Below.heap_alloc _ _ _(by rw [je,je,je];omega)]
 exact heap_alloc30 w o1 o2 o3
theorem jcV(w:World)(o1 o2 o3 o4:Obj):((((w.alloc o1).alloc o2).alloc o3).alloc o4).heap[w.heap.size+1]? =some o2:=by
 rw [Below.heap_alloc _ _ _(by rw [je,je,je];omega)]
 exact heap_alloc31 w o1 o2 o3
theorem jcW(w:World)(o1 o2 o3 o4:Obj):((((w.alloc o1).alloc o2).alloc o3).alloc o4).heap[w.heap.size+1+1]? =some o3:=by
 rw [Below.heap_alloc _ _ _(by rw [je,je,je];omega)]
 exact heap_alloc32 w o1 o2 o3
theorem jcX(w:World)(o1 o2 o3 o4:Obj):((((w.alloc o1).alloc o2).alloc o3).alloc o4).heap[w.heap.size+1+1+1]? =some o4:=by
 have:=heap_alloc32(w.alloc o1)o2 o3 o4
 rwa [je] at this
set_option maxRecDepth 100000 in
set_option maxHeartbeats 2000000 in
theorem jcH{ks ps:List UInt8}{m:Nat}{w:World}(hk:ks.length=32)(h1:ps.length≤1000000)(hm:m≤2000){tg:TypeId×Nat×Nat}(hG:Gl w tg):
  Calls Tryz.prog 144 #[.agg(cellsOf ks).toArray, .string(vQ ps), .int .i64(m:Int)] w(RetBsE(QL ks ps m)0 w):=by
 have q1':decide((m:Int) < 0)=false:=decide_eq_false(by omega)
 have q2':decide((2000:Int) < (m:Int))=false:=decide_eq_false(by omega)
 have HG:=hd hG
 clear hG
 have SP0:Hid(Sp w((((w.alloc(Obj.cells(cellsOf ks).toArray 23)).alloc(Obj.cells #[.string(vQ ps)] 9)).alloc(Obj.cells #[.slice none 0 0] 33)).alloc(Obj.cells #[.slice none 0 0] 33))ks ps none 0 0 [] none 0 0 []):=
  ⟨((((Ext.refl w).alloc _).alloc _).alloc _).alloc _,jcU _ _ _ _ _,jcV _ _ _ _ _,jcW _ _ _ _ _,jcX _ _ _ _ _,Own.nil _ _,Bs.nil _⟩
 go_enter Tryz.func144,Tryz.ntmps144
 go_wp2_with fail
 go_loopw [11](fun v wr=>∃(i j n:Nat)(O:Option Addr)(oc:Nat)(L:Option Addr)(ln lc:Nat),v= .int .u8(j:Int)∧j=i+1∧n=32 *i∧n < m+32∧ln≤32∧Sp w wr ks ps O n oc(jbj ks ps i)L ln lc(jbZ ks ps i))(fun v _=>64 - (intOf v).toNat)
 case atStart=>exact⟨0,1,0,none,0,none,0,0,rfl,rfl,rfl,by omega,by omega,SP0.out⟩
 case round =>
  obtain⟨i,j,n,O,oc,L,ln,lc,rfl,hj,hn,hi,hln,sp⟩ :=hrel
  clear SP0
  have cO:=cell_of_one sp.2.2.2.1
  have zz:=sp.size
  have hE:=sp.1
  by_cases hlt:n < m
  ·have CALL:Calls Tryz.prog 166 #[.int .u8(j:Int), .pointer(some⟨w.heap.size+1+1+1,0,none⟩), .pointer(some⟨w.heap.size+1,0,none⟩), .pointer(some⟨w.heap.size,0,none⟩), .pointer(some⟨w.heap.size+1+1,0,none⟩)] wr(jkU w ks ps(jbj ks ps(i+1))(jbZ ks ps(i+1))):=by
    have h9:=je9(x:=UInt8.ofNat j)hk sp h1 hln(by omega)HG.out
    have hx:(UInt8.ofNat j).toNat=j:=by simp;omega
    rw [hx] at h9
    rw [jbj,jbZ,← hj]
    exact h9
   replace CALL:=hd CALL
   clear sp
   replace hj:=hd hj
   replace hn:=hd hn
   have j64:(j:Int)≤64:=by have:=hj.out;have:=hn.out;omega
   go_wp2_with(go_at_call 166;refine CALL.out.mono ?_;rintro e w1⟨rfl,O1,n1,c1,L1,lc1,sp1⟩;replace sp1:=hd sp1;go_frame)
   refine⟨⟨i+1,j+1,n1,O1,c1,L1,32,lc1,by go_num,by have:=hj.out;omega,?_,?_,by omega,sp1.out⟩,by have:=hj.out;have:=hn.out;simp [intOf];omega⟩
   ·have:=sp1.out.2.2.2.2.2.1.len
    rw [jax] at this
    omega
   ·have:=sp1.out.2.2.2.2.2.1.len
    rw [jax] at this
    have:=hn.out
    omega
  ·have hS:QL ks ps m=(jbj ks ps i).take m:=by
    unfold QL
    rw [show(m+31) / 32=i by omega]
   replace hS:=hd hS
   have own:=sp.2.2.2.2.2.1
   have B:=own.bs
   have BT:=hd(B.take(k:=m)(by omega))
   have n1:=B.le
   have n2:=B.cap
   rcases own.2 with⟨hv,hn0⟩ | ⟨g,cap,cur,hv,_⟩
   ·injection hv with p1 p2 p3
    subst p1 p3
    obtain rfl:n=0:=hn0
    obtain rfl:m=0:=by omega
    clear own sp B
    replace hn:=hd hn
    replace hj:=hd hj
    go_wp2_with fail
    go_ret2
    exact⟨_,_,_,rfl,by rw [hS.out];exact BT.out,hE⟩
   ·injection hv with p1 p2 p3
    subst p1 p3
    clear own sp B
    replace hn:=hd hn
    replace hj:=hd hj
    go_wp2_with fail
    go_ret2
    exact⟨_,_,_,rfl,by rw [hS.out];exact BT.out.recap(Nat.le_refl _),hE⟩
def Ss(w:World)(A:Option Addr)(n:Nat)(l:List(List UInt8)):Prop:=
 l.length=n∧(0 < n→∃b off,A=some⟨b,off,none⟩∧b < w.heap.size∧∀j,j < n→w.cell?⟨b,off+j,none⟩=some(.string(vQ(l.getD j []))))
theorem Ss.ext{w w':World}{A:Option Addr}{n:Nat}{l:List(List UInt8)}(h:Ss w A n l)(e:Ext w w'):Ss w' A n l:=⟨h.1,fun h0=>by
 obtain⟨b,off,q,hb,hc⟩ :=h.2 h0
 exact⟨b,off,q,Nat.lt_of_lt_of_le hb e.size,fun j hj=>(e.cell hb).trans(hc j hj)⟩⟩
def Kr(w:World)(g:Nat)(l:List(List UInt8)):Prop:=w.heap[g]? =some(.cells(cellsOf l.flatten).toArray 23(0,0))∧∀x∈l,x.length=32
def jfq(l:List(List UInt8))(w:World)(e:Ending)(w':World):Prop:= ∃g,e= .returned(.slice(some⟨g,0,none⟩)l.length l.length)∧w.heap.size≤g∧Kr w' g l∧Ext w w'
theorem Kr.ext{w w':World}{g:Nat}{l:List(List UInt8)}(h:Kr w g l)(e:Ext w w'):Kr w' g l:=⟨(e.block g(jh h.1)).trans h.1,h.2⟩
theorem jai{l:List(List UInt8)}(h:∀x∈l,x.length=32):l.flatten.length=32 *l.length:=by
 induction l with
 |nil=>rfl
 |cons a l ih =>
  rw [List.flatten_cons,List.length_append,ih(fun x hx=>h x(List.mem_cons_of_mem _ hx)),h a(List.mem_cons_self ..),List.length_cons]
  omega
theorem jfE{l:List(List UInt8)}(h:∀x∈l,x.length=32){j i:Nat}(hj:j < l.length)(hi:i < 32):bt l.flatten(32 *j+i)=bt(l.getD j [])i:=by
 induction l generalizing j with
 |nil=>simp at hj
 |cons a l ih =>
  have ha:=h a(List.mem_cons_self ..)
  have hl:∀x∈l,x.length=32:=fun x hx=>h x(List.mem_cons_of_mem _ hx)
  cases j with
  |zero =>
   unfold bt
   simp only [List.flatten_cons,List.getD,Nat.mul_zero,Nat.zero_add,List.getElem?_cons_zero,Option.getD_some]
   rw [List.getElem?_append_left(by omega)]
  |succ j =>
   have:=ih hl(j:=j)(by simpa using hj)
   unfold bt at this ⊢
   simp only [List.flatten_cons,List.getD,List.getElem?_cons_succ] at this ⊢
   rw [List.getElem?_append_right(by omega),ha,show 32 *(j+1)+i - 32=32 *j+i by omega]
   exact this
theorem Kr.cell{w:World}{g:Nat}{l:List(List UInt8)}(h:Kr w g l){j i:Nat}(hj:j < l.length)(hi:i < 32):w.cell?⟨g,32 *j+i,none⟩=some(.int .u8(bt(l.getD j [])i:Int)):=by
 rw [cell_of_row w g _ _ _ _ h.1,← jfE h.2 hj hi]
 have hl:=jai h.2
 have:=cellsOf_get(xs:=l.flatten)(j:=32 *j+i)(by omega)
 simpa using this
theorem Kr.row{w:World}{g:Nat}{l:List(List UInt8)}(h:Kr w g l){j:Nat}(hj:j < l.length):∀i v,(cellsOf(l.getD j []))[i]? =some v→w.cell?⟨g,32 *j+i,none⟩=some v:=fun i v hv=>by
 have hx:(l.getD j []).length=32:=h.2 _(by simp [List.getD,hj])
 have hi:i < 32:=by
  have:=(List.getElem?_eq_some_iff.1 hv).1
  rw [ja] at this
  omega
 rw [jZ(by omega)] at hv
 rw [h.cell hj hi,hv]
theorem jbh(n:Nat):madeCells jr(n *32)=(cellsOf(List.replicate(32 *n)0)).toArray:=by
 have hz:∀j,j < 32→jr[j]! = .int .u8 0:=fun j hj=>by
  have h1:jr[j]? =some(.int .u8 0):=by
   unfold jr
   rw [List.getElem?_toArray,List.getElem?_replicate,if_pos hj]
  rw [getElem!_def,h1]
 have hs:=j7
 apply Array.ext
 ·simp [madeCells,ja];omega
 ·intro i h1 h2
  have hi:i < n *32:=by simpa [madeCells] using h1
  have hb:bt(List.replicate(32 *n)(0:UInt8))i=0:=by
   unfold bt
   simp [List.getD,List.getElem?_replicate,show i < 32 *n by omega]
  have hr:=jZ(xs:=List.replicate(32 *n)(0:UInt8))(j:=i)(by simp;omega)
  rw [hb] at hr
  have hr2:(cellsOf(List.replicate(32 *n)(0:UInt8))).toArray[i]= .int .u8 0:=by
   have h3:=List.getElem?_eq_some_iff.1 hr
   simpa using h3.2
  rw [hr2]
  simp only [madeCells,Array.getElem_map,Array.getElem_range,hs]
  exact hz _(Nat.mod_lt _(by decide))
theorem jk0(n:Nat)(hn:n≤1000000)(w:World):
  (Instr.makeSlice 209(.int .i64(n:Int))(.int .i64(n:Int))).run Tryz.prog w= .ok(.slice(some⟨w.heap.size,0,none⟩)n n)(w.alloc(.cells(cellsOf(List.replicate(32 *n)0)).toArray 23)):=by
 obtain⟨i,hi,h0,h1,h2⟩ :=info_parts infoK
 have:=run_make(P:=Tryz.prog)w 209 23 i(.agg jr)Tryz.underlying209 hi h0 .i64 .i64(n:Int)(n:Int)(by omega)(by omega)(by rw [h2];omega)(by omega)
 rw [this,h1]
 simp only [Int.toNat_natCast]
 rw [show(Value.agg jr).cells=jr from rfl,jbh]
def kfl(ks:List UInt8)(l:List(List UInt8))(k:Nat):List UInt8:=((l.take k).map(jM ks)).flatten
theorem jfJ{ks:List UInt8}{l:List(List UInt8)}{k:Nat}(h:k≤l.length):(kfl ks l k).length=32 *k:=by
 unfold kfl
 rw [jai(fun x hx=>by obtain⟨y,_,rfl⟩ :=List.mem_map.1 hx;exact jR _ _)]
 simp [Nat.min_eq_left h]
theorem jhJ{ks:List UInt8}{l:List(List UInt8)}{k:Nat}(h:k < l.length):kfl ks l(k+1)=kfl ks l k ++ jM ks(l.getD k []):=by
 unfold kfl
 rw [List.take_succ_eq_append_getElem h,List.map_append,List.flatten_append]
 simp only [List.map_cons,List.map_nil,List.flatten_cons,List.flatten_nil,List.append_nil,List.getD,List.getElem?_eq_getElem h,Option.getD_some]
theorem jja{ks:List UInt8}{l:List(List UInt8)}:kfl ks l l.length=(l.map(jM ks)).flatten:=by
 unfold kfl;rw [List.take_length]
theorem jjb{ks:List UInt8}{l:List(List UInt8)}{k:Nat}(h:k < l.length):splice(kfl ks l k ++ List.replicate(32 *(l.length - k))0)(32 *k)(jM ks(l.getD k []))=kfl ks l(k+1)++ List.replicate(32 *(l.length - (k+1)))0:=by
 have h1:=jfJ(ks:=ks)(Nat.le_of_lt h)
 have h2:=jR ks(l.getD k [])
 unfold splice
 rw [List.take_left' h1,jhJ h,List.drop_append,h2,h1,List.drop_of_length_le(by omega),List.nil_append,List.drop_replicate,List.append_assoc]
 congr 3
 omega
def Kw(w wr:World)(ks X:List UInt8):Prop:=Ext w wr∧Ky wr w.heap.size ks∧wr.heap[w.heap.size+1]? =some(.cells(cellsOf X).toArray 23(0,0))
set_option maxRecDepth 100000 in
set_option maxHeartbeats 2000000 in
theorem Qt{A:Option Addr}{n c:Nat}{ks:List UInt8}{l:List(List UInt8)}{w:World}(hk:ks.length=32)(h:Ss w A n l)(hn:n≤1000)(hp:∀j,(l.getD j []).length≤1000000){tg:TypeId×Nat×Nat}(hG:Gl w tg):
  Calls Tryz.prog 113 #[.agg(cellsOf ks).toArray, .slice A n c] w(jfq(l.map(jM ks))w):=by
 have hmk:=jk0 n(by omega)
 have HG:=hd(fun W e=>Gl.kept hG(w':=W)e hG.lt)
 clear hG
 have hln:=h.1
 have H:=hd h
 clear h
 have KW0:Hid(Kw w((w.alloc(Obj.cells(cellsOf ks).toArray 23)).alloc(Obj.cells(cellsOf(List.replicate(32 *n)0)).toArray 23))ks(kfl ks l 0 ++ List.replicate(32 *(n - 0))0)):=
  ⟨((Ext.refl w).alloc _).alloc _,⟨jQ _ _ _,hk⟩,by
   rw [show kfl ks l 0= [] from by unfold kfl;simp,List.nil_append,Nat.sub_zero]
   exact jK _ _ _⟩
 have KS:(cellsOf ks).toArray.size=32:=by simp [ja,hk]
 replace hp:=hd hp
 replace hln:=hd hln
 go_enter Tryz.func113,Tryz.ntmps113
 go_wp2_with fail
 go_loopw [15](fun v wr=>∃k:Nat,v= .int .i64(k:Int)∧k≤n∧Kw w wr ks(kfl ks l k ++ List.replicate(32 *(n - k))0))(fun v _=>n - (intOf v).toNat)
 case atStart=>exact⟨0,rfl,Nat.zero_le _,KW0.out⟩
 case round =>
  obtain⟨k,rfl,hkn,kw⟩ :=hrel
  clear KW0 hmk
  have hE:=hd kw.1
  have hKy:=hd kw.2.1
  have hR:=hd kw.2.2
  by_cases hlt:k < n
  ·obtain⟨b,off,rfl,hb,hc⟩ :=(H.out.ext hE.out).2(by omega)
   have ck:=hc k hlt
   clear hc
   have P1:=hp.out k
   obtain⟨s,hs⟩:∃s,s=l.getD k []:=⟨_,rfl⟩
   rw [← hs] at ck P1
   replace hs:=hd hs
   have SPREAD:Hid(Calls Tryz.prog 144 #[.agg(cellsOf ks).toArray, .string(vQ s), .int .i64 32] wr(YP(jM ks s)0 wr)):=by
    have h9:=jcH(m:=32)hk P1(by omega)(HG.out _ hE.out)
    rw [jfa] at h9
    exact h9
   clear kw
   go_wp2_with(refine wpList_load_row rfl 23 _ rfl w.heap.size rfl 23(cellsOf ks).toArray(0,0)_ hKy.out.1 rfl rfl(by rw [KS];rfl)?_;go_frame)
   refine SPREAD.out.mono ?_
   rintro e w1⟨A1,n1,c1,rfl,b1,e1⟩
   have n32:n1=32:=by rw [← b1.len,jR]
   subst n32
   have hR1:w1.heap[w.heap.size+1]? =_:=(e1.block _(jh hR.out)).trans hR.out
   replace hR1:=hd hR1
   replace b1:=hd b1
   have hE1:=hd(hE.out.trans e1)
   have hKy1:=hd(hKy.out.ext e1)
   clear SPREAD hR hE hKy e1
   go_wp2_with fail
   have XL:(kfl ks l k ++ List.replicate(32 *(n - k))0).length=32 *n:=by rw [List.length_append,jfJ(by have:=hln.out;omega),List.length_replicate];omega
   refine JZ(cur:=cellsOf(kfl ks l k ++ List.replicate(32 *(n - k))0))rfl hR1.out b1.out(Nat.le_refl _)(by rw [ja,XL];omega)?_
   intro W' h1 h2
   have hE2:Hid(Ext w W'):=Below.trans hE1.out(h2.out w.heap.size(by omega))
   have hK2:Hid(Ky W' w.heap.size ks):=⟨((h2.out(w.heap.size+1)(Nat.le_refl _)).block w.heap.size(by omega)).trans hKy1.out.1,hk⟩
   rw [cellsOf_splice,hs.out,show k *32=32 *k by omega] at h1
   have hpt:=jjb(ks:=ks)(l:=l)(k:=k)(by have:=hln.out;omega)
   rw [hln.out] at hpt
   rw [hpt] at h1
   clear hpt h2 XL hR1 b1 hE1 hKy1
   go_wp2_with fail
   exact⟨⟨k+1,by go_num,by omega,hE2.out,hK2.out,h1.out⟩,by simp [intOf];omega⟩
  ·obtain rfl:k=n:=by omega
   clear kw
   go_wp2_with fail
   go_ret
   refine⟨w.heap.size+1,?_,by omega,⟨?_,fun x hx=>by obtain⟨y,_,rfl⟩ :=List.mem_map.1 hx;exact jR _ _⟩,hE.out⟩
   ·rw [List.length_map,hln.out];rfl
   ·have:=hR.out
    rw [Nat.sub_self,Nat.mul_zero,List.replicate_zero,List.append_nil] at this
    rw [← jja,hln.out]
    exact this
theorem jcI{W:World}{t:TypeId}{l:List(List UInt8)}{n:Nat}(hn:l.length=n):Ss(W.alloc(.cells(l.map fun x=>Value.string(vQ x)).toArray t))(some⟨W.heap.size,0,none⟩)n l:=by
 refine⟨hn,fun _=>⟨_,0,rfl,by rw [je];omega,fun j hj=> ?_⟩⟩
 rw [cell_of_row _ _ _ _ _(0,0)(heap_alloc_new _ _)]
 simp [List.getD,show j < l.length by omega]
end
section
inductive Pl where
 |nil
 |rd(i:Nat)(p:Pl)
 |alt(i:Nat)(p q:Pl)
 |stop
def Jl(m done:Nat):List(Nat×Nat×Nat)→Nat→Bool
 | [],_=>true
 |y :: r,j=>(m.testBit j || done.testBit j || !(y.1 &&& done == y.1))&& Jl m done r(j+1)
theorem J7{m done:Nat}:∀{D:List(Nat×Nat×Nat)}{k:Nat},Jl m done D k=true→∀j y,D[j]? =some y→m.testBit(k+j)=false→done.testBit(k+j)=false→y.1 &&& done≠y.1
 | [],_,_,j,y,hy=>by simp at hy
 |z :: r,k,h,0,y,hy=>by
  rw [Jl,Bool.and_eq_true] at h
  simp only [List.getElem?_cons_zero,Option.some.injEq] at hy
  subst hy
  intro h1 h2
  rw [Nat.add_zero] at h1 h2
  simpa [h1,h2] using h.1
 |z :: r,k,h,j+1,y,hy=>by
  rw [Jl,Bool.and_eq_true] at h
  intro h1 h2
  exact J7 h.2 j y(by simpa using hy)(by rw [show k+1+j=k+(j+1)by omega];exact h1)(by rw [show k+1+j=k+(j+1)by omega];exact h2)
def jcC(D:List(Nat×Nat×Nat))(i done:Nat):Bool:=match jat D i with
 |none=>false
 |some x=> !done.testBit i && x.1 &&& done == x.1
def Qg(D:List(Nat×Nat×Nat)):Pl→Nat→Nat→Bool→Nat→Bool
 | .nil,done,_,inC,fuel=> !inC && fuel == 0 && done+1 == 1 <<< D.length
 | .rd i p,done,_,inC,fuel=> !inC && jcC D i done &&(match jat D i with
   |none=>false
   |some x=>YF i done x D 0)&&(match fuel with
   |0=>false
   |f+1=>Qg D p(done |||(1 <<< i))0 false f)
 | .alt i p q,done,m,_,fuel=>jcC D i done &&(match fuel with
   |0=>false
   |f+1=>Qg D p(done |||(1 <<< i))0 false f)&& Qg D q done(m |||(1 <<< i))true fuel
 | .stop,done,m,inC,fuel=>inC && !(fuel == 0)&& Jl m done D 0
section
variable{P:Program}{ops:Array Oper}{Q:Exit→Act→World→Prop}
def Yn(P:Program)(ops:Array Oper)(Q:Exit→Act→World→Prop)(R:World→World→Prop):Pl→Act→World→Prop
 | .nil,a,w=>Q .normal a w
 | .rd i p,a,w=>∃o,ops[i]? =some o∧∃v,YieldsIf P ops(R w)o v a∧Yn P ops Q R p(a.put o.dst v)w
 | .alt i p q,a,w=>(∃o,ops[i]? =some o∧wpOp P ops Q i(fun a' w'=>R w w'∧Yn P ops Q R p a' w')a w)∧Yn P ops Q R q a w
 | .stop,_,_=>True
theorem ZN{D:List(Nat×Nat×Nat)}{i done:Nat}(h:jcC D i done=true):∃x,D[i]? =some x∧done.testBit i=false∧x.1 &&& done=x.1:=by
 unfold jcC at h
 rw [Yu] at h
 cases hx:D[i]? with
 |none=>rw [hx] at h;cases h
 |some x =>
  rw [hx] at h
  simp only [Bool.and_eq_true,Bool.not_eq_true',beq_iff_eq] at h
  exact⟨x,rfl,h.1,h.2⟩
def jfy:Pl→List Nat
 | .alt i _ q=>i :: jfy q
 |_=> []
theorem zX{R:World→World→Prop}(hrf:∀w,R w w)(htr:∀a b c,R a b→R b c→R a c){D:List(Nat×Nat×Nat)}(hs:Region.noSelect ops=true)(hQ:∀c a d v w,Q(.panic c)(Act.put a d v)w→Q(.panic c)a w)(hD:ops.toList.map(vr ops)=D)
  (hsub:∀(j:Nat)o,ops[j]? =some o→∀e∈o.after,e.on < ops.size):
  ∀(p:Pl)(listed:Array Bool)(done m:Nat)(inC:Bool)(fuel:Nat)(a:Act)(w:World),Listed ops.size done listed→Qg D p done m inC fuel=true→Yn P ops Q R p a w→
   (inC=false→m=0→wpAnyH P .any ops Q(R w)fuel listed a w)∧
   (∀f,fuel=f+1→∀j,j∈Region.ready .any ops listed→m.testBit j=true∨wpOp P ops Q j(fun a' w'=>R w w'∧wpAnyH P .any ops Q(R w)f(listed.setIfInBounds j true)a' w')a w)
 | .nil,listed,done,m,inC,fuel,a,w,hL,hp,h=>by
  simp only [Qg,Bool.and_eq_true,Bool.not_eq_true',beq_iff_eq] at hp
  obtain⟨⟨_,rfl⟩,hd⟩ :=hp
  refine⟨fun _ _=>⟨?_,h⟩,fun f hf=>absurd hf(by omega)⟩
  have hlen:D.length=ops.size:=by rw [← hD];simp
  rw [hlen,Nat.one_shiftLeft] at hd
  cases hr:Region.ready .any ops listed with
  |nil=>rfl
  |cons j r =>
   have hj:j∈Region.ready .any ops listed:=by rw [hr];simp
   obtain⟨h0,_⟩ :=mem_ready.1 hj
   have hlt:=hL.lt h0
   rw [hL.2 j hlt] at h0
   have:done=2 ^ ops.size - 1:=by omega
   rw [this,Nat.testBit_two_pow_sub_one] at h0
   simp [hlt] at h0
 | .rd i p,listed,done,m,inC,fuel,a,w,hL,hp,h=>by
  obtain⟨o,ho,v,hy,hh⟩ :=h
  have hi:i < ops.size:=(Array.getElem?_eq_some_iff.1 ho).1
  have hDi:∀(j:Nat)oj,ops[j]? =some oj→D[j]? =some(vr ops oj):=fun j oj hj=>by
   rw [← hD,List.getElem?_map,Array.getElem?_toList,hj];rfl
  simp only [Qg,Bool.and_eq_true,Bool.not_eq_true'] at hp
  obtain⟨⟨⟨hc,hr⟩,hp1⟩,hp2⟩ :=hp
  obtain⟨x,hx,hnd,hdep⟩ :=ZN hr
  rw [hDi i o ho] at hx
  obtain rfl:=Option.some.inj hx
  rw [Yu,hDi i o ho] at hp1
  have hri:i∈Region.ready .any ops listed:=mem_ready.2⟨(hL.2 i hi).trans hnd,o,ho,fun e he hb =>
   hL.on(QN hdep((ya o e.on).2⟨e,he,hb,rfl⟩))(hsub i o ho e he)⟩
  have hL':=hL.set hi
  cases fuel with
  |zero=>simp at hp2
  |succ f =>
   have main:wpAnyH P .any ops Q(R w)(f+1)listed a w:=by
    refine wpAnyH_first ho(Region.noSelect_spec hs)(fun c a w=>hQ c a _ _ w)_ listed a w(fun j oj hoj hji hun hno=> ?_)hri hy(hrf w)((zX hrf htr hs hQ hD hsub p _ _ 0 false f _ w hL' hp2 hh).1 rfl rfl)
    have hjl:=hL.lt hun
    rw [hL.2 j hjl] at hun
    refine jaa(zC hp1 j _(hDi j oj hoj)(by omega)(by rw [Nat.zero_add];exact hun)?_)
    cases hb:(vr ops oj).1.testBit i with
    |false=>rfl
    |true =>
     obtain⟨e,he,hb',he'⟩ :=(ya oj i).1 hb
     exact absurd he'(hno e he hb')
   refine⟨fun _ _=>main,fun f' hf j hj=> ?_⟩
   obtain rfl:f=f':=by omega
   exact .inr(wpOp_mono(fun a' w'⟨he,hh⟩ =>⟨he,hh⟩)(main.2 j hj))
 | .alt i p q,listed,done,m,inC,fuel,a,w,hL,hp,h=>by
  obtain⟨⟨o,ho,hop⟩,hq⟩ :=h
  have hi:i < ops.size:=(Array.getElem?_eq_some_iff.1 ho).1
  have hDi:∀(j:Nat)oj,ops[j]? =some oj→D[j]? =some(vr ops oj):=fun j oj hj=>by
   rw [← hD,List.getElem?_map,Array.getElem?_toList,hj];rfl
  simp only [Qg,Bool.and_eq_true] at hp
  obtain⟨⟨hr,hp1⟩,hp2⟩ :=hp
  obtain⟨x,hx,hnd,hdep⟩ :=ZN hr
  rw [hDi i o ho] at hx
  obtain rfl:=Option.some.inj hx
  have hri:i∈Region.ready .any ops listed:=mem_ready.2⟨(hL.2 i hi).trans hnd,o,ho,fun e he hb =>
   hL.on(QN hdep((ya o e.on).2⟨e,he,hb,rfl⟩))(hsub i o ho e he)⟩
  have hL':=hL.set hi
  cases fuel with
  |zero=>simp at hp1
  |succ f =>
   have IQ:=(zX hrf htr hs hQ hD hsub q listed done(m |||(1 <<< i))true(f+1)a w hL hp2 hq).2 f rfl
   have HI:wpOp P ops Q i(fun a' w'=>R w w'∧wpAnyH P .any ops Q(R w)f(listed.setIfInBounds i true)a' w')a w:=
    wpOp_mono(fun a' w'⟨he,hh⟩ =>⟨he,Js(fun _ e=>htr _ _ _ he e)_ _ _ _((zX hrf htr hs hQ hD hsub p _ _ 0 false f a' w' hL' hp1 hh).1 rfl rfl)⟩)hop
   have all:∀j,j∈Region.ready .any ops listed→m.testBit j=true∨wpOp P ops Q j(fun a' w'=>R w w'∧wpAnyH P .any ops Q(R w)f(listed.setIfInBounds j true)a' w')a w:=fun j hj=>by
    by_cases hji:j=i
    ·subst hji
     exact .inr HI
    ·rcases IQ j hj with hm |hw
     ·rw [Nat.testBit_or,Nat.one_shiftLeft,Nat.testBit_two_pow] at hm
      simp only [show ¬ i=j from fun e=>hji e.symm,decide_false,Bool.or_false] at hm
      exact .inl hm
     ·exact .inr hw
   refine⟨fun _ hm=> ?_,fun f' hf j hj=> ?_⟩
   ·subst hm
    refine⟨fun h0=>(by rw [h0] at hri;cases hri),fun j hj=> ?_⟩
    rcases all j hj with h9 |h9
    ·simp at h9
    ·exact h9
   ·obtain rfl:f=f':=by omega
    exact all j hj
 | .stop,listed,done,m,inC,fuel,a,w,hL,hp,_=>by
  simp only [Qg,Bool.and_eq_true,Bool.not_eq_true',beq_eq_false_iff_ne] at hp
  obtain⟨⟨hc,hf⟩,hw⟩ :=hp
  refine⟨fun h _=>(by rw [hc] at h;cases h),fun f hf j hj=> ?_⟩
  have hDi:∀(j:Nat)oj,ops[j]? =some oj→D[j]? =some(vr ops oj):=fun j oj hj=>by
   rw [← hD,List.getElem?_map,Array.getElem?_toList,hj];rfl
  obtain⟨h0,oj,hoj,hall⟩ :=mem_ready.1 hj
  have hjl:=hL.lt h0
  rw [hL.2 j hjl] at h0
  cases hm:m.testBit j with
  |true=>exact .inl rfl
  |false =>
   have hne:=J7 hw j _(hDi j oj hoj)(by rw [Nat.zero_add];exact hm)(by rw [Nat.zero_add];exact h0)
   obtain⟨k,hk1,hk2⟩ :=Y3 hne
   obtain⟨e,he,hb,rfl⟩ :=(ya oj k).1 hk1
   rw [hL.off(hall e he hb)] at hk2
   cases hk2
theorem jbb{R:World→World→Prop}(hrf:∀w,R w w)(htr:∀a b c,R a b→R b c→R a c){id:Nat}{a:Act}{w:World}(p:Pl)(D:List(Nat×Nat×Nat))(n:Nat)(hm:P.follows .mixedOrders=true)(hs:Region.noSelect ops=true)(hin:y7 ops=true)(hl:ops.size=n)
  (hD:ops.toList.map(vr ops)=D)(hp:Qg D p 0 0 false n=true)
  (hQ:∀c a d v w,Q(.panic c)(Act.put a d v)w→Q(.panic c)a w)(h:Yn P ops Q R p a w.drew):(Code.region id ops true).wp P Q a w:=by
 refine wp_region_held(S:=R w.drew)hm ?_
 have:=(zX hrf htr hs hQ hD(fun j o ho e he=>by
  have h1:=Array.all_eq_true_iff_forall_mem.1 hin o(Array.mem_of_getElem? ho)
  simpa using Array.all_eq_true_iff_forall_mem.1 h1 e he)p(Array.replicate ops.size false)0 0 false n a w.drew⟨by simp,fun j hj=>by simp [Array.getD,hj]⟩hp h).1 rfl rfl
 rw [← hl] at this
 exact this
theorem yB{R:World→World→Prop}{a:Act}{w:World}(h:Q .normal a w):Yn P ops Q R .nil a w:=h
theorem JX{R:World→World→Prop}{i:Nat}{p:Pl}{a:Act}{w:World}(F:World→Prop)(hF:∀w',R w w'→F w')(o:Oper){v:Value}(ho':yN ops.toList i=some o)
  (hw:Region.wanted o(yielded ops a.tmps)=true)(hrun:∀w',F w'→(execOp a.eval o).run P w'= .ok(.value v)w')(h:Yn P ops Q R p(a.put o.dst v)w):Yn P ops Q R(.rd i p)a w:=
 ⟨o,vU ho',v, .inl⟨hw,fun w' e=>hrun w'(hF w' e)⟩,h⟩
theorem jgG{R:World→World→Prop}{i:Nat}{p:Pl}{a:Act}{w:World}(o:Oper)(ho':yN ops.toList i=some o)
  (hw:Region.wanted o(yielded ops a.tmps)=false)(h:Yn P ops Q R p(a.put o.dst undef)w):Yn P ops Q R(.rd i p)a w:=
 ⟨o,vU ho',_, .inr⟨hw,rfl⟩,h⟩
theorem qc{R:World→World→Prop}{i:Nat}{p q:Pl}{a:Act}{w:World}(o:Oper)(ho':yN ops.toList i=some o)(hw:Region.wanted o(yielded ops a.tmps)=true)(hq:Yn P ops Q R q a w)
  (h:∀K':Act→World→Prop,Shut(∀a' w',R w w'→Yn P ops Q R p a' w'→K' a' w')→Oper.wp P o a w K' Q):Yn P ops Q R(.alt i p q)a w:=
 ⟨⟨o,vU ho',by
  refine wpOp_step(vU ho')fun K' hK=> ?_
  rw [if_pos hw]
  exact h K' fun a' w' he hh=>hK a' w'⟨he,hh⟩⟩,hq⟩
theorem yC{R:World→World→Prop}{a:Act}{w:World}:Yn P ops Q R .stop a w:=trivial
end
section
open Go.ChangeShapes Go.WideShapes Go.ChangeAt Go.RowKit Go.Deep
variable{P:Program}{ops:Array Oper}{Q:Exit→Act→World→Prop}{R:World→World→Prop}{id i:Nat}{p q:Pl}{a:Act}{w:World}
theorem qgT(hrf:∀w,R w w)(htr:∀a b c,R a b→R b c→R a c)(p:Pl)(n:Nat)(h:Yn P ops Q R p a w.drew)(hm:P.follows .mixedOrders=true:=by kernel_rfl)(hs:Region.noSelect ops=true:=by kernel_rfl)(hin:y7 ops=true:=by kernel_rfl)(hl:ops.size=n:=by exact rfl)
  (hp:Qg(ops.toList.map(vr ops))p 0 0 false n=true:=by kernel_rfl)(hQ:∀c a d v w,Q(.panic c)(Act.put a d v)w→Q(.panic c)a w:=by exact fun _ _ d _ _ h=>by first |(cases d <;> exact h)|exact absurd h.1(fun q=>by cases q)):(Code.region id ops true).wp P Q a w:=
 jbb hrf htr p _ n hm hs hin hl rfl hp hQ h
theorem qtR(F:World→Prop)(h:∀w',R w w'→F w'){o:Oper}{v:Value}(hn:Yn P ops Q R p(a.put o.dst v)w)(ho':yN ops.toList i=some o:=by exact rfl)
  (hw:Region.wanted o(yielded ops a.tmps)=true:=by rfl)(hrun:∀w',F w'→(execOp a.eval o).run P w'= .ok(.value v)w':=by intro w' hF;go_simp;(try with_reducible rfl)):Yn P ops Q R(.rd i p)a w:=
 JX F h o ho' hw hrun hn
theorem vM{o:Oper}{v:Value}(hn:Yn P ops Q R p(a.put o.dst v)w)(ho':yN ops.toList i=some o:=by exact rfl)
  (hw:Region.wanted o(yielded ops a.tmps)=true:=by rfl)(hrun:∀w',(execOp a.eval o).run P w'= .ok(.value v)w':=by intro w';go_simp;(try with_reducible rfl)):Yn P ops Q R(.rd i p)a w:=
 JX(fun _=>True)(fun _ _=>trivial)o ho' hw(fun w' _=>hrun w')hn
theorem qtV{o:Oper}(ho':yN ops.toList i=some o)(F:World→Prop)(h:∀w',R w w'→F w')(v:Value)(hrun:∀w',F w'→(execOp a.eval o).run P w'= .ok(.value v)w')(hn:Yn P ops Q R p(a.put o.dst v)w)
  (hw:Region.wanted o(yielded ops a.tmps)=true:=by rfl):Yn P ops Q R(.rd i p)a w:=
 JX F h o ho' hw hrun hn
theorem qtS{o:Oper}(hn:Yn P ops Q R p(a.put o.dst undef)w)(ho':yN ops.toList i=some o:=by exact rfl)(hw:Region.wanted o(yielded ops a.tmps)=false:=by rfl):Yn P ops Q R(.rd i p)a w:=
 jgG o ho' hw hn
end
end
section
open Go.ChangeShapes Go.WideShapes Go.ChangeAt Go.RowKit Go.Deep
def qd:List UInt8:= [109,101,115,115,97,103,101]
def vG:List UInt8:= [99,104,97,105,110]
def Qk(k0 k1:List UInt8)(w:World)(e:Ending)(w':World):Prop:=e= .returned(.tuple #[.agg(cellsOf k0).toArray, .agg(cellsOf k1).toArray])∧Ext w w'
set_option maxRecDepth 100000 in
set_option maxHeartbeats 2000000 in
theorem jaU{ks:List UInt8}{w:World}(hk:ks.length=32){tg:TypeId×Nat×Nat}(hG:Gl w tg):
  Calls Tryz.prog 80 #[.agg(cellsOf ks).toArray] w(Qk(jM ks qd)(jM ks vG)w):=by
 have KEYS:Hid(∀(W:World)t,Ext w W→Calls Tryz.prog 113 #[.agg(cellsOf ks).toArray, .slice(some⟨W.heap.size,0,none⟩)2 2](W.alloc(.cells #[.string(vQ qd), .string(vQ vG)] t))(jfq [jM ks qd,jM ks vG](W.alloc(.cells #[.string(strL qd), .string(vQ vG)] t)))):=fun W t e =>
  Qt(ks:=ks)(l:= [qd,vG])hk(jcI rfl)(by omega)(fun j=>by
   match j with
   |0=>show qd.length≤_;decide
   |1=>show vG.length≤_;decide
   |j+2=>simp [List.getD])(hG.kept(e.alloc _)hG.lt)
 have hA:Hid((⟨#[109,101,115,115,97,103,101]⟩:ByteArray)=vQ qd):=rfl
 have hB:Hid((⟨#[99,104,97,105,110]⟩:ByteArray)=vQ vG):=rfl
 generalize vQ qd=sA at *
 generalize vQ vG=sB at *
 clear hG
 have K0:=jR ks qd
 have K1:=jR ks vG
 generalize jM ks qd=k0 at *
 generalize jM ks vG=k1 at *
 have KS:(cellsOf ks).toArray.size=32:=by simp [ja,hk]
 have C0:(cellsOf k0).length=32:=by rw [ja,K0]
 have C1:(cellsOf k1).length=32:=by rw [ja,K1]
 have S0:(cellsOf k0).toArray.size=32:=C0
 have S1:(cellsOf k1).toArray.size=32:=C1
 have O0:=ji k0
 have O1:=ji k1
 have hal:=j2
 have hz0:=j7
 generalize jr=Z at *
 have B0:Hid((Ky(((w.alloc(Obj.cells(cellsOf ks).toArray 23)).alloc(Obj.cells Z 23)).alloc(Obj.cells Z 23))w.heap.size ks)∧(((w.alloc(Obj.cells(cellsOf ks).toArray 23)).alloc(Obj.cells Z 23)).alloc(Obj.cells Z 23)).heap[w.heap.size+1]? =some(.cells Z 23(0,0))∧(((w.alloc(Obj.cells(cellsOf ks).toArray 23)).alloc(Obj.cells Z 23)).alloc(Obj.cells Z 23)).heap[w.heap.size+1+1]? =some(.cells Z 23(0,0))∧Ext w(((w.alloc(Obj.cells(cellsOf ks).toArray 23)).alloc(Obj.cells Z 23)).alloc(Obj.cells Z 23))):=
  ⟨⟨jF _ _ _ _,hk⟩,jH _ _ _ _,jB _ _ _ _,(((Ext.refl w).alloc _).alloc _).alloc _⟩
 go_enter Tryz.func80,Tryz.ntmps80
 go_upto_region 1 with fail
 refine jg(fun W=>Ky W w.heap.size ks∧W.heap[w.heap.size+1]? =some(.cells Z 23(0,0))∧W.heap[w.heap.size+1+1]? =some(.cells Z 23(0,0))∧Ext w W)B0.out ?_
 clear B0
 rintro w0 b0
 replace b0:=hd b0
 go_wp2_with(refine wpList_load_row rfl 23 _ rfl w.heap.size rfl 23(cellsOf ks).toArray(0,0)_ b0.out.1.1 rfl rfl(by rw [KS];rfl)?_;go_frame)
 rw [hA.out,hB.out]
 refine(KEYS.out _ _ b0.out.2.2.2).mono ?_
 rintro e w1⟨g,rfl,hg,kr,e1⟩
 have zg:w.heap.size+1+1 < g:=by
  have:=jh b0.out.2.2.1
  rw [je] at hg
  omega
 have e2:Ext w0 w1:=((Ext.refl _).alloc _).trans e1
 have b1:Hid(Ky w1 w.heap.size ks∧w1.heap[w.heap.size+1]? =some(.cells Z 23(0,0))∧w1.heap[w.heap.size+1+1]? =some(.cells Z 23(0,0))∧Ext w w1):=⟨b0.out.1.ext e2,(e2.block _(jh b0.out.2.1)).trans b0.out.2.1,(e2.block _(jh b0.out.2.2.1)).trans b0.out.2.2.1,b0.out.2.2.2.trans e2⟩
 clear b0 KEYS e1 e2 hg
 have R0:Hid(∀w',Two(w.heap.size+1)(w.heap.size+1+1)w1 w'→∀i v,(cellsOf k0)[i]? =some v→w'.cell?⟨g,0+i,none⟩=some v):=fun w' e=>Kr.row(l:= [k0,k1])(j:=0)⟨e.block kr.1(by omega)(by omega),kr.2⟩(by simp)
 have R1:Hid(∀w',Two(w.heap.size+1)(w.heap.size+1+1)w1 w'→∀i v,(cellsOf k1)[i]? =some v→w'.cell?⟨g,32+i,none⟩=some v):=fun w' e=>Kr.row(l:= [k0,k1])(j:=1)⟨e.block kr.1(by omega)(by omega),kr.2⟩(by simp)
 clear kr
 go_wp2_with fail
 refine qgR(R:=Two(w.heap.size+1)(w.heap.size+1+1))(Two.refl _ _)(fun _ _ _=>Two.trans) [0,1,2,3,4,5,6,7] [6,7] ?_
 repeat((first |refine qR0 ?_ |refine qS ?_);go_frame)
 refine qV rfl(fun w'=>∀q_ v,(cellsOf k0)[q_]? =some v→w'.cell?⟨g,0+q_,none⟩=some v)(fun w' e=>R0.out w'((Two.of_ext(Ext.refl _).drew).trans e))(.agg(cellsOf k0).toArray)(fun w' hF=>jy rfl rfl hF rfl rfl(by rw [C0];rfl))?_
 go_frame
 repeat((first |refine qR0 ?_ |refine qS ?_);go_frame)
 refine qV rfl(fun w'=>∀q_ v,(cellsOf k1)[q_]? =some v→w'.cell?⟨g,32+q_,none⟩=some v)(fun w' e=>R1.out w'((Two.of_ext(Ext.refl _).drew).trans e))(.agg(cellsOf k1).toArray)(fun w' hF=>jy rfl rfl hF rfl rfl(by rw [C1];rfl))?_
 go_frame
 have b2:Hid(w1.drew.heap[w.heap.size+1]? =some(.cells Z 23(0,0))∧w1.drew.heap[w.heap.size+1+1]? =some(.cells Z 23(0,0))∧Ext w w1.drew):=⟨b1.out.2.1,b1.out.2.2.1,b1.out.2.2.2.drew⟩
 generalize w1.drew=W at *
 refine qD fun K hK=> ?_
 refine wp_store_row _ _ _ rfl(w.heap.size+1)(cellsOf k0).toArray rfl rfl 23 Z b2.out.1(by rw [S0];rfl)(by rw [S0];exact hz0)O0 ?_
 refine hK.out _ _(Two.row _ _)?_
 clear hK K
 try go_frame
 refine qD fun K hK=> ?_
 refine wp_store_row _ _ _ rfl(w.heap.size+1+1)(cellsOf k1).toArray rfl rfl 23 Z((setRow_other _ _ _ _(by omega)).trans b2.out.2.1)(by rw [S1];rfl)(by rw [S1];exact hz0)O1 ?_
 refine hK.out _ _(Two.row' _ _)?_
 clear hK K
 try go_frame
 refine jp ?_
 have f0:Hid(((W.setRow(w.heap.size+1)(cellsOf k0).toArray).setRow(w.heap.size+1+1)(cellsOf k1).toArray).heap[w.heap.size+1]? =some(.cells(cellsOf k0).toArray 23(0,0))):=(setRow_other _ _ _ _(by omega)).trans(setRow_heap _ _ _ _ _ _ b2.out.1)
 have f1:Hid(((W.setRow(w.heap.size+1)(cellsOf k0).toArray).setRow(w.heap.size+1+1)(cellsOf k1).toArray).heap[w.heap.size+1+1]? =some(.cells(cellsOf k1).toArray 23(0,0))):=setRow_heap _ _ _ _ _ _((setRow_other _ _ _ _(by omega)).trans b2.out.2.1)
 have f2:Hid(Ext w((W.setRow(w.heap.size+1)(cellsOf k0).toArray).setRow(w.heap.size+1+1)(cellsOf k1).toArray)):=below_setRow(below_setRow b2.out.2.2(by omega)_)(by omega)_
 go_wp2_with fail
 (try simp only [Exit.inBlock,Exit.then])
 refine bodyPost_ret(v:= .tuple #[.agg(cellsOf k0).toArray, .agg(cellsOf k1).toArray])?_ rfl ?_
 ·exact jaJ rfl _ _(w.heap.size+1)(w.heap.size+1+1)23 23(cellsOf k0).toArray(cellsOf k1).toArray(0,0)(0,0)_ rfl rfl f0.out f1.out rfl rfl(by rw [S0];rfl)(by rw [S1];rfl)
 ·exact⟨rfl,f2.out⟩
def Kl(w:World)(A:Option Addr)(n:Nat)(l:List(List UInt8)):Prop:=
 l.length=n∧(∀x∈l,x.length=32)∧(0 < n→∃b,A=some⟨b,0,none⟩∧b < w.heap.size∧∀j,j < n→∀i v,(cellsOf(l.getD j []))[i]? =some v→w.cell?⟨b,32 *j+i,none⟩=some v)
theorem Kl.ext{w w':World}{A:Option Addr}{n:Nat}{l:List(List UInt8)}(h:Kl w A n l)(e:Ext w w'):Kl w' A n l:=
 ⟨h.1,h.2.1,fun h0=>by
  obtain⟨b,q,hb,hc⟩ :=h.2.2 h0
  exact⟨b,q,Nat.lt_of_lt_of_le hb e.size,fun j hj i v hv=>(e.cell hb).trans(hc j hj i v hv)⟩⟩
def OwnK(B:Nat)(w:World)(A:Option Addr)(n c:Nat)(l:List(List UInt8)):Prop:=w.ownsRow B 23 32(.slice A n c)n(cellsOf l.flatten)∧(∀x∈l,x.length=32)∧l.length=n
theorem OwnK.nil(B:Nat)(w:World):OwnK B w none 0 0 []:=⟨World.ownsRow_nil w B _ 32,fun x hx=>by simp at hx,rfl⟩
theorem OwnK.kept{B:Nat}{w w':World}{A:Option Addr}{n c:Nat}{l:List(List UInt8)}{row:Option Nat}(h:OwnK B w A n c l)(hg:w.grownBy w' row)(hne:Value.ownBlock(.slice A n c)=none∨Value.ownBlock(.slice A n c)≠row):OwnK B w' A n c l:=⟨World.ownsRow.kept h.1 hg hne,h.2⟩
theorem OwnK.ge{B:Nat}{w:World}{A:Option Addr}{n c:Nat}{l:List(List UInt8)}(h:OwnK B w A n c l):∀g,Value.ownBlock(.slice A n c)=some g→B≤g:=fun g hg=>(World.ownsRow.lt h.1 g hg).1
theorem OwnK.ext{B:Nat}{w w':World}{A:Option Addr}{n c:Nat}{l:List(List UInt8)}(h:OwnK B w A n c l)(e:Ext w w'):OwnK B w' A n c l:=by
 refine⟨⟨h.1.1,?_⟩,h.2⟩
 rcases h.1.2 with h | ⟨g,cap,cur,hv,hb,hg,r⟩
 ·exact .inl h
 ·exact .inr⟨g,cap,cur,hv,hb,(e.block g(jh hg)).trans hg,r⟩
theorem OwnK.cap{B:Nat}{w:World}{A:Option Addr}{n c:Nat}{l:List(List UInt8)}(h:OwnK B w A n c l):n≤c∧c≤9223372036854775807:=by
 rcases h.1.2 with⟨hv,hn⟩ | ⟨g,cap,cur,hv,hb,hg,hnc,hcm,_⟩
 ·injection hv with _ _ q
  omega
 ·injection hv with _ _ q
  subst q
  exact⟨hnc,hcm⟩
theorem OwnK.kl{B:Nat}{w:World}{A:Option Addr}{n c:Nat}{l:List(List UInt8)}(h:OwnK B w A n c l):Kl w A n l:=by
 refine⟨h.2.2,h.2.1,fun h0=> ?_⟩
 rcases h.1.2 with⟨hv,hn⟩ | ⟨g,cap,cur,hv,hb,hg,hnc,hcm,hcs,htk⟩
 ·omega
 ·injection hv with h1 h2 h3
  subst h1
  refine⟨g,rfl,jh hg,fun j hj i v hv=> ?_⟩
  have hlen:(l.getD j []).length=32:=h.2.1 _(by have:=h.2.2;simp [List.getD,show j < l.length by omega])
  have hi:i < 32:=by
   have:=(List.getElem?_eq_some_iff.1 hv).1
   rw [ja] at this
   omega
  rw [jZ(by omega)] at hv
  have hf:=jai h.2.1
  have hc:=jZ(xs:=l.flatten)(j:=32 *j+i)(by have:=h.2.2;omega)
  rw [jfE h.2.1(by have:=h.2.2;omega)hi,hv,← htk,List.getElem?_take,if_pos(by omega),Array.getElem?_toList] at hc
  rw [cell_of_row w g _ _ _ _ hg]
  exact hc
theorem OwnK.fresh{B:Nat}{w:World}{A:Option Addr}{n c:Nat}{l:List(List UInt8)}(h:OwnK B w A n c l){b:Nat}(hA:A=some⟨b,0,none⟩):B≤b:=by
 rcases h.1.2 with⟨hv,hn⟩ | ⟨g,cap,cur,hv,hb,_⟩
 ·injection hv with h1 h2 h3
  rw [hA] at h1
  cases h1
 ·injection hv with h1 h2 h3
  rw [hA] at h1
  injection h1 with h1
  injection h1 with h1
  omega
theorem Z2{w:World}{ops:Array Oper}{rest:List Oper}{o:Oper}{a:Act}{Q:Exit→Act→World→Prop}(hgd:o.guard=none){B:Nat}{A:Option Addr}{n c g:Nat}{l:List(List UInt8)}{k:List UInt8}{fr:Nat×Nat}{s x:Operand}
  (ho:o.op= .call{callee:= .builtin .append,args:= #[s,x],argTypes:= #[209,209]})(hs:a.eval s= .slice A n c)(hx:a.eval x= .slice(some⟨g,0,none⟩)1 1)
  (h:OwnK B w A n c l)(hg:w.heap[g]? =some(.cells(cellsOf k).toArray 23 fr))(hk:k.length=32)(hm:n≤1000)(hB:B≤w.heap.size)
  (hK:∀A'' c'' w',OwnK B w' A''(n+1)c''(l ++ [k])→w.grownBy w'(Value.ownBlock(.slice A n c))→Below B w w'→wpList Tryz.prog ops Q rest(a.put o.dst(.slice A''(n+1)c''))w'):wpList Tryz.prog ops Q(o :: rest)a w:=by
 refine wpList_plain hgd fun K hK'=> ?_
 obtain⟨i,hi,hz0,hz1,hz2⟩ :=info_parts jfH
 obtain⟨v',w',hr,hown,hgr,_,_⟩ :=run_append_own_at(P:=Tryz.prog)w B 209 o.type 23 i(.agg jr)32 32 Tryz.underlying209 hi hz0 hz1 hz2(show(Value.agg jr).cells.size=32 from zeros32_size)(by decide)(.slice A n c)n(cellsOf l.flatten)h.1⟨g,0,none⟩1 1(cellsOf k)(by rw [ja,hk])(fun j u hu=>by
  have hadd:(⟨g,0,none⟩:Addr).add j=⟨g,j,none⟩ :=by unfold Addr.add;split <;> simp_all
  rw [hadd,cell_of_row w g j _ _ _ hg]
  simpa using hu)(fun u hu=>by
  obtain⟨_,_,rfl⟩ :=List.mem_map.1 hu
  rfl)(by unfold maxLen;omega)(by omega)hB
 have e:cellsOf l.flatten ++ cellsOf k=cellsOf(l ++ [k]).flatten:=by
  rw [qp,qp,qp,List.flatten_append]
  simp
 rw [e] at hown
 have hl1:∀x∈l ++ [k],x.length=32:=fun x hx=>by
  rcases List.mem_append.1 hx with q |q
  ·exact h.2.1 x q
  ·simp at q;subst q;exact hk
 have hl2:(l ++ [k]).length=n+1:=by rw [List.length_append,h.2.2];rfl
 have hform:∃A'' c'',v'= .slice A''(n+1)c'':=by
  rcases hown.2 with⟨hv,hn⟩ | ⟨g',cap,cur,hv,_⟩
  ·omega
  ·exact⟨_,_,hv⟩
 obtain⟨A'',c'',rfl⟩ :=hform
 unfold Oper.wp execOp
 simp only [ho,resolve,invoke,builtin,Sem.run_bind,Sem.run_pure,Result.andThen_ok,List.map_toArray,List.map_cons,List.map_nil,hs,hx,hr]
 exact hK' _ _(hK A'' c'' w'⟨hown,hl1,hl2⟩hgr((Below.refl B w).grown hgr hB h.ge))
theorem ja8{w:World}{ops:Array Oper}{rest:List Oper}{o:Oper}{a:Act}{Q:Exit→Act→World→Prop}(hgd:o.guard=none){k:List UInt8}{x:Operand}{g:Nat}(hk:k.length=32)(hg:w.heap.size=g)
  (ho:o.op= .buildSlice 209 1 #[(0,x)])(hx:a.eval x= .agg(cellsOf k).toArray)
  (h:wpList Tryz.prog ops Q rest(a.put o.dst(.slice(some⟨g,0,none⟩)1 1))(w.alloc(.cells(cellsOf k).toArray 23))):wpList Tryz.prog ops Q(o :: rest)a w:=by
 subst hg
 obtain⟨i,hi,hz0,hz1,hz2⟩ :=info_parts jfH
 refine wpList_buildSlice hgd 209 23 1 _ ho(cellsOf k).toArray i _ Tryz.underlying209 hi hz0(by rw [hz1];omega)(by rw [hz1];omega)?_ h
 rw [hz1]
 simp only [List.map_toArray,List.map_cons,List.map_nil,hx]
 have:=Great.fill_whole(s:=32)(by omega) [Value.agg(cellsOf k).toArray]((Array.range(1 *32)).map((Value.agg jr).cells[·%(Value.agg jr).cells.size]!))(fun v hv=>by
  simp only [List.mem_singleton] at hv
  subst hv
  show(cellsOf k).toArray.size=32
  simp [ja,hk])(by simp)
 simp only [List.zipIdx_cons,List.zipIdx_nil,List.map_cons,List.map_nil,List.flatMap_cons,List.flatMap_nil,List.append_nil] at this
 exact this
def Yg(ks:List UInt8):Nat→List UInt8
 |0=>ks
 |i+1=>jM(Yg ks i)vG
def Y2(ks:List UInt8)(m:Nat):List(List UInt8):=(List.range m).map fun i=>jM(Yg ks i)qd
theorem Jn{ks:List UInt8}(h:ks.length=32):∀i,(Yg ks i).length=32
 |0=>h
 |i+1=>jR _ _
theorem jgr(ks:List UInt8)(m:Nat):Y2 ks(m+1)=Y2 ks m ++ [jM(Yg ks m)qd]:=by simp [Y2,List.range_succ]
def YQ(l:List(List UInt8))(last:List UInt8)(er:Int)(w:World)(e:Ending)(w':World):Prop:=
 ∃A c,e= .returned(.tuple #[.slice A l.length c, .agg(cellsOf last).toArray, .int .i64 er])∧Kl w' A l.length l∧l.length≤c∧c≤9223372036854775807∧Ext w w'∧∀b,A=some⟨b,0,none⟩→w.heap.size≤b
set_option maxRecDepth 100000 in
set_option maxHeartbeats 1000000 in
theorem jiK{ks:List UInt8}{m:Int}{w:World}(h:m < 0∨8 < m):
  Calls Tryz.prog 120 #[.agg(cellsOf ks).toArray, .int .i64 m] w(YQ [](List.replicate 32 0)6 w):=by
 have hal:=j2
 have hb:=zI
 have hs:=j7
 have ho:=JI
 have hc:=hd jU
 have hz:Hid(((w.alloc(Obj.cells(cellsOf ks).toArray 23)).alloc(Obj.cells jr 23)).heap[w.heap.size+1]? =some(Obj.cells jr 23)):=jK _ _ _
 have he:Hid(∀C,Ext w(((w.alloc(Obj.cells(cellsOf ks).toArray 23)).alloc(Obj.cells zeros32 23)).setRow(w.heap.size+1)C)):=fun C=>below_setRow(((Ext.refl w).alloc _).alloc _)(Nat.le_succ _)_
 unfold YQ
 rw [hc.out]
 clear hc
 generalize jr=Z at *
 by_cases q1:m < 0
 ·have q1':decide(m < 0)=true:=decide_eq_true q1
  clear h
  go_enter Tryz.func120,Tryz.ntmps120
  go_wp2_with fail
  go_step3
  go_wp2_with(first
   |refine jm rfl _ _ rfl Z hb ?_
   |refine wpList_store_row rfl 23 _ _ rfl(w.heap.size+1)Z rfl rfl 23 _(by with_reducible exact hz.out)(by rw [hs];rfl)rfl ho ?_)
  (try simp only [Exit.inBlock,Exit.then])
  rw [Exit.noGoto_ret]
  refine bodyPost_ret(v:= .tuple #[.slice none 0 0, .agg Z, .int .i64 6])?_ rfl ?_
  ·exact results_trt rfl _ _(w.heap.size+1)23 Z(0,0)_ _ _ rfl rfl rfl(setRow_heap _ _ _ _ _ _ hz.out)rfl rfl(by rw [hs];rfl)
  ·exact⟨none,0,rfl,⟨rfl,fun x hx=>by simp at hx,fun h=>absurd h(by simp)⟩,by simp,by omega,he.out _,fun b h=>by cases h⟩
 ·have q1':decide(m < 0)=false:=decide_eq_false q1
  have q2':decide(8 < m)=true:=decide_eq_true(by omega)
  clear h
  go_enter Tryz.func120,Tryz.ntmps120
  go_wp2_with fail
  go_step3
  go_wp2_with(first
   |refine jm rfl _ _ rfl Z hb ?_
   |refine wpList_store_row rfl 23 _ _ rfl(w.heap.size+1)Z rfl rfl 23 _(by with_reducible exact hz.out)(by rw [hs];rfl)rfl ho ?_)
  (try simp only [Exit.inBlock,Exit.then])
  rw [Exit.noGoto_ret]
  refine bodyPost_ret(v:= .tuple #[.slice none 0 0, .agg Z, .int .i64 6])?_ rfl ?_
  ·exact results_trt rfl _ _(w.heap.size+1)23 Z(0,0)_ _ _ rfl rfl rfl(setRow_heap _ _ _ _ _ _ hz.out)rfl rfl(by rw [hs];rfl)
  ·exact⟨none,0,rfl,⟨rfl,fun x hx=>by simp at hx,fun h=>absurd h(by simp)⟩,by simp,by omega,he.out _,fun b h=>by cases h⟩
set_option maxRecDepth 100000 in
set_option maxHeartbeats 4000000 in
theorem jfj{ks:List UInt8}{m:Nat}{w:World}(hk:ks.length=32)(hm:m≤8){tg:TypeId×Nat×Nat}(hG:Gl w tg):
  Calls Tryz.prog 120 #[.agg(cellsOf ks).toArray, .int .i64(m:Int)] w(YQ(Y2 ks m)(Yg ks m)0 w):=by
 have q1':decide((m:Int) < 0)=false:=decide_eq_false(by omega)
 have q2':decide((8:Int) < (m:Int))=false:=decide_eq_false(by omega)
 have HG:=hd(fun W(e:Ext w W) =>Gl.kept hG(w':=W)e hG.lt)
 clear hG
 have hal:=j2
 have hz0:=j7
 have LM:(Y2 ks m).length=m:=by simp [Y2]
 generalize jr=Z at *
 have B0:Hid(Ky((w.alloc(Obj.cells(cellsOf ks).toArray 23)).alloc(Obj.cells Z 23))w.heap.size ks∧((w.alloc(Obj.cells(cellsOf ks).toArray 23)).alloc(Obj.cells Z 23)).heap[w.heap.size+1]? =some(.cells Z 23(0,0))∧Ext w((w.alloc(Obj.cells(cellsOf ks).toArray 23)).alloc(Obj.cells Z 23))):=
  ⟨⟨jQ _ _ _,hk⟩,jK _ _ _,((Ext.refl w).alloc _).alloc _⟩
 go_enter Tryz.func120,Tryz.ntmps120
 go_wp2_with fail
 go_step3
 go_wp2_with fail
 go_step3
 go_wp2_with fail
 go_loopw [7,18](fun mv v wr=>∃(k:Nat)(D:Option Addr)(cc:Nat),k≤m∧v= .int .i64(k:Int)∧mv= .slice D k cc∧OwnK(w.heap.size+1+1)wr D k cc(Y2 ks k)∧Ky wr w.heap.size(Yg ks k)∧wr.heap[w.heap.size+1]? =some(.cells Z 23(0,0))∧Ext w wr)(fun _ v _=>8 - (intOf v).toNat)
 case atStart=>exact⟨0,none,0,Nat.zero_le _,rfl,rfl,OwnK.nil _ _,B0.out.1,B0.out.2.1,B0.out.2.2⟩
 case round =>
  obtain⟨k,D,cc,hkm,rfl,rfl,own,ky,rr,he⟩ :=hrel
  clear B0
  have CS:(cellsOf(Yg ks k)).toArray.size=32:=by simp [ja,Jn hk]
  by_cases hlt:k < m
  ·have e0:((k:Int) ==(m:Int))=false:=by simp;omega
   have e1:(k == m)=false:=by simp;omega
   have k8:(k:Int) < 8:=by omega
   have zr:=jh rr
   have STEP:=hd(jaU(chAt_len hk k)(HG.out _ he))
   have M0:=jR(Yg ks k)qd
   have M1:=jR(Yg ks k)vG
   have MS:Hid(Y2 ks(k+1)=Y2 ks k ++ [jM(Yg ks k)qd]):=jgr ks k
   have CH:Hid(Yg ks(k+1)=jM(chAt ks k)vG):=rfl
   generalize keyL(Yg ks k)qd=k0 at *
   generalize keyL(Yg ks k)vG=k1 at *
   generalize chAt ks k=ck at *
   have S0:(cellsOf k0).toArray.size=32:=by simp [ja,M0]
   have S1:(cellsOf k1).toArray.size=32:=by simp [ja,M1]
   have O0:=ji k0
   have O1:=ji k1
   replace own:=hd own
   replace ky:=hd ky
   replace rr:=hd rr
   replace he:=hd he
   replace LM:=hd LM
   go_wp2_with(refine wpList_load_row rfl 23 _ rfl w.heap.size rfl 23(cellsOf ck).toArray(0,0)_ ky.out.1 rfl rfl(by rw [CS];rfl)?_;go_frame)
   refine STEP.out.mono ?_
   rintro e w1⟨rfl,x1⟩
   have a1:Hid(((w1.alloc(Obj.cells Z 23)).alloc(Obj.cells Z 23)).heap[w1.heap.size]? =some(.cells Z 23(0,0))):=jQ _ _ _
   have a2:Hid((((w1.alloc(Obj.cells Z 23)).alloc(Obj.cells Z 23)).setRow w1.heap.size(cellsOf k0).toArray).heap[w1.heap.size+1]? =some(.cells Z 23(0,0))):=(setRow_other _ _ _ _(by omega)).trans(jK _ _ _)
   clear STEP
   go_upto_region 9 with(first
    |(refine wpList_store_row rfl 23 _ _ rfl w1.heap.size(cellsOf k0).toArray rfl rfl 23 Z a1.out(by rw [S0];rfl)(by rw [S0];exact hz0)O0 ?_;go_frame)
    |(refine wpList_store_row rfl 23 _ _ rfl(w1.heap.size+1)(cellsOf k1).toArray rfl rfl 23 Z a2.out(by rw [S1];rfl)(by rw [S1];exact hz0)O1 ?_;go_frame))
   obtain⟨g,hg⟩:∃g,g=w1.heap.size:=⟨_,rfl⟩
   have zg:wr.heap.size≤g:=by rw [hg];exact x1.size
   refine jg(fun W=>Ext wr W∧Ky W g k0∧Ky W(g+1)k1)⟨x1.trans(below_setRow(below_setRow(((Ext.refl w1).alloc _).alloc _)(Nat.le_refl _)_)(Nat.le_succ _)_),⟨by rw [hg];exact(setRow_other _ _ _ _(by omega)).trans(setRow_heap _ _ _ _ _ _ a1.out),M0⟩,⟨by rw [hg];exact setRow_heap _ _ _ _ _ _ a2.out,M1⟩⟩?_
   rw [← hg]
   clear hg a1 a2 x1
   rintro w2⟨x2,y0,y1⟩
   have b2:Hid(OwnK(w.heap.size+1+1)w2 D k cc(Y2 ks k)):=own.out.ext x2
   have OB:Hid(∀q,Value.ownBlock(.slice D k cc)=some q→q < wr.heap.size):=fun q hq=>(World.ownsRow.lt own.out.1 q hq).2
   have KB:Hid(Ky w2 w.heap.size ck):=ky.out.ext x2
   have RB:Hid(w2.heap[w.heap.size+1]? =some(.cells Z 23(0,0))):=(x2.block _ zr).trans rr.out
   replace y0:=hd y0
   replace y1:=hd y1
   have zz:=Nat.le_trans(show w.heap.size+1+1≤wr.heap.size from zr)x2.size
   replace x2:=hd x2
   clear own
   have ys:=jh y1.out.1
   go_upto_region 10 with(first
    |(refine wpList_load_row rfl 23 _ rfl g rfl 23(cellsOf k0).toArray(0,0)_ y0.out.1 rfl rfl(by rw [S0];rfl)?_;go_frame)
    |(refine ja8 rfl(g:=w2.heap.size)(k:=k0)(x:= .tmp 28)M0 rfl rfl rfl ?_;go_frame)
    |(at_builtin;(with_reducible refine Z2 rfl(g:=w2.heap.size)(k:=k0)(fr:=(0,0))(B:=w.heap.size+1+1)(s:= .tmp 27)(x:= .tmp 29)rfl rfl rfl(b2.out.ext((Ext.refl _).alloc _))(heap_alloc_new _ _)M0(by omega)(Nat.le_trans zz(by simp))?_);intro A5 c5 w5 o5 g5 b5;replace o5:=hd o5;replace b5:=hd b5;replace g5:=hd g5;go_frame))
   have K5:Hid(Ky w5(g+1)k1):=⟨(g5.out.block(g+1)(by simp;omega)(fun q=>by have:=OB.out(g+1)q.symm;omega)).trans((y1.out.ext((Ext.refl _).alloc _)).1),M1⟩
   have C5:Hid(Ky w5 w.heap.size ck):=⟨(b5.out.block _(by omega)).trans(KB.out.ext((Ext.refl _).alloc _)).1,KB.out.2⟩
   have R5:Hid(w5.heap[w.heap.size+1]? =some(.cells Z 23(0,0))):=(b5.out.block _(by omega)).trans((Below.heap_alloc _ _ _(by omega)).trans RB.out)
   have E5:Hid(Ext w w5):=Below.trans((he.out.trans x2).alloc _)(b5.out.mono(by omega))
   clear y0 y1 b2 b5 g5 KB RB he OB
   go_wp2_with(first
    |(refine wpList_load_row rfl 23 _ rfl(g+1)rfl 23(cellsOf k1).toArray(0,0)_ K5.out.1 rfl rfl(by rw [S1];rfl)?_;go_frame)
    |(refine wpList_store_row rfl 23 _ _ rfl w.heap.size(cellsOf k1).toArray rfl rfl 23 _ C5.out.1(by rw [S1];rfl)(by rw [S1,CS])O1 ?_;go_frame))
   refine⟨⟨k+1,A5,c5,by omega,by go_num,rfl,?_,?_,?_,?_⟩,by simp [intOf];omega⟩
   ·rw [MS.out]
    exact o5.out.kept⟨rfl,rfl,rfl,by simp,fun i hi hne=>setRow_other _ _ _ _(fun q=>hne(by rw [q]))⟩(.inr(fun q=>by have:=o5.out.ge _ q;omega))
   ·rw [CH.out]
    exact C5.out.put M1
   ·exact(setRow_other _ _ _ _(by omega)).trans R5.out
   ·exact below_setRow E5.out(Nat.le_refl _)_
  ·have hkk:k=m:=by omega
   subst hkk
   have O:Hid(OwnK(w.heap.size+1+1)wr D k cc(Y2 ks k)):=own
   have Kc:=hd ky
   have Rc:=hd rr
   have Ec:=hd he
   have LMc:=hd LM
   have zr:=jh rr
   clear own ky rr he LM HG hkm hm hlt
   have M1:(Yg ks k).length=32:=Jn hk k
   generalize chAt ks k=ck at *
   have S1:=CS
   have O1:=ji ck
   have FIN:Hid(∀C:Array Value,YQ(Y2 ks k)ck 0 w(.returned(.tuple #[.slice D k cc, .agg(cellsOf ck).toArray, .int .i64 0]))(wr.drew.setRow(w.heap.size+1)C)):=fun C =>
    ⟨D,cc,by rw [LMc.out],by
     rw [LMc.out]
     exact OwnK.kl((O.out.ext(Ext.refl _).drew).kept⟨rfl,rfl,rfl,by simp,fun i hi hne=>setRow_other _ _ _ _(fun q=>hne(by rw [q]))⟩(.inr(fun q=>by have:=O.out.ge _ q;omega))),by rw [LMc.out];exact O.out.cap.1,O.out.cap.2,below_setRow Ec.out.drew(Nat.le_succ _)_,fun b hb=>by have:=O.out.fresh hb;omega⟩
   generalize RetWalk(Y2 ks k)ck 0 w=RW at *
   have KEEPC:Hid(∀w',wr.grownBy w'(some(w.heap.size+1))→Ky w' w.heap.size ck):=fun w' e=>⟨(e.block w.heap.size(by omega)(fun q=>by injection q with q;omega)).trans Kc.out.1,M1⟩
   by_cases h8:k < 8
   ·have e0:((k:Int) ==(k:Int))=true:=by simp
    have i8:(k:Int) < 8:=by omega
    clear h8
    go_wp2_with fail
    refine qgW((w.heap.size+1)) [0,1,2,3,4] [3] ?_
    repeat((first |refine qR0 ?_ |refine qS ?_);go_frame)
    refine qV rfl(fun w'=>w'.heap[w.heap.size]? =some(.cells(cellsOf ck).toArray 23(0,0)))(fun w' e=>(KEEPC.out w'(jj(jV(Ext.refl _).drew _)e)).1)(.agg(cellsOf ck).toArray)(fun w' hF=>jd rfl rfl hF rfl rfl(by rw [S1];rfl))?_
    go_frame
    repeat((first |refine qR0 ?_ |refine qS ?_);go_frame)
    refine qD fun K1 hK1=> ?_
    refine wp_store_row _ _ _ rfl(w.heap.size+1)(cellsOf ck).toArray rfl rfl 23 _ Rc.out(by rw [S1];rfl)(by rw [S1,hz0])O1 ?_
    refine hK1.out _ _(jeu _ _ _)?_
    clear hK1 K1
    try go_frame
    repeat((first |refine qR0 ?_ |refine qS ?_);go_frame)
    refine jp ?_
    go_wp2_with fail
    (try simp only [Exit.inBlock,Exit.then])
    rw [Exit.noGoto_ret]
    refine bodyPost_ret(v:= .tuple #[.slice D k cc, .agg(cellsOf ck).toArray, .int .i64 0])?_ rfl(FIN.out _)
    exact Yx rfl _ _(w.heap.size+1)23(cellsOf ck).toArray(0,0)_ _ _ rfl rfl rfl(setRow_heap _ _ _ _ _ _ Rc.out)rfl rfl(by rw [S1];rfl)
   ·have i8: ¬((k:Int) < 8):=by omega
    clear h8
    go_wp2_with fail
    refine qgW((w.heap.size+1)) [0,1,2,3,4] [3] ?_
    repeat((first |refine qR0 ?_ |refine qS ?_);go_frame)
    refine qV rfl(fun w'=>w'.heap[w.heap.size]? =some(.cells(cellsOf ck).toArray 23(0,0)))(fun w' e=>(KEEPC.out w'(jj(jV(Ext.refl _).drew _)e)).1)(.agg(cellsOf ck).toArray)(fun w' hF=>jd rfl rfl hF rfl rfl(by rw [S1];rfl))?_
    go_frame
    repeat((first |refine qR0 ?_ |refine qS ?_);go_frame)
    refine qD fun K1 hK1=> ?_
    refine wp_store_row _ _ _ rfl(w.heap.size+1)(cellsOf ck).toArray rfl rfl 23 _ Rc.out(by rw [S1];rfl)(by rw [S1,hz0])O1 ?_
    refine hK1.out _ _(jeu _ _ _)?_
    clear hK1 K1
    try go_frame
    repeat((first |refine qR0 ?_ |refine qS ?_);go_frame)
    refine jp ?_
    go_wp2_with fail
    (try simp only [Exit.inBlock,Exit.then])
    rw [Exit.noGoto_ret]
    refine bodyPost_ret(v:= .tuple #[.slice D k cc, .agg(cellsOf ck).toArray, .int .i64 0])?_ rfl(FIN.out _)
    exact Yx rfl _ _(w.heap.size+1)23(cellsOf ck).toArray(0,0)_ _ _ rfl rfl rfl(setRow_heap _ _ _ _ _ _ Rc.out)rfl rfl(by rw [S1];rfl)
def yF:List UInt8:= [114,111,111,116]
theorem jhN(W:World):Ss(W.alloc(.cells #[.string⟨#[114,111,111,116]⟩, .string⟨#[99,104,97,105,110]⟩] 9))(some⟨W.heap.size,0,none⟩)2 [rootS,vG]:=jcI rfl
set_option maxRecDepth 100000 in
set_option maxHeartbeats 2000000 in
theorem jaL{rs cs:List UInt8}{w:World}(hr:rs.length=32)(hc:cs.length=32){tg:TypeId×Nat×Nat}(hG:Gl w tg):
  Calls Tryz.prog 77 #[.agg(cellsOf rs).toArray, .agg(cellsOf cs).toArray] w(Qk(jM(jC rs cs)yF)(jM(jC rs cs)vG)w):=by
 have ML:=qq rs cs
 have DRAW:Hid(∀(W:World)(g:Nat),Ext w W→Ky W g cs→Calls Tryz.prog 114 #[.agg(cellsOf rs).toArray, .slice(some⟨g,0,none⟩)32 32] W fun e w'=>e= .returned(.agg(cellsOf(jC rs cs)).toArray)∧Ext W w'):=fun W g e k=>Qp hr k.bs(hG.kept e hG.lt)
 have KEYS:Hid(∀(W:World)(g:Nat),Ext w W→Ss W(some⟨g,0,none⟩)2 [yF,vG]→Calls Tryz.prog 113 #[.agg(cellsOf(jC rs cs)).toArray, .slice(some⟨g,0,none⟩)2 2] W(jfq [jM(jC rs cs)yF,jM(jC rs cs)vG] W)):=fun W g e s =>
  Qt(ks:=jC rs cs)(l:= [yF,vG])ML s(by omega)(fun j=>by
   match j with
   |0=>show yF.length≤_;decide
   |1=>show vG.length≤_;decide
   |j+2=>simp [List.getD])(hG.kept e hG.lt)
 clear hG
 have K0:=jR(jC rs cs)yF
 have K1:=jR(jC rs cs)vG
 generalize jM(jC rs cs)yF=k0 at *
 generalize jM(jC rs cs)vG=k1 at *
 generalize(cellsOf(jC rs cs)).toArray=D at *
 have RS:(cellsOf rs).toArray.size=32:=by simp [ja,hr]
 have C0:(cellsOf k0).length=32:=by rw [ja,K0]
 have C1:(cellsOf k1).length=32:=by rw [ja,K1]
 have S0:(cellsOf k0).toArray.size=32:=C0
 have S1:(cellsOf k1).toArray.size=32:=C1
 have O0:=ji k0
 have O1:=ji k1
 have hal:=j2
 have hz0:=j7
 generalize jr=Z at *
 have B0:Hid(Ky((((w.alloc(Obj.cells(cellsOf rs).toArray 23)).alloc(Obj.cells(cellsOf cs).toArray 23)).alloc(Obj.cells Z 23)).alloc(Obj.cells Z 23))w.heap.size rs∧Ky((((w.alloc(Obj.cells(cellsOf rs).toArray 23)).alloc(Obj.cells(cellsOf cs).toArray 23)).alloc(Obj.cells Z 23)).alloc(Obj.cells Z 23))(w.heap.size+1)cs∧((((w.alloc(Obj.cells(cellsOf rs).toArray 23)).alloc(Obj.cells(cellsOf cs).toArray 23)).alloc(Obj.cells Z 23)).alloc(Obj.cells Z 23)).heap[w.heap.size+1+1]? =some(.cells Z 23(0,0))∧((((w.alloc(Obj.cells(cellsOf rs).toArray 23)).alloc(Obj.cells(cellsOf cs).toArray 23)).alloc(Obj.cells Z 23)).alloc(Obj.cells Z 23)).heap[w.heap.size+1+1+1]? =some(.cells Z 23(0,0))∧Ext w((((w.alloc(Obj.cells(cellsOf rs).toArray 23)).alloc(Obj.cells(cellsOf cs).toArray 23)).alloc(Obj.cells Z 23)).alloc(Obj.cells Z 23))):=
  ⟨⟨jcU _ _ _ _ _,hr⟩,⟨jcV _ _ _ _ _,hc⟩,jcW _ _ _ _ _,jcX _ _ _ _ _,((((Ext.refl w).alloc _).alloc _).alloc _).alloc _⟩
 go_enter Tryz.func77,Tryz.ntmps77
 go_upto_region 1 with fail
 refine jg(fun W=>Ky W w.heap.size rs∧Ky W(w.heap.size+1)cs∧W.heap[w.heap.size+1+1]? =some(.cells Z 23(0,0))∧W.heap[w.heap.size+1+1+1]? =some(.cells Z 23(0,0))∧Ext w W)B0.out ?_
 clear B0
 rintro w0⟨b0,b1,b2,b3,E0⟩
 have z0:=jh b3
 replace E0:=hd E0
 have B0:Hid(∀w',Ext w0 w'→Ky w' w.heap.size rs∧Ky w'(w.heap.size+1)cs∧w'.heap[w.heap.size+1+1]? =some(.cells Z 23(0,0))∧w'.heap[w.heap.size+1+1+1]? =some(.cells Z 23(0,0))∧Ext w w'):=fun w' e=>⟨b0.ext e,b1.ext e,(e.block _(heap_lt b2)).trans b2,(e.block _(jh b3)).trans b3,E0.out.trans e⟩
 clear b0 b1 b2 b3 E0
 go_wp2_with fail
 go_cut [6](fun s6 wx=>∃g:Nat,s6= .slice(some⟨g,0,none⟩)2 2∧Ext w0 wx∧Kr wx g [k0,k1]∧w0.heap.size≤g)
 case first =>
  refine qgT(R:=Ext)Ext.refl(fun _ _ _=>Ext.trans)(.rd 0(.rd 1(.alt 2(.alt 3(.alt 4(.rd 5 .nil) .stop) .stop)(.alt 3(.alt 2(.alt 4(.rd 5 .nil) .stop) .stop) .stop))))6 ?_
  refine qtV rfl(fun w'=>w'.heap[w.heap.size]? =some(.cells(cellsOf rs).toArray 23(0,0)))(fun w' e=>(B0.out w'((Ext.refl _).drew.trans e)).1.1)(.agg(cellsOf rs).toArray)(fun w' hF=>jd rfl rfl hF rfl rfl(by rw [RS];rfl))?_
  go_frame
  repeat((first |refine vM ?_ |refine qtS ?_);go_frame)
  have SE:Hid(Ext w0 w0.drew):=(Ext.refl w0).drew
  generalize w0.drew=WC at *
  repeat'(first
   |exact yC
   |(refine qc(i:=2)_ rfl ?_ ?_(fun K1 hK1=> ?_)
     (·rfl)
     rotate_left
     go_simp
     refine(DRAW.out _ _(B0.out _ SE.out).2.2.2.2(B0.out _ SE.out).2.1).mono ?_
     rintro e0 WC⟨rfl,e⟩
     refine hK1.out _ _ e ?_
     clear hK1 K1
     (try replace hS:=hd(hS.out.ext e))
     replace SE:=hd(SE.out.trans e)
     clear e
     (try go_frame)
     repeat((first |refine vM ?_ |refine qtS ?_);go_frame)
     skip)
   |(refine qc(i:=3)_ rfl ?_ ?_(fun K1 hK1=> ?_)
     (·rfl)
     rotate_left
     go_simp
     have hS:=hd(jhN WC)
     have e:=(Ext.refl WC).alloc(Obj.cells #[.string⟨#[114,111,111,116]⟩, .string⟨#[99,104,97,105,110]⟩] 9)
     obtain⟨gS,hgS⟩:∃g,g=WC.heap.size:=⟨_,rfl⟩
     rw [← hgS] at hS ⊢
     refine hK1.out _ _ e ?_
     clear hK1 K1
     replace hgS:=hd hgS
     replace SE:=hd(SE.out.trans e)
     clear e
     generalize WC.alloc(Obj.cells #[.string⟨#[114,111,111,116]⟩, .string⟨#[99,104,97,105,110]⟩] 9)=WC at *
     (try go_frame)
     repeat((first |refine vM ?_ |refine qtS ?_);go_frame)
     skip)
   |(refine qc(i:=4)_ rfl ?_ ?_(fun K1 hK1=> ?_)
     (·rfl)
     rotate_left
     go_simp
     have hz:=SE.out.size
     refine(KEYS.out _ _(B0.out _ SE.out).2.2.2.2 hS.out).mono ?_
     rintro e0 WC⟨g,rfl,hg,kr,e⟩
     refine hK1.out _ _ e ?_
     clear hK1 K1 hS
     replace hg:=hd(Nat.le_trans hz hg)
     replace SE:=hd(SE.out.trans e)
     replace kr:=hd kr
     clear e hz
     (try go_frame)
     repeat((first |refine vM ?_ |refine qtS ?_);go_frame)
     refine yB ?_
     go_wp2_with fail
     go_meet
     exact⟨g,rfl,SE.out,kr.out,hg.out⟩)
   )
 case rest =>
  obtain⟨g,rfl,E1,kr,hg⟩ :=hcut
  have b1:Hid(wc.heap[w.heap.size+1+1]? =some(.cells Z 23(0,0))∧wc.heap[w.heap.size+1+1+1]? =some(.cells Z 23(0,0))∧Ext w wc):=(B0.out _ E1).2.2
  have zg:w.heap.size+1+1+1 < g:=by omega
  clear DRAW KEYS E1 hg B0
  have R0:Hid(∀w',Two(w.heap.size+1+1)(w.heap.size+1+1+1)wc w'→∀i v,(cellsOf k0)[i]? =some v→w'.cell?⟨g,0+i,none⟩=some v):=fun w' e=>Kr.row(l:= [k0,k1])(j:=0)⟨e.block kr.1(by omega)(by omega),kr.2⟩(by simp)
  have R1:Hid(∀w',Two(w.heap.size+1+1)(w.heap.size+1+1+1)wc w'→∀i v,(cellsOf k1)[i]? =some v→w'.cell?⟨g,32+i,none⟩=some v):=fun w' e=>Kr.row(l:= [k0,k1])(j:=1)⟨e.block kr.1(by omega)(by omega),kr.2⟩(by simp)
  clear kr
  go_wp2_with fail
  refine qgR(R:=Two(w.heap.size+1+1)(w.heap.size+1+1+1))(Two.refl _ _)(fun _ _ _=>Two.trans) [0,1,2,3,4,5,6,7] [6,7] ?_
  repeat((first |refine qR0 ?_ |refine qS ?_);go_frame)
  refine qV rfl(fun w'=>∀q_ v,(cellsOf k0)[q_]? =some v→w'.cell?⟨g,0+q_,none⟩=some v)(fun w' e=>R0.out w'((Two.of_ext(Ext.refl _).drew).trans e))(.agg(cellsOf k0).toArray)(fun w' hF=>jy rfl rfl hF rfl rfl(by rw [C0];rfl))?_
  go_frame
  repeat((first |refine qR0 ?_ |refine qS ?_);go_frame)
  refine qV rfl(fun w'=>∀q_ v,(cellsOf k1)[q_]? =some v→w'.cell?⟨g,32+q_,none⟩=some v)(fun w' e=>R1.out w'((Two.of_ext(Ext.refl _).drew).trans e))(.agg(cellsOf k1).toArray)(fun w' hF=>jy rfl rfl hF rfl rfl(by rw [C1];rfl))?_
  go_frame
  have b2:Hid(wc.drew.heap[w.heap.size+1+1]? =some(.cells Z 23(0,0))∧wc.drew.heap[w.heap.size+1+1+1]? =some(.cells Z 23(0,0))∧Ext w wc.drew):=⟨b1.out.1,b1.out.2.1,b1.out.2.2.drew⟩
  generalize wc.drew=W at *
  refine qD fun K hK=> ?_
  refine wp_store_row _ _ _ rfl(w.heap.size+1+1)(cellsOf k0).toArray rfl rfl 23 Z b2.out.1(by rw [S0];rfl)(by rw [S0];exact hz0)O0 ?_
  refine hK.out _ _(Two.row _ _)?_
  clear hK K
  try go_frame
  refine qD fun K hK=> ?_
  refine wp_store_row _ _ _ rfl(w.heap.size+1+1+1)(cellsOf k1).toArray rfl rfl 23 Z((setRow_other _ _ _ _(by omega)).trans b2.out.2.1)(by rw [S1];rfl)(by rw [S1];exact hz0)O1 ?_
  refine hK.out _ _(Two.row' _ _)?_
  clear hK K
  try go_frame
  refine seq_done ?_
  have f0:Hid(((W.setRow(w.heap.size+1+1)(cellsOf k0).toArray).setRow(w.heap.size+1+1+1)(cellsOf k1).toArray).heap[w.heap.size+1+1]? =some(.cells(cellsOf k0).toArray 23(0,0))):=(setRow_other _ _ _ _(by omega)).trans(setRow_heap _ _ _ _ _ _ b2.out.1)
  have f1:Hid(((W.setRow(w.heap.size+1+1)(cellsOf k0).toArray).setRow(w.heap.size+1+1+1)(cellsOf k1).toArray).heap[w.heap.size+1+1+1]? =some(.cells(cellsOf k1).toArray 23(0,0))):=setRow_heap _ _ _ _ _ _((setRow_other _ _ _ _(by omega)).trans b2.out.2.1)
  have f2:Hid(Ext w((W.setRow(w.heap.size+1+1)(cellsOf k0).toArray).setRow(w.heap.size+1+1+1)(cellsOf k1).toArray)):=below_setRow(below_setRow b2.out.2.2(by omega)_)(by omega)_
  go_wp2_with fail
  (try simp only [Exit.inBlock,Exit.then])
  refine bodyPost_ret(v:= .tuple #[.agg(cellsOf k0).toArray, .agg(cellsOf k1).toArray])?_ rfl ?_
  ·exact results_rr rfl _ _(w.heap.size+1+1)(w.heap.size+1+1+1)23 23(cellsOf k0).toArray(cellsOf k1).toArray(0,0)(0,0)_ rfl rfl f0.out f1.out rfl rfl(by rw [S0];rfl)(by rw [S1];rfl)
  ·exact⟨rfl,f2.out⟩
end
section
open Go.ChangeShapes Go.WideShapes Go.ChangeAt Go.RowKit Go.Deep
set_option maxRecDepth 100000
def Jg:List UInt8:= [116,117,114,110]
def Z0:List UInt8:= [116,97,103]
def Qv(ks:List UInt8):List UInt8:=jM ks Jg ++ jM ks Z0 ++ ks
theorem cellsOf_append(xs ys:List UInt8):cellsOf(xs ++ ys)=cellsOf xs ++ cellsOf ys:=by rw [qp,qp,qp,List.map_append]
theorem slrL_len{ks:List UInt8}(hk:ks.length=32):(Qv ks).length=96:=by unfold Qv;simp [jR,hk]
def Z96:Array Value:=(cellsOf(List.replicate 96 0)).toArray
theorem Z96_size:Z96.size=96:=by simp [Z96,ja]
def Z64:Array Value:=(cellsOf(List.replicate 64 0)).toArray
theorem Z64_size:Z64.size=64:=by simp [Z64,ja]
theorem sealer_alloc(w:World):(zeroValue 174).run Tryz.prog w= .ok(.agg Z96)w:=by kernel_rfl
theorem two_built{K L:Array Value}(hK:K.size=32)(hL:L.size=32):Tryz.prog.built 172 [(0, .agg K),(1, .agg L)]=some(K ++ L):=by
 have h:∃pl:Nat→Option(Nat×Nat),pl 0=some(0,32)∧pl 1=some(32,32)∧∀ps,Tryz.prog.built 172 ps=Instr.fill pl Z64 ps:=⟨(#[(0,32),(32,32)][·]?),rfl,rfl,fun ps=>by kernel_rfl⟩
 obtain⟨pl,h0,h1,h2⟩ :=h
 rw [h2,fill_two pl h0 h1 hK hL jg4]
theorem sealer_built{K L:Array Value}(hK:K.size=64)(hL:L.size=32):Tryz.prog.built 174 [(0, .agg K),(1, .agg L)]=some(K ++ L):=by
 have h:∃pl:Nat→Option(Nat×Nat),pl 0=some(0,64)∧pl 1=some(64,32)∧∀ps,Tryz.prog.built 174 ps=Instr.fill pl Z96 ps:=⟨(#[(0,64),(64,32)][·]?),rfl,rfl,fun ps=>by kernel_rfl⟩
 obtain⟨pl,h0,h1,h2⟩ :=h
 rw [h2,fill_two pl h0 h1 hK hL Qx]
set_option maxHeartbeats 2000000 in
theorem sealerOf_calls{ks:List UInt8}{w:World}(hk:ks.length=32){tg:TypeId×Nat×Nat}(hG:Gl w tg):
  Calls Tryz.prog 81 #[.agg(cellsOf ks).toArray] w fun e w'=>e= .returned(.agg(cellsOf(Qv ks)).toArray)∧Ext w w':=by
 have KEYS:Hid(∀(W:World)t,Ext w W→Calls Tryz.prog 113 #[.agg(cellsOf ks).toArray, .slice(some⟨W.heap.size,0,none⟩)2 2](W.alloc(.cells #[.string(vQ Jg), .string(vQ Z0)] t))(jfq [jM ks Jg,jM ks Z0](W.alloc(.cells #[.string(vQ Jg), .string(vQ Z0)] t)))):=fun W t e =>
  Qt(ks:=ks)(l:= [Jg,Z0])hk(str_lit rfl)(by omega)(fun j=>by
   match j with
   |0=>show Jg.length≤_;decide
   |1=>show Z0.length≤_;decide
   |j+2=>simp [List.getD])(hG.kept(e.alloc _)hG.lt)
 have hA:Hid((⟨#[116,117,114,110]⟩:ByteArray)=vQ Jg):=rfl
 have hB:Hid((⟨#[116,97,103]⟩:ByteArray)=strL Z0):=rfl
 generalize vQ Jg=sA at *
 generalize vQ Z0=sB at *
 clear hG
 have SL:=jaP hk
 have hS:Hid(Qv ks=jM ks Jg ++ jM ks Z0 ++ ks):=rfl
 generalize Qv ks=S at *
 have K0:=jR ks Jg
 have K1:=jR ks Z0
 generalize jM ks Jg=k0 at *
 generalize jM ks Z0=k1 at *
 have KS:(cellsOf ks).toArray.size=32:=by simp [ja,hk]
 have SS:(cellsOf S).toArray.size=96:=by simp [ja,SL]
 have OS:=ji S
 have C0:(cellsOf k0).length=32:=by rw [ja,K0]
 have C1:(cellsOf k1).length=32:=by rw [ja,K1]
 have b1:Hid(Tryz.prog.built 172 [(0, .agg(cellsOf k0).toArray),(1, .agg(cellsOf k1).toArray)]=some(cellsOf(k0 ++ k1)).toArray):=by
  rw [y6,← List.append_toArray]
  exact two_built C0 C1
 have C01:(cellsOf(k0 ++ k1)).length=64:=by rw [ja,List.length_append,K0,K1]
 have b2:Hid(Tryz.prog.built 174 [(0, .agg(cellsOf(k0 ++ k1)).toArray),(1, .agg(cellsOf ks).toArray)]=some(cellsOf S).toArray):=by
  unfold Hid
  rw [hS.out,y6(k0 ++ k1),← List.append_toArray]
  exact sealer_built C01 KS
 generalize k0 ++ k1=k01 at *
 clear hS C01
 have hal:=Y8
 have hz0:=Qx
 generalize Z96=Z at *
 have B0:Hid(∀s,Ext((w.alloc(Obj.cells(cellsOf ks).toArray 23)).alloc(Obj.cells Z 174))s→Ky s w.heap.size ks∧s.heap[w.heap.size+1]? =some(.cells Z 174(0,0))∧Ext w s):=fun s e=>⟨⟨(e.block _(by rw [je,je];omega)).trans(jQ _ _ _),hk⟩,(e.block _(by rw [je,je];omega)).trans(jK _ _ _),(((Ext.refl w).alloc _).alloc _).trans e⟩
 go_enter Tryz.func81,Tryz.ntmps81
 go_upto_region 1 with fail
 refine wp_gen(fun W=>∀s,Ext W s→Ky s w.heap.size ks∧s.heap[w.heap.size+1]? =some(.cells Z 174(0,0))∧Ext w s)B0.out ?_
 clear B0
 rintro w0 B0
 replace B0:=hd B0
 have y0:=hd(B0.out _(Ext.refl _)).1
 go_wp2_with(refine wpList_load_row rfl 23 _ rfl w.heap.size rfl 23(cellsOf ks).toArray(0,0)_ y0.out.1 rfl rfl(by rw [KS];rfl)?_;go_frame)
 rw [hA.out,hB.out]
 refine(KEYS.out _ _(B0.out _(Ext.refl _)).2.2).mono ?_
 rintro e w1⟨g,rfl,hg,kr,e1⟩
 have B1:Hid(∀s,Ext w1 s→Ky s w.heap.size ks∧s.heap[w.heap.size+1]? =some(.cells Z 174(0,0))∧Ext w s):=fun s e=>B0.out s(((Ext.refl _).alloc _).trans(e1.trans e))
 clear B0 KEYS e1 hg y0
 have R0:Hid(∀w',Ext w1 w'→∀i v,(cellsOf k0)[i]? =some v→w'.cell?⟨g,0+i,none⟩=some v):=fun w' e=>Kr.row(l:= [k0,k1])(j:=0)(kr.ext e)(by simp)
 have R1:Hid(∀w',Ext w1 w'→∀i v,(cellsOf k1)[i]? =some v→w'.cell?⟨g,32+i,none⟩=some v):=fun w' e=>Kr.row(l:= [k0,k1])(j:=1)(kr.ext e)(by simp)
 clear kr
 go_wp2_with fail
 refine qgZE 9 [0,1,2,3,4,5,6,7,8,9] [9] ?_
 repeat(refine jip ?_;go_frame)
 refine qzV rfl(fun w'=>∀q_ v,(cellsOf k0)[q_]? =some v→w'.cell?⟨g,0+q_,none⟩=some v)(fun w' e=>R0.out w'((Ext.refl _).drew.trans e))(.agg(cellsOf k0).toArray)(fun w' hF=>jy rfl rfl hF rfl rfl(by rw [C0];rfl))?_
 go_frame
 repeat(refine jip ?_;go_frame)
 refine qzV rfl(fun w'=>∀q_ v,(cellsOf k1)[q_]? =some v→w'.cell?⟨g,32+q_,none⟩=some v)(fun w' e=>R1.out w'((Ext.refl _).drew.trans e))(.agg(cellsOf k1).toArray)(fun w' hF=>jy rfl rfl hF rfl rfl(by rw [C1];rfl))?_
 go_frame
 refine qzV rfl(fun _=>True)(fun _ _=>trivial)(.agg(cellsOf k01).toArray)(fun w' _=>qe rfl(by simp only [List.map_toArray,List.map_cons,List.map_nil];exact b1.out))?_
 go_frame
 refine qzV rfl(fun w'=>w'.heap[w.heap.size]? =some(.cells(cellsOf ks).toArray 23(0,0)))(fun w' e=>(B1.out w'((Ext.refl _).drew.trans e)).1.1)(.agg(cellsOf ks).toArray)(fun w' hF=>jd rfl rfl hF rfl rfl(by rw [KS];rfl))?_
 go_frame
 refine qzV rfl(fun _=>True)(fun _ _=>trivial)(.agg(cellsOf S).toArray)(fun w' _=>qe rfl(by simp only [List.map_toArray,List.map_cons,List.map_nil];exact b2.out))?_
 go_frame
 have r2:=hd(B1.out _(Ext.refl _).drew).2.1
 have E2:=hd(B1.out _(Ext.refl _).drew).2.2
 clear B1 R0 R1 b1 b2
 generalize w1.drew=W at *
 refine qzD fun K hK=> ?_
 refine wp_store_row _ _ _ rfl(w.heap.size+1)(cellsOf S).toArray rfl rfl 174 Z r2.out(by rw [SS];rfl)(by rw [SS];exact hz0)OS ?_
 refine hK.out _ _(.inl rfl)?_
 clear hK K
 (try go_frame)
 refine seqZ_done ?_
 go_wp2_with fail
 (try simp only [Exit.inBlock,Exit.then])
 refine bodyPost_ret(results_cell_row rfl _ _(w.heap.size+1)174(cellsOf S).toArray(0,0)_ rfl(setRow_heap _ _ _ _ _ _ r2.out)rfl rfl(by rw [SS];rfl))rfl ?_
 exact⟨rfl,below_setRow E2.out(Nat.le_succ _)_⟩
end
section
open Go.ChangeShapes Go.WideShapes Go.ChangeAt Go.RowKit Go.Deep
def quL(vs:List Nat)(a b c d:Nat):List Nat:=
 qa 25(qt(putRot 24(qt(qa 20(qt(qa 16(qt vs a b)d a)c d)b c)a b)d a)c d)b c
theorem Yb(vs:List Nat)(a b c d:Nat):(quL vs a b c d).length=vs.length:=by simp [quL,qa,qt]
set_option maxRecDepth 100000 in
set_option maxHeartbeats 4000000 in
theorem zN{g a b c d:Nat}{vs:List Nat}{w:World}(h:Arr w g vs)(hl:vs.length=16)(ha:a < 16)(hb:b < 16)(hc:c < 16)(hd:d < 16):
  Calls Tryz.prog 180 #[.pointer(some⟨g,0,none⟩), .int .i64(a:Int), .int .i64(b:Int), .int .i64(c:Int), .int .i64(d:Int)] w
   fun e w'=>e= .returned(.tuple #[])∧Arr w' g(quL vs a b c d)∧w.grownBy w'(some g):=by
 have ha':(a:Int) < 16:=by omega
 have hb':(b:Int) < 16:=by omega
 have hc':(c:Int) < 16:=by omega
 have hd':(d:Int) < 16:=by omega
 go_enter Tryz.func180,Tryz.ntmps180
 go_wp2_with fail
 refine jg(fun w1=>Arr w1 g vs∧w.grownBy w1(some g))⟨h,jV(Ext.refl _)_⟩?_
 rintro w0⟨A0,G0⟩
 have L0:=hl
 clear h
 obtain⟨cp,fp,lp⟩ :=A0.fct(i:=a)(by omega)
 obtain⟨cq,fq,lq⟩ :=A0.fct(i:=b)(by omega)
 have KEEP:Hid(∀w',Ext w0 w'→w'.cell?⟨g,a,none⟩=some(.int .u32(wd vs a:Int))∧w'.cell?⟨g,b,none⟩=some(.int .u32(wd vs b:Int))):=fun w' e=>⟨((A0.ext e).fct(by omega)).1,((A0.ext e).fct(by omega)).1⟩
 have u1:IntKind.u32.wrap((wd vs a:Int)+(wd vs b:Int))=(qE(wd vs a)(wd vs b):Int):=vO
 refine yk 13 [0,1,2,3,4,5,6,7,8,9,10,11,12,13] [13] ?_
 repeat(refine qzR _(fun w' e=>KEEP.out w'((Ext.refl _).drew.trans e))?_;go_frame)
 refine qzD fun K1 hK1=> ?_
 go_simp
 refine hK1.out _ _(.inl rfl)?_
 clear hK1 K1
 refine jN ?_
 go_wp2_with fail
 refine jg(fun w1=>Arr w1 g(qt vs a b)∧w.grownBy w1(some g))⟨(A0.set(by omega)(q9 _ _)).ext(Ext.refl _).drew,qs G0⟩?_
 rintro w1⟨A1,G1⟩
 have L1:(putSum vs a b).length=16:=(putSum_len ..).trans L0
 clear A0 G0 L0 cp fp lp cq fq lq KEEP u1
 generalize HV0:qt vs a b=v1 at A1 L1
 replace HV0:=hd HV0
 obtain⟨cp,fp,lp⟩ :=A1.fct(i:=d)(by omega)
 obtain⟨cq,fq,lq⟩ :=A1.fct(i:=a)(by omega)
 have KEEP:Hid(∀w',Ext w1 w'→w'.cell?⟨g,d,none⟩=some(.int .u32(wd v1 d:Int))∧w'.cell?⟨g,a,none⟩=some(.int .u32(wd v1 a:Int))):=fun w' e=>⟨((A1.ext e).fct(by omega)).1,((A1.ext e).fct(by omega)).1⟩
 have u1:bits .xor .u32(wd v1 d:Int)(wd v1 a:Int)=((wd v1 d ^^^ wd v1 a:Nat):Int):=u32_xor_nat _ _ lp lq
 have HR:=hd(fun w0:World=> @jkE(wd v1 d ^^^ wd v1 a)w0(jL lp lq))
 refine yk 16 [0,1,2,3,4,5,6,7,8,9,10,11,12,14,13,15,16] [13,16] ?_
 repeat(refine qzR _(fun w' e=>KEEP.out w'((Ext.refl _).drew.trans e))?_;go_frame)
 refine qzD fun K1 hK1=> ?_
 go_simp
 refine(HR.out _).mono ?_
 rintro e w1⟨rfl,rfl⟩
 refine hK1.out _ _(.inr(Ext.refl _))?_
 clear hK1 K1
 try go_frame
 repeat(refine qzR _(fun w' e=>KEEP.out w'((Ext.refl _).drew.trans e))?_;go_frame)
 refine qzD fun K1 hK1=> ?_
 go_simp
 refine hK1.out _ _(.inl rfl)?_
 clear hK1 K1
 refine jN ?_
 go_wp2_with fail
 refine jg(fun w1=>Arr w1 g(qa 16 v1 d a)∧w.grownBy w1(some g))⟨(A1.set(by omega)(yA(jL lp lq))).ext(Ext.refl _).drew,qs G1⟩?_
 rintro w2⟨A2,G2⟩
 have L2:(putRot 16 v1 d a).length=16:=(yc ..).trans L1
 clear A1 G1 L1 cp fp lp cq fq lq KEEP u1 HR
 generalize HV1:qa 16 v1 d a=v2 at A2 L2
 replace HV1:=hd HV1
 obtain⟨cp,fp,lp⟩ :=A2.fct(i:=c)(by omega)
 obtain⟨cq,fq,lq⟩ :=A2.fct(i:=d)(by omega)
 have KEEP:Hid(∀w',Ext w2 w'→w'.cell?⟨g,c,none⟩=some(.int .u32(wd v2 c:Int))∧w'.cell?⟨g,d,none⟩=some(.int .u32(wd v2 d:Int))):=fun w' e=>⟨((A2.ext e).fct(by omega)).1,((A2.ext e).fct(by omega)).1⟩
 have u1:IntKind.u32.wrap((wd v2 c:Int)+(wd v2 d:Int))=(qE(wd v2 c)(wd v2 d):Int):=vO
 refine yk 13 [0,1,2,3,4,5,6,7,8,9,10,11,12,13] [13] ?_
 repeat(refine qzR _(fun w' e=>KEEP.out w'((Ext.refl _).drew.trans e))?_;go_frame)
 refine qzD fun K1 hK1=> ?_
 go_simp
 refine hK1.out _ _(.inl rfl)?_
 clear hK1 K1
 refine jN ?_
 go_wp2_with fail
 refine jg(fun w1=>Arr w1 g(qt v2 c d)∧w.grownBy w1(some g))⟨(A2.set(by omega)(q9 _ _)).ext(Ext.refl _).drew,qs G2⟩?_
 rintro w3⟨A3,G3⟩
 have L3:(putSum v2 c d).length=16:=(putSum_len ..).trans L2
 clear A2 G2 L2 cp fp lp cq fq lq KEEP u1
 generalize HV2:qt v2 c d=v3 at A3 L3
 replace HV2:=hd HV2
 obtain⟨cp,fp,lp⟩ :=A3.fct(i:=b)(by omega)
 obtain⟨cq,fq,lq⟩ :=A3.fct(i:=c)(by omega)
 have KEEP:Hid(∀w',Ext w3 w'→w'.cell?⟨g,b,none⟩=some(.int .u32(wd v3 b:Int))∧w'.cell?⟨g,c,none⟩=some(.int .u32(wd v3 c:Int))):=fun w' e=>⟨((A3.ext e).fct(by omega)).1,((A3.ext e).fct(by omega)).1⟩
 have u1:bits .xor .u32(wd v3 b:Int)(wd v3 c:Int)=((wd v3 b ^^^ wd v3 c:Nat):Int):=u32_xor_nat _ _ lp lq
 have HR:=hd(fun w0:World=> @jkD(wd v3 b ^^^ wd v3 c)w0(jL lp lq))
 refine yk 16 [0,1,2,3,4,5,6,7,8,9,10,11,12,14,13,15,16] [13,16] ?_
 repeat(refine qzR _(fun w' e=>KEEP.out w'((Ext.refl _).drew.trans e))?_;go_frame)
 refine qzD fun K1 hK1=> ?_
 go_simp
 refine(HR.out _).mono ?_
 rintro e w1⟨rfl,rfl⟩
 refine hK1.out _ _(.inr(Ext.refl _))?_
 clear hK1 K1
 try go_frame
 repeat(refine qzR _(fun w' e=>KEEP.out w'((Ext.refl _).drew.trans e))?_;go_frame)
 refine qzD fun K1 hK1=> ?_
 go_simp
 refine hK1.out _ _(.inl rfl)?_
 clear hK1 K1
 refine jN ?_
 go_wp2_with fail
 refine jg(fun w1=>Arr w1 g(qa 20 v3 b c)∧w.grownBy w1(some g))⟨(A3.set(by omega)(yA(jL lp lq))).ext(Ext.refl _).drew,qs G3⟩?_
 rintro w4⟨A4,G4⟩
 have L4:(putRot 20 v3 b c).length=16:=(yc ..).trans L3
 clear A3 G3 L3 cp fp lp cq fq lq KEEP u1 HR
 generalize HV3:qa 20 v3 b c=v4 at A4 L4
 replace HV3:=hd HV3
 obtain⟨cp,fp,lp⟩ :=A4.fct(i:=a)(by omega)
 obtain⟨cq,fq,lq⟩ :=A4.fct(i:=b)(by omega)
 have KEEP:Hid(∀w',Ext w4 w'→w'.cell?⟨g,a,none⟩=some(.int .u32(wd v4 a:Int))∧w'.cell?⟨g,b,none⟩=some(.int .u32(wd v4 b:Int))):=fun w' e=>⟨((A4.ext e).fct(by omega)).1,((A4.ext e).fct(by omega)).1⟩
 have u1:IntKind.u32.wrap((wd v4 a:Int)+(wd v4 b:Int))=(qE(wd v4 a)(wd v4 b):Int):=vO
 refine yk 13 [0,1,2,3,4,5,6,7,8,9,10,11,12,13] [13] ?_
 repeat(refine qzR _(fun w' e=>KEEP.out w'((Ext.refl _).drew.trans e))?_;go_frame)
 refine qzD fun K1 hK1=> ?_
 go_simp
 refine hK1.out _ _(.inl rfl)?_
 clear hK1 K1
 refine jN ?_
 go_wp2_with fail
 refine jg(fun w1=>Arr w1 g(qt v4 a b)∧w.grownBy w1(some g))⟨(A4.set(by omega)(q9 _ _)).ext(Ext.refl _).drew,qs G4⟩?_
 rintro w5⟨A5,G5⟩
 have L5:(putSum v4 a b).length=16:=(putSum_len ..).trans L4
 clear A4 G4 L4 cp fp lp cq fq lq KEEP u1
 generalize HV4:qt v4 a b=v5 at A5 L5
 replace HV4:=hd HV4
 obtain⟨cp,fp,lp⟩ :=A5.fct(i:=d)(by omega)
 obtain⟨cq,fq,lq⟩ :=A5.fct(i:=a)(by omega)
 have KEEP:Hid(∀w',Ext w5 w'→w'.cell?⟨g,d,none⟩=some(.int .u32(wd v5 d:Int))∧w'.cell?⟨g,a,none⟩=some(.int .u32(wd v5 a:Int))):=fun w' e=>⟨((A5.ext e).fct(by omega)).1,((A5.ext e).fct(by omega)).1⟩
 have u1:bits .xor .u32(wd v5 d:Int)(wd v5 a:Int)=((wd v5 d ^^^ wd v5 a:Nat):Int):=u32_xor_nat _ _ lp lq
 have HR:=hd(fun w0:World=> @jla(wd v5 d ^^^ wd v5 a)w0(jL lp lq))
 refine yk 16 [0,1,2,3,4,5,6,7,8,9,10,11,12,14,13,15,16] [13,16] ?_
 repeat(refine qzR _(fun w' e=>KEEP.out w'((Ext.refl _).drew.trans e))?_;go_frame)
 refine qzD fun K1 hK1=> ?_
 go_simp
 refine(HR.out _).mono ?_
 rintro e w1⟨rfl,rfl⟩
 refine hK1.out _ _(.inr(Ext.refl _))?_
 clear hK1 K1
 try go_frame
 repeat(refine qzR _(fun w' e=>KEEP.out w'((Ext.refl _).drew.trans e))?_;go_frame)
 refine qzD fun K1 hK1=> ?_
 go_simp
 refine hK1.out _ _(.inl rfl)?_
 clear hK1 K1
 refine jN ?_
 go_wp2_with fail
 refine jg(fun w1=>Arr w1 g(qa 24 v5 d a)∧w.grownBy w1(some g))⟨(A5.set(by omega)(yA(jL lp lq))).ext(Ext.refl _).drew,qs G5⟩?_
 rintro w6⟨A6,G6⟩
 have L6:(putRot 24 v5 d a).length=16:=(yc ..).trans L5
 clear A5 G5 L5 cp fp lp cq fq lq KEEP u1 HR
 generalize HV5:qa 24 v5 d a=v6 at A6 L6
 replace HV5:=hd HV5
 obtain⟨cp,fp,lp⟩ :=A6.fct(i:=c)(by omega)
 obtain⟨cq,fq,lq⟩ :=A6.fct(i:=d)(by omega)
 have KEEP:Hid(∀w',Ext w6 w'→w'.cell?⟨g,c,none⟩=some(.int .u32(wd v6 c:Int))∧w'.cell?⟨g,d,none⟩=some(.int .u32(wd v6 d:Int))):=fun w' e=>⟨((A6.ext e).fct(by omega)).1,((A6.ext e).fct(by omega)).1⟩
 have u1:IntKind.u32.wrap((wd v6 c:Int)+(wd v6 d:Int))=(qE(wd v6 c)(wd v6 d):Int):=vO
 refine yk 13 [0,1,2,3,4,5,6,7,8,9,10,11,12,13] [13] ?_
 repeat(refine qzR _(fun w' e=>KEEP.out w'((Ext.refl _).drew.trans e))?_;go_frame)
 refine qzD fun K1 hK1=> ?_
 go_simp
 refine hK1.out _ _(.inl rfl)?_
 clear hK1 K1
 refine jN ?_
 go_wp2_with fail
 refine jg(fun w1=>Arr w1 g(qt v6 c d)∧w.grownBy w1(some g))⟨(A6.set(by omega)(q9 _ _)).ext(Ext.refl _).drew,qs G6⟩?_
 rintro w7⟨A7,G7⟩
 have L7:(putSum v6 c d).length=16:=(putSum_len ..).trans L6
 clear A6 G6 L6 cp fp lp cq fq lq KEEP u1
 generalize HV6:qt v6 c d=v7 at A7 L7
 replace HV6:=hd HV6
 obtain⟨cp,fp,lp⟩ :=A7.fct(i:=b)(by omega)
 obtain⟨cq,fq,lq⟩ :=A7.fct(i:=c)(by omega)
 have KEEP:Hid(∀w',Ext w7 w'→w'.cell?⟨g,b,none⟩=some(.int .u32(wd v7 b:Int))∧w'.cell?⟨g,c,none⟩=some(.int .u32(wd v7 c:Int))):=fun w' e=>⟨((A7.ext e).fct(by omega)).1,((A7.ext e).fct(by omega)).1⟩
 have u1:bits .xor .u32(wd v7 b:Int)(wd v7 c:Int)=((wd v7 b ^^^ wd v7 c:Nat):Int):=u32_xor_nat _ _ lp lq
 have HR:=hd(fun w0:World=> @jk9(wd v7 b ^^^ wd v7 c)w0(jL lp lq))
 refine yk 16 [0,1,2,3,4,5,6,7,8,9,10,11,12,14,13,15,16] [13,16] ?_
 repeat(refine qzR _(fun w' e=>KEEP.out w'((Ext.refl _).drew.trans e))?_;go_frame)
 refine qzD fun K1 hK1=> ?_
 go_simp
 refine(HR.out _).mono ?_
 rintro e w1⟨rfl,rfl⟩
 refine hK1.out _ _(.inr(Ext.refl _))?_
 clear hK1 K1
 try go_frame
 repeat(refine qzR _(fun w' e=>KEEP.out w'((Ext.refl _).drew.trans e))?_;go_frame)
 refine qzD fun K1 hK1=> ?_
 go_simp
 refine hK1.out _ _(.inl rfl)?_
 clear hK1 K1
 refine jN ?_
 go_wp2_with fail
 have HM:quL vs a b c d=qa 25 v7 b c:=by
  unfold quL
  rw [HV0.out,HV1.out,HV2.out,HV3.out,HV4.out,HV5.out,HV6.out]
 rw [HM]
 go_end0
 exact⟨rfl,(A7.set(by omega)(yA(xor_lt32 lp lq))).ext(Ext.refl _).drew,qs G7⟩
def drL(vs:List Nat):List Nat:=quL(quL(quL(quL(quL(quL(quL(quL vs 0 4 8 12)1 5 9 13)2 6 10 14)3 7 11 15)0 5 10 15)1 6 11 12)2 7 8 13)3 4 9 14
theorem ji0(vs:List Nat):(drL vs).length=vs.length:=by simp [drL,Yb]
set_option maxHeartbeats 1000000 in
theorem jhk{g:Nat}{vs:List Nat}{w:World}(h:Arr w g vs)(hl:vs.length=16):
  Calls Tryz.prog 168 #[.pointer(some⟨g,0,none⟩)] w fun e w'=>e= .returned(.tuple #[])∧Arr w' g(drL vs)∧w.grownBy w'(some g):=by
 have A0:=hd h
 have L0:=hl
 have G0:Hid(w.grownBy w(some g)):=jV(Ext.refl _)_
 clear h
 go_enter Tryz.func168,Tryz.ntmps168
 go_wp2_with fail
 refine(zN A0.out L0(a:=0)(b:=4)(c:=8)(d:=12)(by omega)(by omega)(by omega)(by omega)).mono ?_
 rintro e w1⟨rfl,A1,G1⟩
 replace A1:=hd A1
 replace G1:=hd(jj G0.out G1)
 have L1:=(Yb vs 0 4 8 12).trans L0
 generalize HV1:quL vs 0 4 8 12=v1 at A1 L1
 replace HV1:=hd HV1
 go_wp2_with fail
 refine(zN A1.out L1(a:=1)(b:=5)(c:=9)(d:=13)(by omega)(by omega)(by omega)(by omega)).mono ?_
 rintro e w2⟨rfl,A2,G2⟩
 replace A2:=hd A2
 replace G2:=hd(jj G1.out G2)
 have L2:=(Yb v1 1 5 9 13).trans L1
 generalize HV2:quL v1 1 5 9 13=v2 at A2 L2
 replace HV2:=hd HV2
 go_wp2_with fail
 refine(zN A2.out L2(a:=2)(b:=6)(c:=10)(d:=14)(by omega)(by omega)(by omega)(by omega)).mono ?_
 rintro e w3⟨rfl,A3,G3⟩
 replace A3:=hd A3
 replace G3:=hd(jj G2.out G3)
 have L3:=(Yb v2 2 6 10 14).trans L2
 generalize HV3:quL v2 2 6 10 14=v3 at A3 L3
 replace HV3:=hd HV3
 go_wp2_with fail
 refine(zN A3.out L3(a:=3)(b:=7)(c:=11)(d:=15)(by omega)(by omega)(by omega)(by omega)).mono ?_
 rintro e w4⟨rfl,A4,G4⟩
 replace A4:=hd A4
 replace G4:=hd(jj G3.out G4)
 have L4:=(Yb v3 3 7 11 15).trans L3
 generalize HV4:quL v3 3 7 11 15=v4 at A4 L4
 replace HV4:=hd HV4
 go_wp2_with fail
 refine(zN A4.out L4(a:=0)(b:=5)(c:=10)(d:=15)(by omega)(by omega)(by omega)(by omega)).mono ?_
 rintro e w5⟨rfl,A5,G5⟩
 replace A5:=hd A5
 replace G5:=hd(jj G4.out G5)
 have L5:=(Yb v4 0 5 10 15).trans L4
 generalize HV5:quL v4 0 5 10 15=v5 at A5 L5
 replace HV5:=hd HV5
 go_wp2_with fail
 refine(zN A5.out L5(a:=1)(b:=6)(c:=11)(d:=12)(by omega)(by omega)(by omega)(by omega)).mono ?_
 rintro e w6⟨rfl,A6,G6⟩
 replace A6:=hd A6
 replace G6:=hd(jj G5.out G6)
 have L6:=(Yb v5 1 6 11 12).trans L5
 generalize HV6:quL v5 1 6 11 12=v6 at A6 L6
 replace HV6:=hd HV6
 go_wp2_with fail
 refine(zN A6.out L6(a:=2)(b:=7)(c:=8)(d:=13)(by omega)(by omega)(by omega)(by omega)).mono ?_
 rintro e w7⟨rfl,A7,G7⟩
 replace A7:=hd A7
 replace G7:=hd(jj G6.out G7)
 have L7:=(Yb v6 2 7 8 13).trans L6
 generalize HV7:quL v6 2 7 8 13=v7 at A7 L7
 replace HV7:=hd HV7
 go_wp2_with fail
 refine(zN A7.out L7(a:=3)(b:=4)(c:=9)(d:=14)(by omega)(by omega)(by omega)(by omega)).mono ?_
 rintro e w8⟨rfl,A8,G8⟩
 replace A8:=hd A8
 replace G8:=hd(jj G7.out G8)
 have L8:=(Yb v7 3 4 9 14).trans L7
 generalize HV8:quL v7 3 4 9 14=v8 at A8 L8
 replace HV8:=hd HV8
 go_wp2_with fail
 go_end0
 refine⟨rfl,?_,G8.out⟩
 have:drL vs=v8:=by unfold drL;rw [HV1.out,HV2.out,HV3.out,HV4.out,HV5.out,HV6.out,HV7.out,HV8.out]
 rw [this]
 exact A8.out
theorem jgw{xs:List UInt8}(h:xs.length=4):vD xs < 4294967296:=by
 have:=Yd xs
 rw [h] at this
 exact this
set_option maxHeartbeats 400000 in
theorem ja4{A:Option Addr}{c:Nat}{xs:List UInt8}{w:World}(h:Bs w A 4 c xs):
  Calls Tryz.prog 179 #[.slice A 4 c] w fun e w'=>e= .returned(.int .u32(vD xs:Int))∧w'=w:=by
 have hl:=h.len
 have HC:=hd(ZF(m:=4)h(by omega)(by omega)(by decide))
 have hx:xs.take 4=xs:=List.take_of_length_le(by omega)
 rw [hx] at HC
 have hb:=ofLow4_lt hl
 have hcv:IntKind.u32.wrap(vD xs:Int)=(vD xs:Int):=by rw [IntKind.wrap_u32];omega
 go_enter Tryz.func179,Tryz.ntmps179
 go_wp2_with fail
 refine HC.out.mono ?_
 rintro e w1⟨rfl,rfl⟩
 go_wp2_with fail
 go_ret
 exact⟨rfl,rfl⟩
end
end Go.Proofs.YtakpgbaijkhpmaaGreatDoor
