import Derived.Test.YtakpgbaijkhpmaaGreatDoorPkAA
import Derived.Laws.StructEq
namespace Go.Proofs.YtakpgbaijkhpmaaGreatDoor
section
open Go.ChangeShapes Go.WideShapes Go.ChangeAt Go.RowKit Go.Deep Go.Maps
section
variable{P:Program}{ops:Array Oper}{rest:List Oper}{o:Oper}{a:Act}{w w':World}{K:Act→World→Prop}{Q:Exit→Act→World→Prop}{t k:TypeId}{m x y:Operand}{mv xv yv:Value}
theorem QU(ho:o.op= .mapUpdate t m x y)(hm:a.eval m=mv)(hx:a.eval x=xv)(hy:a.eval y=yv)(hr:(Instr.mapUpdate t mv xv yv).run P w= .ok()w')(h:K(a.put o.dst undef)w'):o.wp P a w K Q:=by
 subst hm
 subst hx
 subst hy
 unfold Oper.wp execOp
 simp only [ho,Sem.run_bind,hr,Result.andThen_ok,Sem.run_pure]
 exact h
theorem jbU(ho:o.op= .call{callee:= .builtin .delete,args:= #[m,x],argTypes:= #[t,k]})(hm:a.eval m=mv)(hx:a.eval x=xv)(hr:(Builtin.delete_ #[t,k] 0 #[mv,xv]).run P w= .ok(.tuple #[])w')(h:K(a.put o.dst(.tuple #[]))w'):o.wp P a w K Q:=by
 subst hm
 subst hx
 replace hr:(Builtin.delete_ #[t,k] o.type #[a.eval m,a.eval x]).run P w= .ok(.tuple #[])w':=hr
 unfold Oper.wp execOp
 simp only [ho,resolve,invoke,builtin,Sem.run_bind,Sem.run_pure,Result.andThen_ok,List.map_toArray,List.map_cons,List.map_nil,hr]
 exact h
theorem JH(ho:o.op= .call{callee:= .builtin .len,args:= #[m],argTypes:= #[t]}){v:Value}(hm:a.eval m=mv)(hr:(Builtin.len_ #[t] o.type #[mv]).run P w= .ok v w')(h:K(a.put o.dst v)w'):o.wp P a w K Q:=by
 subst hm
 replace hr:(Builtin.len_ #[t] o.type #[a.eval m]).run P w= .ok v w':=hr
 unfold Oper.wp execOp
 simp only [ho,resolve,invoke,builtin,Sem.run_bind,Sem.run_pure,Result.andThen_ok,List.map_toArray,List.map_cons,List.map_nil,hr]
 exact h
theorem Jb(hg:o.guard=none)(h:∀K:Act→World→Prop,(∀a w,wpList P ops Q rest a w→K a w)→o.wp P a w K Q):wpList P ops Q(o :: rest)a w:=wpList_plain hg fun K hK=>h K hK
theorem ZA{c:Bool}{v:Value}(ho:o.op= .lookup t m x c)(hm:a.eval m=mv)(hx:a.eval x=xv)(hr:(Instr.lookup t mv xv c).run P w= .ok v w):(execOp a.eval o).run P w= .ok(.value v)w:=by
 subst hm
 subst hx
 unfold execOp
 simp only [ho,Sem.run_bind,hr,Result.andThen_ok,Sem.run_pure]
theorem Ji{e:TypeId}{b r:Nat}{E:List(Value×Value)}(hg:o.guard=none)(m:Operand)(hop:o.op=Op.range t m)(Kk:Keyed P k)(ht:P.underlying t=some(.map k e))(hm:a.eval m= .map(some b))(h:Mp P k w b E)(hr:w.heap.size=r)
  (hK:∀w',Mr P k w' b r E(fun _=>True)E.length→Ext w w'→wpList P ops Q rest(a.put o.dst(.pointer(some⟨r,0,none⟩)))w'):wpList P ops Q(o :: rest)a w:=by
 subst hr
 refine wpList_plain hg fun K' hK'=> ?_
 obtain⟨w1,r1,r2,r3⟩ :=h.range Kk ht
 unfold Oper.wp
 simp [execOp,hop,hm,r1,Result.andThen]
 exact hK' _ _(hK w1 r2 r3)
theorem JG{α:Type}{L:List α}(kv vv:α→Value){b r cnt:Nat}{lf:Value→Prop}(hg:o.guard=none)(it:Operand)(hop:o.op=Op.next it false)(Kk:Keyed P k)(hit:a.eval it= .pointer(some⟨r,0,none⟩))(h:Mr P k w b r(L.map fun x=>(kv x,vv x))lf cnt)
  (hDone:(∀x∈L,¬ lf(kv x))→wpList P ops Q rest(a.put o.dst(.tuple #[.bool false]))w)
  (hMore:∀x∈L,lf(kv x)→∀w' cnt',Mr P k w' b r(L.map fun x=>(kv x,vv x))(fun key=>lf key∧key≠kv x)cnt'→cnt' < cnt→w.grownBy w'(some r)→w'.heap.size=w.heap.size→
   (Instr.entry(.pointer(some⟨r,0,none⟩))).run P w'= .ok(.tuple #[kv x,vv x])w'→wpList P ops Q rest(a.put o.dst(.tuple #[.bool true,kv x,vv x]))w'):
  wpList P ops Q(o :: rest)a w:=by
 refine wpList_plain hg fun K' hK'=> ?_
 unfold Oper.wp
 rcases h.next Kk o.type with⟨h0,hrun⟩ | ⟨p,hp,hlf,w1,cnt1,hrun,hmr,hlt,hgr,hsz,hen⟩
 ·simp [execOp,hop,hit,hrun,Result.andThen]
  exact hK' _ _(hDone fun x hx=>h0 _(List.mem_map.2⟨x,hx,rfl⟩))
 ·obtain⟨x,hx,rfl⟩ :=List.mem_map.1 hp
  simp [execOp,hop,hit,hrun,Result.andThen]
  exact hK' _ _(hMore x hx hlf w1 cnt1 hmr hlt hgr hsz hen)
end
end
section
open Go.ChangeShapes Go.WideShapes Go.ChangeAt Go.RowKit Go.Deep Go.Maps
set_option maxRecDepth 100000
structure Ke where
 pk:List UInt8
 n:Int
 k:List UInt8
 wh:Int
def Ke.ok(x:Ke):Prop:=x.pk.length=32∧x.k.length=32∧ -9223372036854775808≤x.n∧x.n≤9223372036854775807
def Ke.ent(x:Ke):Value×Value:=(.agg(knC x.pk x.n).toArray, .agg(knC x.k x.wh).toArray)
def Ke.at(pk:List UInt8)(n:Int)(x:Ke):Bool:=x.pk == pk && x.n == n
theorem Ke.at_iff{pk:List UInt8}{n:Int}{x:Ke}:x.at pk n=true↔x.pk=pk∧x.n=n:=by simp [Ke.at]
def yY(L:List Ke)(pk:List UInt8)(n:Int):Bool:=L.any(Ke.at pk n)
def yd(L:List Ke)(pk:List UInt8)(n:Int):Ke:=(L.find?(Ke.at pk n)).getD⟨[],0,List.replicate 32 0,0⟩
def yM(L:List Ke)(pk:List UInt8)(n:Int):List Ke:=L.filter fun x=> !x.at pk n
def jeT(L:List Ke)(x:Ke):List Ke:=if L.length < 8 then L ++ [x] else L.drop 1 ++ [x]
def Jt(L:List Ke)(pk:List UInt8)(n:Int):Int:=if n < 0 then 1 else if yY L pk n then 9 else 0
def jcz(L:List Ke)(x:Ke):List Ke:=if Jt L x.pk x.n=0 then jeT L x else L
structure SK(w:World)(g b:Nat)(L:List Ke)(puts:Int):Prop where
 cb:Cb w g 184 [.map(some b), .int .i64 puts]
 mp:Mp Tryz.prog 186 w b(L.map Ke.ent)
 ok:∀x∈L,x.ok
 inc:L.Pairwise fun x y=>x.wh < y.wh
 lt:∀x∈L,x.wh < puts
 low:0≤puts
section
variable{w w':World}{g b:Nat}{L:List Ke}{puts:Int}
theorem SK.stay(h:SK w g b L puts)(hg:w'.heap[g]? =w.heap[g]?)(hb:w'.heap[b]? =w.heap[b]?):SK w' g b L puts:=⟨hg.trans h.cb,h.mp.stay hb,h.ok,h.inc,h.lt,h.low⟩
theorem SK.ext(h:SK w g b L puts)(x:Ext w w'):SK w' g b L puts:=h.stay(x.block _ h.cb.lt)(x.block _ h.mp.lt)
theorem SK.ne(h:SK w g b L puts):g≠b:=fun e=>by
 obtain⟨es,c,q⟩ :=h.mp.obj
 have:=h.cb
 unfold Cb at this
 rw [e,q] at this
 cases this
theorem jhp{x y:Ke}(hx:x.ok)(hy:y.pk.length=32)(h:x.at y.pk y.n=false):x.ent.1≠y.ent.1:=fun e=>by
 obtain⟨h1,h2⟩ :=jch hx.1 hy e
 rw [Ke.at_iff.2⟨h1,h2⟩] at h;cases h
theorem SK.apart(h:SK w g b L puts):L.Pairwise fun x y=> ¬(x.pk=y.pk∧x.n=y.n):=by
 have:=h.mp.apart
 rw [List.pairwise_map] at this
 exact this.imp fun h e=>h(by unfold Ke.ent;rw [e.1,e.2])
theorem ja0{pk:List UInt8}{n:Int}(h:yY L pk n=true):yd L pk n∈L∧(yd L pk n).pk=pk∧(theK L pk n).n=n:=by
 obtain⟨x,hx,hat⟩ :=List.any_eq_true.1 h
 unfold yd
 cases hf:L.find?(Ke.at pk n)with
 |none=>rw [List.find?_eq_none] at hf;exact absurd hat(hf x hx)
 |some y=>exact⟨List.mem_of_find?_eq_some hf,Ke.at_iff.1(List.find?_some hf)⟩
theorem Zs{pk:List UInt8}{n:Int}(h:yY L pk n=false):yd L pk n=⟨[],0,List.replicate 32 0,0⟩ :=by
 unfold yd
 rw [List.find?_eq_none.2 fun x hx q=>by rw [yY,List.any_eq_false] at h;exact h x hx q]
 rfl
theorem jff{pk:List UInt8}{n:Int}(hok:∀x∈L,x.ok):(yd L pk n).k.length=32:=by
 cases h:yY L pk n
 ·rw [Zs h];rfl
 ·exact(hok _(ja0 h).1).2.1
theorem SK.look(h:SK w g b L puts){pk:List UInt8}(hp:pk.length=32){n:Int}(hn: -9223372036854775808≤n∧n≤9223372036854775807):
  (Instr.lookup 182(.map(some b))(.agg(knC pk n).toArray)true).run Tryz.prog w= .ok(.tuple #[.agg(knC(yd L pk n).k(yd L pk n).wh).toArray, .bool(yY L pk n)])w:=by
 obtain⟨kl,hkl⟩ :=JU hp hn
 have hz:(zeroValue 188).run Tryz.prog w= .ok(.agg(knC(List.replicate 32 0)0).toArray)w:=by kernel_rfl
 rcases h.mp.look yU Tryz.underlying182 hz hkl with⟨v,h1,h2,_⟩ | ⟨h1,h2,_⟩
 ·obtain⟨x,hx,he⟩ :=List.mem_map.1 h1
  obtain⟨e1,e2⟩ :=Prod.mk.injEq .. ▸ he
  obtain⟨q1,q2⟩ :=jch(h.ok x hx).1 hp e1
  have hh:yY L pk n=true:=List.any_eq_true.2⟨x,hx,Ke.at_iff.2⟨q1,q2⟩⟩
  obtain⟨t1,t2,t3⟩ :=ja0 hh
  have:v= .agg(knC(yd L pk n).k(yd L pk n).wh).toArray:=jf6 h.mp.apart h1(List.mem_map.2⟨_,t1,by unfold Ke.ent;rw [t2,t3]⟩)
  rw [h2,hh,this]
 ·have hh:yY L pk n=false:=by
   cases q:yY L pk n
   ·rfl
   ·obtain⟨t1,t2,t3⟩ :=ja0 q
    exact absurd(by unfold Ke.ent;rw [t2,t3])(h1 _(List.mem_map.2⟨_,t1,rfl⟩))
  rw [h2,hh,Zs hh]
theorem SK.drop(h:SK w g b L puts){pk:List UInt8}(hp:pk.length=32){n:Int}(hn: -9223372036854775808≤n∧n≤9223372036854775807)(ty:TypeId):
  ∃w',(Builtin.delete_ #[182,186] ty #[.map(some b), .agg(knC pk n).toArray]).run Tryz.prog w= .ok(.tuple #[])w'∧SK w' g b(yM L pk n)puts∧w.grownBy w'(some b):=by
 obtain⟨kl,hkl⟩ :=JU hp hn
 have hmem:∀p∈L.map Ke.ent,p∈(yM L pk n).map Ke.ent↔p.1≠ .agg(knC pk n).toArray:=fun p hq=>by
  obtain⟨x,hx,rfl⟩ :=List.mem_map.1 hq
  constructor
  ·intro hm
   obtain⟨y,hy,he⟩ :=List.mem_map.1 hm
   obtain⟨hy1,hy2⟩ :=List.mem_filter.1 hy
   rw [← he]
   exact jhp(y:=⟨pk,n, [],0⟩)(h.ok y hy1)hp(by simpa using hy2)
  ·intro hne
   refine List.mem_map.2⟨x,List.mem_filter.2⟨hx,?_⟩,rfl⟩
   cases q:x.at pk n
   ·rfl
   ·obtain⟨e1,e2⟩ :=Ke.at_iff.1 q
    exact absurd(by unfold Ke.ent;rw [e1,e2])hne
 have hl:(∀p∈L.map Ke.ent,p.1≠ .agg(knC pk n).toArray)∨((yM L pk n).map Ke.ent).length+1=(L.map Ke.ent).length:=by
  rw [List.length_map,List.length_map]
  have ap:=h.apart
  have hok:=fun x hx=>(h.ok x hx).1
  clear hmem h
  induction L with
  |nil=>zL;simp
  |cons x r ih =>
   obtain⟨a1,a2⟩ :=List.pairwise_cons.1 ap
   by_cases q:x.at pk n=true
   ·right
    obtain⟨e1,e2⟩ :=Ke.at_iff.1 q
    have:yM(x :: r)pk n=r:=by
     unfold yM
     rw [List.filter_cons_of_neg(by simp [q]),List.filter_eq_self.2 fun y hy=> ?_]
     cases qy:y.at pk n
     ·rfl
     ·obtain⟨f1,f2⟩ :=Ke.at_iff.1 qy
      exact absurd⟨e1.trans f1.symm,e2.trans f2.symm⟩(a1 y hy)
    rw [this];rfl
   ·have qf:x.at pk n=false:=by simpa using q
    have e:yM(x :: r)pk n=x :: yM r pk n:=by unfold yM;rw [List.filter_cons_of_pos(by simp [qf])]
    rcases ih a2(fun y hy=>hok y(List.mem_cons_of_mem _ hy))with hi |hi
    ·by_cases hx:x.ent.1= .agg(knC pk n).toArray
     ·exfalso
      exact q(Ke.at_iff.2(jch(hok x(List.mem_cons_self ..))hp hx))
     ·zL
      intro p hp'
      rcases List.mem_cons.1 hp' with rfl |hp'
      ·exact hx
      ·exact hi p hp'
    ·right;rw [e,List.length_cons,List.length_cons,hi]
 obtain⟨w1,r1,r2,r3⟩ :=h.mp.drop yU Tryz.underlying182 hkl(List.Sublist.map _(List.filter_sublist))hmem hl ty
 have hgb:=h.ne
 exact⟨w1,r1,⟨(r3.grown.block g h.cb.lt(fun q=>hgb(Option.some.inj q))).trans h.cb,r2,fun x hx=>h.ok x(List.mem_filter.1 hx).1,h.inc.sublist(List.filter_sublist),fun x hx=>h.lt x(List.mem_filter.1 hx).1,h.low⟩,r3.grown⟩
end
end
section
open Go.ChangeShapes Go.WideShapes Go.ChangeAt Go.RowKit Go.Deep
theorem jfH:(Tryz.prog.info? 23).map(fun i=>(i.zero,i.size,i.bytes))=some(some(.agg jr),32,32):=by kernel_rfl
end
section
open Go.ChangeShapes Go.WideShapes Go.ChangeAt Go.RowKit Go.Deep
set_option maxRecDepth 100000
def jj7:Array Value:=(cellsOf(List.replicate 64 0)).toArray
theorem jf5:jj7.size=64:=by simp [jj7,ja]
theorem yR(w:World):(zeroValue 31).run Tryz.prog w= .ok(.agg(cellsOf(List.replicate 64 0)).toArray)w:=by kernel_rfl
theorem Zv{xs ys:List UInt8}(hx:xs.length=32)(hy:ys.length=32):Tryz.prog.built 31 [(0, .agg(cellsOf xs).toArray),(1, .agg(cellsOf ys).toArray)]=some(cellsOf(xs ++ ys)).toArray:=by
 have h:∃pl:Nat→Option(Nat×Nat),pl 0=some(0,32)∧pl 1=some(32,32)∧∀ps,Tryz.prog.built 31 ps=Instr.fill pl jj7 ps:=⟨(#[(0,32),(32,32)][·]?),rfl,rfl,fun ps=>by kernel_rfl⟩
 obtain⟨pl,h0,h1,h2⟩ :=h
 rw [h2,jag pl h0 h1(by simp [ja,hx])(by simp [ja,hy])jf5,Yr,List.append_toArray]
theorem jfY{xs:List UInt8}(h:xs.length=64):∃a b,xs=a ++ b∧a.length=32∧b.length=32:=⟨xs.take 32,xs.drop 32,(List.take_append_drop 32 xs).symm,by simp [h],by simp [h]⟩
def Kp(w:World)(g:Nat)(xs:List UInt8):Prop:=w.heap[g]? =some(.cells(cellsOf xs).toArray 31(0,0))∧xs.length=64
section
variable{w w':World}{g:Nat}{xs ys:List UInt8}
theorem Kp.lt(h:Kp w g xs):g < w.heap.size:=jh h.1
theorem Kp.ext(h:Kp w g xs)(e:Ext w w'):Kp w' g xs:=⟨(e.block g h.lt).trans h.1,h.2⟩
theorem Kp.at0(h:Kp w g(xs ++ ys)):∀j v,(cellsOf xs)[j]? =some v→w.cell?⟨g,0+j,none⟩=some v:=fun j v hv=>by
 rw [cell_of_row w g _ _ _ _ h.1,List.getElem?_toArray,Yr,Nat.zero_add,List.getElem?_append_left(List.getElem?_eq_some_iff.1 hv).1,hv]
end
end
end Go.Proofs.YtakpgbaijkhpmaaGreatDoor
